/- What the law makes of raw numbers: its expressions, in memory. -/
import Derived.Test.YtcckemhelockaaaGreatDoorZL
import Derived.Test.YtcckemhelockaaaGreatDoorZ00
import Derived.Test.YtcckemhelockaaaGreatDoorZ01
namespace Go.Proofs.YtcckemhelockaaaGreatDoor
open Go.RowKit Go.Lib
set_option linter.unusedVariables false
set_option linter.unusedSimpArgs false
set_option maxHeartbeats 1000000 in
theorem rargs_any (k : Int) (w : World) : Calls Tryz.prog 45 #[.int .i64 k] w fun e w' => e = .returned (.int .i64 (argsN k)) ∧ w = w' := by
  rcases kinds k with h | ⟨k1, k2, k3, k4, k5, k6, k7, k8, k9, k10, k11, k12, ha, _⟩
  · rcases h with rfl | rfl | rfl | rfl | rfl | rfl | rfl | rfl | rfl | rfl | rfl | rfl
    all_goals
      go_enter Tryz.func45, Tryz.ntmps45
      go_wp2_with (fail)
      go_ret
      exact ⟨rfl, rfl⟩
  · have HA := Lib.hid ha
    clear ha
    go_enter Tryz.func45, Tryz.ntmps45
    go_wp2_with (fail)
    go_ret
    exact ⟨ret_int HA.out.symm, rfl⟩
theorem args_as (k m : Int) (h : Hid (argsN k = m)) (w : World) : Calls Tryz.prog 45 #[.int .i64 k] w fun e w' => e = .returned (.int .i64 m) ∧ w = w' := by rw [← h.out]; exact rargs_any k w
end Go.Proofs.YtcckemhelockaaaGreatDoor
