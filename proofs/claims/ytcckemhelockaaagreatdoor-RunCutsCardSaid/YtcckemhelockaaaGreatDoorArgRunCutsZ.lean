/- RunCuts's walk for its proof, over what the program was shown to tell. -/
import Derived.Test.YtcckemhelockaaaGreatDoorArgPairsZ
import Derived.Test.YtcckemhelockaaaGreatDoorZ00
import Derived.Test.YtcckemhelockaaaGreatDoorZ01
import Derived.Test.YtcckemhelockaaaGreatDoorZ03
import Derived.Test.YtcckemhelockaaaGreatDoorZ04
import Derived.Test.YtcckemhelockaaaGreatDoorZ07
import Derived.Test.YtcckemhelockaaaGreatDoorZ09
import Derived.Test.YtcckemhelockaaaGreatDoorZ15
import Derived.Test.YtcckemhelockaaaGreatDoorZ17
import Derived.Test.YtcckemhelockaaaGreatDoorZ32
import Derived.Test.YtcckemhelockaaaGreatDoorZ35
import Derived.Test.YtcckemhelockaaaGreatDoorZ54
namespace Go.Proofs.YtcckemhelockaaaGreatDoor
open Go.RowKit Go.Lib
set_option linter.unusedVariables false
set_option linter.unusedSimpArgs false

theorem RunCuts_walk (a0 : Option Addr) (len0 cap0 : Nat) (z0 : List Int) (a1 : Option Addr) (len1 cap1 : Nat) (z1 : List (Int × Int)) (w : World) (w0 : IsRow .i64 w a0 len0 cap0 z0) (w1 : PairsIn w a1 len1 z1) (hT : Tab w) :
    Calls Tryz.prog 9 #[.slice a0 len0 cap0, .slice a1 len1 cap1] w fun e w' => e = .returned (.bool true) ∧ Below w.heap.size w w' := by
  obtain ⟨L0, rfl, i0⟩ := ints_of w0
  obtain rfl := w1.len
  exact (RunCuts_at runsOk compile_any a0 cap0 L0 a1 cap1 z1 w (Rel.start hT) i0 w1).mono fun e w' h => ⟨h.1, h.2.2⟩
end Go.Proofs.YtcckemhelockaaaGreatDoor
