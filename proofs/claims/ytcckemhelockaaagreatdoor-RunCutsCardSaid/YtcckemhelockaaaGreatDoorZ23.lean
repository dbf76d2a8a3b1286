/- Plain mathematics of layer 11: what the laws say of code. No program in this text. -/
import Derived.Test.YtcckemhelockaaaGreatDoorZL
import Derived.Test.YtcckemhelockaaaGreatDoorZ00
import Derived.Test.YtcckemhelockaaaGreatDoorZ01
import Derived.Test.YtcckemhelockaaaGreatDoorZ02
namespace Go.Proofs.YtcckemhelockaaaGreatDoor
open Go.Lib
set_option linter.unusedVariables false
set_option linter.unusedSimpArgs false
theorem run_not {l : List Of} (h : offsOk l = false) (c : List In) : runS l c = .error 1 ∧ stepsS l c = 0 := by unfold runS stepsS; rw [h]; exact ⟨rfl, rfl⟩
end Go.Proofs.YtcckemhelockaaaGreatDoor
