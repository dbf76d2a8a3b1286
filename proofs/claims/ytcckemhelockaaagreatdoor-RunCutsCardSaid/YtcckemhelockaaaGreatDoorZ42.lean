/- Instructions in memory: to be read, and of the call's own; appending them. -/
import Derived.Test.YtcckemhelockaaaGreatDoorZL
import Derived.Test.YtcckemhelockaaaGreatDoorZ00
import Derived.Test.YtcckemhelockaaaGreatDoorZ01
namespace Go.Proofs.YtcckemhelockaaaGreatDoor
open Go.RowKit Go.Lib
set_option linter.unusedVariables false
set_option linter.unusedSimpArgs false
theorem insArg_nil (w : World) : InsArg w none 0 [] := ⟨Nat.le_refl _, Nat.zero_le _, fun o h => (by cases h), InsAt.nil _ _⟩
end Go.Proofs.YtcckemhelockaaaGreatDoor
