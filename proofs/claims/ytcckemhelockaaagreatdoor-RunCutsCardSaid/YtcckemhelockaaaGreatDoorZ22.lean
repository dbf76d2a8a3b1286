/- A stack in memory, of the call's own: it grows at its end, and is cut there. -/
import Derived.Test.YtcckemhelockaaaGreatDoorZL
import Derived.Test.YtcckemhelockaaaGreatDoorZ00
import Derived.Test.YtcckemhelockaaaGreatDoorZ01
import Derived.Test.YtcckemhelockaaaGreatDoorZ02
import Derived.Test.YtcckemhelockaaaGreatDoorZ03
namespace Go.Proofs.YtcckemhelockaaaGreatDoor
open Go.RowKit Go.Lib
set_option linter.unusedVariables false
set_option linter.unusedSimpArgs false
theorem StkOwn.slice_of {T : TypeId} {w : World} {base : Nat} {v : Value} {S : List Ce} (h : StkOwn T w base v S) : ∃ A c, v = .slice A S.length c := by
  obtain ⟨A, c, e, _⟩ := own_slice h.row
  exact ⟨A, c, e⟩
end Go.Proofs.YtcckemhelockaaaGreatDoor
