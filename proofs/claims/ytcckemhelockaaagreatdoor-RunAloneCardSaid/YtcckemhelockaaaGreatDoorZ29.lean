/- RunDeep, over what the program is asked. -/
import Derived.Test.YtcckemhelockaaaGreatDoorZL
import Derived.Test.YtcckemhelockaaaGreatDoorZ00
import Derived.Test.YtcckemhelockaaaGreatDoorZ01
import Derived.Test.YtcckemhelockaaaGreatDoorZ02
import Derived.Test.YtcckemhelockaaaGreatDoorZ03
import Derived.Test.YtcckemhelockaaaGreatDoorZ09
namespace Go.Proofs.YtcckemhelockaaaGreatDoor
open Go.RowKit Go.Lib
set_option linter.unusedVariables false
set_option linter.unusedSimpArgs false
/-- Part of a slice of instructions. -/
theorem InsAt.from {w : World} {g off : Nat} {l : List In} (h : InsAt w (some ⟨g, off, none⟩) l) (k : Nat) : InsAt w (some ⟨g, off + k * 3, none⟩) (l.drop k) := by
  intro i hi
  rw [List.length_drop] at hi
  obtain ⟨g', off', e, hl, h0, h1, h2⟩ := h (k + i) (by omega)
  injection e with e
  injection e with e1 e2
  subst e1; subst e2
  refine ⟨g, off + k * 3, rfl, hl, ?_, ?_, ?_⟩
  · rw [List.getElem_drop, show off + k * 3 + i * 3 = off + (k + i) * 3 by omega]; exact h0
  · rw [List.getElem_drop, show off + k * 3 + i * 3 + 1 = off + (k + i) * 3 + 1 by omega]; exact h1
  · rw [List.getElem_drop, show off + k * 3 + i * 3 + 2 = off + (k + i) * 3 + 2 by omega]; exact h2
end Go.Proofs.YtcckemhelockaaaGreatDoor
