/- Plain mathematics of layer 16: items by their keys, rising; the most urgent one. No program in this text; Layer 16, the landed code: Change; Pop. -/
import Derived.Test.YtminmcledbfchaaZL
import Derived.Test.YtminmcledbfchaaZ00
import Derived.Test.YtminmcledbfchaaZ06
namespace Go.Proofs.Ytminmcledbfchaa
open Go.Lib
set_option linter.unusedVariables false
set_option linter.unusedSimpArgs false
theorem chg_same {L : List It} (h : Srt L) {k p : Int} (hx : (k, p) ∈ L) : chgH L k p = L := by
  refine srt_ext (chg_srt h _ _) h fun z => ?_
  rw [chg_mem h]
  constructor
  · rintro (⟨rfl, _⟩ | ⟨q, _⟩)
    · exact hx
    · exact q
  · intro hz
    by_cases e : z.1 = k
    · exact .inl ⟨srt_key h hz hx e, has_iff.2 ⟨_, hx, rfl⟩⟩
    · exact .inr ⟨hz, e⟩
end Go.Proofs.Ytminmcledbfchaa

namespace Go.Proofs.Ytminmcledbfchaa
open Go.RowKit Go.Lib
set_option linter.unusedVariables false
set_option linter.unusedSimpArgs false
/-- The most urgent one, told by a heap in memory. -/
theorem LHp.top_none {w : World} {v : Value} {S : Nat → Prop} {m : Int} {L : List It} (_ : LHp w v S m L) (ht : topH L = none) : popH L = L := by unfold popH; rw [ht]
end Go.Proofs.Ytminmcledbfchaa
