/- Plain mathematics of layer 16: items by their keys, rising; the most urgent one. No program in this text; Plain mathematics of layer 16: of raw items, a heap's; popped one behind the other. No program in this text. -/
import Derived.Test.YtminmcledbfchaaZL
import Derived.Test.YtminmcledbfchaaZ00
import Derived.Test.YtminmcledbfchaaZ01
import Derived.Test.YtminmcledbfchaaZ15
namespace Go.Proofs.Ytminmcledbfchaa
open Go.Lib
set_option linter.unusedVariables false
set_option linter.unusedSimpArgs false
/-- What is popped next is less urgent. -/
theorem pop_next {L : List It} (h : Srt L) {x y : It} (hx : topH L = some x) (hy : topH (popH L) = some y) : urgH x y := by
  have hm := top_mem hy
  have e : popH L = remH L x.1 := by unfold popH; rw [hx]
  rw [e] at hm
  obtain ⟨h1, h2⟩ := rem_mem.1 hm
  rcases top_urg h hx y h1 with q | q
  · subst q; exact absurd rfl h2
  · exact q
end Go.Proofs.Ytminmcledbfchaa

namespace Go.Proofs.Ytminmcledbfchaa
open Go.Lib
set_option linter.unusedVariables false
set_option linter.unusedSimpArgs false
theorem pop_sub {L : List It} {z : It} (h : z ∈ popH L) : z ∈ L := by
  unfold popH at h
  split at h
  · exact h
  · exact (rem_mem.1 h).1
theorem pops_sub {L : List It} (n : Nat) {z : It} (h : z ∈ popsH L n) : z ∈ L := by
  induction n with
  | zero => exact h
  | succ n ih => exact ih (pop_sub h)
end Go.Proofs.Ytminmcledbfchaa
