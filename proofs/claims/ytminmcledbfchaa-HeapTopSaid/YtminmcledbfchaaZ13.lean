/- Plain mathematics of layer 16: items by their keys, rising; the most urgent one. No program in this text; Layer 16: what is removed is gone, all others stay; pushed again, all is as it was (HeapKeeps). -/
import Derived.Test.YtminmcledbfchaaZL
import Derived.Test.YtminmcledbfchaaZ00
import Derived.Test.YtminmcledbfchaaZ01
namespace Go.Proofs.Ytminmcledbfchaa
open Go.Lib
set_option linter.unusedVariables false
set_option linter.unusedSimpArgs false
theorem prio_none {L : List It} {k : Int} : prioH L k = none ↔ hasH L k = false := by
  unfold prioH
  rw [Option.map_eq_none_iff, List.find?_eq_none]
  constructor
  · intro h
    cases hh : hasH L k with
    | false => rfl
    | true => obtain ⟨x, hx, e⟩ := has_iff.1 hh; exact absurd (decide_eq_true e) (h x hx)
  · intro h x hx e
    have : hasH L k = true := has_iff.2 ⟨x, hx, of_decide_eq_true e⟩
    rw [h] at this; cases this
end Go.Proofs.Ytminmcledbfchaa

namespace Go.Proofs.Ytminmcledbfchaa
open Go.RowKit Go.Lib
set_option linter.unusedVariables false
set_option linter.unusedSimpArgs false
theorem rem_has (L : List It) (k : Int) : hasH (remH L k) k = false := by
  cases h : hasH (remH L k) k with
  | false => rfl
  | true =>
    obtain ⟨z, hz, e⟩ := has_iff.1 h
    exact absurd e (rem_mem.1 hz).2
end Go.Proofs.Ytminmcledbfchaa
