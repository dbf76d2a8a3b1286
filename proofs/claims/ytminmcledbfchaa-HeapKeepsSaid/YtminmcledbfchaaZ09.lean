/- Plain mathematics of layer 16: items by their keys, rising; the most urgent one. No program in this text; Layer 16: what is removed is gone, all others stay; pushed again, all is as it was (HeapKeeps). -/
import Derived.Test.YtminmcledbfchaaZL
import Derived.Test.YtminmcledbfchaaZ00
import Derived.Test.YtminmcledbfchaaZ01
namespace Go.Proofs.Ytminmcledbfchaa
open Go.Lib
set_option linter.unusedVariables false
set_option linter.unusedSimpArgs false
theorem prio_some {L : List It} (h : Srt L) {k p : Int} : prioH L k = some p ↔ (k, p) ∈ L := by
  unfold prioH
  constructor
  · intro e
    obtain ⟨x, hx, rfl⟩ := Option.map_eq_some_iff.1 e
    have h1 := List.find?_some hx
    have h2 := List.mem_of_find?_eq_some hx
    have h3 : x.1 = k := of_decide_eq_true h1
    rw [← h3]; exact h2
  · intro e
    cases hf : L.find? fun x => decide (x.1 = k) with
    | none =>
      have := List.find?_eq_none.1 hf (k, p) e
      simp at this
    | some x =>
      have h0 := List.find?_some hf
      have h1 : x.1 = k := of_decide_eq_true h0
      have h2 := srt_key h (List.mem_of_find?_eq_some hf) e h1
      rw [h2]; rfl
end Go.Proofs.Ytminmcledbfchaa

namespace Go.Proofs.Ytminmcledbfchaa
open Go.RowKit Go.Lib
set_option linter.unusedVariables false
set_option linter.unusedSimpArgs false
theorem has_item {L : List It} (hs : Srt L) {k : Int} (h : hasH L k = true) : ∃ p, (k, p) ∈ L ∧ prioH L k = some p := by
  obtain ⟨⟨a, p⟩, hz, e⟩ := has_iff.1 h
  have e : a = k := e
  subst e
  exact ⟨p, hz, (prio_some hs).2 hz⟩
end Go.Proofs.Ytminmcledbfchaa
