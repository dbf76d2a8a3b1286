/- Plain mathematics of layer 16: items by their keys, rising; the most urgent one. No program in this text; Plain mathematics of layer 16: of raw items, a heap's; popped one behind the other. No program in this text. -/
import Derived.Test.YtminmcledbfchaaZL
import Derived.Test.YtminmcledbfchaaZ00
import Derived.Test.YtminmcledbfchaaZ01
import Derived.Test.YtminmcledbfchaaZ10
namespace Go.Proofs.Ytminmcledbfchaa
open Go.Lib
set_option linter.unusedVariables false
set_option linter.unusedSimpArgs false
theorem pop_srt {L : List It} (h : Srt L) : Srt (popH L) := by
  unfold popH
  split
  · exact h
  · exact rem_srt h _
theorem pop_len {L : List It} (h : Srt L) {x : It} (ht : topH L = some x) : (popH L).length + 1 = L.length := by
  unfold popH
  rw [ht]
  exact rem_len h (top_mem ht)
end Go.Proofs.Ytminmcledbfchaa

namespace Go.Proofs.Ytminmcledbfchaa
open Go.Lib
set_option linter.unusedVariables false
set_option linter.unusedSimpArgs false
/-- Popped so often. -/
def popsH (L : List It) : Nat → List It
  | 0 => L
  | n + 1 => popH (popsH L n)
theorem pops_srt {L : List It} (h : Srt L) (n : Nat) : Srt (popsH L n) := by
  induction n with
  | zero => exact h
  | succ n ih => exact pop_srt ih
theorem pops_len {L : List It} (h : Srt L) (n : Nat) (hn : n ≤ L.length) : (popsH L n).length = L.length - n := by
  induction n with
  | zero => rfl
  | succ n ih =>
    have h1 := ih (by omega)
    obtain ⟨x, hx⟩ := top_some (L := popsH L n) (by omega)
    have := pop_len (pops_srt h n) hx
    show (popH (popsH L n)).length = _
    omega
end Go.Proofs.Ytminmcledbfchaa
