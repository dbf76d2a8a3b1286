/- Blocks that are known whole, rows of the call's own, and what is kept of them; Plain mathematics of layer 17: as urgent ones, wanted one behind the other (QueueAges). No program in this text; Layer 17: who is wanted many times is told once, as the most urgent time asks (QueueOnce); Raw numbers as arguments, opened; the walks for the shell. -/
import Derived.Test.YtndmnlgancnbkaaZL
import Derived.Test.YtndmnlgancnbkaaZ00
import Derived.Test.YtndmnlgancnbkaaZ01
import Derived.Test.YtndmnlgancnbkaaZ02
import Derived.Test.YtndmnlgancnbkaaZ11
import Derived.Test.YtndmnlgancnbkaaZ14
namespace Go.Proofs.Ytndmnlgancnbkaa
open Go.RowKit Go.Lib
set_option linter.unusedVariables false
set_option linter.unusedSimpArgs false
theorem blk_of_cell {w : World} {a : Addr} {v : Value} (h : w.cell? a = some v) : a.block < w.heap.size := by
  rcases Nat.lt_or_ge a.block w.heap.size with hn | hn
  · exact hn
  · simp [World.cell?, Array.getElem?_eq_none hn] at h
end Go.Proofs.Ytndmnlgancnbkaa

namespace Go.Proofs.Ytndmnlgancnbkaa
open Go.Lib
set_option linter.unusedVariables false
set_option linter.unusedSimpArgs false
theorem want_up {m g s p t : Int} {L : List It} {D : List Int} (hv : wantV g s p t = true) (hh : hasH L s = true) :
    wantE m g L s p t = 0 ∧ wantL m g L s p t = chgH L s (max ((prioH L s).getD 0) (wgt g p t)) ∧ wantD m g L D s p t = D := by
  refine ⟨?_, ?_, ?_⟩
  · unfold wantE; rw [if_pos hv, if_pos hh]
  · unfold wantL; rw [if_pos hv, if_pos hh]
  · unfold wantD; rw [if_pos hv, if_pos hh]
end Go.Proofs.Ytndmnlgancnbkaa

namespace Go.Proofs.Ytndmnlgancnbkaa
open Go.RowKit Go.Lib
set_option linter.unusedVariables false
set_option linter.unusedSimpArgs false
theorem nums_at {w : World} {A : Option Addr} {c : Nat} {L : List Int} (h : Nums w A c L) (k : Nat) (hk : k < L.length) : ∃ (a : Addr) (z : Int), A = some a ∧ w.cell? (a.add k) = some (.int .i64 z) ∧ L[k] = z ∧ i64 z := by
  obtain ⟨a, e, _, hc⟩ := h.2.2.2 k hk
  exact ⟨a, L[k], e, hc, rfl, h.2.2.1 _ (List.getElem_mem hk)⟩
end Go.Proofs.Ytndmnlgancnbkaa

namespace Go.Proofs.Ytndmnlgancnbkaa
open Go.RowKit Go.ChangeShapes Go.WideShapes
open Go.Lib
set_option linter.unusedVariables false
set_option linter.unusedSimpArgs false
/-- A row of numbers, as the card opens it: all that it has room for. -/
def IsRow (k : IntKind) (w : World) (a : Option Addr) (len cap : Nat) (zs : List Int) : Prop :=
  (a = none ∧ len = 0 ∧ cap = 0 ∧ zs = []) ∨ ∃ x : Addr, a = some x ∧ len ≤ cap ∧ cap ≤ maxLen ∧ zs.length = cap ∧ (∀ j, j < zs.length → w.cell? (x.add j) = some (.int k (zs.getD j 0))) ∧ ∀ u ∈ zs, (Lit.int k u).wf = true
theorem row_nums {w : World} {a : Option Addr} {len cap : Nat} {z : List Int} (h : IsRow .i64 w a len cap z) : ∃ L : List Int, len = L.length ∧ Nums w a cap L := by
  rcases h with ⟨rfl, rfl, rfl, rfl⟩ | ⟨x, rfl, hl, hm, hz, hcell, hwz⟩
  · exact ⟨[], rfl, Nat.le_refl _, Nat.zero_le _, (fun z hz => by cases hz), fun i hi => absurd hi (Nat.not_lt_zero _)⟩
  · have e : (z.take len).length = len := by rw [List.length_take]; omega
    refine ⟨z.take len, e.symm, by omega, hm, fun u hu => wf64K (hwz u (List.mem_of_mem_take hu)), fun i hi => ?_⟩
    rw [e] at hi
    have hc := hcell i (by omega)
    have eg : z.getD i 0 = (z.take len)[i]'(by rw [e]; exact hi) := by
      rw [List.getElem_take, List.getD_eq_getElem?_getD, List.getElem?_eq_getElem (by omega)]; rfl
    rw [eg] at hc
    exact ⟨x, rfl, by have := blk_of_cell hc; rwa [block_add] at this, hc⟩
end Go.Proofs.Ytndmnlgancnbkaa
