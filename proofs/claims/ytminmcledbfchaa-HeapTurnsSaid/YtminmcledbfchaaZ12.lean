/- Layer 16: a heap that is full takes none; with one taken out, it takes one (HeapFull); Raw pairs, raw triples and raw numbers as arguments, opened; the walks for the shell. -/
import Derived.Test.YtminmcledbfchaaZL
import Derived.Test.YtminmcledbfchaaZ00
import Derived.Test.YtminmcledbfchaaZ01
import Derived.Test.YtminmcledbfchaaZ06
import Derived.Test.YtminmcledbfchaaZ08
namespace Go.Proofs.Ytminmcledbfchaa
open Go.RowKit Go.Lib
set_option linter.unusedVariables false
set_option linter.unusedSimpArgs false
theorem not_has {L : List It} {k : Int} (h : ¬ hasH L k = true) : hasH L k = false := by
  cases e : hasH L k with
  | false => rfl
  | true => exact absurd e h
def Ints16 (w : World) (A : Option Addr) (c : Nat) (L : List Int) : Prop := L.length ≤ c ∧ c ≤ maxLen ∧ (∀ z ∈ L, i64 z) ∧ ∀ i (h : i < L.length), ∃ a : Addr, A = some a ∧ a.block < w.heap.size ∧ w.cell? (a.add i) = some (.int .i64 L[i])
theorem Ints16.rel {w w' : World} {A : Option Addr} {c : Nat} {L : List Int} (h : Ints16 w A c L) (hr : Rel w w') : Ints16 w' A c L :=
  ⟨h.1, h.2.1, h.2.2.1, fun i hi => by
    obtain ⟨a, e, hl, hc⟩ := h.2.2.2 i hi
    exact ⟨a, e, Nat.lt_of_lt_of_le hl hr.size, (hr.2.cell (p := a.add i) (by rw [block_add]; exact hl)).trans hc⟩⟩
end Go.Proofs.Ytminmcledbfchaa

namespace Go.Proofs.Ytminmcledbfchaa
open Go.RowKit Go.ChangeShapes Go.WideShapes
open Go.Lib
set_option linter.unusedVariables false
set_option linter.unusedSimpArgs false
/-- A row of numbers, as the card opens it: all that it has room for. -/
def IsRow (k : IntKind) (w : World) (a : Option Addr) (len cap : Nat) (zs : List Int) : Prop :=
  (a = none ∧ len = 0 ∧ cap = 0 ∧ zs = []) ∨ ∃ x : Addr, a = some x ∧ len ≤ cap ∧ cap ≤ maxLen ∧ zs.length = cap ∧ (∀ j, j < zs.length → w.cell? (x.add j) = some (.int k (zs.getD j 0))) ∧ ∀ u ∈ zs, (Lit.int k u).wf = true
theorem ints_of {w : World} {a : Option Addr} {len cap : Nat} {z : List Int} (h : IsRow .i64 w a len cap z) : ∃ L : List Int, len = L.length ∧ Ints16 w a cap L := by
  rcases h with ⟨rfl, rfl, rfl, rfl⟩ | ⟨x, rfl, hl, hm, hz, hcell, hwz⟩
  · exact ⟨[], rfl, Nat.le_refl _, Nat.zero_le _, fun z hz => (by cases hz), fun i hi => absurd hi (by simp)⟩
  · have e : (z.take len).length = len := by rw [List.length_take]; omega
    refine ⟨z.take len, e.symm, by omega, hm, fun u hu => wf64K (hwz u (List.mem_of_mem_take hu)), fun i hi => ?_⟩
    rw [e] at hi
    have hc := hcell i (by omega)
    have eg : z.getD i 0 = (z.take len)[i]'(by rw [e]; exact hi) := by
      rw [List.getElem_take, List.getD_eq_getElem?_getD, List.getElem?_eq_getElem (by omega)]; rfl
    rw [eg] at hc
    exact ⟨x, rfl, by have := blk_of_cell hc; rwa [block_add] at this, hc⟩
end Go.Proofs.Ytminmcledbfchaa
