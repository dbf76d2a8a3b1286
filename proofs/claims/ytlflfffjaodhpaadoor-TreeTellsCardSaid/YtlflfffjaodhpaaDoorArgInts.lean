/- Raw numbers as an argument, opened. -/
import Derived.Test.YtlflfffjaodhpaaDoorTreeStrat
namespace Go.Proofs.YtlflfffjaodhpaaDoor
open Go.RowKit Go.Lib
set_option linter.unusedVariables false
set_option linter.unusedSimpArgs false

/-- A row of numbers, as the card opens it: all that it has room for. -/
def IsRow (k : IntKind) (w : World) (a : Option Addr) (len cap : Nat) (zs : List Int) : Prop :=
  (a = none ∧ len = 0 ∧ cap = 0 ∧ zs = []) ∨ ∃ x : Addr, a = some x ∧ len ≤ cap ∧ cap ≤ maxLen ∧ zs.length = cap ∧ (∀ j, j < zs.length → w.cell? (x.add j) = some (.int k (zs.getD j 0))) ∧ ∀ u ∈ zs, (Lit.int k u).wf = true
theorem wf64 {a : Int} (h : (Lit.int .i64 a).wf = true) : i64 a := by
  have := bounds_i64 h; exact ⟨by omega, by omega⟩
theorem ints_of {w : World} {a : Option Addr} {len cap : Nat} {z : List Int} (h : IsRow .i64 w a len cap z) : ∃ L : List Int, len = L.length ∧ IntsIn w a cap L := by
  rcases h with ⟨rfl, rfl, rfl, rfl⟩ | ⟨x, rfl, hl, hm, hz, hcell, hwz⟩
  · exact ⟨[], rfl, Nat.le_refl _, Nat.zero_le _, fun z hz => (by cases hz), fun i hi => absurd hi (by simp)⟩
  · have e : (z.take len).length = len := by rw [List.length_take]; omega
    refine ⟨z.take len, e.symm, by omega, hm, fun u hu => wf64 (hwz u (List.mem_of_mem_take hu)), fun i hi => ?_⟩
    rw [e] at hi
    have hc := hcell i (by omega)
    have eg : z.getD i 0 = (z.take len)[i]'(by rw [e]; exact hi) := by
      rw [List.getElem_take, List.getD_eq_getElem?_getD, List.getElem?_eq_getElem (by omega)]; rfl
    rw [eg] at hc
    exact ⟨x, rfl, by have := blk_of_cell hc; rwa [block_add] at this, hc⟩
end Go.Proofs.YtlflfffjaodhpaaDoor
