/- The arguments of the statements, opened: rows of numbers, texts, records. -/
import Derived.Test.YtjbbfcomgglhiaaDoorRecRaw
import Derived.Deep.Matrix
import Derived.SliceStrings
namespace Go.Proofs.YtjbbfcomgglhiaaDoor
open Go.RowKit Go.Lib Go.ChangeShapes Go.WideShapes
set_option linter.unusedVariables false
set_option linter.unusedSimpArgs false

def RowsIn (w : World) (A : Option Addr) (n : Nat) (zss : List (List Int)) : Prop := zss.length = n ∧ zss.length ≤ 9223372036854775807 ∧ (∀ zs ∈ zss, zs.length ≤ 9223372036854775807 ∧ w64 zs) ∧ RowsAt w A zss
def StrsIn (w : World) (A : Option Addr) (n : Nat) (ss : List ByteArray) : Prop := ss.length = n ∧ ss.length ≤ 9223372036854775807 ∧ (∀ s ∈ ss, s.size ≤ 9223372036854775807) ∧ StrsAt w A ss
theorem max63 {n : Nat} (h : n ≤ maxLen) : n ≤ 9223372036854775807 := by unfold maxLen at h; omega
theorem wf64 {a : Int} (h : (Lit.int .i64 a).wf = true) : -9223372036854775808 ≤ a ∧ a ≤ 9223372036854775807 := by
  have := bounds_i64 h; omega
section
variable {H : Type} {enc : TypeId × Value → H} {w : World} {base : Nat} {held : Bool}
theorem ints_open {fuel : Nat} {A : Option Addr} {len cap : Nat} {x : DataW H × List MemPlace} (h : DataW.trod enc Tryd.prog w base (fun _ => true) held fuel 22 [.slice A len cap] = some x) :
    ∃ zs : List Int, zs.length = len ∧ zs.length ≤ 9223372036854775807 ∧ w64 zs ∧ IntsAt w A zs := by
  rcases open_ints Tryd.underlying22 Tryd.underlying3 (by kernel_rfl) h with ⟨hcs, _⟩ | ⟨a, l, c, zs, hcs, _, hl, hm, hz, _, hcell, hwz⟩
  · simp only [List.cons.injEq, Value.slice.injEq, and_true] at hcs
    obtain ⟨rfl, rfl, rfl⟩ := hcs
    exact ⟨[], rfl, Nat.zero_le _, fun n hn => (by cases hn), fun j hj => absurd hj (by simp)⟩
  · simp only [List.cons.injEq, Value.slice.injEq, and_true] at hcs
    obtain ⟨rfl, rfl, rfl⟩ := hcs
    simp only [if_true] at hz
    have hlen : (zs.take len).length = len := by rw [List.length_take]; omega
    refine ⟨zs.take len, hlen, by rw [hlen]; exact max63 (by omega), fun n hn => wf64 (hwz n (List.mem_of_mem_take hn)), fun j hj => ?_⟩
    rw [hlen] at hj
    have hc := hcell j (by omega)
    refine ⟨a, rfl, by have := blk_of_cell hc; rwa [block_add] at this, ?_⟩
    rw [hc, List.getElem_take, List.getD_eq_getElem?_getD, List.getElem?_eq_getElem (by omega)]
    rfl
theorem rows_open {fuel : Nat} {A : Option Addr} {len cap : Nat} {x : DataW H × List MemPlace} (h : DataW.trod enc Tryd.prog w base (fun _ => true) held fuel 25 [.slice A len cap] = some x) : ∃ zss, RowsIn w A len zss := by
  rcases Go.Deep.open_int_rows Tryd.underlying25 Tryd.underlying22 Tryd.underlying3 (by kernel_rfl) (by kernel_rfl) h with ⟨hcs, _⟩ | ⟨a, l, c, R, L, C, Z, hcs, _, hl, hm, _, hx⟩
  · simp only [List.cons.injEq, Value.slice.injEq, and_true] at hcs
    obtain ⟨rfl, rfl, rfl⟩ := hcs
    exact ⟨[], rfl, Nat.zero_le _, fun n hn => (by cases hn), fun j hj => absurd hj (by simp)⟩
  · simp only [List.cons.injEq, Value.slice.injEq, and_true] at hcs
    obtain ⟨rfl, rfl, rfl⟩ := hcs
    have hlen : ((List.range len).map fun r => (Z r).take (L r)).length = len := by rw [List.length_map, List.length_range]
    refine ⟨(List.range len).map fun r => (Z r).take (L r), hlen, by rw [hlen]; exact max63 (by omega), fun zs hzs => ?_, fun i hi => ?_⟩
    · obtain ⟨r, hr, rfl⟩ := List.mem_map.1 hzs
      have hr' := List.mem_range.1 hr
      obtain ⟨_, h2, h3, h4, h5, _⟩ := hx r (by omega)
      exact ⟨max63 (by rw [List.length_take]; omega), fun n hn => wf64 (h5 n (List.mem_of_mem_take hn))⟩
    · rw [hlen] at hi
      obtain ⟨h1, h2, h3, h4, h5, h6, h7⟩ := hx i (by omega)
      have e : ((List.range len).map fun r => (Z r).take (L r))[i]'(by rw [hlen]; exact hi) = (Z i).take (L i) := by rw [List.getElem_map, List.getElem_range]
      have el : ((Z i).take (L i)).length = L i := by rw [List.length_take]; omega
      refine ⟨a, R i, C i, rfl, by have := blk_of_cell h1; rwa [block_add] at this, ?_, ?_⟩
      · rw [e, el]; exact h1
      · rw [e]
        intro j hj
        rw [el] at hj
        cases hR : R i with
        | none => have := h6 hR; omega
        | some a' =>
          have hc := (h7 a' hR).2 j (by omega)
          refine ⟨a', rfl, by have := blk_of_cell hc; rwa [block_add] at this, ?_⟩
          rw [hc, List.getElem_take, List.getD_eq_getElem?_getD, List.getElem?_eq_getElem (by omega)]
          rfl
theorem strs_open {fuel : Nat} {A : Option Addr} {len cap : Nat} {x : DataW H × List MemPlace} (h : DataW.trod enc Tryd.prog w base (fun _ => true) held fuel 26 [.slice A len cap] = some x) : ∃ ss, StrsIn w A len ss := by
  rcases open_strings Tryd.underlying26 Tryd.underlying9 (by kernel_rfl) h with ⟨hcs, _⟩ | ⟨a, l, c, ss, hcs, _, hl, hm, hz, _, hcell, hws⟩
  · simp only [List.cons.injEq, Value.slice.injEq, and_true] at hcs
    obtain ⟨rfl, rfl, rfl⟩ := hcs
    exact ⟨[], rfl, Nat.zero_le _, fun n hn => (by cases hn), fun j hj => absurd hj (by simp)⟩
  · simp only [List.cons.injEq, Value.slice.injEq, and_true] at hcs
    obtain ⟨rfl, rfl, rfl⟩ := hcs
    simp only [if_true] at hz
    have hlen : (ss.take len).length = len := by rw [List.length_take]; omega
    refine ⟨ss.take len, hlen, by rw [hlen]; exact max63 (by omega), fun n hn => max63 (hws n (List.mem_of_mem_take hn)), fun j hj => ?_⟩
    rw [hlen] at hj
    have hc := hcell j (by omega)
    refine ⟨a, rfl, by have := blk_of_cell hc; rwa [block_add] at this, ?_⟩
    rw [hc, List.getElem_take, List.getD_eq_getElem?_getD, List.getElem?_eq_getElem (by omega)]
    rfl
end
end Go.Proofs.YtjbbfcomgglhiaaDoor
