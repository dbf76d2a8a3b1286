/- Raw quadruples as an argument, opened; QueueKeeps for the shell. -/
import Derived.Test.YtndmnlgancnbkaaZL
import Derived.Test.YtndmnlgancnbkaaZ00
import Derived.Test.YtndmnlgancnbkaaZ01
import Derived.Test.YtndmnlgancnbkaaZ02
import Derived.Test.YtndmnlgancnbkaaZ03
import Derived.Test.YtndmnlgancnbkaaZ11
import Derived.Test.YtndmnlgancnbkaaZ14
import Derived.Test.YtndmnlgancnbkaaZ15
namespace Go.Proofs.Ytndmnlgancnbkaa
open Go.RowKit Go.ChangeShapes Go.WideShapes
open Go.Lib
set_option linter.unusedVariables false
set_option linter.unusedSimpArgs false
theorem wf64K {a : Int} (h : (Lit.int .i64 a).wf = true) : -9223372036854775808 ≤ a ∧ a ≤ 9223372036854775807 := by
  have := bounds_i64 h; omega
section
variable {H : Type} {enc : TypeId × Value → H} {w : World} {base : Nat} {held : Bool}
set_option maxRecDepth 100000 in
theorem quad_open {fuel : Nat} {cs : List Value} {x : DataW H × List MemPlace} (h : DataW.trod enc Try.prog w base (fun _ => true) held fuel 38 cs = some x) : ∃ a b c d : Int, cs = [.int .i64 a, .int .i64 b, .int .i64 c, .int .i64 d] ∧ (Lit.int .i64 a).wf = true ∧ (Lit.int .i64 b).wf = true ∧ (Lit.int .i64 c).wf = true ∧ (Lit.int .i64 d).wf = true := by
  obtain ⟨xs, m, rfl, _, hl, hxl, hi⟩ := DataW.trod_array Try.underlying38 h
  have c2 : Try.prog.cellsOf 38 = 4 := by kernel_rfl
  have c1 : Try.prog.cellsOf 3 = 1 := by kernel_rfl
  rw [c2] at hl
  match cs, hl with
  | [u, v, z, y], _ =>
    have h0 := hi 0 (by omega)
    have h1 := hi 1 (by omega)
    have h2 := hi 2 (by omega)
    have h3 := hi 3 (by omega)
    rw [c1] at h0 h1 h2 h3
    rw [List.getElem?_eq_getElem (by omega)] at h0 h1 h2 h3
    obtain ⟨a, ha, _, wa⟩ := DataW.trod_int Try.underlying3 h0
    obtain ⟨b, hb, _, wb⟩ := DataW.trod_int Try.underlying3 h1
    obtain ⟨c, hc, _, wc⟩ := DataW.trod_int Try.underlying3 h2
    obtain ⟨d, hd, _, wd⟩ := DataW.trod_int Try.underlying3 h3
    simp at ha hb hc hd
    exact ⟨a, b, c, d, by rw [ha, hb, hc, hd], wa, wb, wc, wd⟩
set_option maxRecDepth 100000 in
theorem quads_open {fuel : Nat} {A : Option Addr} {len cap : Nat} {x : DataW H × List MemPlace} (h : DataW.trod enc Try.prog w base (fun _ => true) held fuel 22 [.slice A len cap] = some x) : ∃ zs, QuadsIn w A len zs := by
  rcases Go.Deep.open_slice Try.underlying22 h with ⟨hcs, _⟩ | ⟨a, l, c, m, n, D, Pl, hcs, _, hl, hm, hmm, _, hx⟩
  · simp only [List.cons.injEq, Value.slice.injEq, and_true] at hcs
    obtain ⟨rfl, rfl, rfl⟩ := hcs
    exact ⟨[], rfl, Nat.zero_le _, fun z hz => (by cases hz), fun i hi => absurd hi (by simp)⟩
  · simp only [List.cons.injEq, Value.slice.injEq, and_true] at hcs
    obtain ⟨rfl, rfl, rfl⟩ := hcs
    simp only [if_true] at hmm
    have c2 : Try.prog.cellsOf 38 = 4 := by kernel_rfl
    rw [c2] at hx
    obtain ⟨f, hf⟩ := Go.Deep.choose_lt (α := Qd) (n := len) (p := fun i q => w.cell? (a.add (i * 4)) = some (.int .i64 q.1) ∧ w.cell? (a.add (i * 4 + 1)) = some (.int .i64 q.2.1) ∧ w.cell? (a.add (i * 4 + 2)) = some (.int .i64 q.2.2.1) ∧ w.cell? (a.add (i * 4 + 3)) = some (.int .i64 q.2.2.2) ∧ (Lit.int .i64 q.1).wf = true ∧ (Lit.int .i64 q.2.1).wf = true ∧ (Lit.int .i64 q.2.2.1).wf = true ∧ (Lit.int .i64 q.2.2.2).wf = true) (fun i hi => by
      obtain ⟨cs', h1, h2⟩ := hx i (by omega)
      obtain ⟨u, v, z, y, rfl, wu, wv, wz, wy⟩ := quad_open h2
      obtain ⟨_, _, hcell⟩ := World.cells?_some h1
      have e0 := hcell 0 (by omega)
      have e1 := hcell 1 (by omega)
      have e2 := hcell 2 (by omega)
      have e3 := hcell 3 (by omega)
      rw [Go.Deep.add_add] at e0 e1 e2 e3
      exact ⟨(u, v, z, y), by simpa using e0, by simpa using e1, by simpa using e2, by simpa using e3, wu, wv, wz, wy⟩)
    have hlen : ((List.range len).map f).length = len := by rw [List.length_map, List.length_range]
    refine ⟨(List.range len).map f, hlen, by unfold maxLen at hm; omega, fun z hz => ?_, fun i hi => ?_⟩
    · obtain ⟨r, hr, rfl⟩ := List.mem_map.1 hz
      have := hf r (List.mem_range.1 hr)
      exact ⟨wf64K this.2.2.2.2.1, wf64K this.2.2.2.2.2.1, wf64K this.2.2.2.2.2.2.1, wf64K this.2.2.2.2.2.2.2⟩
    · rw [hlen] at hi
      obtain ⟨e0, e1, e2, e3, _⟩ := hf i hi
      have eg : ((List.range len).map f)[i]'(by rw [hlen]; exact hi) = f i := by rw [List.getElem_map, List.getElem_range]
      refine ⟨a, rfl, by have := blk_of_cell e0; rwa [block_add] at this, ?_, ?_, ?_, ?_⟩
      · rw [eg]; exact e0
      · rw [eg]; exact e1
      · rw [eg]; exact e2
      · rw [eg]; exact e3
end
theorem QueueKeeps_walk (a0 : Int) (a1 : Option Addr) (len1 cap1 : Nat) (z1 : List Qd) (w : World) (w0 : (Lit.int .i64 a0).wf = true) (w1 : QuadsIn w a1 len1 z1) :
    Calls Try.prog 4 #[.int .i64 a0, .slice a1 len1 cap1] w fun e w' => e = .returned (.bool true) ∧ Below w.heap.size w w' := by
  obtain rfl := w1.1.symm
  exact (QueueKeeps_at queueOk17 a0 (wf64K w0) a1 cap1 z1 w (Rel.start trivial) w1).mono fun e w' h => ⟨h.1, h.2.2⟩
end Go.Proofs.Ytndmnlgancnbkaa
