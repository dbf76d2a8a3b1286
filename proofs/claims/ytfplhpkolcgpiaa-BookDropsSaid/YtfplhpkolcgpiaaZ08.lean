/- Raw triples, raw pairs, books and lists of sources as arguments, opened; the seven walks for the shell. -/
import Derived.Test.YtfplhpkolcgpiaaZL
import Derived.Test.YtfplhpkolcgpiaaZ00
import Derived.Test.YtfplhpkolcgpiaaZ01
import Derived.Test.YtfplhpkolcgpiaaZ07
namespace Go.Proofs.Ytfplhpkolcgpiaa
open Go.RowKit Go.ChangeShapes Go.WideShapes
open Go.Lib
set_option linter.unusedVariables false
set_option linter.unusedSimpArgs false
section
variable {H : Type} {enc : TypeId × Value → H} {w : World} {base : Nat} {held : Bool}
theorem wf64K {a : Int} (h : (Lit.int .i64 a).wf = true) : -9223372036854775808 ≤ a ∧ a ≤ 9223372036854775807 := by
  have := bounds_i64 h; omega
set_option maxRecDepth 100000 in
theorem pair_open {fuel : Nat} {cs : List Value} {x : DataW H × List MemPlace} (h : DataW.trod enc Try.prog w base (fun _ => true) held fuel 29 cs = some x) : ∃ a b : Int, cs = [.int .i64 a, .int .i64 b] ∧ (Lit.int .i64 a).wf = true ∧ (Lit.int .i64 b).wf = true := by
  obtain ⟨xs, m, rfl, _, hl, hxl, hi⟩ := DataW.trod_array Try.underlying29 h
  have c2 : Try.prog.cellsOf 29 = 2 := by kernel_rfl
  have c1 : Try.prog.cellsOf 3 = 1 := by kernel_rfl
  rw [c2] at hl
  match cs, hl with
  | [u, v], _ =>
    have h0 := hi 0 (by omega)
    have h1 := hi 1 (by omega)
    rw [c1] at h0 h1
    rw [List.getElem?_eq_getElem (by omega)] at h0 h1
    obtain ⟨a, ha, _, wa⟩ := DataW.trod_int Try.underlying3 h0
    obtain ⟨b, hb, _, wb⟩ := DataW.trod_int Try.underlying3 h1
    simp at ha hb
    exact ⟨a, b, by rw [ha, hb], wa, wb⟩
set_option maxRecDepth 100000 in
theorem pairs_open {fuel : Nat} {A : Option Addr} {len cap : Nat} {x : DataW H × List MemPlace} (h : DataW.trod enc Try.prog w base (fun _ => true) held fuel 31 [.slice A len cap] = some x) : ∃ zs, PairsIn w A len zs := by
  rcases Go.Deep.open_slice Try.underlying31 h with ⟨hcs, _⟩ | ⟨a, l, c, m, n, D, Pl, hcs, _, hl, hm, hmm, _, hx⟩
  · simp only [List.cons.injEq, Value.slice.injEq, and_true] at hcs
    obtain ⟨rfl, rfl, rfl⟩ := hcs
    exact ⟨[], rfl, Nat.zero_le _, fun z hz => (by cases hz), fun i hi => absurd hi (by simp)⟩
  · simp only [List.cons.injEq, Value.slice.injEq, and_true] at hcs
    obtain ⟨rfl, rfl, rfl⟩ := hcs
    simp only [if_true] at hmm
    have c2 : Try.prog.cellsOf 29 = 2 := by kernel_rfl
    rw [c2] at hx
    obtain ⟨f, hf⟩ := Go.Deep.choose_lt (α := Int × Int) (n := len) (p := fun i q => w.cell? (a.add (i * 2)) = some (.int .i64 q.1) ∧ w.cell? (a.add (i * 2 + 1)) = some (.int .i64 q.2) ∧ (Lit.int .i64 q.1).wf = true ∧ (Lit.int .i64 q.2).wf = true) (fun i hi => by
      obtain ⟨cs', h1, h2⟩ := hx i (by omega)
      obtain ⟨u, v, rfl, wu, wv⟩ := pair_open h2
      obtain ⟨_, _, hcell⟩ := World.cells?_some h1
      have e0 := hcell 0 (by omega)
      have e1 := hcell 1 (by omega)
      rw [Go.Deep.add_add] at e0 e1
      exact ⟨(u, v), by simpa using e0, by simpa using e1, wu, wv⟩)
    have hlen : ((List.range len).map f).length = len := by rw [List.length_map, List.length_range]
    refine ⟨(List.range len).map f, hlen, by unfold maxLen at hm; omega, fun z hz => ?_, fun i hi => ?_⟩
    · obtain ⟨r, hr, rfl⟩ := List.mem_map.1 hz
      have := hf r (List.mem_range.1 hr)
      exact ⟨wf64K this.2.2.1, wf64K this.2.2.2⟩
    · rw [hlen] at hi
      obtain ⟨e0, e1, _, _⟩ := hf i hi
      have eg : ((List.range len).map f)[i]'(by rw [hlen]; exact hi) = f i := by rw [List.getElem_map, List.getElem_range]
      refine ⟨a, rfl, by have := blk_of_cell e0; rwa [block_add] at this, ?_, ?_⟩
      · rw [eg]; exact e0
      · rw [eg]; exact e1
set_option maxRecDepth 100000 in
theorem trip_open {fuel : Nat} {cs : List Value} {x : DataW H × List MemPlace} (h : DataW.trod enc Try.prog w base (fun _ => true) held fuel 56 cs = some x) : ∃ a b c : Int, cs = [.int .i64 a, .int .i64 b, .int .i64 c] ∧ (Lit.int .i64 a).wf = true ∧ (Lit.int .i64 b).wf = true ∧ (Lit.int .i64 c).wf = true := by
  obtain ⟨xs, m, rfl, _, hl, hxl, hi⟩ := DataW.trod_array Try.underlying56 h
  have c2 : Try.prog.cellsOf 56 = 3 := by kernel_rfl
  have c1 : Try.prog.cellsOf 3 = 1 := by kernel_rfl
  rw [c2] at hl
  match cs, hl with
  | [u, v, z], _ =>
    have h0 := hi 0 (by omega)
    have h1 := hi 1 (by omega)
    have h2 := hi 2 (by omega)
    rw [c1] at h0 h1 h2
    rw [List.getElem?_eq_getElem (by omega)] at h0 h1 h2
    obtain ⟨a, ha, _, wa⟩ := DataW.trod_int Try.underlying3 h0
    obtain ⟨b, hb, _, wb⟩ := DataW.trod_int Try.underlying3 h1
    obtain ⟨c, hc, _, wc⟩ := DataW.trod_int Try.underlying3 h2
    simp at ha hb hc
    exact ⟨a, b, c, by rw [ha, hb, hc], wa, wb, wc⟩
set_option maxRecDepth 100000 in
theorem trips_open {fuel : Nat} {A : Option Addr} {len cap : Nat} {x : DataW H × List MemPlace} (h : DataW.trod enc Try.prog w base (fun _ => true) held fuel 22 [.slice A len cap] = some x) : ∃ zs, TripsIn w A len zs := by
  rcases Go.Deep.open_slice Try.underlying22 h with ⟨hcs, _⟩ | ⟨a, l, c, m, n, D, Pl, hcs, _, hl, hm, hmm, _, hx⟩
  · simp only [List.cons.injEq, Value.slice.injEq, and_true] at hcs
    obtain ⟨rfl, rfl, rfl⟩ := hcs
    exact ⟨[], rfl, Nat.zero_le _, fun z hz => (by cases hz), fun i hi => absurd hi (by simp)⟩
  · simp only [List.cons.injEq, Value.slice.injEq, and_true] at hcs
    obtain ⟨rfl, rfl, rfl⟩ := hcs
    simp only [if_true] at hmm
    have c2 : Try.prog.cellsOf 56 = 3 := by kernel_rfl
    rw [c2] at hx
    obtain ⟨f, hf⟩ := Go.Deep.choose_lt (α := Tr) (n := len) (p := fun i q => w.cell? (a.add (i * 3)) = some (.int .i64 q.1) ∧ w.cell? (a.add (i * 3 + 1)) = some (.int .i64 q.2.1) ∧ w.cell? (a.add (i * 3 + 2)) = some (.int .i64 q.2.2) ∧ (Lit.int .i64 q.1).wf = true ∧ (Lit.int .i64 q.2.1).wf = true ∧ (Lit.int .i64 q.2.2).wf = true) (fun i hi => by
      obtain ⟨cs', h1, h2⟩ := hx i (by omega)
      obtain ⟨u, v, z, rfl, wu, wv, wz⟩ := trip_open h2
      obtain ⟨_, _, hcell⟩ := World.cells?_some h1
      have e0 := hcell 0 (by omega)
      have e1 := hcell 1 (by omega)
      have e2 := hcell 2 (by omega)
      rw [Go.Deep.add_add] at e0 e1 e2
      exact ⟨(u, v, z), by simpa using e0, by simpa using e1, by simpa using e2, wu, wv, wz⟩)
    have hlen : ((List.range len).map f).length = len := by rw [List.length_map, List.length_range]
    refine ⟨(List.range len).map f, hlen, by unfold maxLen at hm; omega, fun z hz => ?_, fun i hi => ?_⟩
    · obtain ⟨r, hr, rfl⟩ := List.mem_map.1 hz
      have := hf r (List.mem_range.1 hr)
      exact ⟨wf64K this.2.2.2.1, wf64K this.2.2.2.2.1, wf64K this.2.2.2.2.2⟩
    · rw [hlen] at hi
      obtain ⟨e0, e1, e2, _⟩ := hf i hi
      have eg : ((List.range len).map f)[i]'(by rw [hlen]; exact hi) = f i := by rw [List.getElem_map, List.getElem_range]
      refine ⟨a, rfl, by have := blk_of_cell e0; rwa [block_add] at this, ?_, ?_, ?_⟩
      · rw [eg]; exact e0
      · rw [eg]; exact e1
      · rw [eg]; exact e2
set_option maxRecDepth 100000 in
theorem slot_open {fuel : Nat} {cs : List Value} {x : DataW H × List MemPlace} (h : DataW.trod enc Try.prog w base (fun _ => true) held fuel 50 cs = some x) : ∃ (s : ByteArray) (p t : Int), cs = [.string s, .int .i64 p, .int .i64 t] ∧ s.size ≤ maxLen ∧ (Lit.int .i64 p).wf = true ∧ (Lit.int .i64 t).wf = true := by
  obtain ⟨xs, m, rfl, _, hl, hxl, hi⟩ := DataW.trod_struct Try.underlying50 h
  have c3 : Try.prog.cellsOf 50 = 3 := by kernel_rfl
  have c1 : Try.prog.cellsOf 3 = 1 := by kernel_rfl
  have cs1 : Try.prog.cellsOf 9 = 1 := by kernel_rfl
  rw [c3] at hl
  match cs, hl with
  | [u, v, z], _ =>
    have h0 : DataW.trod enc Try.prog w base (fun _ => true) held m 9 (([u, v, z].drop 0).take (Try.prog.cellsOf 9)) = xs[0]? := hi 0 _ rfl
    have h1 : DataW.trod enc Try.prog w base (fun _ => true) held m 3 (([u, v, z].drop 1).take (Try.prog.cellsOf 3)) = xs[1]? := hi 1 _ rfl
    have h2 : DataW.trod enc Try.prog w base (fun _ => true) held m 3 (([u, v, z].drop 2).take (Try.prog.cellsOf 3)) = xs[2]? := hi 2 _ rfl
    have hx2 : xs.length = 3 := hxl
    rw [cs1, List.getElem?_eq_getElem (by omega)] at h0
    rw [c1, List.getElem?_eq_getElem (by omega)] at h1 h2
    obtain ⟨s, hs, _, ws⟩ := DataW.trod_string Try.underlying9 h0
    obtain ⟨p, hp, _, wp⟩ := DataW.trod_int Try.underlying3 h1
    obtain ⟨t, ht, _, wt⟩ := DataW.trod_int Try.underlying3 h2
    simp at hs hp ht
    exact ⟨s, p, t, by rw [hs, hp, ht], ws, wp, wt⟩
set_option maxRecDepth 100000 in
theorem seen_open {fuel : Nat} {cs : List Value} {x : DataW H × List MemPlace} (h : DataW.trod enc Try.prog w base (fun _ => true) held fuel 72 cs = some x) : ∃ (s : ByteArray) (p : Int), cs = [.string s, .int .i64 p] ∧ s.size ≤ maxLen ∧ (Lit.int .i64 p).wf = true := by
  obtain ⟨xs, m, rfl, _, hl, hxl, hi⟩ := DataW.trod_struct Try.underlying72 h
  have c2 : Try.prog.cellsOf 72 = 2 := by kernel_rfl
  have c1 : Try.prog.cellsOf 3 = 1 := by kernel_rfl
  have cs1 : Try.prog.cellsOf 9 = 1 := by kernel_rfl
  rw [c2] at hl
  match cs, hl with
  | [u, v], _ =>
    have h0 : DataW.trod enc Try.prog w base (fun _ => true) held m 9 (([u, v].drop 0).take (Try.prog.cellsOf 9)) = xs[0]? := hi 0 _ rfl
    have h1 : DataW.trod enc Try.prog w base (fun _ => true) held m 3 (([u, v].drop 1).take (Try.prog.cellsOf 3)) = xs[1]? := hi 1 _ rfl
    have hx2 : xs.length = 2 := hxl
    rw [cs1, List.getElem?_eq_getElem (by omega)] at h0
    rw [c1, List.getElem?_eq_getElem (by omega)] at h1
    obtain ⟨s, hs, _, ws⟩ := DataW.trod_string Try.underlying9 h0
    obtain ⟨p, hp, _, wp⟩ := DataW.trod_int Try.underlying3 h1
    simp at hs hp
    exact ⟨s, p, by rw [hs, hp], ws, wp⟩
theorem addr_spot {a : Addr} {v : Value} (h : w.cell? (a.add 0) = some v) : ∃ g off, a = ⟨g, off, none⟩ := by
  obtain ⟨g, off, cur⟩ := a
  cases cur with
  | none => exact ⟨g, off, rfl⟩
  | some k =>
    exfalso
    simp only [Addr.add, World.cell?, if_true] at h
    split at h <;> simp at h
set_option maxRecDepth 100000 in
theorem slots_open {fuel : Nat} {A : Option Addr} {len cap : Nat} {x : DataW H × List MemPlace} (h : DataW.trod enc Try.prog w base (fun _ => true) held fuel 23 [.slice A len cap] = some x)
    (hsz : ∀ elems spare, x.1 = .slice elems spare → (elems.length + spare.length) * Try.prog.bytesOf 50 ≤ reachBytes) : ∃ l : List Sl, len = l.length ∧ SlArg w A cap l := by
  rcases Go.Deep.open_slice Try.underlying23 h with ⟨hcs, _⟩ | ⟨a, l, c, m, n, D, Pl, hcs, _, hl, hm, hmm, hxe, hx⟩
  · simp only [List.cons.injEq, Value.slice.injEq, and_true] at hcs
    obtain ⟨rfl, rfl, rfl⟩ := hcs
    exact ⟨[], rfl, SlArg.nil w⟩
  · simp only [List.cons.injEq, Value.slice.injEq, and_true] at hcs
    obtain ⟨rfl, rfl, rfl⟩ := hcs
    simp only [if_true] at hmm
    have c2 : Try.prog.cellsOf 50 = 3 := by kernel_rfl
    have c3 : Try.prog.bytesOf 50 = 32 := by kernel_rfl
    have hs := hsz _ _ (by rw [hxe])
    rw [c3, List.length_map, List.length_range] at hs
    have hr : reachBytes < 140737488355328 := by decide
    have hs2 : len * 32 ≤ reachBytes := Nat.le_trans (Nat.mul_le_mul_right _ (Nat.le_add_right _ _)) hs
    rw [c2] at hx
    obtain ⟨f, hf⟩ := Go.Deep.choose_lt (α := Sl) (n := len) (p := fun i q => w.cell? (a.add (i * 3)) = some (.string (B q.1)) ∧ w.cell? (a.add (i * 3 + 1)) = some (.int .i64 q.2.1) ∧ w.cell? (a.add (i * 3 + 2)) = some (.int .i64 q.2.2) ∧ q.1.length ≤ maxLen ∧ (Lit.int .i64 q.2.1).wf = true ∧ (Lit.int .i64 q.2.2).wf = true) (fun i hi => by
      obtain ⟨cs', h1, h2⟩ := hx i (by omega)
      obtain ⟨s, p, t, rfl, ws, wp, wt⟩ := slot_open h2
      obtain ⟨_, _, hcell⟩ := World.cells?_some h1
      have e0 := hcell 0 (by omega)
      have e1 := hcell 1 (by omega)
      have e2 := hcell 2 (by omega)
      rw [Go.Deep.add_add] at e0 e1 e2
      exact ⟨(s.data.toList, p, t), by rw [B_of]; simpa using e0, by simpa using e1, by simpa using e2, by simpa using ws, wp, wt⟩)
    have hlen : ((List.range len).map f).length = len := by rw [List.length_map, List.length_range]
    have ha : 0 < len → ∃ g off, a = ⟨g, off, none⟩ := fun h0 => by
      obtain ⟨e0, _⟩ := hf 0 h0
      rw [Nat.zero_mul] at e0
      exact addr_spot e0
    refine ⟨(List.range len).map f, hlen.symm, fun e => (by cases e), ⟨by rw [hlen]; exact hl, hm⟩, by rw [hlen]; omega, fun o ho => ?_, fun i hi => ?_⟩
    · obtain ⟨r, hr, rfl⟩ := List.mem_map.1 ho
      have := hf r (List.mem_range.1 hr)
      exact ⟨by have := this.2.2.2.1; unfold maxLen at this; omega, wf64K this.2.2.2.2.1, wf64K this.2.2.2.2.2⟩
    · rw [hlen] at hi
      obtain ⟨e0, e1, e2, _⟩ := hf i hi
      have eg : ((List.range len).map f)[i]'(by rw [hlen]; exact hi) = f i := by rw [List.getElem_map, List.getElem_range]
      obtain ⟨g, off, rfl⟩ := ha (by omega)
      rw [addr_at] at e0 e1 e2
      refine ⟨g, off, rfl, blk_of_cell e0, fun j hj => ?_⟩
      rw [eg]
      have : j = 0 ∨ j = 1 ∨ j = 2 := by omega
      rcases this with rfl | rfl | rfl
      · exact e0
      · rw [Nat.add_assoc]; exact e1
      · rw [Nat.add_assoc]; exact e2
set_option maxRecDepth 100000 in
theorem seens_open {fuel : Nat} {A : Option Addr} {len cap : Nat} {x : DataW H × List MemPlace} (h : DataW.trod enc Try.prog w base (fun _ => true) held fuel 43 [.slice A len cap] = some x)
    (hsz : ∀ elems spare, x.1 = .slice elems spare → (elems.length + spare.length) * Try.prog.bytesOf 72 ≤ reachBytes) : ∃ l : List Sn, len = l.length ∧ SnArg w A cap l := by
  rcases Go.Deep.open_slice Try.underlying43 h with ⟨hcs, _⟩ | ⟨a, l, c, m, n, D, Pl, hcs, _, hl, hm, hmm, hxe, hx⟩
  · simp only [List.cons.injEq, Value.slice.injEq, and_true] at hcs
    obtain ⟨rfl, rfl, rfl⟩ := hcs
    exact ⟨[], rfl, SnArg.nil w⟩
  · simp only [List.cons.injEq, Value.slice.injEq, and_true] at hcs
    obtain ⟨rfl, rfl, rfl⟩ := hcs
    simp only [if_true] at hmm
    have c2 : Try.prog.cellsOf 72 = 2 := by kernel_rfl
    have c3 : Try.prog.bytesOf 72 = 24 := by kernel_rfl
    have hs := hsz _ _ (by rw [hxe])
    rw [c3, List.length_map, List.length_range] at hs
    have hr : reachBytes < 140737488355328 := by decide
    have hs2 : len * 24 ≤ reachBytes := Nat.le_trans (Nat.mul_le_mul_right _ (Nat.le_add_right _ _)) hs
    rw [c2] at hx
    obtain ⟨f, hf⟩ := Go.Deep.choose_lt (α := Sn) (n := len) (p := fun i q => w.cell? (a.add (i * 2)) = some (.string (B q.1)) ∧ w.cell? (a.add (i * 2 + 1)) = some (.int .i64 q.2) ∧ q.1.length ≤ maxLen ∧ (Lit.int .i64 q.2).wf = true) (fun i hi => by
      obtain ⟨cs', h1, h2⟩ := hx i (by omega)
      obtain ⟨s, p, rfl, ws, wp⟩ := seen_open h2
      obtain ⟨_, _, hcell⟩ := World.cells?_some h1
      have e0 := hcell 0 (by omega)
      have e1 := hcell 1 (by omega)
      rw [Go.Deep.add_add] at e0 e1
      exact ⟨(s.data.toList, p), by rw [B_of]; simpa using e0, by simpa using e1, by simpa using ws, wp⟩)
    have hlen : ((List.range len).map f).length = len := by rw [List.length_map, List.length_range]
    have ha : 0 < len → ∃ g off, a = ⟨g, off, none⟩ := fun h0 => by
      obtain ⟨e0, _⟩ := hf 0 h0
      rw [Nat.zero_mul] at e0
      exact addr_spot e0
    refine ⟨(List.range len).map f, hlen.symm, fun e => (by cases e), hm, by rw [hlen]; omega, fun o ho => ?_, fun i hi => ?_⟩
    · obtain ⟨r, hr, rfl⟩ := List.mem_map.1 ho
      have := hf r (List.mem_range.1 hr)
      exact ⟨by have := this.2.2.1; unfold maxLen at this; omega, wf64K this.2.2.2⟩
    · rw [hlen] at hi
      obtain ⟨e0, e1, _⟩ := hf i hi
      have eg : ((List.range len).map f)[i]'(by rw [hlen]; exact hi) = f i := by rw [List.getElem_map, List.getElem_range]
      obtain ⟨g, off, rfl⟩ := ha (by omega)
      rw [addr_at] at e0 e1
      refine ⟨g, off, rfl, blk_of_cell e0, fun j hj => ?_⟩
      rw [eg]
      have : j = 0 ∨ j = 1 := by omega
      rcases this with rfl | rfl
      · exact e0
      · rw [Nat.add_assoc]; exact e1
end
end Go.Proofs.Ytfplhpkolcgpiaa
