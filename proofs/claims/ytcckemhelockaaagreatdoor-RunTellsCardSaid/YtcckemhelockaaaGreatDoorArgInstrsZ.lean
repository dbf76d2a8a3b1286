/- Instructions as an argument, opened. -/
import Derived.ChangeArms
import Derived.Test.YtcckemhelockaaaGreatDoorZ00
import Derived.Test.YtcckemhelockaaaGreatDoorZ01
import Derived.Test.YtcckemhelockaaaGreatDoorZ02
import Derived.Test.YtcckemhelockaaaGreatDoorZ03
import Derived.Test.YtcckemhelockaaaGreatDoorZ04
import Derived.Test.YtcckemhelockaaaGreatDoorZ07
import Derived.Test.YtcckemhelockaaaGreatDoorZ09
import Derived.Test.YtcckemhelockaaaGreatDoorZ15
import Derived.Test.YtcckemhelockaaaGreatDoorZ19
import Derived.Test.YtcckemhelockaaaGreatDoorZ42
import Derived.Test.YtcckemhelockaaaGreatDoorZ59
namespace Go.Proofs.YtcckemhelockaaaGreatDoor
open Go.RowKit Go.ChangeShapes Go.WideShapes
open Go.Lib
set_option linter.unusedVariables false
set_option linter.unusedSimpArgs false

theorem dd20 (u : Nat) (hu : u ≤ 9223372036854775808) : (decDigits u).length ≤ 20 := by
  have e : (10 : Nat) ^ 20 = 100000000000000000000 := by decide
  exact dd_len 20 u (by omega) (by omega)
theorem itoa64 {n : Int} (h : -9223372036854775808 ≤ n ∧ n ≤ 9223372036854775807) : (itoa n).length ≤ 21 := by
  unfold itoa
  split
  · have := dd20 n.natAbs (by omega); simp only [List.length_cons]; omega
  · have := dd20 n.toNat (by omega); omega
theorem ite_len {c : Prop} [Decidable c] {a b : List UInt8} {k : Nat} (ha : a.length ≤ k) (hb : b.length ≤ k) : (if c then a else b).length ≤ k := by split <;> assumption
theorem wordO_len (o : Int) : (wordO o).length ≤ 6 := by
  unfold wordO
  exact ite_len (by decide) (ite_len (by decide) (ite_len (by decide) (ite_len (by decide) (ite_len (by decide) (ite_len (by decide) (ite_len (by decide) (ite_len (by decide) (ite_len (by decide) (ite_len (by decide) (ite_len (by decide) (ite_len (by decide) (ite_len (by decide) (by decide)))))))))))))
theorem line_len {t : In} (h : i64 t.2.1) : (lineT t).length ≤ 60 + t.2.2.length := by
  have h2 := itoa64 h
  have hw := wordO_len t.1
  unfold lineT tailO
  split
  · simp only [List.length_append, List.length_cons, List.length_nil]; omega
  · split <;> (simp only [List.length_append, List.length_cons, List.length_nil]; omega)
section
variable {H : Type} {enc : TypeId × Value → H} {w : World} {base : Nat} {held : Bool}
set_option maxRecDepth 100000 in
theorem instr_open {fuel : Nat} {cs : List Value} {x : DataW H × List MemPlace} (h : DataW.trod enc Tryz.prog w base (fun _ => true) held fuel 45 cs = some x) : ∃ (o n : Int) (s : ByteArray), cs = [.int .i64 o, .int .i64 n, .string s] ∧ (Lit.int .i64 o).wf = true ∧ (Lit.int .i64 n).wf = true ∧ s.size ≤ maxLen ∧ x.1 = .agg [.lit (.int .i64 o), .lit (.int .i64 n), .lit (.string s.data.toList)] := by
  obtain ⟨xs, m, rfl, hxx, hl, hxl, hi⟩ := DataW.trod_struct Tryz.underlying45 h
  obtain ⟨y0, y1, y2, rfl⟩ : ∃ a b c, xs = [a, b, c] := by
    have hx3 : xs.length = 3 := hxl
    match xs, hx3 with
    | [a, b, c], _ => exact ⟨a, b, c, rfl⟩
  have c3 : Tryz.prog.cellsOf 45 = 3 := by kernel_rfl
  have c1 : Tryz.prog.cellsOf 3 = 1 := by kernel_rfl
  have cs1 : Tryz.prog.cellsOf 9 = 1 := by kernel_rfl
  rw [c3] at hl
  match cs, hl with
  | [u, v, y], _ =>
    have h0 : DataW.trod enc Tryz.prog w base (fun _ => true) held m 3 (([u, v, y].drop 0).take (Tryz.prog.cellsOf 3)) = some y0 := hi 0 _ rfl
    have h1 : DataW.trod enc Tryz.prog w base (fun _ => true) held m 3 (([u, v, y].drop 1).take (Tryz.prog.cellsOf 3)) = some y1 := hi 1 _ rfl
    have h2 : DataW.trod enc Tryz.prog w base (fun _ => true) held m 9 (([u, v, y].drop 2).take (Tryz.prog.cellsOf 9)) = some y2 := hi 2 _ rfl
    rw [c1] at h0
    rw [c1] at h1
    rw [cs1] at h2
    obtain ⟨o, ho, eo, wo⟩ := DataW.trod_int Tryz.underlying3 h0
    obtain ⟨n, hn, en, wn⟩ := DataW.trod_int Tryz.underlying3 h1
    obtain ⟨s, hs, es, ws⟩ := DataW.trod_string Tryz.underlying9 h2
    simp at ho hn hs
    refine ⟨o, n, s, by rw [ho, hn, hs], wo, wn, ws, ?_⟩
    subst eo en es
    rw [hxx]; rfl
set_option maxRecDepth 100000 in
theorem instrs_open {fuel : Nat} {A : Option Addr} {len cap : Nat} {x : DataW H × List MemPlace} (h : DataW.trod enc Tryz.prog w base (fun _ => true) held fuel 23 [.slice A len cap] = some x) : ∃ os : List In, len = os.length ∧ InsArg w A cap os := by
  rcases Go.Deep.open_slice Tryz.underlying23 h with ⟨hcs, _⟩ | ⟨a, l, c, m, n, D, Pl, hcs, _, hl, hm, hmm, _, hx⟩
  · simp only [List.cons.injEq, Value.slice.injEq, and_true] at hcs
    obtain ⟨rfl, rfl, rfl⟩ := hcs
    exact ⟨[], rfl, insArg_nil w⟩
  · simp only [List.cons.injEq, Value.slice.injEq, and_true] at hcs
    obtain ⟨rfl, rfl, rfl⟩ := hcs
    simp only [if_true] at hmm
    have c3 : Tryz.prog.cellsOf 45 = 3 := by kernel_rfl
    rw [c3] at hx
    obtain ⟨f, hf⟩ := Go.Deep.choose_lt (α := In) (n := len) (p := fun i q => w.cell? (a.add (i * 3)) = some (.int .i64 q.1) ∧ w.cell? (a.add (i * 3 + 1)) = some (.int .i64 q.2.1) ∧ w.cell? (a.add (i * 3 + 2)) = some (.string (B q.2.2)) ∧ (Lit.int .i64 q.1).wf = true ∧ (Lit.int .i64 q.2.1).wf = true ∧ q.2.2.length ≤ maxLen) (fun i hi => by
      obtain ⟨cs', h1, h2⟩ := hx i (by omega)
      obtain ⟨o, n, s, rfl, wo, wn, ws, _⟩ := instr_open h2
      obtain ⟨_, _, hcell⟩ := World.cells?_some h1
      have e0 := hcell 0 (by omega)
      have e1 := hcell 1 (by omega)
      have e2 := hcell 2 (by omega)
      rw [Go.Deep.add_add] at e0 e1 e2
      exact ⟨(o, n, s.data.toList), by simpa using e0, by simpa using e1, by rw [B_of]; simpa using e2, wo, wn, by simpa using ws⟩)
    have hlen : ((List.range len).map f).length = len := by rw [List.length_map, List.length_range]
    have ha : 0 < len → ∃ g off, a = ⟨g, off, none⟩ := fun h0 => by
      obtain ⟨e0, _⟩ := hf 0 h0
      obtain ⟨g, off, cur⟩ := a
      cases cur with
      | none => exact ⟨g, off, rfl⟩
      | some k =>
        exfalso
        rw [Nat.zero_mul] at e0
        simp only [Addr.add, World.cell?, if_true] at e0
        split at e0 <;> simp at e0
    refine ⟨(List.range len).map f, hlen.symm, by rw [hlen]; exact hl, hm, fun o ho => ?_, fun i hi => ?_⟩
    · obtain ⟨r, hr, rfl⟩ := List.mem_map.1 ho
      have := hf r (List.mem_range.1 hr)
      exact ⟨wf64 this.2.2.2.1, wf64 this.2.2.2.2.1, by have := this.2.2.2.2.2; unfold maxLen at this; omega⟩
    · rw [hlen] at hi
      obtain ⟨e0, e1, e2, _⟩ := hf i hi
      have eg : ((List.range len).map f)[i]'(by rw [hlen]; exact hi) = f i := by rw [List.getElem_map, List.getElem_range]
      obtain ⟨g, off, rfl⟩ := ha (by omega)
      refine ⟨g, off, rfl, by have := blk_of_cell e0; rwa [block_add] at this, ?_, ?_, ?_⟩
      · rw [eg]; rw [addr_at] at e0; exact e0
      · rw [eg]; rw [addr_at] at e1; rw [Nat.add_assoc]; exact e1
      · rw [eg]; rw [addr_at] at e2; rw [Nat.add_assoc]; exact e2
set_option maxRecDepth 100000 in
theorem instrs_bulk (bk : DataW H → Nat) (bkA : List (DataW H) → Nat) (b1 : ∀ l, 1 ≤ bk (.lit l)) (b2 : ∀ l, bk (.lit (.string l)) = l.length + 1) (b3 : ∀ ps, bk (.agg ps) = bkA ps + 1) (b4 : bkA [] = 0) (b5 : ∀ d r, bkA (d :: r) = bk d + bkA r) (b6 : ∀ e s, bk (.slice e s) = bkA e + bkA s + 1) {fuel : Nat} {A : Option Addr} {len cap : Nat} {x : DataW H × List MemPlace} (h : DataW.trod enc Tryz.prog w base (fun _ => true) held fuel 23 [.slice A len cap] = some x) : ∃ os : List In, len = os.length ∧ InsArg w A cap os ∧ (textC os).length ≤ 60 * bk x.1 := by
  rcases Go.Deep.open_slice Tryz.underlying23 h with ⟨hcs, _⟩ | ⟨a, l, c, m, n, D, Pl, hcs, _, hl, hm, hmm, hxx, hx⟩
  · simp only [List.cons.injEq, Value.slice.injEq, and_true] at hcs
    obtain ⟨rfl, rfl, rfl⟩ := hcs
    exact ⟨[], rfl, insArg_nil w, by simp [textC]⟩
  · simp only [List.cons.injEq, Value.slice.injEq, and_true] at hcs
    obtain ⟨rfl, rfl, rfl⟩ := hcs
    simp only [if_true] at hmm
    have c3 : Tryz.prog.cellsOf 45 = 3 := by kernel_rfl
    rw [c3] at hx
    obtain ⟨f, hf⟩ := Go.Deep.choose_lt (α := In) (n := len) (p := fun i q => w.cell? (a.add (i * 3)) = some (.int .i64 q.1) ∧ w.cell? (a.add (i * 3 + 1)) = some (.int .i64 q.2.1) ∧ w.cell? (a.add (i * 3 + 2)) = some (.string (B q.2.2)) ∧ (Lit.int .i64 q.1).wf = true ∧ (Lit.int .i64 q.2.1).wf = true ∧ q.2.2.length ≤ maxLen ∧ q.2.2.length + 1 ≤ bk (D i)) (fun i hi => by
      obtain ⟨cs', h1, h2⟩ := hx i (by omega)
      obtain ⟨o, n, s, rfl, wo, wn, ws, hD⟩ := instr_open h2
      obtain ⟨_, _, hcell⟩ := World.cells?_some h1
      have e0 := hcell 0 (by omega)
      have e1 := hcell 1 (by omega)
      have e2 := hcell 2 (by omega)
      rw [Go.Deep.add_add] at e0 e1 e2
      exact ⟨(o, n, s.data.toList), by simpa using e0, by simpa using e1, by rw [B_of]; simpa using e2, wo, wn, by simpa using ws, by
        have hD : D i = .agg [.lit (.int .i64 o), .lit (.int .i64 n), .lit (.string s.data.toList)] := hD
        rw [hD, b3, b5, b5, b5, b2, b4]
        have := b1 (.int .i64 o)
        show s.data.toList.length + 1 ≤ _
        omega⟩)
    have hlen : ((List.range len).map f).length = len := by rw [List.length_map, List.length_range]
    have ha : 0 < len → ∃ g off, a = ⟨g, off, none⟩ := fun h0 => by
      obtain ⟨e0, _⟩ := hf 0 h0
      obtain ⟨g, off, cur⟩ := a
      cases cur with
      | none => exact ⟨g, off, rfl⟩
      | some k =>
        exfalso
        rw [Nat.zero_mul] at e0
        simp only [Addr.add, World.cell?, if_true] at e0
        split at e0 <;> simp at e0
    have hsum : ∀ n, n ≤ len → (textC ((List.range n).map f)).length ≤ 60 * bkA ((List.range n).map D) := by
      have happ : ∀ l r, bkA (l ++ r) = bkA l + bkA r := fun l r => by
        induction l with
        | nil => rw [List.nil_append, b4]; omega
        | cons d l ih => rw [List.cons_append, b5, b5, ih]; omega
      intro n
      induction n with
      | zero => intro _; simp [textC]
      | succ n ih =>
        intro hn
        have h1 := ih (by omega)
        obtain ⟨_, _, _, _, h5, _, h7⟩ := hf n (by omega)
        have h2 := line_len (t := f n) (wf64 h5)
        rw [List.range_succ, List.map_append, List.map_append, textC_append, happ, List.length_append]
        simp only [List.map_cons, List.map_nil, textC, List.append_nil, b5, b4]
        omega
    refine ⟨(List.range len).map f, hlen.symm, ⟨by rw [hlen]; exact hl, hm, fun o ho => ?_, fun i hi => ?_⟩, by rw [hxx, b6]; have := hsum len (Nat.le_refl _); omega⟩
    · obtain ⟨r, hr, rfl⟩ := List.mem_map.1 ho
      have := hf r (List.mem_range.1 hr)
      exact ⟨wf64 this.2.2.2.1, wf64 this.2.2.2.2.1, by have := this.2.2.2.2.2.1; unfold maxLen at this; omega⟩
    · rw [hlen] at hi
      obtain ⟨e0, e1, e2, _⟩ := hf i hi
      have eg : ((List.range len).map f)[i]'(by rw [hlen]; exact hi) = f i := by rw [List.getElem_map, List.getElem_range]
      obtain ⟨g, off, rfl⟩ := ha (by omega)
      refine ⟨g, off, rfl, by have := blk_of_cell e0; rwa [block_add] at this, ?_, ?_, ?_⟩
      · rw [eg]; rw [addr_at] at e0; exact e0
      · rw [eg]; rw [addr_at] at e1; rw [Nat.add_assoc]; exact e1
      · rw [eg]; rw [addr_at] at e2; rw [Nat.add_assoc]; exact e2
end
end Go.Proofs.YtcckemhelockaaaGreatDoor
