/- Plain mathematics of layer 7, third part: what is printed is scanned; how long a text is. No program in this text; Plain mathematics of layer 7, fourth part: what the law makes of raw numbers; Expressions in memory, and the law's source of raw numbers; Layer 16: a heap of the landed code in memory: its box, its row in heap order, its map of places; Layer 17: a set of numbers, in memory: a map from numbers to nothing; What one thing of a layer does to memory: its own blocks, and all others; blocks and rows that are none of its own; What is asked of the program in layer 17 (QueueOk): a queue is who waits, who is dirty, and blocks of its own; (For layer 17.) What is asked of the program in layer 16 (HeapOk): a heap is its items, and blocks of its own. -/
import Derived.Test.YtndmnlgancnbkaaZL
import Derived.Test.YtndmnlgancnbkaaZ00
import Derived.Test.YtndmnlgancnbkaaZ01
namespace Go.Proofs.Ytndmnlgancnbkaa
open Go.Lib
set_option linter.unusedVariables false
set_option linter.unusedSimpArgs false
/-- A text is scanned to at least n tokens, whatever stands behind it that is no part. -/
def Sc (a : List UInt8) (n : Nat) : Prop := ∀ p r, stops r = true → ∃ ts, lx p (a ++ r) = pre ts (lx (p + a.length) r) ∧ n ≤ ts.length
theorem Sc.append {a b : List UInt8} {n m : Nat} (ha : Sc a n) (hb : Sc b m) (hs : ∀ r, stops r = true → stops (b ++ r) = true) : Sc (a ++ b) (n + m) := by
  intro p r hr
  obtain ⟨ts, e, h⟩ := ha p (b ++ r) (hs r hr)
  obtain ⟨us, e', h'⟩ := hb (p + a.length) r hr
  refine ⟨ts ++ us, ?_, by rw [List.length_append]; omega⟩
  rw [List.append_assoc, e, e', pre_pre, List.length_append, Nat.add_assoc]
theorem Sc.nil : Sc [] 0 := fun p r _ => ⟨[], by rw [pre_nil]; rfl, Nat.zero_le _⟩
end Go.Proofs.Ytndmnlgancnbkaa

namespace Go.Proofs.Ytndmnlgancnbkaa
open Go.RowKit Go.Lib
set_option linter.unusedVariables false
set_option linter.unusedSimpArgs false
/-- One number of the raw ones, below n; 0 behind the last one. -/
def nx (n : Int) : List Int → Int × List Int
  | [] => (0, [])
  | c :: t => (pk c n, t)
end Go.Proofs.Ytndmnlgancnbkaa

namespace Go.Proofs.Ytndmnlgancnbkaa
open Go.RowKit Go.Lib
set_option linter.unusedVariables false
set_option linter.unusedSimpArgs false
/-- An expression as its row holds it: kind, number, name, and the slice of its arguments. -/
abbrev El := Int × Int × List UInt8 × Option Addr × Nat × Nat
/-- The cells from A on are these; their block is one of S. -/
def RowE (S : Nat → Prop) (w : World) (A : Option Addr) (es : List El) : Prop :=
  ∀ i (h : i < es.length), ∃ (g off : Nat), A = some ⟨g, off, none⟩ ∧ g < w.heap.size ∧ S g ∧ w.cell? ⟨g, off + i * 4, none⟩ = some (.int .i64 es[i].1) ∧ w.cell? ⟨g, off + i * 4 + 1, none⟩ = some (.int .i64 es[i].2.1) ∧
    w.cell? ⟨g, off + i * 4 + 2, none⟩ = some (.string (B es[i].2.2.1)) ∧ w.cell? ⟨g, off + i * 4 + 3, none⟩ = some (.slice es[i].2.2.2.1 es[i].2.2.2.2.1 es[i].2.2.2.2.2)
theorem RowE.mono {S S' : Nat → Prop} {w w' : World} {A : Option Addr} {es : List El} (h : RowE S w A es) (hs : w.heap.size ≤ w'.heap.size) (hm : ∀ g, S g → g < w.heap.size → S' g ∧ w'.heap[g]? = w.heap[g]?) : RowE S' w' A es := by
  intro i hi
  obtain ⟨g, off, e, hl, hS, h0, h1, h2, h3⟩ := h i hi
  obtain ⟨hS', hb⟩ := hm g hS hl
  have hk : ∀ j, w'.cell? ⟨g, j, none⟩ = w.cell? ⟨g, j, none⟩ := fun j => World.cell?_of_block (a := ⟨g, j, none⟩) hb
  exact ⟨g, off, e, by omega, hS', by rw [hk]; exact h0, by rw [hk]; exact h1, by rw [hk]; exact h2, by rw [hk]; exact h3⟩
def i64 (n : Int) : Prop := -9223372036854775808 ≤ n ∧ n ≤ 9223372036854775807
/-- In this world an element is this expression. -/
inductive ExAt (S : Nat → Prop) (w : World) : El → Ex → Prop where
  | mk (k n : Int) (nm : List UInt8) (A : Option Addr) (c : Nat) (l : List Ex) (es : List El) (hk : i64 k) (hn : i64 n) (hm : nm.length ≤ 100) (hl : es.length = l.length) (hrow : RowE S w A es)
      (hsub : ∀ i (h : i < es.length) (h' : i < l.length), ExAt S w es[i] l[i]) : ExAt S w (k, n, nm, A, l.length, c) (.mk k n nm l)
theorem ExAt.mono {S S' : Nat → Prop} {w w' : World} (hs : w.heap.size ≤ w'.heap.size) (hm : ∀ g, S g → g < w.heap.size → S' g ∧ w'.heap[g]? = w.heap[g]?) {e : El} {x : Ex} (h : ExAt S w e x) : ExAt S' w' e x := by
  induction h with
  | mk k n nm A c l es hk hn hm' hl hrow hsub ih => exact .mk k n nm A c l es hk hn hm' hl (hrow.mono hs hm) ih
theorem ExAt.rel {S : Nat → Prop} {w w' : World} {e : El} {x : Ex} (h : ExAt S w e x) (hr : Rel w w') : ExAt S w' e x := h.mono hr.size fun g hS hl => ⟨hS, hr.2.block g hl⟩
/-- What an element is, opened. -/
theorem ExAt.open {S : Nat → Prop} {w : World} {k n : Int} {nm : List UInt8} {l : List Ex} {e : El} (h : ExAt S w e (.mk k n nm l)) : ∃ A c es, e = (k, n, nm, A, l.length, c) ∧ i64 k ∧ i64 n ∧ nm.length ≤ 100 ∧ es.length = l.length ∧ RowE S w A es ∧ ∀ i (h : i < es.length) (h' : i < l.length), ExAt S w es[i] l[i] := by
  cases h with
  | mk k n nm A c l es hk hn hm hl hrow hsub => exact ⟨A, c, es, rfl, hk, hn, hm, hl, hrow, hsub⟩
theorem RowE.nil (S : Nat → Prop) (w : World) (A : Option Addr) : RowE S w A [] := fun i h => absurd h (by simp)
theorem ExAt.grown {S S' : Nat → Prop} {w w' : World} {b : Option Nat} {e : El} {x : Ex} (h : ExAt S w e x) (hg : w.grownBy w' b) (hS : ∀ k, S k → S' k ∧ some k ≠ b) : ExAt S' w' e x := h.mono hg.size fun k hk hl => ⟨(hS k hk).1, hg.block k hl (hS k hk).2⟩
end Go.Proofs.Ytndmnlgancnbkaa

namespace Go.Proofs.Ytndmnlgancnbkaa
open Go.RowKit Go.Lib
set_option linter.unusedVariables false
set_option linter.unusedSimpArgs false
theorem i64_wf {n : Int} (h : i64 n) : (Lit.int .i64 n).wf = true := by
  unfold i64 at h
  have a : IntKind.i64.min = -9223372036854775808 := by decide
  have b : IntKind.i64.max = 9223372036854775807 := by decide
  simp only [Lit.wf, a, b]
  simp
  omega
/-- The blocks of a heap. -/
def SoF (g b : Nat) (v : Value) : Nat → Prop := fun k => k = g ∨ k = b ∨ some k = v.ownBlock
structure Hb (w : World) (g b : Nat) (m : Int) (v : Value) (l : List It) : Prop where
  box : Bk w g 77 #[.int .i64 m, v, .map (some b)]
  row : RowOwn 64 clH 2 w 0 v l
  pl : PlAt w b (posf l) l.length
  dst : Dst l
  fit : ∀ z ∈ l, i64 z.1 ∧ i64 z.2
  cap : l.length ≤ 1000
theorem Bk.three {w : World} {g : Nat} {t : TypeId} {x y z : Value} (h : Bk w g t #[x, y, z]) :
    (w.cell? ⟨g, 0, none⟩ = some x ∧ w.cell? ⟨g, 1, none⟩ = some y ∧ w.cell? ⟨g, 2, none⟩ = some z) ∧ (w.frozen? ⟨g, 0, none⟩ = false ∧ w.frozen? ⟨g, 1, none⟩ = false ∧ w.frozen? ⟨g, 2, none⟩ = false) :=
  ⟨⟨h.cell 0, h.cell 1, h.cell 2⟩, ⟨h.frozen 0, h.frozen 1, h.frozen 2⟩⟩
section
variable {w w' : World} {g b : Nat} {m : Int} {v : Value} {l : List It}
theorem Hb.g_ne (h : Hb w g b m v l) : some g ≠ v.ownBlock := own_ne h.row h.box (by decide)
theorem Hb.b_ne (h : Hb w g b m v l) : b ≠ g := h.pl.ne h.box
theorem Hb.b_row (h : Hb w g b m v l) : some b ≠ v.ownBlock := h.pl.ne_own h.row
theorem Hb.lt (h : Hb w g b m v l) : ∀ k, SoF g b v k → k < w.heap.size := by
  rintro k (rfl | rfl | hk)
  · exact h.box.lt
  · exact h.pl.lt
  · exact (World.ownsRow.lt h.row.row k hk.symm).2
theorem Hb.keep (h : Hb w g b m v l) (hsz : w.heap.size ≤ w'.heap.size) (hb : ∀ k, SoF g b v k → w'.heap[k]? = w.heap[k]?) : Hb w' g b m v l :=
  ⟨(hb g (.inl rfl)).trans h.box, by
    have hr := h.row
    unfold RowOwn World.ownsRow at hr ⊢
    refine ⟨hr.1, hr.2.imp id ?_⟩
    rintro ⟨q, cap, cur, hv, hq, hh, hx⟩
    exact ⟨q, cap, cur, hv, hq, (hb q (.inr (.inr (by rw [hv]; rfl)))).trans hh, hx⟩, h.pl.blk (hb b (.inr (.inl rfl))), h.dst, h.fit, h.cap⟩
theorem Hb.rel (h : Hb w g b m v l) (hr : Rel w w') : Hb w' g b m v l := h.keep hr.size fun k hk => hr.2.block k (h.lt k hk)
theorem Hb.fit_at (h : Hb w g b m v l) {i : Nat} (hi : i < l.length) : (Lit.int .i64 (atI l i).1).wf = true ∧ (Lit.int .i64 (atI l i).2).wf = true := by
  have := h.fit _ (at_mem hi)
  exact ⟨i64_wf this.1, i64_wf this.2⟩
/-- What its row looks like. -/
theorem Hb.form (h : Hb w g b m v l) : (v = .slice none 0 0 ∧ l = []) ∨ ∃ q c, v = .slice (some ⟨q, 0, none⟩) l.length c ∧ l.length ≤ c ∧ c ≤ maxLen ∧ q < w.heap.size ∧ (∀ i, i < l.length → w.cell? ⟨q, i * 2, none⟩ = some (.int .i64 (atI l i).1) ∧ w.cell? ⟨q, i * 2 + 1, none⟩ = some (.int .i64 (atI l i).2)) ∧ ∀ j, w.frozen? ⟨q, j, none⟩ = false := by
  have hr := h.row.row
  rcases hr.2 with ⟨rfl, e⟩ | ⟨q, c, cur, rfl, _, hh, hn, hc, hs, ht⟩
  · exact .inl ⟨rfl, List.eq_nil_of_length_eq_zero e⟩
  · refine .inr ⟨q, c, rfl, hn, hc, Bk.lt (t := 64) hh, fun i hi => ?_, fun j => hr.frozenAt j⟩
    have e := fun j (hj : j < 2) => flat_at (cl := clH) (k := 2) (fun _ => rfl) l i hi j hj
    have c0 := hr.cellAt (i * 2 + 0) (by omega)
    have c1 := hr.cellAt (i * 2 + 1) (by omega)
    rw [e 0 (by decide)] at c0
    rw [e 1 (by decide)] at c1
    rw [at_get hi]
    exact ⟨c0, c1⟩
theorem flat_set (l : List It) (i : Nat) (hi : i < l.length) (x : It) : ((l.flatMap clH).set (i * 2) (.int .i64 x.1)).set (i * 2 + 1) (.int .i64 x.2) = (l.set i x).flatMap clH := by
  induction l generalizing i with
  | nil => simp at hi
  | cons y t ih =>
    cases i with
    | zero => rfl
    | succ i =>
      have h1 := ih i (by simpa using hi)
      rw [List.set_cons_succ, List.flatMap_cons, List.flatMap_cons, ← h1]
      show ((([.int .i64 y.1, .int .i64 y.2] : List Value) ++ t.flatMap clH).set ((i + 1) * 2) _).set ((i + 1) * 2 + 1) _ = _
      rw [show (i + 1) * 2 = i * 2 + 1 + 1 by omega]
      rfl
theorem flat_set2 (l : List It) (i : Nat) (hi : i < l.length) (k p : Int) (hk : (atI l i).1 = k) : (l.flatMap clH).set (i * 2 + 1) (.int .i64 p) = (l.set i (k, p)).flatMap clH := by
  induction l generalizing i with
  | nil => simp at hi
  | cons y t ih =>
    cases i with
    | zero =>
      have : y.1 = k := hk
      subst this
      rfl
    | succ i =>
      have h1 := ih i (by simpa using hi) hk
      rw [List.set_cons_succ, List.flatMap_cons, List.flatMap_cons, ← h1]
      show (([.int .i64 y.1, .int .i64 y.2] : List Value) ++ t.flatMap clH).set ((i + 1) * 2 + 1) _ = _
      rw [show (i + 1) * 2 + 1 = (i * 2 + 1) + 1 + 1 by omega]
      rfl
/-- Rows into which an item is stored. -/
theorem row_put {q n c : Nat} (h : RowOwn 64 clH 2 w 0 (.slice (some ⟨q, 0, none⟩) n c) l) {i : Nat} (hi : i < l.length) (hn : l.length = n) (x : It) :
    RowOwn 64 clH 2 ((w.setCell ⟨q, i * 2, none⟩ (.int .i64 x.1)).setCell ⟨q, i * 2 + 1, none⟩ (.int .i64 x.2)) 0 (.slice (some ⟨q, 0, none⟩) n c) (l.set i x) := by
  subst hn
  have h1 := ((h.row.stored (i * 2) (.int .i64 x.1)).1.stored (i * 2 + 1) (.int .i64 x.2)).1
  unfold RowOwn
  rw [← flat_set l i hi x, List.length_set]
  exact h1
theorem row_put2 {q n c : Nat} (h : RowOwn 64 clH 2 w 0 (.slice (some ⟨q, 0, none⟩) n c) l) {i : Nat} (hi : i < l.length) (hn : l.length = n) {k p : Int} (hk : (atI l i).1 = k) :
    RowOwn 64 clH 2 (w.setCell ⟨q, i * 2 + 1, none⟩ (.int .i64 p)) 0 (.slice (some ⟨q, 0, none⟩) n c) (l.set i (k, p)) := by
  subst hn
  have h1 := (h.row.stored (i * 2 + 1) (.int .i64 p)).1
  unfold RowOwn
  rw [← flat_set2 l i hi k p hk, List.length_set]
  exact h1
end
/-- What stores leave of all other blocks. -/
theorem Ke.set {S : Nat → Prop} {w : World} {p : Addr} (hp : S p.block) (u : Value) : Ke S w (w.setCell p u) :=
  ⟨rfl, rfl, rfl, by simp, fun k _ hn => Below.heap_setCell w p u k (fun e => hn (by rw [← e] at hp; exact hp))⟩
theorem Ke.grown {S : Nat → Prop} {w w' : World} {row : Option Nat} (hg : w.grownBy w' row) (hr : ∀ k, row = some k → S k) : Ke S w w' :=
  ⟨hg.os, hg.tape, hg.output, hg.size, fun k hk hn => hg.block k hk (fun e => hn (hr k e.symm))⟩
theorem Ke.on {S : Nat → Prop} {w w' w'' : World} (h : Ke S w w') (h' : Ke S w' w'') : Ke S w w'' := h.trans (Gr.refl _ _) h'
theorem Ke.drew {S : Nat → Prop} {w w' : World} (h : Ke S w w') : Ke S w w'.drew := ⟨h.os, h.tape, h.output, h.size, h.block⟩
theorem Ke.rl {S : Nat → Prop} {w w' w'' : World} (h : Ke S w w') (h' : Rel w' w'') : Ke S w w'' := h.on (Ke.of_rel h')
/-- A heap within a walk: the map may be behind the row. -/
structure Hm (w : World) (g b : Nat) (m : Int) (v : Value) (l : List It) (f : Int → Option Int) (z : Nat) : Prop where
  box : Bk w g 77 #[.int .i64 m, v, .map (some b)]
  row : RowOwn 64 clH 2 w 0 v l
  pl : PlAt w b f z
section
variable {w w' : World} {g b : Nat} {m : Int} {v : Value} {l : List It} {f : Int → Option Int} {z : Nat}
theorem Hb.hm (h : Hb w g b m v l) : Hm w g b m v l (posf l) l.length := ⟨h.box, h.row, h.pl⟩
theorem Hm.done (h : Hm w g b m v l f z) (hf : f = posf l) (hz : z = l.length) (hd : Dst l) (hfit : ∀ z ∈ l, i64 z.1 ∧ i64 z.2) (hc : l.length ≤ 1000) : Hb w g b m v l := by
  subst hf; subst hz; exact ⟨h.box, h.row, h.pl, hd, hfit, hc⟩
theorem Hm.g_ne (h : Hm w g b m v l f z) : some g ≠ v.ownBlock := own_ne h.row h.box (by decide)
theorem Hm.b_row (h : Hm w g b m v l f z) : some b ≠ v.ownBlock := h.pl.ne_own h.row
theorem Hm.drew (h : Hm w g b m v l f z) : Hm w.drew g b m v l f z := ⟨h.box, h.row.row.drew, h.pl⟩
theorem Hm.keep (h : Hm w g b m v l f z) (hb : ∀ k, SoF g b v k → w'.heap[k]? = w.heap[k]?) : Hm w' g b m v l f z :=
  ⟨(hb g (.inl rfl)).trans h.box, by
    have hr := h.row
    unfold RowOwn World.ownsRow at hr ⊢
    refine ⟨hr.1, hr.2.imp id ?_⟩
    rintro ⟨q, cap, cur, hv, hq, hh, hx⟩
    exact ⟨q, cap, cur, hv, hq, (hb q (.inr (.inr (by rw [hv]; rfl)))).trans hh, hx⟩, h.pl.blk (hb b (.inr (.inl rfl)))⟩
theorem Hm.lt (h : Hm w g b m v l f z) : ∀ k, SoF g b v k → k < w.heap.size := by
  rintro k (rfl | rfl | hk)
  · exact h.box.lt
  · exact h.pl.lt
  · exact (World.ownsRow.lt h.row.row k hk.symm).2
theorem Hm.rel (h : Hm w g b m v l f z) (hr : Rel w w') : Hm w' g b m v l f z := h.keep fun k hk => hr.2.block k (h.lt k hk)
theorem Hm.form (h : Hm w g b m v l f z) : (v = .slice none 0 0 ∧ l = []) ∨ ∃ q c, v = .slice (some ⟨q, 0, none⟩) l.length c ∧ l.length ≤ c ∧ c ≤ maxLen ∧ q < w.heap.size ∧ (∀ i, i < l.length → w.cell? ⟨q, i * 2, none⟩ = some (.int .i64 (atI l i).1) ∧ w.cell? ⟨q, i * 2 + 1, none⟩ = some (.int .i64 (atI l i).2)) ∧ ∀ j, w.frozen? ⟨q, j, none⟩ = false := by
  have hr := h.row.row
  rcases hr.2 with ⟨rfl, e⟩ | ⟨q, c, cur, rfl, _, hh, hn, hc, hs, ht⟩
  · exact .inl ⟨rfl, List.eq_nil_of_length_eq_zero e⟩
  · refine .inr ⟨q, c, rfl, hn, hc, Bk.lt (t := 64) hh, fun i hi => ?_, fun j => hr.frozenAt j⟩
    have e := fun j (hj : j < 2) => flat_at (cl := clH) (k := 2) (fun _ => rfl) l i hi j hj
    have c0 := hr.cellAt (i * 2 + 0) (by omega)
    have c1 := hr.cellAt (i * 2 + 1) (by omega)
    rw [e 0 (by decide)] at c0
    rw [e 1 (by decide)] at c1
    rw [at_get hi]
    exact ⟨c0, c1⟩
/-- The cells of the item at i. -/
theorem Hm.at {q n c : Nat} (h : Hm w g b m (.slice (some ⟨q, 0, none⟩) n c) l f z) {i : Nat} (hi : i < l.length) {x y : Int} (hx : atI l i = (x, y)) : w.cell? ⟨q, i * 2, none⟩ = some (.int .i64 x) ∧ w.cell? ⟨q, i * 2 + 1, none⟩ = some (.int .i64 y) ∧ w.frozen? ⟨q, i * 2, none⟩ = false ∧ w.frozen? ⟨q, i * 2 + 1, none⟩ = false := by
  rcases h.form with ⟨e, _⟩ | ⟨q', c', e, _, _, _, ha, hf⟩
  · injection e with e; cases e
  · injection e with e e2 e3
    injection e with e
    injection e with e
    subst e
    have := ha i hi
    rw [hx] at this
    exact ⟨this.1, this.2, hf _, hf _⟩
/-- Behind the stores of an item. -/
theorem Hm.put {q n c : Nat} (h : Hm w g b m (.slice (some ⟨q, 0, none⟩) n c) l f z) {i : Nat} (hi : i < l.length) (hn : l.length = n) (x y : Int) :
    Hm ((w.setCell ⟨q, i * 2, none⟩ (.int .i64 x)).setCell ⟨q, i * 2 + 1, none⟩ (.int .i64 y)) g b m (.slice (some ⟨q, 0, none⟩) n c) (l.set i (x, y)) f z ∧ Ke (SoF g b (.slice (some ⟨q, 0, none⟩) n c)) w ((w.setCell ⟨q, i * 2, none⟩ (.int .i64 x)).setCell ⟨q, i * 2 + 1, none⟩ (.int .i64 y)) := by
  have hg : g ≠ q := fun e => h.g_ne (by rw [e]; rfl)
  have hb : b ≠ q := fun e => h.b_row (by rw [e]; rfl)
  have hS : SoF g b (.slice (some ⟨q, 0, none⟩) n c) q := .inr (.inr rfl)
  exact ⟨⟨(h.box.far (p := ⟨q, i * 2, none⟩) hg _).far (p := ⟨q, i * 2 + 1, none⟩) hg _, row_put h.row hi hn (x, y), (h.pl.set (p := ⟨q, i * 2, none⟩) hb _).set (p := ⟨q, i * 2 + 1, none⟩) hb _⟩,
    (Ke.set (p := ⟨q, i * 2, none⟩) hS _).on (Ke.set (p := ⟨q, i * 2 + 1, none⟩) hS _)⟩
theorem Hm.put2 {q n c : Nat} (h : Hm w g b m (.slice (some ⟨q, 0, none⟩) n c) l f z) {i : Nat} (hi : i < l.length) (hn : l.length = n) {k p : Int} (hk : (atI l i).1 = k) :
    Hm (w.setCell ⟨q, i * 2 + 1, none⟩ (.int .i64 p)) g b m (.slice (some ⟨q, 0, none⟩) n c) (l.set i (k, p)) f z ∧ Ke (SoF g b (.slice (some ⟨q, 0, none⟩) n c)) w (w.setCell ⟨q, i * 2 + 1, none⟩ (.int .i64 p)) := by
  have hg : g ≠ q := fun e => h.g_ne (by rw [e]; rfl)
  have hb : b ≠ q := fun e => h.b_row (by rw [e]; rfl)
  have hS : SoF g b (.slice (some ⟨q, 0, none⟩) n c) q := .inr (.inr rfl)
  exact ⟨⟨h.box.far (p := ⟨q, i * 2 + 1, none⟩) hg _, row_put2 h.row hi hn hk, h.pl.set (p := ⟨q, i * 2 + 1, none⟩) hb _⟩, Ke.set (p := ⟨q, i * 2 + 1, none⟩) hS _⟩
/-- Behind a change of the map. -/
theorem Hm.mapped (h : Hm w g b m v l f z) {f' : Int → Option Int} {z' : Nat} (hp : PlAt w' b f' z') (hg : w.grownBy w' (some b)) : Hm w' g b m v l f' z' ∧ Ke (SoF g b v) w w' :=
  ⟨⟨h.box.grown hg (fun e => h.pl.ne h.box (by injection e with e; exact e.symm)), h.row.row.kept hg (by
    cases hv : v.ownBlock with
    | none => exact .inl rfl
    | some k => exact .inr (fun e => h.b_row (by rw [hv, e]))), hp⟩, Ke.grown hg (fun k hk => by injection hk with hk; exact .inr (.inl hk.symm))⟩
end
end Go.Proofs.Ytndmnlgancnbkaa

namespace Go.Proofs.Ytndmnlgancnbkaa
open Go.RowKit Go.Lib
open Go.Maps (Keyed IsMap)
set_option linter.unusedVariables false
set_option linter.unusedSimpArgs false
theorem insD_lenS {D : List Int} (h : Ups D) (s : Int) : (insD D s).length = if s ∈ D then D.length else D.length + 1 := by
  induction D with
  | nil => simp [insD]
  | cons x t ih =>
    obtain ⟨h1, h2⟩ := ups_cons.1 h
    unfold insD
    by_cases a : s < x
    · rw [if_pos a, if_neg]
      · simp
      · intro hm
        rcases List.mem_cons.1 hm with e | e
        · omega
        · have := h1 s e; omega
    · rw [if_neg a]
      by_cases b : s = x
      · rw [if_pos b, if_pos (by rw [b]; exact List.mem_cons_self ..)]
      · rw [if_neg b, List.length_cons, ih h2]
        by_cases c : s ∈ t
        · rw [if_pos c, if_pos (List.mem_cons_of_mem _ c)]; rfl
        · rw [if_neg c, if_neg]
          · rfl
          · intro hm
            rcases List.mem_cons.1 hm with e | e
            · exact b e
            · exact c e
theorem remD_lenS {D : List Int} (h : Ups D) (s : Int) : (remD D s).length = if s ∈ D then D.length - 1 else D.length := by
  induction D with
  | nil => simp [remD]
  | cons x t ih =>
    obtain ⟨h1, h2⟩ := ups_cons.1 h
    have hc := ih h2
    unfold remD at hc ⊢
    by_cases e : x = s
    · subst e
      have hn : x ∉ t := fun hm => by have := h1 x hm; omega
      rw [if_neg hn] at hc
      rw [List.filter_cons_of_neg (by simp), hc, if_pos (List.mem_cons_self ..)]
      simp
    · rw [List.filter_cons_of_pos (by simpa using e), List.length_cons, hc]
      by_cases c : s ∈ t
      · rw [if_pos c, if_pos (List.mem_cons_of_mem _ c)]
        cases t with
        | nil => cases c
        | cons y r => simp
      · rw [if_neg c, if_neg]
        · rfl
        · intro hm
          rcases List.mem_cons.1 hm with q | q
          · exact e q.symm
          · exact c q
/-- Block b is a set: D. -/
def DtAt (w : World) (b : Nat) (D : List Int) : Prop :=
  Ups D ∧ ∃ M : DataW Value, w.ownsMap Try.prog 3 unitElem b D.length M ∧ Maps.size M = D.length ∧ ∀ k : Int, Maps.has M (.int .i64 k) = decide (k ∈ D)
theorem zero_unit (w : World) : (zeroValue 60).run Try.prog w = .ok (.agg #[]) w := by kernel_rfl
theorem DtAt.made (w : World) : DtAt (w.alloc (.map #[] 0)) w.heap.size [] :=
  ⟨ups_nil, _, World.ownsMap_made _ _ _ _, rfl, fun _ => rfl⟩
theorem DtAt.lt {w : World} {b : Nat} {D : List Int} (h : DtAt w b D) : b < w.heap.size := by obtain ⟨_, M, h, _⟩ := h; exact h.lt
theorem DtAt.blk {w w' : World} {b : Nat} {D : List Int} (h : DtAt w b D) (hb : w'.heap[b]? = w.heap[b]?) : DtAt w' b D := by
  obtain ⟨hu, M, ⟨es, clock, h1, h2⟩, h3⟩ := h
  exact ⟨hu, M, ⟨es, clock, hb.trans h1, h2⟩, h3⟩
theorem DtAt.rel {w w' : World} {b : Nat} {D : List Int} (h : DtAt w b D) (hr : Rel w w') : DtAt w' b D := h.blk (hr.2.block b h.lt)
theorem DtAt.alloc {w : World} {b : Nat} {D : List Int} (h : DtAt w b D) (o : Obj) : DtAt (w.alloc o) b D := h.blk (Below.heap_alloc w o b h.lt)
theorem DtAt.ne {w : World} {b g : Nat} {D : List Int} {t : TypeId} {cs : Array Value} (h : DtAt w b D) (hb : Bk w g t cs) : b ≠ g := by
  obtain ⟨_, M, ⟨es, clock, hm, _⟩, _⟩ := h
  rintro rfl
  unfold Bk at hb
  rw [hb] at hm; cases hm
theorem own_exact {w : World} {b n : Nat} {M : DataW Value} (h : w.ownsMap Try.prog 3 unitElem b n M) {k : Nat} (hs : Maps.size M = k) : w.ownsMap Try.prog 3 unitElem b k M := by
  obtain ⟨es, clock, a1, a2, a3, a4⟩ := h
  refine ⟨es, clock, a1, a2, ?_, a4⟩
  rw [← hs, a4]
  rw [Maps.size_eq, Go.length_read]
  exact Nat.le_refl _
theorem DtAt.put {w : World} {b : Nat} {D : List Int} (h : DtAt w b D) (hn : D.length < maxLen) {s : Int} (hk : (Lit.int .i64 s).wf = true) :
    ∃ w', (Instr.mapUpdate 54 (.map (some b)) (.int .i64 s) (.agg #[])).run Try.prog w = .ok () w' ∧ DtAt w' b (insD D s) ∧ w.grownBy w' (some b) := by
  obtain ⟨hu, M, h, hs, h2⟩ := h
  obtain ⟨w', h3, h4, h5⟩ := h.update (e := 60) (t := 54) (d := .agg []) (ps := []) int_key Try.underlying54 hn (Maps.keyOf_int_mk Try.underlying3 hk) unitElem_mk
  have hsz : Maps.size (M.put (.int .i64 s) (.agg [])) = (insD D s).length := by
    rw [Maps.size_put (h.tidy int_key), h2 s, hs, insD_lenS hu]
    by_cases e : s ∈ D
    · simp [e]
    · simp [e]
  refine ⟨w', h3, ⟨insD_ups hu s, _, own_exact h4 hsz, hsz, fun j => ?_⟩, h5⟩
  by_cases e : j = s
  · subst e
    rw [Maps.has_put_same h.isMap (key_lit _)]
    exact (decide_eq_true (insD_mem.2 (.inl rfl))).symm
  · have hne : (Lit.int .i64 j) ≠ .int .i64 s := fun h => e (by injection h)
    rw [Maps.has_put_other hne, h2 j]
    have : j ∈ insD D s ↔ j ∈ D := by rw [insD_mem]; simp [e]
    simp [this]
theorem DtAt.del {w : World} {b : Nat} {D : List Int} (h : DtAt w b D) {s : Int} (hk : (Lit.int .i64 s).wf = true) (ty : TypeId) :
    ∃ w', (Builtin.delete_ #[54, 3] ty #[.map (some b), .int .i64 s]).run Try.prog w = .ok (.tuple #[]) w' ∧ DtAt w' b (remD D s) ∧ w.grownBy w' (some b) := by
  obtain ⟨hu, M, h, hs, h2⟩ := h
  obtain ⟨w', h3, h4, h5⟩ := h.drop (e := 60) (t := 54) int_key Try.underlying54 (Maps.keyOf_int_mk Try.underlying3 hk) ty
  have hsz : Maps.size (M.del (.int .i64 s)) = (remD D s).length := by
    have hz := Maps.size_del (h.tidy int_key) (k := .int .i64 s)
    rw [h2 s, hs] at hz
    rw [remD_lenS hu]
    by_cases e : s ∈ D
    · simp [e] at hz ⊢
      omega
    · simp [e] at hz ⊢
      omega
  refine ⟨w', h3, ⟨remD_ups hu s, _, own_exact h4 hsz, hsz, fun j => ?_⟩, h5.grown⟩
  by_cases e : j = s
  · subst e
    rw [Maps.has_del_same]
    exact (decide_eq_false (fun h => (remD_mem.1 h).2 rfl)).symm
  · have hne : (Lit.int .i64 j) ≠ .int .i64 s := fun h => e (by injection h)
    rw [Maps.has_del_other hne, h2 j]
    have : j ∈ remD D s ↔ j ∈ D := by rw [remD_mem]; simp [e]
    simp [this]
theorem DtAt.look {w : World} {b : Nat} {D : List Int} (h : DtAt w b D) {s : Int} (hk : (Lit.int .i64 s).wf = true) :
    (Instr.lookup 54 (.map (some b)) (.int .i64 s) true).run Try.prog w = .ok (.tuple #[.agg #[], .bool (decide (s ∈ D))]) w := by
  obtain ⟨hu, M, h, hs, h2⟩ := h
  obtain ⟨v, ps, h3, h4⟩ := h.look_ok (e := 60) (t := 54) (z := .agg #[]) (zd := .agg []) (zp := []) int_key Try.underlying54 (zero_unit w) unitElem_mk (Maps.keyOf_int_mk Try.underlying3 hk)
  obtain ⟨rfl, _⟩ := unitElem_inv h4
  rw [h3, h2 s]
theorem DtAt.len {w : World} {b : Nat} {D : List Int} (h : DtAt w b D) (ty : TypeId) : (Builtin.len_ #[54] ty #[.map (some b)]).run Try.prog w = .ok (.int .i64 (D.length : Int)) w := by
  obtain ⟨hu, M, h, hs, h2⟩ := h
  rw [h.len Try.underlying54 ty, hs]
theorem ups_nodup {D : List Int} (h : Ups D) : D.Nodup := h.imp (fun h => by omega)
/-- What the keys are. -/
theorem DtAt.keys {w : World} {b : Nat} {D : List Int} (h : DtAt w b D) : ∃ M : DataW Value, w.ownsMap Try.prog 3 unitElem b D.length M ∧ Maps.size M = D.length ∧ D.Perm (intKeys M) := by
  obtain ⟨hu, M, h, hs, h2⟩ := h
  refine ⟨M, h, hs, CollectedI.perm (left := fun _ => false) ⟨ups_nodup hu, fun x => ?_⟩ h int_key Try.underlying3 (fun _ => rfl)⟩
  rw [h2 x]; simp
/-- 'm[s] = struct{}{}', 'delete(m, s)', at the operation. -/
theorem wp_dirty (w : World) {ops : Array Oper} {rest : List Oper} {o : Oper} {a : Act} {Q : Exit → Act → World → Prop}
    (hg : o.guard = none) (m x v : Operand) (hop : o.op = Op.mapUpdate 54 m x v) (b : Nat) (D : List Int)
    (hm : a.eval m = .map (some b)) (hown : DtAt w b D) (hn : D.length < maxLen) (k : Int) (hx : a.eval x = .int .i64 k) (hwk : (Lit.int .i64 k).wf = true) (hv : a.eval v = .agg #[])
    (hK : ∀ w', DtAt w' b (insD D k) → w.grownBy w' (some b) → wpList Try.prog ops Q rest (a.put o.dst undef) w') :
    wpList Try.prog ops Q (o :: rest) a w := by
  refine wpList_plain hg fun K' hK' => ?_
  obtain ⟨w', hrun, r1, r2⟩ := hown.put hn hwk
  unfold Oper.wp
  simp [execOp, hop, hm, hx, hv, hrun, Result.andThen]
  exact hK' _ _ (hK w' r1 r2)
theorem wp_clean (w : World) {ops : Array Oper} {rest : List Oper} {o : Oper} {a : Act} {Q : Exit → Act → World → Prop}
    (hg : o.guard = none) (m x : Operand) (hop : o.op = Op.call { callee := Callee.builtin Builtin.delete, args := #[m, x], argTypes := #[54, 3] }) (b : Nat) (D : List Int)
    (hm : a.eval m = .map (some b)) (hown : DtAt w b D) (k : Int) (hx : a.eval x = .int .i64 k) (hwk : (Lit.int .i64 k).wf = true)
    (hK : ∀ w', DtAt w' b (remD D k) → w.grownBy w' (some b) → wpList Try.prog ops Q rest (a.put o.dst (.tuple #[])) w') :
    wpList Try.prog ops Q (o :: rest) a w := by
  refine wpList_plain hg fun K' hK' => ?_
  obtain ⟨w', hrun, r1, r2⟩ := hown.del hwk o.type
  unfold Oper.wp
  simp [execOp, hop, resolve, invoke, builtin, hm, hx, hrun, Result.andThen]
  exact hK' _ _ (hK w' r1 r2)
theorem wp_count (w : World) {ops : Array Oper} {rest : List Oper} {o : Oper} {a : Act} {Q : Exit → Act → World → Prop}
    (hg : o.guard = none) (m : Operand) (hop : o.op = Op.call { callee := Callee.builtin Builtin.len, args := #[m], argTypes := #[54] }) (b : Nat) (D : List Int) (n : Nat)
    (hm : a.eval m = .map (some b)) (hown : DtAt w b D) (hn : D.length = n) (hK : wpList Try.prog ops Q rest (a.put o.dst (.int .i64 (n : Int))) w) :
    wpList Try.prog ops Q (o :: rest) a w := by
  refine wpList_plain hg fun K' hK' => ?_
  have hrun := hown.len o.type
  rw [hn] at hrun
  unfold Oper.wp
  simp [execOp, hop, resolve, invoke, builtin, hm, hrun, Result.andThen]
  exact hK' _ _ hK
/-- How many entries a map has. -/
def sizeAt (w : World) (d : Nat) : Nat := match w.heap[d]? with | some (.map es _) => es.size | _ => 0
theorem DtAt.size {w : World} {b : Nat} {D : List Int} (h : DtAt w b D) : sizeAt w b = D.length := by
  obtain ⟨_, M, ⟨es, clock, a1, a2, a3, a4⟩, hs, _⟩ := h
  unfold sizeAt
  rw [a1, ← hs, a4, Maps.size_eq, Go.length_read]
theorem remD_head {x : Int} {D : List Int} (h : Ups (x :: D)) : remD (x :: D) x = D := by
  unfold remD
  rw [List.filter_cons_of_neg (by simp), List.filter_eq_self]
  intro z hz
  rw [decide_eq_true_eq]
  have := (ups_cons.1 h).1 z hz
  omega
end Go.Proofs.Ytndmnlgancnbkaa

namespace Go.Proofs.Ytndmnlgancnbkaa
open Go.RowKit Go.Lib
set_option linter.unusedVariables false
set_option linter.unusedSimpArgs false
/-- What a call does to its own blocks S, and to all others. -/
def St (S S' : Nat → Prop) (w w' : World) : Prop := Gr w S S' ∧ Ke S w w'
abbrev ItV (x : It) : Value := .agg #[.int .i64 x.1, .int .i64 x.2]
/-- A block that is none of S. -/
def Bx (S : Nat → Prop) (w : World) (g : Nat) (t : TypeId) (cs : Array Value) : Prop := Bk w g t cs ∧ ¬ S g
section
variable {w w' : World} {S S' : Nat → Prop}
theorem Bx.rel {g : Nat} {t : TypeId} {cs : Array Value} (h : Bx S w g t cs) (hr : Rel w w') : Bx S w' g t cs := ⟨h.1.rel hr, h.2⟩
theorem Bx.st {g : Nat} {t : TypeId} {cs : Array Value} (h : Bx S w g t cs) (hs : St S S' w w') : Bx S' w' g t cs :=
  ⟨hs.2.bk h.1 h.2, fun e => (hs.1 g e).elim h.2 (fun q => Nat.not_le_of_lt h.1.lt q)⟩
end
end Go.Proofs.Ytndmnlgancnbkaa

namespace Go.Proofs.Ytndmnlgancnbkaa
open Go.RowKit Go.Lib
set_option linter.unusedVariables false
set_option linter.unusedSimpArgs false
/-- A row of numbers to be read. -/
def Nums (w : World) (A : Option Addr) (c : Nat) (L : List Int) : Prop := L.length ≤ c ∧ c ≤ maxLen ∧ (∀ z ∈ L, i64 z) ∧ ∀ i (h : i < L.length), ∃ a : Addr, A = some a ∧ a.block < w.heap.size ∧ w.cell? (a.add i) = some (.int .i64 L[i])
theorem Nums.rel {w w' : World} {A : Option Addr} {c : Nat} {L : List Int} (h : Nums w A c L) (hr : Rel w w') : Nums w' A c L := by
  refine ⟨h.1, h.2.1, h.2.2.1, fun i hi => ?_⟩
  obtain ⟨a, ha, hl, hc⟩ := h.2.2.2 i hi
  exact ⟨a, ha, Nat.lt_of_lt_of_le hl hr.size, (hr.2.cell (p := a.add i) (by rw [block_add]; exact hl)).trans hc⟩
def keysQ (L : List It) : List Int := L.map (·.1)
abbrev QpT := World → Value → (Nat → Prop) → Int → Int → List It → List Int → Prop
/-- QP w v S m g L D: the pointer v is a queue with room for m, of age g; L waits, D is dirty; S its own blocks. -/
structure QueueOk (QP : QpT) : Prop where
  inv : ∀ {w v S m g L D}, QP w v S m g L D → QInv m g L D
  lt : ∀ {w v S m g L D}, QP w v S m g L D → ∀ k, S k → k < w.heap.size
  keep : ∀ {w w' v S m g L D}, QP w v S m g L D → w.heap.size ≤ w'.heap.size → (∀ k, S k → w'.heap[k]? = w.heap[k]?) → QP w' v S m g L D
  nil : ∀ w, QP w (.pointer none) (fun _ => False) 0 0 [] []
  new : ∀ (room age : Int) (w : World), Rel w w → i64 room → i64 age → Calls Try.prog 10 #[.int .i64 room, .int .i64 age] w fun e w' => Rel w w' ∧ (((1 ≤ room ∧ room ≤ 1000) ∧ (1 ≤ age ∧ age ≤ 1000) ∧ ∃ (g : Nat) (S : Nat → Prop), e = .returned (.pointer (some ⟨g, 0, none⟩)) ∧ QP w' (.pointer (some ⟨g, 0, none⟩)) S room age [] [] ∧ ∀ k, S k → w.heap.size ≤ k) ∨ (¬ ((1 ≤ room ∧ room ≤ 1000) ∧ 1 ≤ age ∧ age ≤ 1000) ∧ e = .returned (.pointer none)))
  want : ∀ {w v S m g L D} (s p t : Int), Rel w w → QP w v S m g L D → i64 s → i64 p → i64 t → Calls Try.prog 12 #[v, .int .i64 s, .int .i64 p, .int .i64 t] w fun e w' => e = .returned (.int .i64 (wantE m g L s p t)) ∧ ∃ S', QP w' v S' m g (wantL m g L s p t) (wantD m g L D s p t) ∧ St S S' w w'
  next : ∀ {w v S m g L D} (t : Int), Rel w w → QP w v S m g L D → i64 t → Calls Try.prog 14 #[v, .int .i64 t] w fun e w' => e = .returned (.tuple #[.int .i64 (itH (topH L)).1, .bool (topH L).isSome]) ∧ ∃ S', QP w' v S' m g (nextQ m t L D).1 (nextQ m t L D).2 ∧ St S S' w w'
  drop : ∀ {w v S m g L D} (s : Int), Rel w w → QP w v S m g L D → i64 s → Calls Try.prog 16 #[v, .int .i64 s] w fun e w' => e = .returned (.bool (dropB L D s)) ∧ ∃ S', QP w' v S' m g (remH L s) (remD D s) ∧ St S S' w w'
  waiting : ∀ {w v S m g L D}, Rel w w → QP w v S m g L D → Calls Try.prog 19 #[v] w fun e w' => ∃ (A : Option Addr) (c : Nat), e = .returned (.slice A L.length c) ∧ Nums w' A c (keysQ L) ∧ (∀ a, A = some a → w.heap.size ≤ a.block ∧ a.block < w'.heap.size) ∧ Rel w w'
  dirty : ∀ {w v S m g L D}, Rel w w → QP w v S m g L D → Calls Try.prog 21 #[v] w fun e w' => ∃ (A : Option Addr) (c : Nat), e = .returned (.slice A D.length c) ∧ Nums w' A c D ∧ (∀ a, A = some a → w.heap.size ≤ a.block ∧ a.block < w'.heap.size) ∧ Rel w w'
/-- A queue within a walk that began at w0: its blocks are newer. -/
structure Qq (QP : QpT) (w0 w : World) (v : Value) (S : Nat → Prop) (m g : Int) (L : List It) (D : List Int) : Prop where
  qp : QP w v S m g L D
  rel : Rel w0 w
  new : ∀ k, S k → w0.heap.size ≤ k
/-- A row of numbers that is none of S. -/
def Nu (S : Nat → Prop) (w : World) (A : Option Addr) (c : Nat) (L : List Int) : Prop := Nums w A c L ∧ ∀ a, A = some a → ¬ S a.block ∧ a.block < w.heap.size
theorem Nu.rel {w w' : World} {S : Nat → Prop} {A : Option Addr} {c : Nat} {L : List Int} (h : Nu S w A c L) (hr : Rel w w') : Nu S w' A c L := ⟨h.1.rel hr, fun a ha => ⟨(h.2 a ha).1, Nat.lt_of_lt_of_le (h.2 a ha).2 hr.size⟩⟩
theorem Nu.st {w w' : World} {S S' : Nat → Prop} {A : Option Addr} {c : Nat} {L : List Int} (h : Nu S w A c L) (hs : St S S' w w') : Nu S' w' A c L := by
  refine ⟨⟨h.1.1, h.1.2.1, h.1.2.2.1, fun i hi => ?_⟩, fun a ha => ⟨fun e => (hs.1 _ e).elim (h.2 a ha).1 (fun q => Nat.not_le_of_lt (h.2 a ha).2 q), Nat.lt_of_lt_of_le (h.2 a ha).2 hs.2.size⟩⟩
  obtain ⟨a, ha, hl, hc⟩ := h.1.2.2.2 i hi
  refine ⟨a, ha, Nat.lt_of_lt_of_le hl hs.2.size, ?_⟩
  rw [World.cell?_of_block (w := w) (by rw [block_add]; exact hs.2.block _ hl (h.2 a ha).1)]
  exact hc
theorem Nu.set {w : World} {S : Nat → Prop} {A : Option Addr} {c : Nat} {L : List Int} (h : Nu S w A c L) {p : Addr} (hp : ∀ a, A = some a → a.block ≠ p.block) (u : Value) : Nu S (w.setCell p u) A c L := by
  refine ⟨⟨h.1.1, h.1.2.1, h.1.2.2.1, fun i hi => ?_⟩, fun a ha => ⟨(h.2 a ha).1, by simpa using (h.2 a ha).2⟩⟩
  obtain ⟨a, ha, hl, hc⟩ := h.1.2.2.2 i hi
  refine ⟨a, ha, by simpa using hl, ?_⟩
  rw [World.cell?_of_block (w := w) (by rw [block_add]; exact Below.heap_setCell w p u _ (hp a ha))]
  exact hc
section
variable {QP : QpT} (H : QueueOk QP) {w0 w w' : World} {v : Value} {S S' : Nat → Prop} {m g : Int} {L L' : List It} {D D' : List Int}
include H
theorem Qq.to (h : Qq QP w0 w v S m g L D) (hr : Rel w w') : Qq QP w0 w' v S m g L D :=
  ⟨H.keep h.qp hr.size (fun k hk => hr.2.block k (H.lt h.qp k hk)), h.rel.trans hr, h.new⟩
omit H in
theorem Qq.step (h : Qq QP w0 w v S m g L D) (hp : QP w' v S' m g L' D') (hs : St S S' w w') : Qq QP w0 w' v S' m g L' D' :=
  ⟨hp, hs.2.rel h.rel h.new, fun k hk => (hs.1 k hk).elim (h.new k) (fun q => Nat.le_trans h.rel.size q)⟩
theorem Bx.new (h : Qq QP w0 w v S m g L D) (t : TypeId) (cs : Array Value) : Bx S (w.alloc (.cells cs t)) w.heap.size t cs :=
  ⟨Bk.new _ _ _, fun e => Nat.lt_irrefl _ (H.lt h.qp _ e)⟩
theorem Qq.put (h : Qq QP w0 w v S m g L D) {p : Addr} (hp : ¬ S p.block) (hn : w0.heap.size ≤ p.block) (u : Value) : Qq QP w0 (w.setCell p u) v S m g L D :=
  ⟨H.keep h.qp (by simp) (fun k hk => Below.heap_setCell w p u k (fun e => hp (by rw [← e]; exact hk))), h.rel.setCell hn u, h.new⟩
/-- The calls, what they tell spelled. -/
theorem qwant (h : Qq QP w0 w v S m g L D) {s p t E : Int} (hs : i64 s) (hp : i64 p) (ht : i64 t) (hE : wantE m g L s p t = E) (hL : wantL m g L s p t = L') (hD : wantD m g L D s p t = D') :
    Calls Try.prog 12 #[v, .int .i64 s, .int .i64 p, .int .i64 t] w fun e w' => ∃ S', e = .returned (.int .i64 E) ∧ Hid (Qq QP w0 w' v S' m g L' D') ∧ Hid (St S S' w w') := by
  rw [← hE, ← hL, ← hD]
  refine (H.want s p t h.rel.self h.qp hs hp ht).mono ?_
  rintro e w' ⟨he, S', h1, h2⟩
  exact ⟨S', he, Lib.hid (Qq.step h h1 h2), Lib.hid h2⟩
theorem qnext (h : Qq QP w0 w v S m g L D) {t x : Int} {b : Bool} (ht : i64 t) (hx : (itH (topH L)).1 = x) (hb : (topH L).isSome = b) (hL : (nextQ m t L D).1 = L') (hD : (nextQ m t L D).2 = D') :
    Calls Try.prog 14 #[v, .int .i64 t] w fun e w' => ∃ S', e = .returned (.tuple #[.int .i64 x, .bool b]) ∧ Hid (Qq QP w0 w' v S' m g L' D') ∧ Hid (St S S' w w') := by
  rw [← hx, ← hb, ← hL, ← hD]
  refine (H.next t h.rel.self h.qp ht).mono ?_
  rintro e w' ⟨he, S', h1, h2⟩
  exact ⟨S', he, Lib.hid (Qq.step h h1 h2), Lib.hid h2⟩
theorem qdrop (h : Qq QP w0 w v S m g L D) {s : Int} {b : Bool} (hs : i64 s) (hb : dropB L D s = b) (hL : remH L s = L') (hD : remD D s = D') :
    Calls Try.prog 16 #[v, .int .i64 s] w fun e w' => ∃ S', e = .returned (.bool b) ∧ Hid (Qq QP w0 w' v S' m g L' D') ∧ Hid (St S S' w w') := by
  rw [← hb, ← hL, ← hD]
  refine (H.drop s h.rel.self h.qp hs).mono ?_
  rintro e w' ⟨he, S', h1, h2⟩
  exact ⟨S', he, Lib.hid (Qq.step h h1 h2), Lib.hid h2⟩
theorem qwait (h : Qq QP w0 w v S m g L D) {n : Nat} {W : List Int} (hn : L.length = n) (hW : keysQ L = W) :
    Calls Try.prog 19 #[v] w fun e w' => ∃ (A : Option Addr) (c : Nat), e = .returned (.slice A n c) ∧ Hid (Nu S w' A c W) ∧ Hid (Rel w w') := by
  rw [← hn, ← hW]
  refine (H.waiting h.rel.self h.qp).mono ?_
  rintro e w' ⟨A, c, he, h1, h2, h3⟩
  exact ⟨A, c, he, Lib.hid ⟨h1, fun a ha => ⟨fun q => Nat.not_le_of_lt (H.lt h.qp _ q) (h2 a ha).1, (h2 a ha).2⟩⟩, Lib.hid h3⟩
theorem qdirty (h : Qq QP w0 w v S m g L D) {n : Nat} (hn : D.length = n) :
    Calls Try.prog 21 #[v] w fun e w' => ∃ (A : Option Addr) (c : Nat), e = .returned (.slice A n c) ∧ Hid (Nu S w' A c D) ∧ Hid (Rel w w') := by
  rw [← hn]
  refine (H.dirty h.rel.self h.qp).mono ?_
  rintro e w' ⟨A, c, he, h1, h2, h3⟩
  exact ⟨A, c, he, Lib.hid ⟨h1, fun a ha => ⟨fun q => Nat.not_le_of_lt (H.lt h.qp _ q) (h2 a ha).1, (h2 a ha).2⟩⟩, Lib.hid h3⟩
theorem qnew (w : World) (hr : Rel w0 w) {room age : Int} (h1 : 1 ≤ room) (h2 : room ≤ 1000) (h3 : 1 ≤ age) (h4 : age ≤ 1000) :
    Calls Try.prog 10 #[.int .i64 room, .int .i64 age] w fun e w' => ∃ (p : Nat) (S : Nat → Prop), e = .returned (.pointer (some ⟨p, 0, none⟩)) ∧ Hid (Qq QP w0 w' (.pointer (some ⟨p, 0, none⟩)) S room age [] []) ∧ Hid (Rel w w') ∧ Hid (∀ k, S k → w.heap.size ≤ k) := by
  refine (H.new room age w hr.self ⟨by omega, by omega⟩ ⟨by omega, by omega⟩).mono ?_
  rintro e w' ⟨hr2, ⟨_, _, g, S, he, hh, hn⟩ | ⟨hn, _⟩⟩
  · exact ⟨g, S, he, Lib.hid ⟨hh, hr.trans hr2, fun k hk => Nat.le_trans hr.size (hn k hk)⟩, Lib.hid hr2, Lib.hid hn⟩
  · exact absurd ⟨⟨h1, h2⟩, h3, h4⟩ hn
theorem qnil (w : World) (hr : Rel w w) {room age : Int} (hm : i64 room) (ha : i64 age) (h1 : ¬ ((1 ≤ room ∧ room ≤ 1000) ∧ 1 ≤ age ∧ age ≤ 1000)) :
    Calls Try.prog 10 #[.int .i64 room, .int .i64 age] w fun e w' => e = .returned (.pointer none) ∧ Hid (Rel w w') := by
  refine (H.new room age w hr hm ha).mono ?_
  rintro e w' ⟨hr2, ⟨a, b, _⟩ | ⟨_, he⟩⟩
  · exact absurd ⟨a, b⟩ h1
  · exact ⟨he, Lib.hid hr2⟩
end
end Go.Proofs.Ytndmnlgancnbkaa

namespace Go.Proofs.Ytndmnlgancnbkaa
open Go.RowKit Go.Lib
set_option linter.unusedVariables false
set_option linter.unusedSimpArgs false
abbrev HpT := World → Value → (Nat → Prop) → Int → List It → Prop
/-- HP w v S m L: v points to a heap with room for m, these are its items, and S its blocks. -/
structure HeapOk (HP : HpT) : Prop where
  srt : ∀ {w v S m L}, HP w v S m L → Srt L
  fit : ∀ {w v S m L}, HP w v S m L → ∀ z ∈ L, i64 z.1 ∧ i64 z.2
  len : ∀ {w v S m L}, HP w v S m L → (L.length : Int) ≤ m ∧ m ≤ 1000
  lt : ∀ {w v S m L}, HP w v S m L → ∀ k, S k → k < w.heap.size
  keep : ∀ {w w' v S m L}, HP w v S m L → w.heap.size ≤ w'.heap.size → (∀ k, S k → w'.heap[k]? = w.heap[k]?) → HP w' v S m L
  nil : ∀ w, HP w (.pointer none) (fun _ => False) 0 []
  new : ∀ (most : Int) (w : World), Rel w w → i64 most → Calls Try.prog 22 #[.int .i64 most] w fun e w' => Rel w w' ∧ ((1 ≤ most ∧ most ≤ 1000 ∧ ∃ (g : Nat) (S : Nat → Prop), e = .returned (.pointer (some ⟨g, 0, none⟩)) ∧ HP w' (.pointer (some ⟨g, 0, none⟩)) S most [] ∧ ∀ k, S k → w.heap.size ≤ k) ∨ (¬ (1 ≤ most ∧ most ≤ 1000) ∧ e = .returned (.pointer none)))
  push : ∀ {w v S m L} (k p : Int), Rel w w → HP w v S m L → i64 k → i64 p → Calls Try.prog 45 #[v, .int .i64 k, .int .i64 p] w fun e w' => e = .returned (.int .i64 (pushE m L k)) ∧ ∃ S', HP w' v S' m (pushL m L k p) ∧ St S S' w w'
  pop : ∀ {w v S m L}, Rel w w → HP w v S m L → Calls Try.prog 34 #[v] w fun e w' => e = .returned (.tuple #[ItV (itH (topH L)), .bool (topH L).isSome]) ∧ ∃ S', HP w' v S' m (popH L) ∧ St S S' w w'
  top : ∀ {w v S m L}, Rel w w → HP w v S m L → Calls Try.prog 47 #[v] w fun e w' => e = .returned (.tuple #[ItV (itH (topH L)), .bool (topH L).isSome]) ∧ Rel w w'
  change : ∀ {w v S m L} (k p : Int), Rel w w → HP w v S m L → i64 k → i64 p → Calls Try.prog 28 #[v, .int .i64 k, .int .i64 p] w fun e w' => e = .returned (.bool (hasH L k)) ∧ ∃ S', HP w' v S' m (chgH L k p) ∧ St S S' w w'
  remove : ∀ {w v S m L} (k : Int), Rel w w → HP w v S m L → i64 k → Calls Try.prog 38 #[v, .int .i64 k] w fun e w' => e = .returned (.bool (hasH L k)) ∧ ∃ S', HP w' v S' m (remH L k) ∧ St S S' w w'
  prio : ∀ {w v S m L} (k : Int), Rel w w → HP w v S m L → i64 k → Calls Try.prog 27 #[v, .int .i64 k] w fun e w' => e = .returned (.tuple #[.int .i64 ((prioH L k).getD 0), .bool (hasH L k)]) ∧ Rel w w'
  count : ∀ {w v S m L}, Rel w w → HP w v S m L → Calls Try.prog 60 #[v] w fun e w' => e = .returned (.int .i64 (L.length : Int)) ∧ Rel w w'
  all : ∀ {w v S m L}, Rel w w → HP w v S m L → Calls Try.prog 40 #[v] w fun e w' => ∃ (A : Option Addr) (c : Nat), e = .returned (.slice A L.length c) ∧ RowAt clH 2 w' A L ∧ (∀ a, A = some a → w.heap.size ≤ a.block ∧ a.block < w'.heap.size) ∧ L.length ≤ c ∧ c ≤ maxLen ∧ Rel w w'
end Go.Proofs.Ytndmnlgancnbkaa
