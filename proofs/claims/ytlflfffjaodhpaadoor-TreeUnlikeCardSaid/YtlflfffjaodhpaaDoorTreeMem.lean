/- Expressions in memory, and the law's source of raw numbers. -/
import Derived.Test.YtlflfffjaodhpaaDoorLexTok
import Derived.Test.YtlflfffjaodhpaaDoorTreeGen
import Derived.IntWalk
namespace Go.Proofs.YtlflfffjaodhpaaDoor
open Go.RowKit Go.Lib
set_option linter.unusedVariables false
set_option linter.unusedSimpArgs false

/-- An expression as its row holds it: kind, number, name, and the slice of its arguments. -/
abbrev El := Int × Int × List UInt8 × Option Addr × Nat × Nat
abbrev EV (e : El) : Value := .agg #[.int .i64 e.1, .int .i64 e.2.1, .string (B e.2.2.1), .slice e.2.2.2.1 e.2.2.2.2.1 e.2.2.2.2.2]
def cellsE (e : El) : List Value := [.int .i64 e.1, .int .i64 e.2.1, .string (B e.2.2.1), .slice e.2.2.2.1 e.2.2.2.2.1 e.2.2.2.2.2]
def cellsEs (es : List El) : List Value := es.flatMap cellsE
theorem cellsEs_snoc (es : List El) (e : El) : cellsEs (es ++ [e]) = cellsEs es ++ cellsE e := by simp [cellsEs]
theorem cellsEs_at (es : List El) (i : Nat) (h : i < es.length) :
    (cellsEs es)[i * 4]? = some (.int .i64 es[i].1) ∧ (cellsEs es)[i * 4 + 1]? = some (.int .i64 es[i].2.1) ∧ (cellsEs es)[i * 4 + 2]? = some (.string (B es[i].2.2.1)) ∧ (cellsEs es)[i * 4 + 3]? = some (.slice es[i].2.2.2.1 es[i].2.2.2.2.1 es[i].2.2.2.2.2) := by
  induction es generalizing i with
  | nil => simp at h
  | cons e t ih =>
    have hc : cellsEs (e :: t) = cellsE e ++ cellsEs t := rfl
    cases i with
    | zero => rw [hc]; exact ⟨rfl, rfl, rfl, rfl⟩
    | succ i =>
      obtain ⟨h1, h2, h3, h4⟩ := ih i (by simpa using h)
      have l4 : (cellsE e).length = 4 := rfl
      refine ⟨?_, ?_, ?_, ?_⟩
      · rw [hc, List.getElem?_append_right (by omega), show (i + 1) * 4 - (cellsE e).length = i * 4 by omega]; exact h1
      · rw [hc, List.getElem?_append_right (by omega), show (i + 1) * 4 + 1 - (cellsE e).length = i * 4 + 1 by omega]; exact h2
      · rw [hc, List.getElem?_append_right (by omega), show (i + 1) * 4 + 2 - (cellsE e).length = i * 4 + 2 by omega]; exact h3
      · rw [hc, List.getElem?_append_right (by omega), show (i + 1) * 4 + 3 - (cellsE e).length = i * 4 + 3 by omega]; exact h4
/-- The cells from A on are these; their block is one of S. -/
def RowE (S : Nat → Prop) (w : World) (A : Option Addr) (es : List El) : Prop :=
  ∀ i (h : i < es.length), ∃ (g off : Nat), A = some ⟨g, off, none⟩ ∧ g < w.heap.size ∧ S g ∧ w.cell? ⟨g, off + i * 4, none⟩ = some (.int .i64 es[i].1) ∧ w.cell? ⟨g, off + i * 4 + 1, none⟩ = some (.int .i64 es[i].2.1) ∧
    w.cell? ⟨g, off + i * 4 + 2, none⟩ = some (.string (B es[i].2.2.1)) ∧ w.cell? ⟨g, off + i * 4 + 3, none⟩ = some (.slice es[i].2.2.2.1 es[i].2.2.2.2.1 es[i].2.2.2.2.2)
theorem RowE.mono {S S' : Nat → Prop} {w w' : World} {A : Option Addr} {es : List El} (h : RowE S w A es) (hs : w.heap.size ≤ w'.heap.size) (hm : ∀ g, S g → g < w.heap.size → S' g ∧ w'.heap[g]? = w.heap[g]?) : RowE S' w' A es := by
  intro i hi
  obtain ⟨g, off, e, hl, hS, h0, h1, h2, h3⟩ := h i hi
  obtain ⟨hS', hb⟩ := hm g hS hl
  have hk : ∀ j, w'.cell? ⟨g, j, none⟩ = w.cell? ⟨g, j, none⟩ := fun j => World.cell?_of_block (a := ⟨g, j, none⟩) hb
  exact ⟨g, off, e, by omega, hS', by rw [hk]; exact h0, by rw [hk]; exact h1, by rw [hk]; exact h2, by rw [hk]; exact h3⟩
def i64 (n : Int) : Prop := -9223372036854775808 ≤ n ∧ n ≤ 9223372036854775807
/-- In this world an element is this expression. -/
inductive ExAt (S : Nat → Prop) (w : World) : El → Ex → Prop where
  | mk (k n : Int) (nm : List UInt8) (A : Option Addr) (c : Nat) (l : List Ex) (es : List El) (hk : i64 k) (hn : i64 n) (hm : nm.length ≤ 100) (hl : es.length = l.length) (hrow : RowE S w A es)
      (hsub : ∀ i (h : i < es.length) (h' : i < l.length), ExAt S w es[i] l[i]) : ExAt S w (k, n, nm, A, l.length, c) (.mk k n nm l)
theorem ExAt.mono {S S' : Nat → Prop} {w w' : World} (hs : w.heap.size ≤ w'.heap.size) (hm : ∀ g, S g → g < w.heap.size → S' g ∧ w'.heap[g]? = w.heap[g]?) {e : El} {x : Ex} (h : ExAt S w e x) : ExAt S' w' e x := by
  induction h with
  | mk k n nm A c l es hk hn hm' hl hrow hsub ih => exact .mk k n nm A c l es hk hn hm' hl (hrow.mono hs hm) ih
theorem ExAt.rel {S : Nat → Prop} {w w' : World} {e : El} {x : Ex} (h : ExAt S w e x) (hr : Rel w w') : ExAt S w' e x := h.mono hr.size fun g hS hl => ⟨hS, hr.2.block g hl⟩
theorem ExAt.weak {S S' : Nat → Prop} {w : World} {e : El} {x : Ex} (h : ExAt S w e x) (hm : ∀ g, S g → S' g) : ExAt S' w e x := h.mono (Nat.le_refl _) fun g hS _ => ⟨hm g hS, rfl⟩
/-- What an element is, opened. -/
theorem ExAt.open {S : Nat → Prop} {w : World} {k n : Int} {nm : List UInt8} {l : List Ex} {e : El} (h : ExAt S w e (.mk k n nm l)) : ∃ A c es, e = (k, n, nm, A, l.length, c) ∧ i64 k ∧ i64 n ∧ nm.length ≤ 100 ∧ es.length = l.length ∧ RowE S w A es ∧ ∀ i (h : i < es.length) (h' : i < l.length), ExAt S w es[i] l[i] := by
  cases h with
  | mk k n nm A c l es hk hn hm hl hrow hsub => exact ⟨A, c, es, rfl, hk, hn, hm, hl, hrow, hsub⟩
theorem RowE.nil (S : Nat → Prop) (w : World) (A : Option Addr) : RowE S w A [] := fun i h => absurd h (by simp)
theorem ExAt.leaf (S : Nat → Prop) (w : World) (k n : Int) (nm : List UInt8) (A : Option Addr) (c : Nat) (hk : i64 k) (hn : i64 n) (hm : nm.length ≤ 100) : ExAt S w (k, n, nm, A, 0, c) (.mk k n nm []) :=
  .mk k n nm A c [] [] hk hn hm rfl (RowE.nil _ _ _) fun i h => absurd h (by simp)
theorem ExAt.grown {S S' : Nat → Prop} {w w' : World} {b : Option Nat} {e : El} {x : Ex} (h : ExAt S w e x) (hg : w.grownBy w' b) (hS : ∀ k, S k → S' k ∧ some k ≠ b) : ExAt S' w' e x := h.mono hg.size fun k hk hl => ⟨(hS k hk).1, hg.block k hl (hS k hk).2⟩
theorem RowE.of_bk {S : Nat → Prop} {w : World} {g : Nat} {es : List El} (h : Bk w g 26 (cellsEs es).toArray) (hS : S g) : RowE S w (some ⟨g, 0, none⟩) es := by
  intro i hi
  obtain ⟨c0, c1, c2, c3⟩ := cellsEs_at es i hi
  refine ⟨g, 0, rfl, h.lt, hS, ?_, ?_, ?_, ?_⟩
  · rw [Nat.zero_add, h.cell, List.getElem?_toArray]; exact c0
  · rw [Nat.zero_add, h.cell, List.getElem?_toArray]; exact c1
  · rw [Nat.zero_add, h.cell, List.getElem?_toArray]; exact c2
  · rw [Nat.zero_add, h.cell, List.getElem?_toArray]; exact c3
theorem ExAt.two {S : Nat → Prop} {w : World} {k n : Int} {nm : List UInt8} {g c : Nat} {a b : El} {x y : Ex} (hk : i64 k) (hn : i64 n) (hm : nm.length ≤ 100) (h : Bk w g 26 (cellsEs [a, b]).toArray) (hS : S g) (hx : ExAt S w a x) (hy : ExAt S w b y) :
    ExAt S w (k, n, nm, some ⟨g, 0, none⟩, 2, c) (.mk k n nm [x, y]) :=
  .mk k n nm _ c [x, y] [a, b] hk hn hm rfl (RowE.of_bk h hS) fun i h h' => by
    match i, h, h' with
    | 0, _, _ => exact hx
    | 1, _, _ => exact hy
/-- A slice of expressions of the call's own. -/
def ElsOwn (w : World) (base : Nat) (v : Value) (es : List El) : Prop := w.ownsRow base 26 4 v es.length (cellsEs es)
theorem ElsOwn.row {w : World} {base : Nat} {v : Value} {es : List El} (h : ElsOwn w base v es) : w.ownsRow base 26 4 v es.length (cellsEs es) := h
theorem ElsOwn.nil (w : World) (base : Nat) : ElsOwn w base (.slice none 0 0) [] := World.ownsRow_nil _ _ _ _
theorem ElsOwn.toks {S : Nat → Prop} {w : World} {base : Nat} {A : Option Addr} {n c : Nat} {es : List El} (h : ElsOwn w base (.slice A n c) es) (hn : n = es.length) (hS : ∀ j, (Value.slice A n c).ownBlock = some j → S j) : RowE S w A es := by
  intro i hi
  have h : w.ownsRow base 26 4 (.slice A n c) es.length (cellsEs es) := h
  rcases h.2 with ⟨h0, h1⟩ | ⟨g, cap, cur, hv, hb, hh, _⟩
  · omega
  · have hA : A = some ⟨g, 0, none⟩ := by injection hv
    obtain ⟨c0, c1, c2, c3⟩ := cellsEs_at es i hi
    have hc := h.cells (g := g) (by rw [hA]; rfl)
    have q0 := hc _ _ c0
    have q1 := hc _ _ c1
    have q2 := hc _ _ c2
    have q3 := hc _ _ c3
    rw [addr_at] at q0 q1 q2 q3
    refine ⟨g, 0, hA, Bk.lt (t := 26) hh, hS g (by rw [hA]; rfl), ?_, ?_, ?_, ?_⟩
    · exact q0
    · rw [Nat.add_assoc]; exact q1
    · rw [Nat.add_assoc]; exact q2
    · rw [Nat.add_assoc]; exact q3
theorem ElsOwn.more {w1 : World} {base g cap : Nat} {es : List El} {e : El}
    (hown1 : w1.ownsRow base 26 4 (.slice (some ⟨g, 0, none⟩) (es.length + 1) cap) (es.length + 1) (cellsEs es ++ cellsE e)) : ElsOwn w1 base (.slice (some ⟨g, 0, none⟩) (es.length + 1) cap) (es ++ [e]) := by
  unfold ElsOwn
  rw [cellsEs_snoc, show (es ++ [e]).length = es.length + 1 by simp]; exact hown1
theorem ex_info : (Tryd.prog.info? 26).map (fun i => (i.zero, i.size, i.bytes)) = some (some (.agg #[.int .i64 0, .int .i64 0, .string ⟨#[]⟩, .slice none 0 0]), 4, 56) := by kernel_rfl
theorem cellsE_one (e : El) : ∀ u ∈ cellsE e, u.oneCell' = true := by
  intro u hu
  simp only [cellsE, List.mem_cons, List.not_mem_nil, or_false] at hu
  rcases hu with rfl | rfl | rfl | rfl <;> rfl
/-- The source at g has these raw numbers left. -/
def SrcAt (w : World) (g : Nat) (L : List Int) : Prop :=
  ∃ (A : Option Addr) (c : Nat), Bk w g 46 #[.slice A L.length c] ∧ L.length ≤ c ∧ c ≤ maxLen ∧ (∀ z ∈ L, i64 z) ∧ ∀ i (h : i < L.length), ∃ a : Addr, A = some a ∧ a.block < g ∧ w.cell? (a.add i) = some (.int .i64 L[i])
theorem SrcAt.grown {w w' : World} {g : Nat} {L : List Int} (h : SrcAt w g L) {b : Option Nat} (hg : w.grownBy w' b) (hb : ∀ k, b = some k → g < k) : SrcAt w' g L := by
  obtain ⟨A, c, hbk, h1, h2, h3, h4⟩ := h
  have hgl := hbk.lt
  refine ⟨A, c, hbk.grown hg (fun e => by have := hb g e.symm; omega), h1, h2, h3, fun i hi => ?_⟩
  obtain ⟨a, e, hl, hc⟩ := h4 i hi
  refine ⟨a, e, hl, ?_⟩
  have hk : w'.heap[(a.add i).block]? = w.heap[(a.add i).block]? := by rw [block_add]; exact hg.block _ (by omega) (fun e => by have := hb _ e.symm; omega)
  exact (World.cell?_of_block hk).trans hc
theorem grown_rel {w w' : World} (r : Option Nat) (h : Rel w w') : w.grownBy w' r := ⟨h.2.os, h.2.tape, h.2.output, h.2.size, fun k hk _ => h.2.block k hk⟩
theorem SrcAt.rel {w w' : World} {g : Nat} {L : List Int} (h : SrcAt w g L) (hr : Rel w w') : SrcAt w' g L := h.grown (grown_rel none hr) (fun k e => by cases e)
theorem grown_trans {w w' w'' : World} {r : Option Nat} (h : w.grownBy w' r) (h' : w'.grownBy w'' r) : w.grownBy w'' r :=
  ⟨h'.os.trans h.os, h'.tape.trans h.tape, h'.output.trans h.output, Nat.le_trans h.size h'.size, fun k hk hn => (h'.block k (Nat.lt_of_lt_of_le hk h.size) hn).trans (h.block k hk hn)⟩
theorem grown_of {w w' w'' : World} {r : Option Nat} (h : w.grownBy w' r) {b : Option Nat} (h' : w'.grownBy w'' b) (hb : ∀ k, b = some k → w.heap.size ≤ k) : w.grownBy w'' r :=
  ⟨h'.os.trans h.os, h'.tape.trans h.tape, h'.output.trans h.output, Nat.le_trans h.size h'.size, fun k hk hn => (h'.block k (Nat.lt_of_lt_of_le hk h.size) (fun e => by have := hb k e.symm; omega)).trans (h.block k hk hn)⟩
theorem set_grown (w : World) (b i : Nat) (v : Value) : w.grownBy (w.setCell ⟨b, i, none⟩ v) (some b) :=
  ⟨rfl, rfl, rfl, by rw [World.size_setCell]; exact Nat.le_refl _, fun k _ hk => Below.heap_setCell w ⟨b, i, none⟩ v k (fun e => hk (by rw [e]))⟩
theorem put4_grown (w : World) (b : Nat) (x y z u : Value) : w.grownBy ((((w.setCell ⟨b, 0, none⟩ x).setCell ⟨b, 1, none⟩ y).setCell ⟨b, 2, none⟩ z).setCell ⟨b, 3, none⟩ u) (some b) :=
  grown_trans (grown_trans (grown_trans (set_grown w b 0 x) (set_grown _ b 1 y)) (set_grown _ b 2 z)) (set_grown _ b 3 u)
theorem SrcAt.lt {w : World} {g : Nat} {L : List Int} (h : SrcAt w g L) : g < w.heap.size := by
  obtain ⟨_, _, hb, _⟩ := h; exact hb.lt
theorem pk_as (c n y : Int) (h : Hid (pk c n = y)) (hc : -9223372036854775808 ≤ c) (hc' : c ≤ 9223372036854775807) (hn : 0 < n) (hn' : n ≤ 9223372036854775807) (w : World) :
    Calls Tryd.prog 25 #[.int .i64 c, .int .i64 n] w fun e w' => e = .returned (.int .i64 y) ∧ w = w' := by
  rw [← h.out]
  by_cases h : c < 0
  all_goals
    go_enter Tryd.func25, Tryd.ntmps25
    go_wp2
    all_goals
      go_ret
      exact ⟨ret_int (by unfold pk; split <;> first | rfl | omega), rfl⟩
theorem addr_zero (a : Addr) : a.add 0 = a := by
  obtain ⟨b, o, p⟩ := a
  cases p <;> simp [Addr.add]
theorem add_next (a : Addr) (n : Nat) : a.add (n + 1) = ⟨(a.add n).block, (a.add n).off + 1, none⟩ := by
  unfold Addr.add
  by_cases h : n = 0
  · subst h; simp
  · simp [h]; omega
theorem src_next {w : World} {g : Nat} {z : Int} {t : List Int} {a : Addr} {c : Nat} (hb : Bk w g 46 #[.slice (some a) (z :: t).length c]) (h3 : ∀ z' ∈ z :: t, i64 z')
    (h4 : ∀ i (h : i < (z :: t).length), ∃ a' : Addr, some a = some a' ∧ a'.block < g ∧ w.cell? (a'.add i) = some (.int .i64 (z :: t)[i])) (a' : Addr) (c' : Nat) (hA : t = [] ∨ a' = a.add 1) (hc : t.length ≤ c') (hc' : c' ≤ maxLen) :
    SrcAt (w.setCell ⟨g, 0, none⟩ (.slice (some a') t.length c')) g t ∧ w.grownBy (w.setCell ⟨g, 0, none⟩ (.slice (some a') t.length c')) (some g) ∧ (w.setCell ⟨g, 0, none⟩ (.slice (some a') t.length c')).heap.size = w.heap.size := by
  refine ⟨⟨some a', c', hb.set_ 0 _, hc, hc', fun z' hz => h3 z' (List.mem_cons_of_mem _ hz), fun i hi => ?_⟩, ⟨rfl, rfl, rfl, by rw [World.size_setCell]; exact Nat.le_refl _, fun k _ hk => Below.heap_setCell w ⟨g, 0, none⟩ _ k (fun e => hk (by rw [e]))⟩, World.size_setCell ..⟩
  have hi' : i + 1 < (z :: t).length := by simpa using hi
  obtain ⟨b, e, hl, hcell⟩ := h4 (i + 1) hi'
  cases e
  rcases hA with rfl | rfl
  · simp at hi
  · refine ⟨_, rfl, by rw [block_add]; exact hl, ?_⟩
    rw [Addr.add_add, Nat.add_comm 1 i]
    have hk : (w.setCell ⟨g, 0, none⟩ (.slice (some (a.add 1)) t.length c')).heap[(a.add (i + 1)).block]? = w.heap[(a.add (i + 1)).block]? := Below.heap_setCell w ⟨g, 0, none⟩ _ _ (by rw [block_add]; simp only; omega)
    rw [World.cell?_of_block hk]
    exact hcell
set_option maxHeartbeats 1000000 in
theorem next_any (g : Nat) (L : List Int) (n : Int) (hn : 0 < n) (hn' : n ≤ 9223372036854775807) (w : World) (h : SrcAt w g L) :
    Calls Tryd.prog 39 #[.pointer (some ⟨g, 0, none⟩), .int .i64 n] w fun e w' => e = .returned (.int .i64 (nx n L).1) ∧ SrcAt w' g (nx n L).2 ∧ w.grownBy w' (some g) ∧ w'.heap.size = w.heap.size := by
  obtain ⟨A, c, hb, h1, h2, h3, h4⟩ := h
  have c0 := hb.cell 0
  have f0 := hb.frozen 0
  have HB := Lib.hid hb
  have H4 := Lib.hid h4
  have HG : Hid (w.grownBy w (some g)) := Lib.hid ⟨rfl, rfl, rfl, Nat.le_refl _, fun _ _ _ => rfl⟩
  simp only [List.getElem?_toArray, List.getElem?_cons_zero] at c0
  clear hb h4
  cases L with
  | nil =>
    have H3 := Lib.hid h3
    clear h3
    go_enter Tryd.func39, Tryd.ntmps39
    go_wp2_with (fail)
    go_ret
    exact ⟨rfl, ⟨A, c, HB.out, h1, h2, H3.out, H4.out⟩, HG.out, rfl⟩
  | cons z t =>
    obtain ⟨a, rfl, hl, hc⟩ := H4.out 0 (by simp)
    have hne : a.block ≠ g := by omega
    obtain ⟨y, hy⟩ : ∃ y, pk z n = y := ⟨_, rfl⟩
    have HY := Lib.hid hy
    have hz := h3 z (List.mem_cons_self ..)
    have H3 := Lib.hid h3
    rw [addr_zero] at hc
    have HA1 := Lib.hid (show (⟨a.block, a.off + 1, none⟩ : Addr) = a.add 1 by rw [add_next a 0, addr_zero])
    have z0 := hz.1
    have z1 := hz.2
    simp only [List.length_cons, List.getElem_cons_zero] at h1 hc c0
    clear hy hz h3
    go_enter Tryd.func39, Tryd.ntmps39
    go_wp2_with (go_at_call 25; (with_reducible refine (pk_as z n y HY z0 z1 hn hn' _).mono ?_); rintro e w' ⟨rfl, rfl⟩)
    all_goals
      go_ret
      refine ⟨ret_int HY.out.symm, ?_⟩
      first
        | exact src_next HB.out H3.out H4.out _ _ (.inr HA1.out) (by omega) (by omega)
        | exact src_next HB.out H3.out H4.out _ _ (.inl (List.length_eq_zero_iff.1 (by omega))) (by omega) (by omega)
end Go.Proofs.YtlflfffjaodhpaaDoor
