/- The base: texts as lists, the relation of worlds, the law's pick and numerals (no listed tables at this seat); Blocks that are known whole, rows of the call's own, and what is kept of them; Rows of structs in memory, of any number of cells: to be read, as an argument, of the call's own (cl: an element's cells, k of them; T: the elements' type); Layer 16: what one thing owns in memory, and what is kept of all others; Layer 16: a map from keys to places, in memory; Tokens in memory, pairs of raw numbers; which tokens are the same; Plain mathematics of layer 7: expressions, their texts, sizes and depths. No program in this text; Plain mathematics of layer 7, third part: what is printed is scanned; how long a text is. No program in this text; Plain mathematics of layer 7, fourth part: what the law makes of raw numbers; Expressions in memory, and the law's source of raw numbers; Layer 16: a heap of the landed code in memory: its box, its row in heap order, its map of places. -/
import Derived.Test.YtminmcledbfchaaZL
import Derived.Test.YtminmcledbfchaaZ00
namespace Go.Proofs.Ytminmcledbfchaa
open Go.RowKit Go.Lib
set_option linter.unusedVariables false
set_option linter.unusedSimpArgs false
def B (l : List UInt8) : ByteArray := ⟨l.toArray⟩
def pk (c n : Int) : Int := if c < 0 then -((c + 1).tmod n) else c % n
def Tab (_ : World) : Prop := True
def Rel (w0 w : World) : Prop := Tab w0 ∧ Below w0.heap.size w0 w
theorem Rel.self {w0 w : World} (_ : Rel w0 w) : Rel w w := ⟨trivial, Below.refl _ _⟩
theorem Rel.trans {w0 w w' : World} (h : Rel w0 w) (h' : Rel w w') : Rel w0 w' := ⟨h.1, h.2.trans (h'.2.mono h.2.size)⟩
theorem Rel.size {w0 w : World} (h : Rel w0 w) : w0.heap.size ≤ w.heap.size := h.2.size
theorem Rel.start {w : World} (h : Tab w) : Rel w w := ⟨h, Below.refl _ _⟩
theorem Rel.step {w0 w w' : World} (h : Rel w0 w) (hb : Below w.heap.size w w') : Rel w0 w' := ⟨h.1, h.2.trans (hb.mono h.2.size)⟩
theorem Rel.alloc {w0 w : World} (h : Rel w0 w) (o : Obj) : Rel w0 (w.alloc o) := ⟨h.1, h.2.alloc h.2.size o⟩
theorem Rel.drew {w0 w : World} (h : Rel w0 w) : Rel w0 w.drew := ⟨h.1, h.2.drew⟩
theorem Rel.drewN {w0 w : World} (h : Rel w0 w) (n : Nat) : Rel w0 (w.drewN n) := ⟨h.1, ⟨h.2.os, h.2.tape, h.2.output, h.2.size, h.2.block⟩⟩
theorem Rel.setCell {w0 w : World} (h : Rel w0 w) {p : Addr} (hp : w0.heap.size ≤ p.block) (u : Value) : Rel w0 (w.setCell p u) := ⟨h.1, h.2.setCell hp u⟩
theorem Rel.grow {w0 w : World} (h : Rel w0 w) (os : Array Obj) : Rel w0 (Sort.grow w os) := by
  refine h.step ⟨rfl, rfl, rfl, ?_, fun k hk => ?_⟩
  · show w.heap.size ≤ (w.heap ++ os).size
    rw [Array.size_append]; omega
  · show (w.heap ++ os)[k]? = w.heap[k]?
    rw [Array.getElem?_append_left hk]
theorem ret_int {k : IntKind} {a b : Int} (h : a = b) : Ending.returned (.int k a) = .returned (.int k b) := by rw [h]
theorem tdt (p n : Int) (hn : 0 < n) : n * p.tdiv n + p.tmod n = p ∧ (0 ≤ p → 0 ≤ p.tmod n) ∧ (p ≤ 0 → p.tmod n ≤ 0) ∧ p.tmod n < n ∧ -n < p.tmod n := by
  refine ⟨Int.mul_tdiv_add_tmod p n, fun h => Int.tmod_nonneg n h, fun h => ?_, Int.tmod_lt_of_pos p hn, ?_⟩
  · have := Int.tmod_nonneg n (a := -p) (by omega)
    rw [Int.neg_tmod] at this; omega
  · have := Int.tmod_lt_of_pos (-p) hn
    rw [Int.neg_tmod] at this; omega
theorem pk_bd (c n : Int) (hn : 0 < n) : 0 ≤ pk c n ∧ pk c n < n := by
  unfold pk
  split
  · have := tdt (c + 1) n hn; omega
  · exact ⟨Int.emod_nonneg c (by omega), Int.emod_lt_of_pos c hn⟩
end Go.Proofs.Ytminmcledbfchaa

namespace Go.Proofs.Ytminmcledbfchaa
open Go.RowKit Go.Lib
set_option linter.unusedVariables false
set_option linter.unusedSimpArgs false
theorem blk_of_cell {w : World} {a : Addr} {v : Value} (h : w.cell? a = some v) : a.block < w.heap.size := by
  rcases Nat.lt_or_ge a.block w.heap.size with hn | hn
  · exact hn
  · simp [World.cell?, Array.getElem?_eq_none hn] at h
theorem block_add (a : Addr) (n : Nat) : (a.add n).block = a.block := by unfold Addr.add; split <;> rfl
/-- Block g is just these cells, none of them frozen. -/
def Bk (w : World) (g : Nat) (t : TypeId) (cs : Array Value) : Prop := w.heap[g]? = some (.cells cs t (0, 0))
theorem Bk.lt {w : World} {g : Nat} {t : TypeId} {cs : Array Value} (h : Bk w g t cs) : g < w.heap.size := by
  rcases Nat.lt_or_ge g w.heap.size with h' | h'
  · exact h'
  · unfold Bk at h; rw [Array.getElem?_eq_none h'] at h; cases h
theorem Bk.cell {w : World} {g : Nat} {t : TypeId} {cs : Array Value} (h : Bk w g t cs) (i : Nat) : w.cell? ⟨g, i, none⟩ = cs[i]? := cell_of_row w g i cs t (0, 0) h
theorem Bk.frozen {w : World} {g : Nat} {t : TypeId} {cs : Array Value} (h : Bk w g t cs) (i : Nat) : w.frozen? ⟨g, i, none⟩ = false := by
  unfold Bk at h; simp [World.frozen?, h]
theorem Bk.new (w : World) (t : TypeId) (cs : Array Value) : Bk (w.alloc (.cells cs t)) w.heap.size t cs := heap_alloc_new w _
theorem Bk.alloc {w : World} {g : Nat} {t : TypeId} {cs : Array Value} (h : Bk w g t cs) (o : Obj) : Bk (w.alloc o) g t cs := (Below.heap_alloc w o g h.lt).trans h
theorem Bk.set_ {w : World} {g : Nat} {t : TypeId} {cs : Array Value} (h : Bk w g t cs) (i : Nat) (u : Value) : Bk (w.setCell ⟨g, i, none⟩ u) g t (cs.setIfInBounds i u) := by
  unfold Bk at h ⊢
  simp [World.setCell, Array.getElem?_modify, h]
theorem Bk.far {w : World} {g : Nat} {t : TypeId} {cs : Array Value} (h : Bk w g t cs) {p : Addr} (hp : g ≠ p.block) (u : Value) : Bk (w.setCell p u) g t cs := (Below.heap_setCell w p u g hp).trans h
theorem Bk.rel {w w' : World} {g : Nat} {t : TypeId} {cs : Array Value} (h : Bk w g t cs) (hr : Rel w w') : Bk w' g t cs := (hr.2.block g h.lt).trans h
theorem Bk.grown {w w' : World} {g : Nat} {t : TypeId} {cs : Array Value} (h : Bk w g t cs) {row : Option Nat} (hb : w.grownBy w' row) (hg : some g ≠ row) : Bk w' g t cs := (hb.block g h.lt hg).trans h
theorem Bk.drew {w : World} {g : Nat} {t : TypeId} {cs : Array Value} (h : Bk w g t cs) : Bk w.drew g t cs := h
theorem Bk.ne {w : World} {g g' : Nat} {t t' : TypeId} {cs cs' : Array Value} (h : Bk w g t cs) (h' : Bk w g' t' cs') (hne : t ≠ t') : g ≠ g' := by
  rintro rfl
  unfold Bk at h h'
  rw [h] at h'
  injection h' with h'
  injection h' with _ ht
  exact hne ht
theorem own_ne {w : World} {base : Nat} {e : TypeId} {size n : Nat} {v : Value} {xs : List Value} {g : Nat} {t : TypeId} {cs : Array Value} (h : w.ownsRow base e size v n xs) (hg : Bk w g t cs) (hne : e ≠ t) : some g ≠ v.ownBlock := by
  rcases h.2 with ⟨rfl, _⟩ | ⟨g', cap, cur, rfl, _, hh, _⟩
  · simp [Value.ownBlock]
  · intro he
    have : g = g' := by simpa [Value.ownBlock] using he
    subst this
    exact Bk.ne (t := e) hh hg hne rfl
theorem Rel.grown {w0 w w' : World} (h : Rel w0 w) {row : Option Nat} (hg : w.grownBy w' row) (hr : ∀ k, row = some k → w0.heap.size ≤ k) : Rel w0 w' := ⟨h.1, Below.grown h.2 hg h.2.size hr⟩
theorem own_rel {w w' : World} {base : Nat} {e : TypeId} {size n : Nat} {v : Value} {xs : List Value} (h : w.ownsRow base e size v n xs) (hr : Rel w w') : w'.ownsRow base e size v n xs :=
  h.kept (row := none) ⟨hr.2.os, hr.2.tape, hr.2.output, hr.2.size, fun k hk _ => hr.2.block k hk⟩ (by cases v.ownBlock <;> simp)
theorem own_set {w : World} {base : Nat} {e : TypeId} {size n : Nat} {v : Value} {xs : List Value} (h : w.ownsRow base e size v n xs) {p : Addr} (hp : some p.block ≠ v.ownBlock) (u : Value) : (w.setCell p u).ownsRow base e size v n xs :=
  h.kept (row := some p.block) ⟨rfl, rfl, rfl, by simp, fun k hk hne => Below.heap_setCell w p u k (fun e => hne (by rw [e]))⟩ (by
    cases hv : v.ownBlock with
    | none => exact .inl rfl
    | some k => exact .inr (by rw [hv] at hp; exact Ne.symm hp))
/-- What a value that owns a row looks like. -/
theorem own_slice {w : World} {base : Nat} {e : TypeId} {size n : Nat} {v : Value} {xs : List Value} (h : w.ownsRow base e size v n xs) : ∃ A c, v = .slice A n c ∧ c ≤ maxLen := by
  rcases h.2 with ⟨rfl, rfl⟩ | ⟨g, cap, cur, rfl, _, _, _, hm, _⟩
  · exact ⟨none, 0, rfl, Nat.zero_le _⟩
  · exact ⟨_, cap, rfl, hm⟩
theorem own_zero {w : World} {base : Nat} {e : TypeId} {size n : Nat} {v : Value} {xs : List Value} (h : w.ownsRow base e size v n xs) : w.ownsRow 0 e size v n xs := by
  refine ⟨h.1, ?_⟩
  rcases h.2 with h0 | ⟨g, cap, cur, hv, _, hr⟩
  · exact .inl h0
  · exact .inr ⟨g, cap, cur, hv, Nat.zero_le _, hr⟩
theorem addr_at (g off k : Nat) : (⟨g, off, none⟩ : Addr).add k = ⟨g, off + k, none⟩ := by unfold Addr.add; split <;> simp_all
theorem Bk.two {w : World} {g : Nat} {t : TypeId} {x y : Value} (h : Bk w g t #[x, y]) :
    (w.cell? ⟨g, 0, none⟩ = some x ∧ w.cell? ⟨g, 1, none⟩ = some y) ∧ (w.frozen? ⟨g, 0, none⟩ = false ∧ w.frozen? ⟨g, 1, none⟩ = false) :=
  ⟨⟨h.cell 0, h.cell 1⟩, ⟨h.frozen 0, h.frozen 1⟩⟩
theorem Bk.put {w : World} {g : Nat} {t : TypeId} {x y : Value} (h : Bk w g t #[x, y]) (a b : Value) : Bk ((w.setCell ⟨g, 0, none⟩ a).setCell ⟨g, 1, none⟩ b) g t #[a, b] :=
  (h.set_ 0 a).set_ 1 b
end Go.Proofs.Ytminmcledbfchaa

namespace Go.Proofs.Ytminmcledbfchaa
open Go.RowKit Go.Lib
set_option linter.unusedVariables false
set_option linter.unusedSimpArgs false
section
variable {α : Type} {cl : α → List Value} {k : Nat}
theorem flat_len (hk : ∀ x, (cl x).length = k) (xs : List α) : (xs.flatMap cl).length = xs.length * k := by
  induction xs with
  | nil => simp
  | cons e t ih => rw [List.flatMap_cons, List.length_append, ih, hk, List.length_cons, Nat.succ_mul]; omega
theorem flat_at (hk : ∀ x, (cl x).length = k) (xs : List α) (i : Nat) (h : i < xs.length) (j : Nat) (hj : j < k) : (xs.flatMap cl)[i * k + j]? = (cl xs[i])[j]? := by
  induction xs generalizing i with
  | nil => simp at h
  | cons e t ih =>
    rw [List.flatMap_cons]
    cases i with
    | zero => rw [Nat.zero_mul, Nat.zero_add, List.getElem?_append_left (by rw [hk]; exact hj)]; rfl
    | succ i =>
      rw [List.getElem?_append_right (by rw [hk, Nat.succ_mul]; omega), hk, show (i + 1) * k + j - k = i * k + j by rw [Nat.succ_mul]; omega]
      exact ih i (by simpa using h)
/-- The cells from A on are these elements'. -/
def RowAt (cl : α → List Value) (k : Nat) (w : World) (A : Option Addr) (xs : List α) : Prop :=
  ∀ i (h : i < xs.length), ∃ (g off : Nat), A = some ⟨g, off, none⟩ ∧ g < w.heap.size ∧ ∀ j, j < k → w.cell? ⟨g, off + i * k + j, none⟩ = (cl xs[i])[j]?
theorem RowAt.nil (w : World) (A : Option Addr) : RowAt cl k w A [] := fun i h => absurd h (by simp)
theorem RowAt.below {w w' : World} {A : Option Addr} {xs : List α} (h : RowAt cl k w A xs) (hb : Below w.heap.size w w') : RowAt cl k w' A xs := by
  intro i hi
  obtain ⟨g, off, e, hl, h0⟩ := h i hi
  exact ⟨g, off, e, by have := hb.size; omega, fun j hj => (hb.cell (p := ⟨g, off + i * k + j, none⟩) hl).trans (h0 j hj)⟩
theorem RowAt.rel {w w' : World} {A : Option Addr} {xs : List α} (h : RowAt cl k w A xs) (hr : Rel w w') : RowAt cl k w' A xs := h.below hr.2
theorem RowAt.take {w : World} {A : Option Addr} {xs : List α} (h : RowAt cl k w A xs) (n : Nat) : RowAt cl k w A (xs.take n) := by
  intro i hi
  rw [List.length_take] at hi
  obtain ⟨g, off, e, hl, h0⟩ := h i (by omega)
  exact ⟨g, off, e, hl, fun j hj => by rw [List.getElem_take]; exact h0 j hj⟩
theorem RowAt.from {w : World} {g off : Nat} {xs : List α} (h : RowAt cl k w (some ⟨g, off, none⟩) xs) (n : Nat) : RowAt cl k w (some ⟨g, off + n * k, none⟩) (xs.drop n) := by
  intro i hi
  rw [List.length_drop] at hi
  obtain ⟨g', off', e, hl, h0⟩ := h (n + i) (by omega)
  injection e with e
  injection e with e1 e2
  subst e1; subst e2
  refine ⟨g, off + n * k, rfl, hl, fun j hj => ?_⟩
  rw [List.getElem_drop, show off + n * k + i * k + j = off + (n + i) * k + j by rw [Nat.add_mul]; omega]
  exact h0 j hj
theorem RowAt.of_bk (hk : ∀ x, (cl x).length = k) {T : TypeId} {w : World} {g : Nat} {xs : List α} (h : Bk w g T (xs.flatMap cl).toArray) : RowAt cl k w (some ⟨g, 0, none⟩) xs := by
  intro i hi
  refine ⟨g, 0, rfl, h.lt, fun j hj => ?_⟩
  rw [Nat.zero_add, h.cell, List.getElem?_toArray, flat_at hk xs i hi j hj]
/-- A row of the call's own. -/
def RowOwn (T : TypeId) (cl : α → List Value) (k : Nat) (w : World) (base : Nat) (v : Value) (xs : List α) : Prop := w.ownsRow base T k v xs.length (xs.flatMap cl)
theorem RowOwn.row {T : TypeId} {w : World} {base : Nat} {v : Value} {xs : List α} (h : RowOwn T cl k w base v xs) : w.ownsRow base T k v xs.length (xs.flatMap cl) := h
theorem RowOwn.nil (T : TypeId) (w : World) (base : Nat) : RowOwn T cl k w base (.slice none 0 0) [] := World.ownsRow_nil _ _ _ _
theorem RowOwn.rel {T : TypeId} {w w' : World} {base : Nat} {v : Value} {xs : List α} (h : RowOwn T cl k w base v xs) (hr : Rel w w') : RowOwn T cl k w' base v xs := own_rel h hr
theorem RowOwn.slice_of {T : TypeId} {w : World} {base : Nat} {v : Value} {xs : List α} (h : RowOwn T cl k w base v xs) : ∃ A c, v = .slice A xs.length c ∧ c ≤ maxLen := own_slice h.row
theorem RowOwn.at {T : TypeId} (hk : ∀ x, (cl x).length = k) {w : World} {base : Nat} {A : Option Addr} {n c : Nat} {xs : List α} (h : RowOwn T cl k w base (.slice A n c) xs) (hn : n = xs.length) : RowAt cl k w A xs := by
  intro i hi
  rcases h.2 with ⟨h0, h1⟩ | ⟨g, cap, cur, hv, hb, hh, _⟩
  · omega
  · have hA : A = some ⟨g, 0, none⟩ := by injection hv
    have hc := h.row.cells (g := g) (by rw [hA]; rfl)
    refine ⟨g, 0, hA, Bk.lt (t := T) hh, fun j hj => ?_⟩
    have hlt : j < (cl xs[i]).length := by rw [hk]; exact hj
    have e := flat_at hk xs i hi j hj
    rw [List.getElem?_eq_getElem hlt] at e ⊢
    have q := hc _ _ e
    rw [addr_at, Nat.zero_add] at q
    rw [Nat.zero_add]; exact q
theorem flat_snoc (xs : List α) (x : α) : (xs ++ [x]).flatMap cl = xs.flatMap cl ++ cl x := by simp
/-- Behind an append of one. -/
theorem RowOwn.more {T : TypeId} {w1 : World} {base g cap n : Nat} {xs : List α} {x : α} (hn : xs.length = n) (h : w1.ownsRow base T k (.slice (some ⟨g, 0, none⟩) (n + 1) cap) (n + 1) (xs.flatMap cl ++ cl x)) : RowOwn T cl k w1 base (.slice (some ⟨g, 0, none⟩) (n + 1) cap) (xs ++ [x]) := by
  subst hn
  unfold RowOwn
  rw [flat_snoc, show (xs ++ [x]).length = xs.length + 1 by simp]; exact h
/-- Behind a copy onto nothing: append(nil, xs...). -/
theorem RowOwn.copied {T : TypeId} {w1 : World} {base g cap n : Nat} {xs : List α} (hn : xs.length = n) (h : w1.ownsRow base T k (.slice (some ⟨g, 0, none⟩) (0 + n) cap) (0 + n) ([] ++ xs.flatMap cl)) : RowOwn T cl k w1 base (.slice (some ⟨g, 0, none⟩) n cap) xs := by
  subst hn
  rw [Nat.zero_add, List.nil_append] at h
  exact h
end
end Go.Proofs.Ytminmcledbfchaa

namespace Go.Proofs.Ytminmcledbfchaa
open Go.RowKit Go.Lib
set_option linter.unusedVariables false
set_option linter.unusedSimpArgs false
/-- All blocks but those of S are as they were. -/
structure Ke (S : Nat → Prop) (w w' : World) : Prop where
  os : w'.os = w.os
  tape : w'.tape = w.tape
  output : w'.output = w.output
  size : w.heap.size ≤ w'.heap.size
  block : ∀ k, k < w.heap.size → ¬ S k → w'.heap[k]? = w.heap[k]?
section
variable {S S' : Nat → Prop} {w0 w w' w'' : World}
theorem Ke.refl (S : Nat → Prop) (w : World) : Ke S w w := ⟨rfl, rfl, rfl, Nat.le_refl _, fun _ _ _ => rfl⟩
theorem Ke.of_rel (h : Rel w w') : Ke S w w' := ⟨h.2.os, h.2.tape, h.2.output, h.2.size, fun k hk _ => h.2.block k hk⟩
/-- S grows by new blocks alone. -/
def Gr (w : World) (S S' : Nat → Prop) : Prop := ∀ k, S' k → S k ∨ w.heap.size ≤ k
theorem Gr.refl (w : World) (S : Nat → Prop) : Gr w S S := fun _ h => .inl h
theorem Gr.trans {S'' : Nat → Prop} (hs : w.heap.size ≤ w'.heap.size) (h : Gr w S S') (h' : Gr w' S' S'') : Gr w S S'' := fun k hk => by
  rcases h' k hk with q | q
  · exact h k q
  · exact .inr (Nat.le_trans hs q)
theorem Ke.trans (h : Ke S w w') (hg : Gr w S S') (h' : Ke S' w' w'') : Ke S w w'' :=
  ⟨h'.os.trans h.os, h'.tape.trans h.tape, h'.output.trans h.output, Nat.le_trans h.size h'.size, fun k hk hn =>
    (h'.block k (Nat.lt_of_lt_of_le hk h.size) (fun e => (hg k e).elim hn (fun q => Nat.not_le_of_lt hk q))).trans (h.block k hk hn)⟩
theorem Ke.rel (h : Ke S w w') (hr : Rel w0 w) (hS : ∀ k, S k → w0.heap.size ≤ k) : Rel w0 w' :=
  ⟨hr.1, ⟨h.os.trans hr.2.os, h.tape.trans hr.2.tape, h.output.trans hr.2.output, Nat.le_trans hr.2.size h.size, fun k hk =>
    (h.block k (Nat.lt_of_lt_of_le hk hr.2.size) (fun e => Nat.not_le_of_lt hk (hS k e))).trans (hr.2.block k hk)⟩⟩
theorem Ke.bk (h : Ke S w w') {g : Nat} {t : TypeId} {cs : Array Value} (hb : Bk w g t cs) (hg : ¬ S g) : Bk w' g t cs := (h.block g hb.lt hg).trans hb
/-- A row that is not of S. -/
theorem Ke.row (h : Ke S w w') {α : Type} {cl : α → List Value} {k : Nat} {A : Option Addr} {xs : List α} (hr : RowAt cl k w A xs) (hA : ∀ a, A = some a → ¬ S a.block) : RowAt cl k w' A xs := by
  intro i hi
  obtain ⟨g, off, e, hl, hc⟩ := hr i hi
  have hb := h.block g hl (hA _ e)
  refine ⟨g, off, e, Nat.lt_of_lt_of_le hl h.size, fun j hj => ?_⟩
  rw [World.cell?_of_block (w := w) (a := ⟨g, off + i * k + j, none⟩) hb]
  exact hc j hj
end
abbrev clH (x : It) : List Value := [.int .i64 x.1, .int .i64 x.2]
theorem clH_len (x : It) : (clH x).length = 2 := rfl
theorem clH_one (x : It) : ∀ u ∈ clH x, u.oneCell' = true := by
  intro u hu
  simp only [clH, List.mem_cons, List.not_mem_nil, or_false] at hu
  rcases hu with rfl | rfl <;> rfl
/-- The item that is told; nothing: zeros. -/
def itH (o : Option It) : It := o.getD (0, 0)
end Go.Proofs.Ytminmcledbfchaa

namespace Go.Proofs.Ytminmcledbfchaa
open Go.RowKit Go.Lib
open Go.Maps (Keyed IsMap)
set_option linter.unusedVariables false
set_option linter.unusedSimpArgs false
/-- How a value is told as a datum: as itself. -/
def HeldV (v : Value) : Option (DataW Value × List MemPlace) := some (.held v, [])
def vI (x : Int) : Value := .int .i64 x
/-- Block b is a map of n entries: f. -/
def PlAt (w : World) (b : Nat) (f : Int → Option Int) (n : Nat) : Prop :=
  ∃ D : DataW Value, w.ownsMap Try.prog 3 HeldV b n D ∧ Maps.size D = n ∧ ∀ k : Int, Maps.has D (.int .i64 k) = (f k).isSome ∧ ∀ z, D.atKey (.int .i64 k) z = match f k with | some v => .held (vI v) | none => z
theorem int_key : Keyed Try.prog 3 := Maps.int_keyed Try.underlying3
theorem key_lit (k : Int) : WideAt.IsKeyLit (.int .i64 k) := by simp [WideAt.IsKeyLit]
theorem PlAt.made (w : World) : PlAt (w.alloc (.map #[] 0)) w.heap.size (posf []) 0 :=
  ⟨_, World.ownsMap_made _ _ _ _, rfl, fun _ => ⟨rfl, fun _ => rfl⟩⟩
theorem PlAt.lt {w : World} {b n : Nat} {f : Int → Option Int} (h : PlAt w b f n) : b < w.heap.size := by obtain ⟨D, h, _⟩ := h; exact h.lt
theorem PlAt.blk {w w' : World} {b n : Nat} {f : Int → Option Int} (h : PlAt w b f n) (hb : w'.heap[b]? = w.heap[b]?) : PlAt w' b f n := by
  obtain ⟨D, ⟨es, clock, h1, h2⟩, h3⟩ := h
  exact ⟨D, ⟨es, clock, hb.trans h1, h2⟩, h3⟩
theorem PlAt.rel {w w' : World} {b n : Nat} {f : Int → Option Int} (h : PlAt w b f n) (hr : Rel w w') : PlAt w' b f n := h.blk (hr.2.block b h.lt)
theorem PlAt.alloc {w : World} {b n : Nat} {f : Int → Option Int} (h : PlAt w b f n) (o : Obj) : PlAt (w.alloc o) b f n := h.blk (Below.heap_alloc w o b h.lt)
theorem PlAt.drew {w : World} {b n : Nat} {f : Int → Option Int} (h : PlAt w b f n) : PlAt w.drew b f n := h
theorem PlAt.set {w : World} {b n : Nat} {f : Int → Option Int} (h : PlAt w b f n) {p : Addr} (hp : b ≠ p.block) (u : Value) : PlAt (w.setCell p u) b f n := h.blk (Below.heap_setCell w p u b hp)
theorem PlAt.ne {w : World} {b n g : Nat} {f : Int → Option Int} {t : TypeId} {cs : Array Value} (h : PlAt w b f n) (hb : Bk w g t cs) : b ≠ g := by
  obtain ⟨D, ⟨es, clock, hm, _⟩, _⟩ := h
  rintro rfl
  unfold Bk at hb
  rw [hb] at hm; cases hm
theorem PlAt.ne_own {w : World} {b n : Nat} {f : Int → Option Int} (h : PlAt w b f n) {base : Nat} {e : TypeId} {size k : Nat} {v : Value} {xs : List Value} (ho : w.ownsRow base e size v k xs) : some b ≠ v.ownBlock := by
  rcases ho.2 with ⟨rfl, _⟩ | ⟨g', cap, cur, rfl, _, hh, _⟩
  · simp [Value.ownBlock]
  · intro he
    have : b = g' := by simpa [Value.ownBlock] using he
    exact h.ne (show Bk w g' e cur from hh) this
theorem PlAt.put {w : World} {b n : Nat} {f : Int → Option Int} (h : PlAt w b f n) (hn : n < maxLen) {k v : Int} (hk : (Lit.int .i64 k).wf = true) :
    ∃ w', (Instr.mapUpdate 57 (.map (some b)) (.int .i64 k) (.int .i64 v)).run Try.prog w = .ok () w' ∧ PlAt w' b (upf f k v) (if (f k).isSome then n else n + 1) ∧ w.grownBy w' (some b) := by
  obtain ⟨D, h, hs, h2⟩ := h
  obtain ⟨w', h3, h4, h5⟩ := h.update (e := 3) (t := 57) (d := .held (vI v)) (ps := []) int_key Try.underlying57 hn (Maps.keyOf_int_mk Try.underlying3 hk) rfl
  have hsz : Maps.size (D.put (.int .i64 k) (.held (vI v))) = if (f k).isSome then n else n + 1 := by
    rw [Maps.size_put (h.tidy int_key), (h2 k).1, hs]
  refine ⟨w', h3, ⟨_, ?_, hsz, fun j => ?_⟩, h5⟩
  · obtain ⟨es, clock, a1, a2, a3, a4⟩ := h4
    refine ⟨es, clock, a1, a2, ?_, a4⟩
    rw [← hsz, a4]
    rw [Maps.size_eq, Go.length_read]
    exact Nat.le_refl _
  · unfold upf
    by_cases e : j = k
    · subst e
      rw [if_pos rfl]
      exact ⟨by rw [Maps.has_put_same h.isMap (key_lit _)]; rfl, fun z => Maps.atKey_put_same h.isMap (key_lit _) _ _⟩
    · rw [if_neg e]
      have hne : (Lit.int .i64 j) ≠ .int .i64 k := fun h => e (by injection h)
      exact ⟨by rw [Maps.has_put_other hne]; exact (h2 j).1, fun z => by rw [Maps.atKey_put_other hne]; exact (h2 j).2 z⟩
theorem PlAt.del {w : World} {b n : Nat} {f : Int → Option Int} (h : PlAt w b f n) {k : Int} (hk : (Lit.int .i64 k).wf = true) (hh : (f k).isSome = true) (ty : TypeId) :
    ∃ w', (Builtin.delete_ #[57, 3] ty #[.map (some b), .int .i64 k]).run Try.prog w = .ok (.tuple #[]) w' ∧ PlAt w' b (dlf f k) (n - 1) ∧ w.grownBy w' (some b) := by
  obtain ⟨D, h, hs, h2⟩ := h
  obtain ⟨w', h3, h4, h5⟩ := h.drop (e := 3) (t := 57) int_key Try.underlying57 (Maps.keyOf_int_mk Try.underlying3 hk) ty
  have hsz : Maps.size (D.del (.int .i64 k)) = n - 1 := by
    have := Maps.size_del (h.tidy int_key) (k := .int .i64 k)
    rw [(h2 k).1, hh, if_pos rfl] at this
    omega
  refine ⟨w', h3, ⟨_, ?_, hsz, fun j => ?_⟩, h5.grown⟩
  · obtain ⟨es, clock, a1, a2, a3, a4⟩ := h4
    refine ⟨es, clock, a1, a2, ?_, a4⟩
    rw [← hsz, a4]
    rw [Maps.size_eq, Go.length_read]
    exact Nat.le_refl _
  · unfold dlf
    by_cases e : j = k
    · subst e
      rw [if_pos rfl]
      exact ⟨by rw [Maps.has_del_same]; rfl, fun z => Maps.atKey_del_same z⟩
    · rw [if_neg e]
      have hne : (Lit.int .i64 j) ≠ .int .i64 k := fun h => e (by injection h)
      exact ⟨by rw [Maps.has_del_other hne]; exact (h2 j).1, fun z => by rw [Maps.atKey_del_other hne]; exact (h2 j).2 z⟩
theorem PlAt.look {w : World} {b n : Nat} {f : Int → Option Int} (h : PlAt w b f n) {k : Int} (hk : (Lit.int .i64 k).wf = true) :
    (Instr.lookup 57 (.map (some b)) (.int .i64 k) true).run Try.prog w = .ok (.tuple #[.int .i64 ((f k).getD 0), .bool (f k).isSome]) w := by
  obtain ⟨D, h, hs, h2⟩ := h
  obtain ⟨v, ps, h3, h4⟩ := h.look_ok (e := 3) (t := 57) (z := .int .i64 0) (zd := .held (.int .i64 0)) (zp := []) int_key Try.underlying57 rfl rfl (Maps.keyOf_int_mk Try.underlying3 hk)
  rw [h3, (h2 k).1]
  rw [(h2 k).2] at h4
  unfold HeldV at h4
  cases hl : f k with
  | none => rw [hl] at h4; have h5 := congrArg Prod.fst (Option.some.inj h4); rw [DataW.held.inj h5]; rfl
  | some u => rw [hl] at h4; have h5 := congrArg Prod.fst (Option.some.inj h4); rw [DataW.held.inj h5]; rfl
/-- 'm[k] = v' and 'delete(m, k)', at the operation. -/
theorem wp_place (w : World) {ops : Array Oper} {rest : List Oper} {o : Oper} {a : Act} {Q : Exit → Act → World → Prop}
    (hg : o.guard = none) (m x v : Operand) (hop : o.op = Op.mapUpdate 57 m x v) (b n : Nat) (f : Int → Option Int)
    (hm : a.eval m = .map (some b)) (hown : PlAt w b f n) (hn : n < maxLen) (k y : Int) (hx : a.eval x = .int .i64 k) (hwk : (Lit.int .i64 k).wf = true) (hv : a.eval v = .int .i64 y)
    (hK : ∀ w', PlAt w' b (upf f k y) (if (f k).isSome then n else n + 1) → w.grownBy w' (some b) → wpList Try.prog ops Q rest (a.put o.dst undef) w') :
    wpList Try.prog ops Q (o :: rest) a w := by
  refine wpList_plain hg fun K' hK' => ?_
  obtain ⟨w', hrun, r1, r2⟩ := hown.put hn (v := y) hwk
  unfold Oper.wp
  simp [execOp, hop, hm, hx, hv, hrun, Result.andThen]
  exact hK' _ _ (hK w' r1 r2)
theorem wp_unplace (w : World) {ops : Array Oper} {rest : List Oper} {o : Oper} {a : Act} {Q : Exit → Act → World → Prop}
    (hg : o.guard = none) (m x : Operand) (hop : o.op = Op.call { callee := Callee.builtin Builtin.delete, args := #[m, x], argTypes := #[57, 3] }) (b n : Nat) (f : Int → Option Int)
    (hm : a.eval m = .map (some b)) (hown : PlAt w b f n) (k : Int) (hx : a.eval x = .int .i64 k) (hwk : (Lit.int .i64 k).wf = true) (hh : (f k).isSome = true)
    (hK : ∀ w', PlAt w' b (dlf f k) (n - 1) → w.grownBy w' (some b) → wpList Try.prog ops Q rest (a.put o.dst (.tuple #[])) w') :
    wpList Try.prog ops Q (o :: rest) a w := by
  refine wpList_plain hg fun K' hK' => ?_
  obtain ⟨w', hrun, r1, r2⟩ := hown.del hwk hh o.type
  unfold Oper.wp
  simp [execOp, hop, resolve, invoke, builtin, hm, hx, hrun, Result.andThen]
  exact hK' _ _ (hK w' r1 r2)
end Go.Proofs.Ytminmcledbfchaa

namespace Go.Proofs.Ytminmcledbfchaa
open Go.RowKit Go.Lib
set_option linter.unusedVariables false
set_option linter.unusedSimpArgs false
def cells4 (t : Tok) : List Value := [.int .i64 t.1, .string (B t.2.1), .int .i64 t.2.2.1, .int .i64 t.2.2.2]
def cellsOf (ts : List Tok) : List Value := ts.flatMap cells4
/-- The cells from A on are these tokens. -/
def ToksAt (w : World) (A : Option Addr) (ts : List Tok) : Prop :=
  ∀ i (h : i < ts.length), ∃ (g off : Nat), A = some ⟨g, off, none⟩ ∧ g < w.heap.size ∧ w.cell? ⟨g, off + i * 4, none⟩ = some (.int .i64 ts[i].1) ∧ w.cell? ⟨g, off + i * 4 + 1, none⟩ = some (.string (B ts[i].2.1)) ∧
    w.cell? ⟨g, off + i * 4 + 2, none⟩ = some (.int .i64 ts[i].2.2.1) ∧ w.cell? ⟨g, off + i * 4 + 3, none⟩ = some (.int .i64 ts[i].2.2.2)
theorem ToksAt.nil (w : World) (A : Option Addr) : ToksAt w A [] := fun i h => absurd h (by simp)
theorem ToksAt.below {w w' : World} {A : Option Addr} {ts : List Tok} (h : ToksAt w A ts) (hb : Below w.heap.size w w') : ToksAt w' A ts := by
  intro i hi
  obtain ⟨g, off, e, hl, h0, h1, h2, h3⟩ := h i hi
  have hk : ∀ j, w'.cell? ⟨g, j, none⟩ = w.cell? ⟨g, j, none⟩ := fun j => hb.cell (p := ⟨g, j, none⟩) hl
  exact ⟨g, off, e, by have := hb.size; omega, by rw [hk]; exact h0, by rw [hk]; exact h1, by rw [hk]; exact h2, by rw [hk]; exact h3⟩
theorem ToksAt.rel {w w' : World} {A : Option Addr} {ts : List Tok} (h : ToksAt w A ts) (hr : Rel w w') : ToksAt w' A ts := h.below hr.2
/-- The cells from A on are these pairs of numbers. -/
def PairsAt (w : World) (A : Option Addr) (zs : List (Int × Int)) : Prop :=
  ∀ i (h : i < zs.length), ∃ (a : Addr), A = some a ∧ a.block < w.heap.size ∧ w.cell? (a.add (i * 2)) = some (.int .i64 zs[i].1) ∧ w.cell? (a.add (i * 2 + 1)) = some (.int .i64 zs[i].2)
theorem PairsAt.below {w w' : World} {A : Option Addr} {zs : List (Int × Int)} (h : PairsAt w A zs) (hb : Below w.heap.size w w') : PairsAt w' A zs := by
  intro i hi
  obtain ⟨a, e, hl, h0, h1⟩ := h i hi
  have hk : ∀ j, w'.cell? (a.add j) = w.cell? (a.add j) := fun j => hb.cell (p := a.add j) (by rw [block_add]; exact hl)
  exact ⟨a, e, by have := hb.size; omega, by rw [hk]; exact h0, by rw [hk]; exact h1⟩
theorem PairsAt.rel {w w' : World} {A : Option Addr} {zs : List (Int × Int)} (h : PairsAt w A zs) (hr : Rel w w') : PairsAt w' A zs := h.below hr.2
/-- Pairs of raw numbers as an argument. -/
def PairsIn (w : World) (A : Option Addr) (n : Nat) (zs : List (Int × Int)) : Prop := zs.length = n ∧ n ≤ 9223372036854775807 ∧ (∀ z ∈ zs, (-9223372036854775808 ≤ z.1 ∧ z.1 ≤ 9223372036854775807) ∧ (-9223372036854775808 ≤ z.2 ∧ z.2 ≤ 9223372036854775807)) ∧ PairsAt w A zs
end Go.Proofs.Ytminmcledbfchaa

namespace Go.Proofs.Ytminmcledbfchaa
open Go.Lib
set_option linter.unusedVariables false
set_option linter.unusedSimpArgs false
/-- An expression: kind, number, name, arguments. -/
inductive Ex where
  | mk (k n : Int) (nm : List UInt8) (l : List Ex)
def Ex.k : Ex → Int | .mk k _ _ _ => k
def Ex.n : Ex → Int | .mk _ n _ _ => n
def Ex.nm : Ex → List UInt8 | .mk _ _ nm _ => nm
def Ex.l : Ex → List Ex | .mk _ _ _ l => l
mutual
def size : Ex → Nat
  | .mk _ _ _ l => 1 + sizes l
def sizes : List Ex → Nat
  | [] => 0
  | x :: t => size x + sizes t
end
end Go.Proofs.Ytminmcledbfchaa

namespace Go.Proofs.Ytminmcledbfchaa
open Go.Lib
set_option linter.unusedVariables false
set_option linter.unusedSimpArgs false
/-- A text is scanned to at least n tokens, whatever stands behind it that is no part. -/
def Sc (a : List UInt8) (n : Nat) : Prop := ∀ p r, stops r = true → ∃ ts, lx p (a ++ r) = pre ts (lx (p + a.length) r) ∧ n ≤ ts.length
theorem Sc.append {a b : List UInt8} {n m : Nat} (ha : Sc a n) (hb : Sc b m) (hs : ∀ r, stops r = true → stops (b ++ r) = true) : Sc (a ++ b) (n + m) := by
  intro p r hr
  obtain ⟨ts, e, h⟩ := ha p (b ++ r) (hs r hr)
  obtain ⟨us, e', h'⟩ := hb (p + a.length) r hr
  refine ⟨ts ++ us, ?_, by rw [List.length_append]; omega⟩
  rw [List.append_assoc, e, e', pre_pre, List.length_append, Nat.add_assoc]
theorem Sc.nil : Sc [] 0 := fun p r _ => ⟨[], by rw [pre_nil]; rfl, Nat.zero_le _⟩
end Go.Proofs.Ytminmcledbfchaa

namespace Go.Proofs.Ytminmcledbfchaa
open Go.RowKit Go.Lib
set_option linter.unusedVariables false
set_option linter.unusedSimpArgs false
/-- One number of the raw ones, below n; 0 behind the last one. -/
def nx (n : Int) : List Int → Int × List Int
  | [] => (0, [])
  | c :: t => (pk c n, t)
end Go.Proofs.Ytminmcledbfchaa

namespace Go.Proofs.Ytminmcledbfchaa
open Go.RowKit Go.Lib
set_option linter.unusedVariables false
set_option linter.unusedSimpArgs false
/-- An expression as its row holds it: kind, number, name, and the slice of its arguments. -/
abbrev El := Int × Int × List UInt8 × Option Addr × Nat × Nat
/-- The cells from A on are these; their block is one of S. -/
def RowE (S : Nat → Prop) (w : World) (A : Option Addr) (es : List El) : Prop :=
  ∀ i (h : i < es.length), ∃ (g off : Nat), A = some ⟨g, off, none⟩ ∧ g < w.heap.size ∧ S g ∧ w.cell? ⟨g, off + i * 4, none⟩ = some (.int .i64 es[i].1) ∧ w.cell? ⟨g, off + i * 4 + 1, none⟩ = some (.int .i64 es[i].2.1) ∧
    w.cell? ⟨g, off + i * 4 + 2, none⟩ = some (.string (B es[i].2.2.1)) ∧ w.cell? ⟨g, off + i * 4 + 3, none⟩ = some (.slice es[i].2.2.2.1 es[i].2.2.2.2.1 es[i].2.2.2.2.2)
theorem RowE.mono {S S' : Nat → Prop} {w w' : World} {A : Option Addr} {es : List El} (h : RowE S w A es) (hs : w.heap.size ≤ w'.heap.size) (hm : ∀ g, S g → g < w.heap.size → S' g ∧ w'.heap[g]? = w.heap[g]?) : RowE S' w' A es := by
  intro i hi
  obtain ⟨g, off, e, hl, hS, h0, h1, h2, h3⟩ := h i hi
  obtain ⟨hS', hb⟩ := hm g hS hl
  have hk : ∀ j, w'.cell? ⟨g, j, none⟩ = w.cell? ⟨g, j, none⟩ := fun j => World.cell?_of_block (a := ⟨g, j, none⟩) hb
  exact ⟨g, off, e, by omega, hS', by rw [hk]; exact h0, by rw [hk]; exact h1, by rw [hk]; exact h2, by rw [hk]; exact h3⟩
def i64 (n : Int) : Prop := -9223372036854775808 ≤ n ∧ n ≤ 9223372036854775807
/-- In this world an element is this expression. -/
inductive ExAt (S : Nat → Prop) (w : World) : El → Ex → Prop where
  | mk (k n : Int) (nm : List UInt8) (A : Option Addr) (c : Nat) (l : List Ex) (es : List El) (hk : i64 k) (hn : i64 n) (hm : nm.length ≤ 100) (hl : es.length = l.length) (hrow : RowE S w A es)
      (hsub : ∀ i (h : i < es.length) (h' : i < l.length), ExAt S w es[i] l[i]) : ExAt S w (k, n, nm, A, l.length, c) (.mk k n nm l)
theorem ExAt.mono {S S' : Nat → Prop} {w w' : World} (hs : w.heap.size ≤ w'.heap.size) (hm : ∀ g, S g → g < w.heap.size → S' g ∧ w'.heap[g]? = w.heap[g]?) {e : El} {x : Ex} (h : ExAt S w e x) : ExAt S' w' e x := by
  induction h with
  | mk k n nm A c l es hk hn hm' hl hrow hsub ih => exact .mk k n nm A c l es hk hn hm' hl (hrow.mono hs hm) ih
theorem ExAt.rel {S : Nat → Prop} {w w' : World} {e : El} {x : Ex} (h : ExAt S w e x) (hr : Rel w w') : ExAt S w' e x := h.mono hr.size fun g hS hl => ⟨hS, hr.2.block g hl⟩
/-- What an element is, opened. -/
theorem ExAt.open {S : Nat → Prop} {w : World} {k n : Int} {nm : List UInt8} {l : List Ex} {e : El} (h : ExAt S w e (.mk k n nm l)) : ∃ A c es, e = (k, n, nm, A, l.length, c) ∧ i64 k ∧ i64 n ∧ nm.length ≤ 100 ∧ es.length = l.length ∧ RowE S w A es ∧ ∀ i (h : i < es.length) (h' : i < l.length), ExAt S w es[i] l[i] := by
  cases h with
  | mk k n nm A c l es hk hn hm hl hrow hsub => exact ⟨A, c, es, rfl, hk, hn, hm, hl, hrow, hsub⟩
theorem RowE.nil (S : Nat → Prop) (w : World) (A : Option Addr) : RowE S w A [] := fun i h => absurd h (by simp)
theorem ExAt.grown {S S' : Nat → Prop} {w w' : World} {b : Option Nat} {e : El} {x : Ex} (h : ExAt S w e x) (hg : w.grownBy w' b) (hS : ∀ k, S k → S' k ∧ some k ≠ b) : ExAt S' w' e x := h.mono hg.size fun k hk hl => ⟨(hS k hk).1, hg.block k hl (hS k hk).2⟩
end Go.Proofs.Ytminmcledbfchaa

namespace Go.Proofs.Ytminmcledbfchaa
open Go.RowKit Go.Lib
set_option linter.unusedVariables false
set_option linter.unusedSimpArgs false
theorem i64_wf {n : Int} (h : i64 n) : (Lit.int .i64 n).wf = true := by
  unfold i64 at h
  have a : IntKind.i64.min = -9223372036854775808 := by decide
  have b : IntKind.i64.max = 9223372036854775807 := by decide
  simp only [Lit.wf, a, b]
  simp
  omega
/-- The blocks of a heap. -/
def SoF (g b : Nat) (v : Value) : Nat → Prop := fun k => k = g ∨ k = b ∨ some k = v.ownBlock
structure Hb (w : World) (g b : Nat) (m : Int) (v : Value) (l : List It) : Prop where
  box : Bk w g 59 #[.int .i64 m, v, .map (some b)]
  row : RowOwn 36 clH 2 w 0 v l
  pl : PlAt w b (posf l) l.length
  dst : Dst l
  fit : ∀ z ∈ l, i64 z.1 ∧ i64 z.2
  cap : l.length ≤ 1000
theorem Bk.three {w : World} {g : Nat} {t : TypeId} {x y z : Value} (h : Bk w g t #[x, y, z]) :
    (w.cell? ⟨g, 0, none⟩ = some x ∧ w.cell? ⟨g, 1, none⟩ = some y ∧ w.cell? ⟨g, 2, none⟩ = some z) ∧ (w.frozen? ⟨g, 0, none⟩ = false ∧ w.frozen? ⟨g, 1, none⟩ = false ∧ w.frozen? ⟨g, 2, none⟩ = false) :=
  ⟨⟨h.cell 0, h.cell 1, h.cell 2⟩, ⟨h.frozen 0, h.frozen 1, h.frozen 2⟩⟩
section
variable {w w' : World} {g b : Nat} {m : Int} {v : Value} {l : List It}
theorem Hb.g_ne (h : Hb w g b m v l) : some g ≠ v.ownBlock := own_ne h.row h.box (by decide)
theorem Hb.b_ne (h : Hb w g b m v l) : b ≠ g := h.pl.ne h.box
theorem Hb.b_row (h : Hb w g b m v l) : some b ≠ v.ownBlock := h.pl.ne_own h.row
theorem Hb.lt (h : Hb w g b m v l) : ∀ k, SoF g b v k → k < w.heap.size := by
  rintro k (rfl | rfl | hk)
  · exact h.box.lt
  · exact h.pl.lt
  · exact (World.ownsRow.lt h.row.row k hk.symm).2
theorem Hb.keep (h : Hb w g b m v l) (hsz : w.heap.size ≤ w'.heap.size) (hb : ∀ k, SoF g b v k → w'.heap[k]? = w.heap[k]?) : Hb w' g b m v l :=
  ⟨(hb g (.inl rfl)).trans h.box, by
    have hr := h.row
    unfold RowOwn World.ownsRow at hr ⊢
    refine ⟨hr.1, hr.2.imp id ?_⟩
    rintro ⟨q, cap, cur, hv, hq, hh, hx⟩
    exact ⟨q, cap, cur, hv, hq, (hb q (.inr (.inr (by rw [hv]; rfl)))).trans hh, hx⟩, h.pl.blk (hb b (.inr (.inl rfl))), h.dst, h.fit, h.cap⟩
theorem Hb.rel (h : Hb w g b m v l) (hr : Rel w w') : Hb w' g b m v l := h.keep hr.size fun k hk => hr.2.block k (h.lt k hk)
theorem Hb.fit_at (h : Hb w g b m v l) {i : Nat} (hi : i < l.length) : (Lit.int .i64 (atI l i).1).wf = true ∧ (Lit.int .i64 (atI l i).2).wf = true := by
  have := h.fit _ (at_mem hi)
  exact ⟨i64_wf this.1, i64_wf this.2⟩
/-- What its row looks like. -/
theorem Hb.form (h : Hb w g b m v l) : (v = .slice none 0 0 ∧ l = []) ∨ ∃ q c, v = .slice (some ⟨q, 0, none⟩) l.length c ∧ l.length ≤ c ∧ c ≤ maxLen ∧ q < w.heap.size ∧ (∀ i, i < l.length → w.cell? ⟨q, i * 2, none⟩ = some (.int .i64 (atI l i).1) ∧ w.cell? ⟨q, i * 2 + 1, none⟩ = some (.int .i64 (atI l i).2)) ∧ ∀ j, w.frozen? ⟨q, j, none⟩ = false := by
  have hr := h.row.row
  rcases hr.2 with ⟨rfl, e⟩ | ⟨q, c, cur, rfl, _, hh, hn, hc, hs, ht⟩
  · exact .inl ⟨rfl, List.eq_nil_of_length_eq_zero e⟩
  · refine .inr ⟨q, c, rfl, hn, hc, Bk.lt (t := 36) hh, fun i hi => ?_, fun j => hr.frozenAt j⟩
    have e := fun j (hj : j < 2) => flat_at (cl := clH) (k := 2) (fun _ => rfl) l i hi j hj
    have c0 := hr.cellAt (i * 2 + 0) (by omega)
    have c1 := hr.cellAt (i * 2 + 1) (by omega)
    rw [e 0 (by decide)] at c0
    rw [e 1 (by decide)] at c1
    rw [at_get hi]
    exact ⟨c0, c1⟩
theorem flat_set (l : List It) (i : Nat) (hi : i < l.length) (x : It) : ((l.flatMap clH).set (i * 2) (.int .i64 x.1)).set (i * 2 + 1) (.int .i64 x.2) = (l.set i x).flatMap clH := by
  induction l generalizing i with
  | nil => simp at hi
  | cons y t ih =>
    cases i with
    | zero => rfl
    | succ i =>
      have h1 := ih i (by simpa using hi)
      rw [List.set_cons_succ, List.flatMap_cons, List.flatMap_cons, ← h1]
      show ((([.int .i64 y.1, .int .i64 y.2] : List Value) ++ t.flatMap clH).set ((i + 1) * 2) _).set ((i + 1) * 2 + 1) _ = _
      rw [show (i + 1) * 2 = i * 2 + 1 + 1 by omega]
      rfl
theorem flat_set2 (l : List It) (i : Nat) (hi : i < l.length) (k p : Int) (hk : (atI l i).1 = k) : (l.flatMap clH).set (i * 2 + 1) (.int .i64 p) = (l.set i (k, p)).flatMap clH := by
  induction l generalizing i with
  | nil => simp at hi
  | cons y t ih =>
    cases i with
    | zero =>
      have : y.1 = k := hk
      subst this
      rfl
    | succ i =>
      have h1 := ih i (by simpa using hi) hk
      rw [List.set_cons_succ, List.flatMap_cons, List.flatMap_cons, ← h1]
      show (([.int .i64 y.1, .int .i64 y.2] : List Value) ++ t.flatMap clH).set ((i + 1) * 2 + 1) _ = _
      rw [show (i + 1) * 2 + 1 = (i * 2 + 1) + 1 + 1 by omega]
      rfl
/-- Rows into which an item is stored. -/
theorem row_put {q n c : Nat} (h : RowOwn 36 clH 2 w 0 (.slice (some ⟨q, 0, none⟩) n c) l) {i : Nat} (hi : i < l.length) (hn : l.length = n) (x : It) :
    RowOwn 36 clH 2 ((w.setCell ⟨q, i * 2, none⟩ (.int .i64 x.1)).setCell ⟨q, i * 2 + 1, none⟩ (.int .i64 x.2)) 0 (.slice (some ⟨q, 0, none⟩) n c) (l.set i x) := by
  subst hn
  have h1 := ((h.row.stored (i * 2) (.int .i64 x.1)).1.stored (i * 2 + 1) (.int .i64 x.2)).1
  unfold RowOwn
  rw [← flat_set l i hi x, List.length_set]
  exact h1
theorem row_put2 {q n c : Nat} (h : RowOwn 36 clH 2 w 0 (.slice (some ⟨q, 0, none⟩) n c) l) {i : Nat} (hi : i < l.length) (hn : l.length = n) {k p : Int} (hk : (atI l i).1 = k) :
    RowOwn 36 clH 2 (w.setCell ⟨q, i * 2 + 1, none⟩ (.int .i64 p)) 0 (.slice (some ⟨q, 0, none⟩) n c) (l.set i (k, p)) := by
  subst hn
  have h1 := (h.row.stored (i * 2 + 1) (.int .i64 p)).1
  unfold RowOwn
  rw [← flat_set2 l i hi k p hk, List.length_set]
  exact h1
end
/-- What stores leave of all other blocks. -/
theorem Ke.set {S : Nat → Prop} {w : World} {p : Addr} (hp : S p.block) (u : Value) : Ke S w (w.setCell p u) :=
  ⟨rfl, rfl, rfl, by simp, fun k _ hn => Below.heap_setCell w p u k (fun e => hn (by rw [← e] at hp; exact hp))⟩
theorem Ke.grown {S : Nat → Prop} {w w' : World} {row : Option Nat} (hg : w.grownBy w' row) (hr : ∀ k, row = some k → S k) : Ke S w w' :=
  ⟨hg.os, hg.tape, hg.output, hg.size, fun k hk hn => hg.block k hk (fun e => hn (hr k e.symm))⟩
theorem Ke.on {S : Nat → Prop} {w w' w'' : World} (h : Ke S w w') (h' : Ke S w' w'') : Ke S w w'' := h.trans (Gr.refl _ _) h'
theorem Ke.drew {S : Nat → Prop} {w w' : World} (h : Ke S w w') : Ke S w w'.drew := ⟨h.os, h.tape, h.output, h.size, h.block⟩
theorem Ke.rl {S : Nat → Prop} {w w' w'' : World} (h : Ke S w w') (h' : Rel w' w'') : Ke S w w'' := h.on (Ke.of_rel h')
/-- A heap within a walk: the map may be behind the row. -/
structure Hm (w : World) (g b : Nat) (m : Int) (v : Value) (l : List It) (f : Int → Option Int) (z : Nat) : Prop where
  box : Bk w g 59 #[.int .i64 m, v, .map (some b)]
  row : RowOwn 36 clH 2 w 0 v l
  pl : PlAt w b f z
section
variable {w w' : World} {g b : Nat} {m : Int} {v : Value} {l : List It} {f : Int → Option Int} {z : Nat}
theorem Hb.hm (h : Hb w g b m v l) : Hm w g b m v l (posf l) l.length := ⟨h.box, h.row, h.pl⟩
theorem Hm.done (h : Hm w g b m v l f z) (hf : f = posf l) (hz : z = l.length) (hd : Dst l) (hfit : ∀ z ∈ l, i64 z.1 ∧ i64 z.2) (hc : l.length ≤ 1000) : Hb w g b m v l := by
  subst hf; subst hz; exact ⟨h.box, h.row, h.pl, hd, hfit, hc⟩
theorem Hm.g_ne (h : Hm w g b m v l f z) : some g ≠ v.ownBlock := own_ne h.row h.box (by decide)
theorem Hm.b_row (h : Hm w g b m v l f z) : some b ≠ v.ownBlock := h.pl.ne_own h.row
theorem Hm.drew (h : Hm w g b m v l f z) : Hm w.drew g b m v l f z := ⟨h.box, h.row.row.drew, h.pl⟩
theorem Hm.keep (h : Hm w g b m v l f z) (hb : ∀ k, SoF g b v k → w'.heap[k]? = w.heap[k]?) : Hm w' g b m v l f z :=
  ⟨(hb g (.inl rfl)).trans h.box, by
    have hr := h.row
    unfold RowOwn World.ownsRow at hr ⊢
    refine ⟨hr.1, hr.2.imp id ?_⟩
    rintro ⟨q, cap, cur, hv, hq, hh, hx⟩
    exact ⟨q, cap, cur, hv, hq, (hb q (.inr (.inr (by rw [hv]; rfl)))).trans hh, hx⟩, h.pl.blk (hb b (.inr (.inl rfl)))⟩
theorem Hm.lt (h : Hm w g b m v l f z) : ∀ k, SoF g b v k → k < w.heap.size := by
  rintro k (rfl | rfl | hk)
  · exact h.box.lt
  · exact h.pl.lt
  · exact (World.ownsRow.lt h.row.row k hk.symm).2
theorem Hm.rel (h : Hm w g b m v l f z) (hr : Rel w w') : Hm w' g b m v l f z := h.keep fun k hk => hr.2.block k (h.lt k hk)
theorem Hm.form (h : Hm w g b m v l f z) : (v = .slice none 0 0 ∧ l = []) ∨ ∃ q c, v = .slice (some ⟨q, 0, none⟩) l.length c ∧ l.length ≤ c ∧ c ≤ maxLen ∧ q < w.heap.size ∧ (∀ i, i < l.length → w.cell? ⟨q, i * 2, none⟩ = some (.int .i64 (atI l i).1) ∧ w.cell? ⟨q, i * 2 + 1, none⟩ = some (.int .i64 (atI l i).2)) ∧ ∀ j, w.frozen? ⟨q, j, none⟩ = false := by
  have hr := h.row.row
  rcases hr.2 with ⟨rfl, e⟩ | ⟨q, c, cur, rfl, _, hh, hn, hc, hs, ht⟩
  · exact .inl ⟨rfl, List.eq_nil_of_length_eq_zero e⟩
  · refine .inr ⟨q, c, rfl, hn, hc, Bk.lt (t := 36) hh, fun i hi => ?_, fun j => hr.frozenAt j⟩
    have e := fun j (hj : j < 2) => flat_at (cl := clH) (k := 2) (fun _ => rfl) l i hi j hj
    have c0 := hr.cellAt (i * 2 + 0) (by omega)
    have c1 := hr.cellAt (i * 2 + 1) (by omega)
    rw [e 0 (by decide)] at c0
    rw [e 1 (by decide)] at c1
    rw [at_get hi]
    exact ⟨c0, c1⟩
/-- The cells of the item at i. -/
theorem Hm.at {q n c : Nat} (h : Hm w g b m (.slice (some ⟨q, 0, none⟩) n c) l f z) {i : Nat} (hi : i < l.length) {x y : Int} (hx : atI l i = (x, y)) : w.cell? ⟨q, i * 2, none⟩ = some (.int .i64 x) ∧ w.cell? ⟨q, i * 2 + 1, none⟩ = some (.int .i64 y) ∧ w.frozen? ⟨q, i * 2, none⟩ = false ∧ w.frozen? ⟨q, i * 2 + 1, none⟩ = false := by
  rcases h.form with ⟨e, _⟩ | ⟨q', c', e, _, _, _, ha, hf⟩
  · injection e with e; cases e
  · injection e with e e2 e3
    injection e with e
    injection e with e
    subst e
    have := ha i hi
    rw [hx] at this
    exact ⟨this.1, this.2, hf _, hf _⟩
/-- Behind the stores of an item. -/
theorem Hm.put {q n c : Nat} (h : Hm w g b m (.slice (some ⟨q, 0, none⟩) n c) l f z) {i : Nat} (hi : i < l.length) (hn : l.length = n) (x y : Int) :
    Hm ((w.setCell ⟨q, i * 2, none⟩ (.int .i64 x)).setCell ⟨q, i * 2 + 1, none⟩ (.int .i64 y)) g b m (.slice (some ⟨q, 0, none⟩) n c) (l.set i (x, y)) f z ∧ Ke (SoF g b (.slice (some ⟨q, 0, none⟩) n c)) w ((w.setCell ⟨q, i * 2, none⟩ (.int .i64 x)).setCell ⟨q, i * 2 + 1, none⟩ (.int .i64 y)) := by
  have hg : g ≠ q := fun e => h.g_ne (by rw [e]; rfl)
  have hb : b ≠ q := fun e => h.b_row (by rw [e]; rfl)
  have hS : SoF g b (.slice (some ⟨q, 0, none⟩) n c) q := .inr (.inr rfl)
  exact ⟨⟨(h.box.far (p := ⟨q, i * 2, none⟩) hg _).far (p := ⟨q, i * 2 + 1, none⟩) hg _, row_put h.row hi hn (x, y), (h.pl.set (p := ⟨q, i * 2, none⟩) hb _).set (p := ⟨q, i * 2 + 1, none⟩) hb _⟩,
    (Ke.set (p := ⟨q, i * 2, none⟩) hS _).on (Ke.set (p := ⟨q, i * 2 + 1, none⟩) hS _)⟩
theorem Hm.put2 {q n c : Nat} (h : Hm w g b m (.slice (some ⟨q, 0, none⟩) n c) l f z) {i : Nat} (hi : i < l.length) (hn : l.length = n) {k p : Int} (hk : (atI l i).1 = k) :
    Hm (w.setCell ⟨q, i * 2 + 1, none⟩ (.int .i64 p)) g b m (.slice (some ⟨q, 0, none⟩) n c) (l.set i (k, p)) f z ∧ Ke (SoF g b (.slice (some ⟨q, 0, none⟩) n c)) w (w.setCell ⟨q, i * 2 + 1, none⟩ (.int .i64 p)) := by
  have hg : g ≠ q := fun e => h.g_ne (by rw [e]; rfl)
  have hb : b ≠ q := fun e => h.b_row (by rw [e]; rfl)
  have hS : SoF g b (.slice (some ⟨q, 0, none⟩) n c) q := .inr (.inr rfl)
  exact ⟨⟨h.box.far (p := ⟨q, i * 2 + 1, none⟩) hg _, row_put2 h.row hi hn hk, h.pl.set (p := ⟨q, i * 2 + 1, none⟩) hb _⟩, Ke.set (p := ⟨q, i * 2 + 1, none⟩) hS _⟩
/-- Behind a change of the map. -/
theorem Hm.mapped (h : Hm w g b m v l f z) {f' : Int → Option Int} {z' : Nat} (hp : PlAt w' b f' z') (hg : w.grownBy w' (some b)) : Hm w' g b m v l f' z' ∧ Ke (SoF g b v) w w' :=
  ⟨⟨h.box.grown hg (fun e => h.pl.ne h.box (by injection e with e; exact e.symm)), h.row.row.kept hg (by
    cases hv : v.ownBlock with
    | none => exact .inl rfl
    | some k => exact .inr (fun e => h.b_row (by rw [hv, e]))), hp⟩, Ke.grown hg (fun k hk => by injection hk with hk; exact .inr (.inl hk.symm))⟩
end
end Go.Proofs.Ytminmcledbfchaa
