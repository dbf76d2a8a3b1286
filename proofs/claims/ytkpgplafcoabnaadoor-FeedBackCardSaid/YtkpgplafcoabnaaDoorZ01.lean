/- Blocks that are known whole, rows of the call's own, and what is kept of them; Lines of feeds as values; what the laws of layer 12 lean on: what the program is asked; Plain mathematics of layer 6, second part: the law's pieces are tokens; what is no token is none. No program in this text; Tokens in memory, pairs of raw numbers; which tokens are the same; The document's own readings of numbers and amounts (layer 2's), at this seat; The document's own Word, Name and token; The document's own answers of layer 12: number, price, may a line be; The document's own answers of layer 12: a line's fields; A drawn region walked by hand: what is taken first, under a condition that the region keeps; what alone may come up; The document's own answers of layer 12: what a text says; What the laws of layer 12 lean on: the law's awake; A region that draws its order, by what holds behind whatever is done already: one proof for each operation, whatever stands ahead of it; Names as the law of layer 6 makes them; Plain mathematics of layer 7: expressions, their texts, sizes and depths. No program in this text; Plain mathematics of layer 7, third part: what is printed is scanned; how long a text is. No program in this text; Plain mathematics of layer 7, fourth part: what the law makes of raw numbers. -/
import Derived.Test.YtkpgplafcoabnaaDoorZL
import Derived.Test.YtkpgplafcoabnaaDoorZ00
namespace Go.Proofs.YtkpgplafcoabnaaDoor
open Go.RowKit Go.Lib
set_option linter.unusedVariables false
set_option linter.unusedSimpArgs false
theorem block_add (a : Addr) (n : Nat) : (a.add n).block = a.block := by unfold Addr.add; split <;> rfl
/-- Block g is just these cells, none of them frozen. -/
def Bk (w : World) (g : Nat) (t : TypeId) (cs : Array Value) : Prop := w.heap[g]? = some (.cells cs t (0, 0))
theorem Bk.lt {w : World} {g : Nat} {t : TypeId} {cs : Array Value} (h : Bk w g t cs) : g < w.heap.size := by
  rcases Nat.lt_or_ge g w.heap.size with h' | h'
  · exact h'
  · unfold Bk at h; rw [Array.getElem?_eq_none h'] at h; cases h
theorem Bk.cell {w : World} {g : Nat} {t : TypeId} {cs : Array Value} (h : Bk w g t cs) (i : Nat) : w.cell? ⟨g, i, none⟩ = cs[i]? := cell_of_row w g i cs t (0, 0) h
theorem Bk.frozen {w : World} {g : Nat} {t : TypeId} {cs : Array Value} (h : Bk w g t cs) (i : Nat) : w.frozen? ⟨g, i, none⟩ = false := by
  unfold Bk at h; simp [World.frozen?, h]
theorem Bk.new (w : World) (t : TypeId) (cs : Array Value) : Bk (w.alloc (.cells cs t)) w.heap.size t cs := heap_alloc_new w _
theorem Bk.alloc {w : World} {g : Nat} {t : TypeId} {cs : Array Value} (h : Bk w g t cs) (o : Obj) : Bk (w.alloc o) g t cs := (Below.heap_alloc w o g h.lt).trans h
theorem Bk.set_ {w : World} {g : Nat} {t : TypeId} {cs : Array Value} (h : Bk w g t cs) (i : Nat) (u : Value) : Bk (w.setCell ⟨g, i, none⟩ u) g t (cs.setIfInBounds i u) := by
  unfold Bk at h ⊢
  simp [World.setCell, Array.getElem?_modify, h]
theorem Bk.far {w : World} {g : Nat} {t : TypeId} {cs : Array Value} (h : Bk w g t cs) {p : Addr} (hp : g ≠ p.block) (u : Value) : Bk (w.setCell p u) g t cs := (Below.heap_setCell w p u g hp).trans h
theorem Bk.rel {w w' : World} {g : Nat} {t : TypeId} {cs : Array Value} (h : Bk w g t cs) (hr : Rel w w') : Bk w' g t cs := (hr.2.block g h.lt).trans h
theorem Bk.drew {w : World} {g : Nat} {t : TypeId} {cs : Array Value} (h : Bk w g t cs) : Bk w.drew g t cs := h
theorem Bk.ne {w : World} {g g' : Nat} {t t' : TypeId} {cs cs' : Array Value} (h : Bk w g t cs) (h' : Bk w g' t' cs') (hne : t ≠ t') : g ≠ g' := by
  rintro rfl
  unfold Bk at h h'
  rw [h] at h'
  injection h' with h'
  injection h' with _ ht
  exact hne ht
theorem own_rel {w w' : World} {base : Nat} {e : TypeId} {size n : Nat} {v : Value} {xs : List Value} (h : w.ownsRow base e size v n xs) (hr : Rel w w') : w'.ownsRow base e size v n xs :=
  h.kept (row := none) ⟨hr.2.os, hr.2.tape, hr.2.output, hr.2.size, fun k hk _ => hr.2.block k hk⟩ (by cases v.ownBlock <;> simp)
theorem addr_at (g off k : Nat) : (⟨g, off, none⟩ : Addr).add k = ⟨g, off + k, none⟩ := by unfold Addr.add; split <;> simp_all
theorem Bk.put {w : World} {g : Nat} {t : TypeId} {x y : Value} (h : Bk w g t #[x, y]) (a b : Value) : Bk ((w.setCell ⟨g, 0, none⟩ a).setCell ⟨g, 1, none⟩ b) g t #[a, b] :=
  (h.set_ 0 a).set_ 1 b
end Go.Proofs.YtkpgplafcoabnaaDoor

namespace Go.Proofs.YtkpgplafcoabnaaDoor
open Go.RowKit Go.Lib
set_option linter.unusedVariables false
set_option linter.unusedSimpArgs false
abbrev FV (f : Fd) : Value := .agg #[.string (B f.1), .int .i64 f.2.1, .string (B f.2.2.1), .string (B f.2.2.2.1), .int .i64 f.2.2.2.2]
def noFd : Fd := ([], 0, [], [], 0)
def decV (s : List UInt8) : Fd := match decF s with | .ok f => f | .error _ => noFd
def decE (s : List UInt8) : Int := match decF s with | .ok _ => 0 | .error e => e.1
def decN (s : List UInt8) : Int := match decF s with | .ok _ => 0 | .error e => e.2
def encT (f : Fd) : List UInt8 := if rightF f then textF f else []
def encE (f : Fd) : Int := if rightF f then 0 else 1
/-- A line that fits a machine. -/
def FdFit (f : Fd) : Prop := f.1.length ≤ 9223372036854775807 ∧ (-9223372036854775808 ≤ f.2.1 ∧ f.2.1 ≤ 9223372036854775807) ∧ f.2.2.1.length ≤ 9223372036854775807 ∧ f.2.2.2.1.length ≤ 9223372036854775807 ∧ (-9223372036854775808 ≤ f.2.2.2.2 ∧ f.2.2.2.2 ≤ 9223372036854775807)
def FRightOk : Prop := ∀ (f : Fd) (w0 w : World), FdFit f → Rel w0 w → Calls Tryd.prog 13 #[FV f] w fun r w' => r = .returned (.bool (rightF f)) ∧ Rel w0 w'
def FEncOk : Prop := ∀ (f : Fd) (w0 w : World), FdFit f → Rel w0 w → Calls Tryd.prog 11 #[FV f] w fun r w' => r = .returned (.tuple #[.string (B (encT f)), .int .i64 (encE f)]) ∧ Rel w0 w'
def FDecOk : Prop := ∀ (s : List UInt8) (w0 w : World), s.length ≤ 9223372036854775807 → Rel w0 w → Calls Tryd.prog 16 #[.string (B s)] w fun r w' => r = .returned (.tuple #[FV (decV s), .int .i64 (decE s), .int .i64 (decN s)]) ∧ Rel w0 w'
/-- What the program is shown to tell. -/
def FeedOk : Prop := FRightOk ∧ FEncOk ∧ FDecOk
theorem right_fit {f : Fd} (h : rightF f = true) : FdFit f := by
  obtain ⟨h1, h2, h3, h4, h5⟩ := rightF_iff.1 h
  have a := name_len h1
  have b := name_len h2
  have c := name_len h3
  exact ⟨by omega, ⟨by omega, by omega⟩, by omega, by omega, ⟨by omega, by omega⟩⟩
theorem decV_ok {s : List UInt8} {f : Fd} (h : decF s = .ok f) : decV s = f ∧ decE s = 0 ∧ decN s = 0 := by unfold decV decE decN; rw [h]; exact ⟨rfl, rfl, rfl⟩
theorem decV_bad {s : List UInt8} {e : Int × Int} (h : decF s = .error e) : decV s = noFd ∧ decE s = e.1 ∧ decN s = e.2 := by unfold decV decE decN; rw [h]; exact ⟨rfl, rfl, rfl⟩
theorem encT_yes {f : Fd} (h : rightF f = true) : encT f = textF f ∧ encE f = 0 := by unfold encT encE; rw [h]; exact ⟨rfl, rfl⟩
theorem encT_no {f : Fd} (h : rightF f = false) : encT f = [] ∧ encE f = 1 := by unfold encT encE; rw [h]; exact ⟨rfl, rfl⟩
end Go.Proofs.YtkpgplafcoabnaaDoor

namespace Go.Proofs.YtkpgplafcoabnaaDoor
open Go.Lib
set_option linter.unusedVariables false
set_option linter.unusedSimpArgs false
def theNames : List (List UInt8) := [[97], [98,111,98], [108,111,119,101,115], [97,99,109,101,57], [120,49], [101,108,115,101,101]]
def sellerL (k : Int) : List UInt8 := (theNames.getD (k % 6).toNat []) ++ decDigits (k / 6).toNat
theorem dd_one (n : Nat) (h : n < 10) : decDigits n = [UInt8.ofNat (48 + n)] := by rw [decDigits, dif_pos h]
theorem seller_eq (u : Int) (h0 : 0 ≤ u) (h1 : u < 60) : sellerL u = (theNames.getD (u.toNat % 6) []) ++ [UInt8.ofNat (48 + u.toNat / 6)] := by
  unfold sellerL
  rw [show (u % 6).toNat = u.toNat % 6 by omega, show (u / 6).toNat = u.toNat / 6 by omega, dd_one _ (by omega)]
theorem names_len : ∀ i : Fin 6, (theNames.getD i.val []).length ≤ 5 := by decide
end Go.Proofs.YtkpgplafcoabnaaDoor

namespace Go.Proofs.YtkpgplafcoabnaaDoor
open Go.RowKit Go.Lib
set_option linter.unusedVariables false
set_option linter.unusedSimpArgs false
abbrev TK (t : Tok) : Value := .agg #[.int .i64 t.1, .string (B t.2.1), .int .i64 t.2.2.1, .int .i64 t.2.2.2]
def cells4 (t : Tok) : List Value := [.int .i64 t.1, .string (B t.2.1), .int .i64 t.2.2.1, .int .i64 t.2.2.2]
def cellsOf (ts : List Tok) : List Value := ts.flatMap cells4
/-- The cells from A on are these tokens. -/
def ToksAt (w : World) (A : Option Addr) (ts : List Tok) : Prop :=
  ∀ i (h : i < ts.length), ∃ (g off : Nat), A = some ⟨g, off, none⟩ ∧ g < w.heap.size ∧ w.cell? ⟨g, off + i * 4, none⟩ = some (.int .i64 ts[i].1) ∧ w.cell? ⟨g, off + i * 4 + 1, none⟩ = some (.string (B ts[i].2.1)) ∧
    w.cell? ⟨g, off + i * 4 + 2, none⟩ = some (.int .i64 ts[i].2.2.1) ∧ w.cell? ⟨g, off + i * 4 + 3, none⟩ = some (.int .i64 ts[i].2.2.2)
theorem ToksAt.nil (w : World) (A : Option Addr) : ToksAt w A [] := fun i h => absurd h (by simp)
theorem ToksAt.below {w w' : World} {A : Option Addr} {ts : List Tok} (h : ToksAt w A ts) (hb : Below w.heap.size w w') : ToksAt w' A ts := by
  intro i hi
  obtain ⟨g, off, e, hl, h0, h1, h2, h3⟩ := h i hi
  have hk : ∀ j, w'.cell? ⟨g, j, none⟩ = w.cell? ⟨g, j, none⟩ := fun j => hb.cell (p := ⟨g, j, none⟩) hl
  exact ⟨g, off, e, by have := hb.size; omega, by rw [hk]; exact h0, by rw [hk]; exact h1, by rw [hk]; exact h2, by rw [hk]; exact h3⟩
theorem ToksAt.rel {w w' : World} {A : Option Addr} {ts : List Tok} (h : ToksAt w A ts) (hr : Rel w w') : ToksAt w' A ts := h.below hr.2
/-- The cells from A on are these pairs of numbers. -/
def PairsAt (w : World) (A : Option Addr) (zs : List (Int × Int)) : Prop :=
  ∀ i (h : i < zs.length), ∃ (a : Addr), A = some a ∧ a.block < w.heap.size ∧ w.cell? (a.add (i * 2)) = some (.int .i64 zs[i].1) ∧ w.cell? (a.add (i * 2 + 1)) = some (.int .i64 zs[i].2)
theorem PairsAt.below {w w' : World} {A : Option Addr} {zs : List (Int × Int)} (h : PairsAt w A zs) (hb : Below w.heap.size w w') : PairsAt w' A zs := by
  intro i hi
  obtain ⟨a, e, hl, h0, h1⟩ := h i hi
  have hk : ∀ j, w'.cell? (a.add j) = w.cell? (a.add j) := fun j => hb.cell (p := a.add j) (by rw [block_add]; exact hl)
  exact ⟨a, e, by have := hb.size; omega, by rw [hk]; exact h0, by rw [hk]; exact h1⟩
theorem PairsAt.rel {w w' : World} {A : Option Addr} {zs : List (Int × Int)} (h : PairsAt w A zs) (hr : Rel w w') : PairsAt w' A zs := h.below hr.2
end Go.Proofs.YtkpgplafcoabnaaDoor

namespace Go.Proofs.YtkpgplafcoabnaaDoor
open Go.RowKit Go.Lib
set_option linter.unusedVariables false
set_option linter.unusedSimpArgs false
def num (n : Int) : ByteArray := B (itoa n)
def tx (a : Int) : ByteArray := B (txt a)
theorem num_pos (n : Int) (h : 0 ≤ n) : num n = B (decDigits n.toNat) := by unfold num itoa; rw [if_neg (by omega)]
theorem num_size (n : Int) (h : 0 ≤ n) (h' : n ≤ 9223372036854775807) : (num n).size ≤ 19 := by rw [num_pos n h]; exact dd_size n h'
theorem tx_parts (a : Int) (h : 0 ≤ a) (h' : a ≤ 1000000000000) : B (decDigits (a / 100).toNat) ++ (⟨#[46]⟩ : ByteArray) ++ B (decDigits (a / 10 % 10).toNat) ++ B (decDigits (a % 10).toNat) = tx a := by
  have e : (⟨#[46]⟩ : ByteArray) = B [46] := rfl
  rw [e, B_append, B_append, B_append]
  unfold tx txt
  rw [rt_yes (by omega) h', if_pos rfl, if_neg (by omega)]
  unfold pos
  rw [show (a / 100).toNat = a.natAbs / 100 by omega, show (a / 10 % 10).toNat = a.natAbs / 10 % 10 by omega, show (a % 10).toNat = a.natAbs % 10 by omega]
  simp
theorem drop_step (s : ByteArray) (pos : Nat) (h : pos < s.size) : s.data.toList.drop pos = (s[pos]'h) :: s.data.toList.drop (pos + 1) := by
  rw [List.drop_eq_getElem_cons (by simpa using h)]
  rfl
theorem drop_end (s : ByteArray) (pos : Nat) (h : ¬ pos < s.size) : s.data.toList.drop pos = [] := by
  apply List.drop_eq_nil_of_le
  have : s.data.toList.length = s.size := by simp
  omega
theorem B_zero (c : UInt8) (t : List UInt8) (h : 0 < (B (c :: t)).size) : (B (c :: t))[0]'h = c := rfl
end Go.Proofs.YtkpgplafcoabnaaDoor

namespace Go.Proofs.YtkpgplafcoabnaaDoor
open Go.RowKit Go.Lib
set_option linter.unusedVariables false
set_option linter.unusedSimpArgs false
theorem list_of {a b : ByteArray} : (a.toList == b.toList) = true ↔ a = b := by
  rw [beq_iff_eq]
  have e1 := B_toList a.data.toList
  have e2 := B_toList b.data.toList
  rw [B_of] at e1 e2
  rw [e1, e2]
  constructor
  · intro h; rw [← B_of a, h, B_of]
  · intro h; rw [h]
theorem list_ne {a b : ByteArray} (h : a ≠ b) : (a.toList == b.toList) = false := by
  cases e : (a.toList == b.toList)
  · rfl
  · exact absurd (list_of.1 e) h
theorem word_yes {s : ByteArray} {j : Nat} (hj : j < 11) (h : B (theWords.getD j []) = s) : isWord s.data.toList = true := by
  unfold isWord
  rw [List.any_eq_true]
  have hl : theWords.length = 11 := rfl
  refine ⟨theWords.getD j [], ?_, ?_⟩
  · rw [List.getD_eq_getElem?_getD, List.getElem?_eq_getElem (by omega)]; exact List.getElem_mem _
  · rw [← h, B_list]; simp
theorem word_no {s : ByteArray} (h : ∀ j < 11, B (theWords.getD j []) ≠ s) : isWord s.data.toList = false := by
  unfold isWord
  rw [List.any_eq_false]
  intro x hx
  obtain ⟨j, hj, rfl⟩ := List.getElem_of_mem hx
  have hl : theWords.length = 11 := rfl
  intro he
  refine h j (by omega) ?_
  rw [List.getD_eq_getElem?_getD, List.getElem?_eq_getElem hj]
  have he' : theWords[j] = s.data.toList := by simpa using he
  show B theWords[j] = s
  rw [he', B_of]
theorem B_cons_size (c : UInt8) (t : List UInt8) : (B (c :: t)).size = t.length + 1 := by rw [B_size]; rfl
def LD (c : UInt8) : Bool := isL c || isD c
theorem name_eq (c : UInt8) (t : List UInt8) : isName (c :: t) = (decide (t.length + 1 ≤ 12) && isL c && !isWord (c :: t) && (c :: t).all LD) := by
  unfold isName LD; simp
theorem all_bad {l : List UInt8} (j : Nat) (h : j < l.length) (hx : LD l[j] = false) : l.all LD = false := by
  rw [List.all_eq_false]
  exact ⟨l[j], List.getElem_mem h, by simp [hx]⟩
theorem all_more {l : List UInt8} (j : Nat) (h : j < l.length) (ha : (l.take j).all LD = true) (hx : LD l[j] = true) : (l.take (j + 1)).all LD = true := by
  rw [List.take_succ_eq_append_getElem h, List.all_append, ha]; simp [hx]
/-- What a run of parts is told as, at p. -/
def TokPost (l : List UInt8) (p : Int) (e : Ending) : Prop :=
  (∃ k n, tokOf l = some (k, n) ∧ e = .returned (.tuple #[TK (k, l, n, p), .bool true])) ∨ (tokOf l = none ∧ ∃ t, e = .returned (.tuple #[TK t, .bool false]))
end Go.Proofs.YtkpgplafcoabnaaDoor

namespace Go.Proofs.YtkpgplafcoabnaaDoor
open Go.RowKit Go.Lib
set_option linter.unusedVariables false
set_option linter.unusedSimpArgs false
theorem five_of {w : World} {g : Nat} {t : TypeId} {a b c d e : Value} (h : Bk w g t #[a, b, c, d, e]) :
    (w.cell? ⟨g, 0, none⟩ = some a ∧ w.cell? ⟨g, 1, none⟩ = some b ∧ w.cell? ⟨g, 2, none⟩ = some c ∧ w.cell? ⟨g, 3, none⟩ = some d ∧ w.cell? ⟨g, 4, none⟩ = some e) ∧ (w.frozen? ⟨g, 0, none⟩ = false ∧ w.frozen? ⟨g, 1, none⟩ = false ∧ w.frozen? ⟨g, 2, none⟩ = false ∧ w.frozen? ⟨g, 3, none⟩ = false ∧ w.frozen? ⟨g, 4, none⟩ = false) :=
  ⟨⟨h.cell 0, h.cell 1, h.cell 2, h.cell 3, h.cell 4⟩, ⟨h.frozen 0, h.frozen 1, h.frozen 2, h.frozen 3, h.frozen 4⟩⟩
end Go.Proofs.YtkpgplafcoabnaaDoor

namespace Go.Proofs.YtkpgplafcoabnaaDoor
open Go.RowKit Go.Lib
set_option linter.unusedVariables false
set_option linter.unusedSimpArgs false
/-- Fields, of what is left of a line behind the start of one. -/
def fieldsG (acc : List UInt8) : List UInt8 → List (List UInt8)
  | [] => [acc]
  | c :: t => if c = 32 then acc :: fieldsG [] t else fieldsG (acc ++ [c]) t
theorem fieldsG_eq (s : List UInt8) : ∀ acc, fieldsG acc s = match fieldsF s with | x :: r => (acc ++ x) :: r | [] => [] := by
  induction s with
  | nil => intro acc; simp [fieldsG, fieldsF]
  | cons c t ih =>
    intro acc
    unfold fieldsG fieldsF
    by_cases h : c = 32
    · rw [if_pos h, if_pos h, ih []]
      simp only [List.append_nil]
      congr 1
      cases hf : fieldsF t with
      | nil => exact absurd hf (fields_ne t)
      | cons x r => simp
    · rw [if_neg h, if_neg h, ih]
      cases hf : fieldsF t with
      | nil => exact absurd hf (fields_ne t)
      | cons x r => simp
theorem fieldsG_nil (s : List UInt8) : fieldsG [] s = fieldsF s := by
  rw [fieldsG_eq]
  cases hf : fieldsF s with
  | nil => exact absurd hf (fields_ne s)
  | cons x r => simp
/-- The fields so far, at place i of the line, a field's start at f. -/
def FI (s : List UInt8) (i f : Nat) (out : List (List UInt8)) : Prop := (i ≤ s.length ∧ f ≤ i ∧ out ++ fieldsG ((s.drop f).take (i - f)) (s.drop i) = fieldsF s) ∨ (i = s.length + 1 ∧ out = fieldsF s)
theorem FI.start (s : List UInt8) : FI s 0 0 [] := .inl ⟨Nat.zero_le _, Nat.le_refl _, by simp [fieldsG_nil]⟩
theorem FI.cut {s : List UInt8} {i f : Nat} {out : List (List UInt8)} (h : FI s i f out) (hi : i < s.length) (hc : s[i] = 32) : FI s (i + 1) (i + 1) (out ++ [(s.drop f).take (i - f)]) := by
  rcases h with ⟨h1, h2, h3⟩ | ⟨h1, _⟩
  · refine .inl ⟨hi, Nat.le_refl _, ?_⟩
    rw [List.drop_eq_getElem_cons hi, fieldsG, if_pos hc] at h3
    rw [← h3]
    simp
  · omega
/-- A row of texts of the call's own. -/
def SlOwn (w : World) (base : Nat) (v : Value) (l : List (List UInt8)) : Prop := w.ownsRow base 9 1 v l.length (l.map fun x => .string (B x))
theorem SlOwn.row {w : World} {base : Nat} {v : Value} {l : List (List UInt8)} (h : SlOwn w base v l) : w.ownsRow base 9 1 v l.length (l.map fun x => .string (B x)) := h
theorem SlOwn.nil (w : World) (base : Nat) : SlOwn w base (.slice none 0 0) [] := World.ownsRow_nil _ _ _ _
theorem SlOwn.rel {w w' : World} {base : Nat} {v : Value} {l : List (List UInt8)} (h : SlOwn w base v l) (hr : Rel w w') : SlOwn w' base v l := own_rel h hr
theorem SlOwn.at {w : World} {base : Nat} {A : Option Addr} {n c : Nat} {l : List (List UInt8)} (h : SlOwn w base (.slice A n c) l) (i : Nat) (hi : i < l.length) : ∃ g, A = some ⟨g, 0, none⟩ ∧ g < w.heap.size ∧ base ≤ g ∧ w.cell? ⟨g, i, none⟩ = some (.string (B l[i])) := by
  have h' := h.row
  rcases h.2 with ⟨h0, h1⟩ | ⟨g, cap, cur, hv, hb, hh, _⟩
  · omega
  · have hA : A = some ⟨g, 0, none⟩ := by injection hv
    have hc := h'.cells (g := g) (by rw [hA]; rfl) i (.string (B l[i])) (by rw [List.getElem?_map, List.getElem?_eq_getElem hi]; rfl)
    rw [addr_at, Nat.zero_add] at hc
    exact ⟨g, hA, Bk.lt (t := 9) hh, hb, hc⟩
end Go.Proofs.YtkpgplafcoabnaaDoor

namespace Go.Proofs.YtkpgplafcoabnaaDoor
open Go
set_option linter.unusedVariables false
set_option linter.unusedSimpArgs false
section
variable {P : Program} {ops : Array Oper} {Q : Exit → Act → World → Prop} {md : Region.Mode} {S : World → Prop}
theorem held_take {i : Nat} {oi : Oper} {v : Value} (d : Option Tmp) {fuel : Nat} {listed : Array Bool} {a : Act} {w : World} (hi : ops[i]? = some oi) (hd : oi.dst = d)
    (hs : Region.noSelect ops = true) (hf : Region.free md ops listed i = true) (hr : (Region.ready md ops listed).contains i = true)
    (hQ : ∀ c a w, Q (.panic c) (a.put d v) w → Q (.panic c) a w) (hy : YieldsIf P ops S oi v a) (hS : S w)
    (h : wpAnyH P md ops Q S fuel (listed.setIfInBounds i true) (a.put d v) w) : wpAnyH P md ops Q S (fuel + 1) listed a w := by
  subst hd
  exact wpAnyH_take hi hs hf hr hQ hy hS h
theorem held_one {j : Nat} {o : Oper} {fuel : Nat} {listed : Array Bool} {a : Act} {w : World} (hr : Region.ready md ops listed = [j]) (ho : ops[j]? = some o)
    (h : ∀ K' : Act → World → Prop, Shut (∀ a w, S w → (S w → wpAnyH P md ops Q S fuel (listed.setIfInBounds j true) a w) → K' a w) → if Region.wanted o (yielded ops a.tmps) = true then Oper.wp P o a w K' Q else K' (a.put o.dst undef) w) : wpAnyH P md ops Q S (fuel + 1) listed a w :=
  wpAnyH_ready hr (by simp) (AllReadyH.cons ho h AllReadyH.nil)
theorem held_two {j k : Nat} {o o' : Oper} {fuel : Nat} {listed : Array Bool} {a : Act} {w : World} (hr : Region.ready md ops listed = [j, k]) (ho : ops[j]? = some o) (ho' : ops[k]? = some o')
    (h : ∀ K' : Act → World → Prop, Shut (∀ a w, S w → (S w → wpAnyH P md ops Q S fuel (listed.setIfInBounds j true) a w) → K' a w) → if Region.wanted o (yielded ops a.tmps) = true then Oper.wp P o a w K' Q else K' (a.put o.dst undef) w)
    (h' : ∀ K' : Act → World → Prop, Shut (∀ a w, S w → (S w → wpAnyH P md ops Q S fuel (listed.setIfInBounds k true) a w) → K' a w) → if Region.wanted o' (yielded ops a.tmps) = true then Oper.wp P o' a w K' Q else K' (a.put o'.dst undef) w) : wpAnyH P md ops Q S (fuel + 1) listed a w :=
  wpAnyH_ready hr (by simp) (AllReadyH.cons ho h (AllReadyH.cons ho' h' AllReadyH.nil))
end
end Go.Proofs.YtkpgplafcoabnaaDoor

namespace Go.Proofs.YtkpgplafcoabnaaDoor
open Go.RowKit Go.Lib
set_option linter.unusedVariables false
set_option linter.unusedSimpArgs false
theorem Bk.put5 {w : World} {g : Nat} {t : TypeId} {x0 x1 x2 x3 x4 : Value} (h : Bk w g t #[x0, x1, x2, x3, x4]) (a b c d e : Value) : Bk (((((w.setCell ⟨g, 0, none⟩ a).setCell ⟨g, 1, none⟩ b).setCell ⟨g, 2, none⟩ c).setCell ⟨g, 3, none⟩ d).setCell ⟨g, 4, none⟩ e) g t #[a, b, c, d, e] :=
  ((((h.set_ 0 a).set_ 1 b).set_ 2 c).set_ 3 d).set_ 4 e
theorem Rel.put5 {w0 w : World} (h : Rel w0 w) {g : Nat} (hg : w0.heap.size ≤ g) (a b c d e : Value) : Rel w0 (((((w.setCell ⟨g, 0, none⟩ a).setCell ⟨g, 1, none⟩ b).setCell ⟨g, 2, none⟩ c).setCell ⟨g, 3, none⟩ d).setCell ⟨g, 4, none⟩ e) :=
  ((((h.setCell (p := ⟨g, 0, none⟩) hg a).setCell (p := ⟨g, 1, none⟩) hg b).setCell (p := ⟨g, 2, none⟩) hg c).setCell (p := ⟨g, 3, none⟩) hg d).setCell (p := ⟨g, 4, none⟩) hg e
theorem field_len (s : List UInt8) : ∀ x ∈ fieldsF s, x.length ≤ s.length := by
  induction s with
  | nil => intro x hx; simp only [fieldsF, List.mem_singleton] at hx; subst hx; exact Nat.le_refl _
  | cons c t ih =>
    intro x hx
    unfold fieldsF at hx
    by_cases h : c = 32
    · rw [if_pos h] at hx
      rcases List.mem_cons.1 hx with rfl | hx
      · exact Nat.zero_le _
      · have := ih x hx; simp only [List.length_cons]; omega
    · rw [if_neg h] at hx
      cases hf : fieldsF t with
      | nil => exact absurd hf (fields_ne t)
      | cons y r =>
        rw [hf] at hx ih
        rcases List.mem_cons.1 hx with rfl | hx
        · have := ih y (by simp); simp only [List.length_cons]; omega
        · have := ih x (by simp [hx]); simp only [List.length_cons]; omega
def DecPost (w0 : World) (s : List UInt8) (r : Ending) (w' : World) : Prop := r = .returned (.tuple #[FV (decV s), .int .i64 (decE s), .int .i64 (decN s)]) ∧ Rel w0 w'
end Go.Proofs.YtkpgplafcoabnaaDoor

namespace Go.Proofs.YtkpgplafcoabnaaDoor
open Go.RowKit Go.Lib
set_option linter.unusedVariables false
set_option linter.unusedSimpArgs false
def fA : Fd := ([97, 99, 109, 101], 7, [109, 117, 103], [98, 111, 98], 499)
def fB : Fd := ([97, 99, 109, 101], 8, [109, 117, 103], [98, 111, 98], 0)
def sA : List UInt8 := [97, 99, 109, 101, 32, 55, 32, 109, 117, 103, 32, 98, 111, 98, 32, 52, 46, 57, 57]
def sB : List UInt8 := [97, 99, 109, 101, 32, 56, 32, 109, 117, 103, 32, 98, 111, 98, 32, 103, 111, 110, 101]
def sC : List UInt8 := [97, 99, 109, 101, 32, 48, 55, 32, 109, 117, 103, 32, 105, 102, 32, 52, 46, 57, 57]
def sD : List UInt8 := [97, 99, 109, 101]
set_option maxRecDepth 100000 in
theorem fA_right : rightF fA = true := by decide
set_option maxRecDepth 100000 in
theorem noFd_right : rightF noFd = false := by decide
set_option maxRecDepth 100000 in
theorem dec_sA : decF sA = .ok fA := by rfl
set_option maxRecDepth 100000 in
theorem dec_sB : decF sB = .ok fB := by rfl
set_option maxRecDepth 100000 in
theorem dec_sC : decF sC = .error (112, 1) := by rfl
set_option maxRecDepth 100000 in
theorem dec_sD : decF sD = .error (111, 0) := by rfl
theorem text_fA : textF fA = sA := (dec_ok dec_sA).2
theorem dec_as (H : FeedOk) (s : List UInt8) (t : ByteArray) (ht : t = B s) (f : Fd) (e n : Int) (hv : decV s = f ∧ decE s = e ∧ decN s = n) (v : Value) (hf : FV f = v) (hl : s.length ≤ 9223372036854775807) (w0 w : World) (hr : Rel w0 w) :
    Calls Tryd.prog 16 #[.string t] w fun r w' => r = .returned (.tuple #[v, .int .i64 e, .int .i64 n]) ∧ Rel w0 w' := by
  have h := H.2.2 s w0 w hl hr
  rw [hv.1, hv.2.1, hv.2.2, hf] at h
  subst ht
  exact h
set_option maxRecDepth 100000 in
set_option maxHeartbeats 4000000 in
theorem awake12_any (H : FeedOk) (w0 w : World) (hr : Rel w0 w) :
    Calls Tryd.prog 9 #[] w fun e w' => e = .returned (.bool true) ∧ Rel w0 w' := by
  have H1 := Lib.hid (show ∀ W : World, Rel w0 W → Calls Tryd.prog 16 #[.string ⟨#[97, 99, 109, 101, 32, 55, 32, 109, 117, 103, 32, 98, 111, 98, 32, 52, 46, 57, 57]⟩] W fun r w' => r = .returned (.tuple #[.agg #[.string ⟨#[97, 99, 109, 101]⟩, .int .i64 7, .string ⟨#[109, 117, 103]⟩, .string ⟨#[98, 111, 98]⟩, .int .i64 499], .int .i64 0, .int .i64 0]) ∧ Rel W w' from fun W hW => dec_as H sA _ rfl fA 0 0 (decV_ok dec_sA) _ rfl (by decide) W W hW.self)
  have H2 := Lib.hid (show ∀ W : World, Rel w0 W → Calls Tryd.prog 16 #[.string ⟨#[97, 99, 109, 101, 32, 56, 32, 109, 117, 103, 32, 98, 111, 98, 32, 103, 111, 110, 101]⟩] W fun r w' => r = .returned (.tuple #[.agg #[.string ⟨#[97, 99, 109, 101]⟩, .int .i64 8, .string ⟨#[109, 117, 103]⟩, .string ⟨#[98, 111, 98]⟩, .int .i64 0], .int .i64 0, .int .i64 0]) ∧ Rel W w' from fun W hW => dec_as H sB _ rfl fB 0 0 (decV_ok dec_sB) _ rfl (by decide) W W hW.self)
  have H3 := Lib.hid (show ∀ W : World, Rel w0 W → Calls Tryd.prog 16 #[.string ⟨#[97, 99, 109, 101, 32, 48, 55, 32, 109, 117, 103, 32, 105, 102, 32, 52, 46, 57, 57]⟩] W fun r w' => r = .returned (.tuple #[.agg #[.string ⟨#[]⟩, .int .i64 0, .string ⟨#[]⟩, .string ⟨#[]⟩, .int .i64 0], .int .i64 112, .int .i64 1]) ∧ Rel W w' from fun W hW => dec_as H sC _ rfl noFd 112 1 (decV_bad dec_sC) _ rfl (by decide) W W hW.self)
  have H4 := Lib.hid (show ∀ W : World, Rel w0 W → Calls Tryd.prog 16 #[.string ⟨#[97, 99, 109, 101]⟩] W fun r w' => r = .returned (.tuple #[.agg #[.string ⟨#[]⟩, .int .i64 0, .string ⟨#[]⟩, .string ⟨#[]⟩, .int .i64 0], .int .i64 111, .int .i64 0]) ∧ Rel W w' from fun W hW => dec_as H sD _ rfl noFd 111 0 (decV_bad dec_sD) _ rfl (by decide) W W hW.self)
  have H5 := Lib.hid (show ∀ W : World, Rel w0 W → Calls Tryd.prog 11 #[.agg #[.string ⟨#[97, 99, 109, 101]⟩, .int .i64 7, .string ⟨#[109, 117, 103]⟩, .string ⟨#[98, 111, 98]⟩, .int .i64 499]] W fun r w' => r = .returned (.tuple #[.string ⟨#[97, 99, 109, 101, 32, 55, 32, 109, 117, 103, 32, 98, 111, 98, 32, 52, 46, 57, 57]⟩, .int .i64 0]) ∧ Rel W w' from fun W hW => by
    have h := H.2.1 fA W W (right_fit fA_right) hW.self
    rw [(encT_yes fA_right).1, (encT_yes fA_right).2, text_fA] at h
    exact h)
  have H6 := Lib.hid (show ∀ W : World, Rel w0 W → Calls Tryd.prog 13 #[.agg #[.string ⟨#[97, 99, 109, 101]⟩, .int .i64 7, .string ⟨#[109, 117, 103]⟩, .string ⟨#[98, 111, 98]⟩, .int .i64 499]] W fun r w' => r = .returned (.bool true) ∧ Rel W w' from fun W hW => by
    have h := H.1 fA W W (right_fit fA_right) hW.self
    rw [fA_right] at h
    exact h)
  have H7 := Lib.hid (show ∀ W : World, Rel w0 W → Calls Tryd.prog 13 #[.agg #[.string ⟨#[]⟩, .int .i64 0, .string ⟨#[]⟩, .string ⟨#[]⟩, .int .i64 0]] W fun r w' => r = .returned (.bool false) ∧ Rel W w' from fun W hW => by
    have h := H.1 noFd W W (by unfold FdFit noFd; decide) hW.self
    rw [noFd_right] at h
    exact h)
  have HR := Lib.hid hr
  clear hr H
  go_enter Tryd.func9, Tryd.ntmps9
  go_wp2_with (first
    | (go_at_call 16; (with_reducible refine (H1.out _ HR.out).mono ?_); rintro e w1 ⟨rfl, h1⟩; have R1 := Lib.hid (HR.out.trans h1); have X1 := Lib.hid (Bk.new w1 23 #[.string ⟨#[97, 99, 109, 101]⟩, .int .i64 7, .string ⟨#[109, 117, 103]⟩, .string ⟨#[98, 111, 98]⟩, .int .i64 499]); clear h1)
    | (go_at_call 16; (with_reducible refine (H2.out _ (R1.out.alloc _)).mono ?_); rintro e w2 ⟨rfl, h2⟩; have R2 := Lib.hid ((R1.out.alloc _).trans h2); have X2 := Lib.hid (X1.out.rel h2); have Y2 := Lib.hid (Bk.new w2 23 #[.string ⟨#[97, 99, 109, 101]⟩, .int .i64 8, .string ⟨#[109, 117, 103]⟩, .string ⟨#[98, 111, 98]⟩, .int .i64 0]); clear h2)
    | (go_at_call 16; (with_reducible refine (H3.out _ (R2.out.alloc _)).mono ?_); rintro e w3 ⟨rfl, h3⟩; have R3 := Lib.hid ((R2.out.alloc _).trans h3); have X3 := Lib.hid ((X2.out.alloc (.cells #[.string ⟨#[97, 99, 109, 101]⟩, .int .i64 8, .string ⟨#[109, 117, 103]⟩, .string ⟨#[98, 111, 98]⟩, .int .i64 0] 23)).rel h3); have Y3 := Lib.hid (Y2.out.rel h3); clear h3)
    | (go_at_call 16; (with_reducible refine (H4.out _ (R3.out.alloc _)).mono ?_); rintro e w4 ⟨rfl, h4⟩; have R4 := Lib.hid ((R3.out.alloc _).trans h4); have X4 := Lib.hid (((X3.out.alloc (.cells #[.string ⟨#[]⟩, .int .i64 0, .string ⟨#[]⟩, .string ⟨#[]⟩, .int .i64 0] 23)).rel h4).alloc (.cells #[.string ⟨#[]⟩, .int .i64 0, .string ⟨#[]⟩, .string ⟨#[]⟩, .int .i64 0] 23)); have Y4 := Lib.hid (((Y3.out.alloc (.cells #[.string ⟨#[]⟩, .int .i64 0, .string ⟨#[]⟩, .string ⟨#[]⟩, .int .i64 0] 23)).rel h4).alloc (.cells #[.string ⟨#[]⟩, .int .i64 0, .string ⟨#[]⟩, .string ⟨#[]⟩, .int .i64 0] 23)); clear h4; obtain ⟨⟨x0, x1, x2, x3, x4⟩, _⟩ := five_of X4.out; obtain ⟨⟨y0, y1, y2, y3, y4⟩, _⟩ := five_of Y4.out)
    | (go_at_call 11; (with_reducible refine (H5.out _ (R4.out.alloc _)).mono ?_); rintro e w5 ⟨rfl, h5⟩; have R5 := Lib.hid ((R4.out.alloc _).trans h5); obtain ⟨⟨x0, x1, x2, x3, x4⟩, _⟩ := five_of (X4.out.rel h5); obtain ⟨⟨y0, y1, y2, y3, y4⟩, _⟩ := five_of (Y4.out.rel h5); have X5 := Lib.hid (X4.out.rel h5); clear h5)
    | (go_at_call 13; (with_reducible refine (H6.out _ R5.out).mono ?_); rintro e w6 ⟨rfl, h6⟩; have R6 := Lib.hid (R5.out.trans h6); clear h6)
    | (go_at_call 13; (with_reducible refine (H7.out _ R6.out).mono ?_); rintro e w7 ⟨rfl, h7⟩; have R7 := Lib.hid (R6.out.trans h7)))
  go_ret
  exact ⟨rfl, R7.out⟩
end Go.Proofs.YtkpgplafcoabnaaDoor

namespace Go.Proofs.YtkpgplafcoabnaaDoor
open Go
set_option linter.unusedVariables false
set_option linter.unusedSimpArgs false
section
variable {P : Program} {ops : Array Oper} {Q : Exit → Act → World → Prop} {md : Region.Mode}
/-- How many are still to come. -/
def leftB (l : Array Bool) : Nat := l.toList.countP (fun b => !b)
theorem leftB_set {l : Array Bool} {i : Nat} (h : l.getD i true = false) : leftB (l.setIfInBounds i true) + 1 = leftB l := by
  have hi : i < l.size := by
    rcases Nat.lt_or_ge i l.size with h' | h'
    · exact h'
    · rw [Array.getD_eq_getD_getElem?, Array.getElem?_eq_none h'] at h; cases h
  have hv : l.toList[i]'(by simpa using hi) = false := by
    rw [Array.getD_eq_getD_getElem?, Array.getElem?_eq_getElem hi] at h
    simpa using h
  unfold leftB
  rw [Array.toList_setIfInBounds, List.countP_set (by simpa using hi), hv]
  have hp : 0 < l.toList.countP (fun b => !b) := List.countP_pos_iff.2 ⟨false, by rw [← hv]; exact List.getElem_mem _, rfl⟩
  simp only [Bool.not_false, Bool.not_true, if_true, Bool.false_eq_true, if_false]
  omega
theorem ready_nil {l : Array Bool} (h : leftB l = 0) : Region.ready md ops l = [] := by
  cases hr : Region.ready md ops l with
  | nil => rfl
  | cons j t =>
    have hj : j ∈ Region.ready md ops l := by rw [hr]; simp
    have := leftB_set (mem_ready.1 hj).1
    omega
theorem wpAny_inv (I : Array Bool → Act → World → Prop) (hstep : ∀ l a w i, I l a w → i ∈ Region.ready md ops l → wpOp P ops Q i (fun a' w' => I (l.setIfInBounds i true) a' w') a w) (hdone : ∀ l a w, I l a w → Region.ready md ops l = [] → Q .normal a w) :
    ∀ (fuel : Nat) (l : Array Bool) (a : Act) (w : World), leftB l ≤ fuel → I l a w → wpAny P md ops Q fuel l a w := by
  intro fuel
  induction fuel with
  | zero =>
    intro l a w hl hI
    have hr : Region.ready md ops l = [] := ready_nil (by omega)
    exact ⟨hr, hdone l a w hI hr⟩
  | succ fuel ih =>
    intro l a w hl hI
    refine ⟨fun hr => hdone l a w hI hr, fun i hi => ?_⟩
    have h1 := leftB_set (mem_ready.1 hi).1
    exact wpOp_mono (fun a' w' h => ih _ a' w' (by omega) h) (hstep l a w i hI hi)
theorem leftB_new (n : Nat) : leftB (Array.replicate n false) = n := by
  unfold leftB
  rw [Array.toList_replicate]
  simp [List.countP_replicate]
/-- Which operation j waits for i itself (as Region.ready asks). -/
def needsB (md : Region.Mode) (ops : Array Oper) (j i : Nat) : Bool := ((ops[j]?).map fun o => o.after.any fun e => Region.binds md e && (e.on == i)).getD false
theorem ready_need {l : Array Bool} {i j : Nat} (h : i ∈ Region.ready md ops l) (hn : needsB md ops i j = true) : l.getD j false = true := by
  obtain ⟨_, o, ho, h3⟩ := mem_ready.1 h
  unfold needsB at hn
  rw [ho] at hn
  simp only [Option.map_some, Option.getD_some] at hn
  obtain ⟨e, he, h4⟩ := Array.any_eq_true'.1 hn
  rw [Bool.and_eq_true] at h4
  have := h3 e he h4.1
  rw [beq_iff_eq.1 h4.2] at this
  exact this
theorem wpOp_shut {i : Nat} {o : Oper} {K : Act → World → Prop} {a : Act} {w : World} (ho : ops[i]? = some o)
    (h : ∀ K' : Act → World → Prop, Shut (∀ a w, K a w → K' a w) → if Region.wanted o (yielded ops a.tmps) = true then Oper.wp P o a w K' Q else K' (a.put o.dst undef) w) : wpOp P ops Q i K a w :=
  wpOp_step ho (fun K' hK => h K' hK)
/-- Each edge leads to a lower number. -/
def downB (ops : Array Oper) : Bool := (List.range ops.size).all fun i => ((ops[i]?).map fun o => o.after.all fun e => decide (e.on < i)).getD true
theorem ready_ne (hd : downB ops = true) {l : Array Bool} (hl : l.size = ops.size) : ∀ k j, j < k → j < ops.size → l.getD j true = false → Region.ready md ops l ≠ [] := by
  intro k
  induction k with
  | zero => intro j hj; omega
  | succ k ih =>
    intro j hj hjs hu
    by_cases hall : ∀ e ∈ (ops[j]'hjs).after, Region.binds md e = true → l.getD e.on false = true
    · intro he
      have : j ∈ Region.ready md ops l := mem_ready.2 ⟨hu, _, Array.getElem?_eq_getElem hjs, hall⟩
      rw [he] at this; cases this
    · simp only [Classical.not_forall] at hall
      obtain ⟨e, he, hb, hn⟩ := hall
      have h1 := List.all_eq_true.1 hd j (List.mem_range.2 hjs)
      rw [Array.getElem?_eq_getElem hjs] at h1
      simp only [Option.map_some, Option.getD_some] at h1
      have h2 := of_decide_eq_true (Array.all_eq_true_iff_forall_mem.1 h1 e he)
      refine ih e.on (by omega) (by omega) ?_
      have hs : e.on < l.size := by omega
      rw [Array.getD_eq_getD_getElem?, Array.getElem?_eq_getElem hs, Option.getD_some] at hn ⊢
      simpa using hn
theorem leftB_zero {l : Array Bool} (h : ∀ j, j < l.size → l.getD j false = true) : leftB l = 0 := by
  unfold leftB
  rw [List.countP_eq_zero]
  intro b hb
  obtain ⟨j, hj, rfl⟩ := List.getElem_of_mem hb
  have := h j (by simpa using hj)
  rw [Array.getD_eq_getD_getElem?, Array.getElem?_eq_getElem (by simpa using hj), Option.getD_some] at this
  simp only [Array.getElem_toList, this, Bool.not_true, Bool.false_eq_true, not_false_eq_true]
theorem getD_set {l : Array Bool} {i j : Nat} {d : Bool} (h : j ≠ i) : (l.setIfInBounds i true).getD j d = l.getD j d := by
  simp [Array.getD_eq_getD_getElem?, Array.getElem?_setIfInBounds, Ne.symm h]
theorem getD_own {l : Array Bool} {i : Nat} (h : i < l.size) : (l.setIfInBounds i true).getD i false = true := by
  simp [Array.getD_eq_getD_getElem?, Array.getElem?_setIfInBounds, h]
theorem getD_true {l : Array Bool} {j : Nat} (h : l.getD j false = true) : l.getD j true = true := by
  rw [Array.getD_eq_getD_getElem?] at h ⊢
  cases hj : l[j]? with
  | none => rfl
  | some b => rw [hj] at h; exact h
/-- As wpAny_inv, where one operation waits for all others, and what holds behind it is what is wanted. -/
theorem wpAny_last (n z : Nat) (I : Array Bool → Act → World → Prop) (hsz : ops.size = n) (hd : downB ops = true) (hz : z < n) (hall : ((List.range n).all fun j => j == z || needsB md ops z j) = true)
    (hstep : ∀ i l a w, i < n → i ≠ z → l.size = n → I l a w → i ∈ Region.ready md ops l → wpOp P ops Q i (fun a' w' => I (l.setIfInBounds i true) a' w') a w)
    (hlast : ∀ l a w, I l a w → (∀ j, j < n → j ≠ z → l.getD j false = true) → wpOp P ops Q z (fun a' w' => Q .normal a' w') a w) (a : Act) (w : World) (h0 : I (Array.replicate n false) a w) :
    wpAny P md ops Q n (Array.replicate n false) a w := by
  refine wpAny_inv (fun l a w => l.size = n ∧ ((l.getD z true = false ∧ I l a w) ∨ (leftB l = 0 ∧ Q .normal a w))) ?_ ?_ n _ a w (by rw [leftB_new]; exact Nat.le_refl _) ⟨by simp, .inl ⟨by simp [Array.getD_eq_getD_getElem?, hz], h0⟩⟩
  · rintro l a w i ⟨hl, h⟩ hi
    rcases h with ⟨hzl, hI⟩ | ⟨hl0, _⟩
    · have hin : i < n := by
        obtain ⟨_, o, ho, _⟩ := mem_ready.1 hi
        have := (Array.getElem?_eq_some_iff.1 ho).1
        omega
      by_cases hiz : i = z
      · subst hiz
        have hrest : ∀ j, j < n → j ≠ i → l.getD j false = true := fun j hj hji => by
          have h1 := List.all_eq_true.1 hall j (List.mem_range.2 hj)
          rw [Bool.or_eq_true] at h1
          rcases h1 with h1 | h1
          · exact absurd (beq_iff_eq.1 h1) hji
          · exact ready_need hi h1
        refine wpOp_mono (fun a' w' hq => ⟨by simpa using hl, .inr ⟨leftB_zero (fun j hj => ?_), hq⟩⟩) (hlast l a w hI hrest)
        by_cases hji : j = i
        · subst hji; exact getD_own (by simpa using hj)
        · rw [getD_set hji]; exact hrest j (by simpa [hl] using hj) hji
      · refine wpOp_mono (fun a' w' hq => ⟨by simpa using hl, .inl ⟨?_, hq⟩⟩) (hstep i l a w hin hiz hl hI hi)
        rw [getD_set (fun e => hiz e.symm)]; exact hzl
    · have := leftB_set (mem_ready.1 hi).1
      omega
  · rintro l a w ⟨hl, h⟩ hr
    rcases h with ⟨hzl, _⟩ | ⟨_, hq⟩
    · exact absurd hr (ready_ne hd (by omega) (z + 1) z (by omega) (by omega) hzl)
    · exact hq
theorem wpAny_lastA (n z : Nat) (I : Act → Array Bool → Act → World → Prop) (hsz : ops.size = n) (hd : downB ops = true) (hz : z < n) (hall : ((List.range n).all fun j => j == z || needsB md ops z j) = true) (a : Act) (w : World)
    (hstep : ∀ i l a' w, i < n → i ≠ z → l.size = n → I a l a' w → i ∈ Region.ready md ops l → wpOp P ops Q i (fun a' w' => I a (l.setIfInBounds i true) a' w') a' w)
    (hlast : ∀ l a' w, I a l a' w → (∀ j, j < n → j ≠ z → l.getD j false = true) → wpOp P ops Q z (fun a' w' => Q .normal a' w') a' w) (h0 : I a (Array.replicate n false) a w) :
    wpAny P md ops Q n (Array.replicate n false) a w := wpAny_last n z (I a) hsz hd hz hall hstep hlast a w h0
/-- A frame with some slots rewritten. -/
def updM (a : Act) (ds : List Nat) (f : Nat → Value) : Act := ⟨a.tmps.mapIdx (fun i x => if ds.contains i then f i else x), a.defers⟩
theorem updM_get (a : Act) (ds : List Nat) (f : Nat → Value) (d : Nat) : (updM a ds f).tmps.getD d undef = if d < a.tmps.size then (if ds.contains d then f d else a.tmps.getD d undef) else undef := by
  unfold updM
  rw [Array.getD_eq_getD_getElem?, Array.getElem?_mapIdx]
  by_cases h : d < a.tmps.size
  · rw [if_pos h, Array.getElem?_eq_getElem h, Array.getD_eq_getD_getElem?, Array.getElem?_eq_getElem h]; rfl
  · rw [if_neg h, Array.getElem?_eq_none (by omega)]; rfl
theorem act_ext {a b : Act} (h : a.tmps = b.tmps) (h' : a.defers = b.defers) : a = b := by cases a; cases b; simp_all
theorem updM_put (a : Act) (ds : List Nat) (f : Nat → Value) (d : Nat) (v : Value) (h : ds.contains d = true) : (updM a ds f).put (some d) v = updM a ds (fun k => if k = d then v else f k) := by
  refine act_ext ?_ rfl
  show (a.tmps.mapIdx (fun i x => if ds.contains i then f i else x)).setIfInBounds d v = a.tmps.mapIdx (fun i x => if ds.contains i then (if i = d then v else f i) else x)
  apply Array.ext_getElem?
  intro i
  rw [Array.getElem?_setIfInBounds, Array.getElem?_mapIdx, Array.getElem?_mapIdx, Array.size_mapIdx]
  by_cases e : d = i
  · subst e
    rw [if_pos rfl]
    by_cases hs : d < a.tmps.size
    · rw [if_pos hs, Array.getElem?_eq_getElem hs, Option.map_some, if_pos h, if_pos rfl]
    · rw [if_neg hs, Array.getElem?_eq_none (by omega)]; rfl
  · rw [if_neg e]
    cases a.tmps[i]? with
    | none => rfl
    | some x => rw [Option.map_some, Option.map_some, if_neg (fun (y : i = d) => e y.symm)]
theorem updM_nil (a : Act) (f : Nat → Value) : updM a [] f = a := by
  refine act_ext ?_ rfl
  apply Array.ext
  · simp [updM]
  · intro i h1 h2; simp [updM]
theorem updM_cons (a : Act) (d : Nat) (ds : List Nat) (f : Nat → Value) : updM a (d :: ds) f = (updM a ds f).put (some d) (f d) := by
  refine act_ext ?_ rfl
  show a.tmps.mapIdx (fun i x => if (d :: ds).contains i then f i else x) = (a.tmps.mapIdx (fun i x => if ds.contains i then f i else x)).setIfInBounds d (f d)
  apply Array.ext_getElem?
  intro i
  rw [Array.getElem?_setIfInBounds, Array.getElem?_mapIdx, Array.getElem?_mapIdx, Array.size_mapIdx]
  by_cases e : d = i
  · subst e
    rw [if_pos rfl]
    by_cases hs : d < a.tmps.size
    · rw [if_pos hs, Array.getElem?_eq_getElem hs, Option.map_some, if_pos (by simp)]
    · rw [if_neg hs, Array.getElem?_eq_none (by omega)]; rfl
  · have h2 : (d :: ds).contains i = ds.contains i := by
      rw [List.contains_cons]
      have : (i == d) = false := by simpa using fun x => e x.symm
      rw [this, Bool.false_or]
    rw [if_neg e, h2]
theorem updM_self (a : Act) (ds : List Nat) : a = updM a ds (fun d => a.tmps.getD d undef) := by
  refine act_ext ?_ rfl
  apply Array.ext
  · simp [updM]
  · intro i h1 h2
    simp only [updM, Array.getElem_mapIdx]
    split
    · first | rfl | simp [Array.getD_eq_getD_getElem?, Array.getElem?_eq_getElem h1]
    · rfl
end
end Go.Proofs.YtkpgplafcoabnaaDoor

namespace Go.Proofs.YtkpgplafcoabnaaDoor
open Go.RowKit Go.Lib
set_option linter.unusedVariables false
set_option linter.unusedSimpArgs false
theorem pick_as (c n y : Int) (h : Hid (pk c n = y)) (hc : -9223372036854775808 ≤ c) (hc' : c ≤ 9223372036854775807) (hn : 0 < n) (hn' : n ≤ 9223372036854775807) (w : World) :
    Calls Tryd.prog 34 #[.int .i64 c, .int .i64 n] w fun e w' => e = .returned (.int .i64 y) ∧ w = w' := by
  rw [← h.out]; exact pick_any c n hc hc' hn hn' w
theorem decimal_as (n : Int) (S : ByteArray) (h : Hid (B (decDigits n.toNat) = S)) (h0 : 0 ≤ n) (h1 : n ≤ 9223372036854775807) (w0 w : World) (hr : Rel w0 w) :
    Calls Tryd.prog 35 #[.int .i64 n] w fun e w' => e = .returned (.string S) ∧ Rel w0 w' := by
  rw [← h.out]; exact decimal_any n h0 h1 w0 w hr
def strCells (ls : List (List UInt8)) : Array Value := (ls.map fun l => Value.string (B l)).toArray
theorem str_cell {w : World} {g : Nat} {ls : List (List UInt8)} (h : Bk w g 9 (strCells ls)) (j : Nat) (hj : j < ls.length) : w.cell? ⟨g, j, none⟩ = some (.string (B (ls.getD j []))) := by
  rw [h.cell]
  unfold strCells
  rw [List.getElem?_toArray, List.getElem?_map, List.getElem?_eq_getElem hj, List.getD_eq_getElem?_getD, List.getElem?_eq_getElem hj]
  rfl
theorem nam_cell (w : World) (j : Nat) (hj : j < 6) : (w.alloc (.cells #[.string ⟨#[97]⟩, .string ⟨#[98, 111, 98]⟩, .string ⟨#[108, 111, 119, 101, 115]⟩, .string ⟨#[97, 99, 109, 101, 57]⟩, .string ⟨#[120, 49]⟩, .string ⟨#[101, 108, 115, 101, 101]⟩] 9)).cell? ⟨w.heap.size, j, none⟩ = some (.string (B (theNames.getD j []))) :=
  str_cell (ls := theNames) (Bk.new w 9 (strCells theNames)) j hj
theorem nam_after {w w' : World} (hr : Rel (w.alloc (.cells #[.string ⟨#[97]⟩, .string ⟨#[98, 111, 98]⟩, .string ⟨#[108, 111, 119, 101, 115]⟩, .string ⟨#[97, 99, 109, 101, 57]⟩, .string ⟨#[120, 49]⟩, .string ⟨#[101, 108, 115, 101, 101]⟩] 9)).drew w') (j : Nat) (hj : j < 6) (X : ByteArray) (hX : B (theNames.getD j []) = X) : w'.cell? ⟨w.heap.size, j, none⟩ = some (.string X) := by
  rw [← hX]
  exact str_cell (ls := theNames) (Bk.rel (w := (w.alloc (.cells (strCells theNames) 9)).drew) (Bk.new w 9 (strCells theNames)) hr) j hj
set_option maxHeartbeats 1000000 in
theorem seller_any (n : Int) (h0 : -9223372036854775808 ≤ n) (h1 : n ≤ 9223372036854775807) (w0 w : World) (hr : Rel w0 w) :
    Calls Tryd.prog 19 #[.int .i64 n] w fun e w' => e = .returned (.string (B (sellerL (pk n 60)))) ∧ Rel w0 w' := by
  have hb := pk_bd n 60 (by omega)
  obtain ⟨u, hu⟩ : ∃ u, pk n 60 = u := ⟨_, rfl⟩
  rw [hu] at hb ⊢
  have HU := Lib.hid hu
  obtain ⟨u0, u1⟩ := hb
  have t6 := tdt u 6 (by omega)
  obtain ⟨a, ha⟩ : ∃ a : Nat, u.tmod 6 = (a : Int) := ⟨(u.tmod 6).toNat, by omega⟩
  obtain ⟨b, hq'⟩ : ∃ b : Nat, u.tdiv 6 = (b : Int) := ⟨(u.tdiv 6).toNat, by omega⟩
  have hq : IntKind.i64.wrap (u.tdiv 6) = (b : Int) := by rw [hq']; exact IntWalk.i64_in _ (by omega)
  have a6 : a < 6 := by omega
  have a6' : (a : Int) < 6 := by omega
  have b9 : (b : Int) ≤ 10 := by omega
  obtain ⟨X, hX⟩ : ∃ X, B (theNames.getD a []) = X := ⟨_, rfl⟩
  have hc := fun w => nam_cell w a a6
  obtain ⟨D, hD⟩ : ∃ D, B (decDigits ((b : Int)).toNat) = D := ⟨_, rfl⟩
  have HD := Lib.hid hD
  have z1 : X.size ≤ 5 := by rw [← hX, B_size]; exact names_len ⟨a, a6⟩
  have z2 : D.size ≤ 19 := by rw [← hD]; exact dd_size _ (by omega)
  have z3 : ¬ 9223372036854775807 < X.size + D.size := by omega
  have HF := Lib.hid (show X ++ D = B (sellerL u) by
    unfold sellerL
    rw [← hX, ← hD, B_append, show u % 6 = (a : Int) by omega, show u / 6 = (b : Int) by omega]; rfl)
  have HX := Lib.hid hX
  rw [hX] at hc
  have HR := Lib.hid hr
  clear hu hX hD t6 hq'
  go_enter Tryd.func19, Tryd.ntmps19
  go_wp2_with (go_at_call 34; (with_reducible refine (pick_as n 60 u HU h0 h1 (by omega) (by omega) _).mono ?_); rintro e w' ⟨rfl, rfl⟩)
  have HS := Lib.hid hr.self
  go_region_law (rw [if_pos (by rfl)]; go_simp; go_at_call 35; (with_reducible refine (decimal_as (b : Int) D HD (by omega) (by omega) _ _ (by first | exact HS.out.drew.self | exact (HS.out.drew.alloc _).self | exact ((HS.out.alloc _).drew).self)).mono ?_); rintro e w' ⟨rfl, hr'⟩; try (have cx := nam_after hr' a a6 X HX.out))
  all_goals
    go_wp2_with (fail)
    go_ret
    refine ⟨ret_str HF.out, ?_⟩
    first
      | exact (HR.out.alloc _).drew.trans hr'
      | exact (HR.out.drew.trans hr').alloc _
end Go.Proofs.YtkpgplafcoabnaaDoor

namespace Go.Proofs.YtkpgplafcoabnaaDoor
open Go.Lib
set_option linter.unusedVariables false
set_option linter.unusedSimpArgs false
/-- An expression: kind, number, name, arguments. -/
inductive Ex where
  | mk (k n : Int) (nm : List UInt8) (l : List Ex)
def Ex.k : Ex → Int | .mk k _ _ _ => k
def Ex.n : Ex → Int | .mk _ n _ _ => n
def Ex.l : Ex → List Ex | .mk _ _ _ l => l
mutual
def size : Ex → Nat
  | .mk _ _ _ l => 1 + sizes l
def sizes : List Ex → Nat
  | [] => 0
  | x :: t => size x + sizes t
end
end Go.Proofs.YtkpgplafcoabnaaDoor

namespace Go.Proofs.YtkpgplafcoabnaaDoor
open Go.Lib
set_option linter.unusedVariables false
set_option linter.unusedSimpArgs false
/-- A text is scanned to at least n tokens, whatever stands behind it that is no part. -/
def Sc (a : List UInt8) (n : Nat) : Prop := ∀ p r, stops r = true → ∃ ts, lx p (a ++ r) = pre ts (lx (p + a.length) r) ∧ n ≤ ts.length
theorem Sc.nil : Sc [] 0 := fun p r _ => ⟨[], by rw [pre_nil]; rfl, Nat.zero_le _⟩
end Go.Proofs.YtkpgplafcoabnaaDoor

namespace Go.Proofs.YtkpgplafcoabnaaDoor
open Go.RowKit Go.Lib
set_option linter.unusedVariables false
set_option linter.unusedSimpArgs false
theorem seller_name (u : Int) (h0 : 0 ≤ u) (h1 : u < 60) : isName (sellerL u) = true := by
  rw [seller_eq u h0 h1]
  have : ∀ i : Fin 60, isName ((theNames.getD (i.val % 6) []) ++ [UInt8.ofNat (48 + i.val / 6)]) = true := by decide
  exact this ⟨u.toNat, by omega⟩
end Go.Proofs.YtkpgplafcoabnaaDoor
