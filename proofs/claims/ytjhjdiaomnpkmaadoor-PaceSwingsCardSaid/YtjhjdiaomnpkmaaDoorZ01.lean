/- Plain mathematics of layer 6, second part: the law's pieces are tokens; what is no token is none. No program in this text; Tokens in memory, pairs of raw numbers; which tokens are the same; Plain mathematics of layer 7: expressions, their texts, sizes and depths. No program in this text; Plain mathematics of layer 7, second part: unlike right expressions have unlike texts; what is printed is scanned. No program in this text; Plain mathematics of layer 7, third part: what is printed is scanned; how long a text is. No program in this text; Plain mathematics of layer 7, fourth part: what the law makes of raw numbers; Expressions in memory, and the law's source of raw numbers; What the law makes of raw numbers: its expressions, in memory. -/
import Derived.Test.YtjhjdiaomnpkmaaDoorZL
import Derived.Test.YtjhjdiaomnpkmaaDoorZ00
namespace Go.Proofs.YtjhjdiaomnpkmaaDoor
open Go.Lib
set_option linter.unusedVariables false
set_option linter.unusedSimpArgs false
theorem name_head {x : List UInt8} {c : UInt8} {t : List UInt8} (hx : x = c :: t) (hc : isL c = false) : isName x = false := by
  subst hx; simp [isName, hc]
theorem word_head {x : List UInt8} {c : UInt8} {t : List UInt8} (hx : x = c :: t) (hc : isL c = false) : isWord x = false := by
  subst hx
  cases h : isWord (c :: t)
  · rfl
  · unfold isWord theWords at h
    simp only [List.any_cons, List.any_nil, Bool.or_false, Bool.or_eq_true, beq_iff_eq, List.cons.injEq] at h
    exfalso
    rcases h with ⟨e, _⟩ | ⟨e, _⟩ | ⟨e, _⟩ | ⟨e, _⟩ | ⟨e, _⟩ | ⟨e, _⟩ | ⟨e, _⟩ | ⟨e, _⟩ | ⟨e, _⟩ | ⟨e, _⟩ | ⟨e, _⟩ <;> (subst e; revert hc; decide)
theorem isL_D {c : UInt8} (h : isD c = true) : isL c = false := by
  rw [isD_iff] at h
  simp [isL]; omega
theorem isPt_D {c : UInt8} (h : isD c = true) : isPt c = true := by simp [isPt, h]
theorem all_pt {l : List UInt8} (h : allD l = true) : l.all isPt = true := by
  rw [List.all_eq_true]
  intro c hc
  exact isPt_D (List.all_eq_true.1 h c hc)
theorem dd_cons (u : Nat) : ∃ c t, decDigits u = c :: t ∧ isD c = true := by
  obtain ⟨h1, _, _, h4⟩ := dd_all u
  cases h : decDigits u with
  | nil => rw [h] at h4; cases h4
  | cons c t =>
    rw [h, allD_cons, Bool.and_eq_true] at h1
    exact ⟨c, t, rfl, h1.1⟩
theorem good_count (u : Nat) (h : u ≤ 100000) : Good (decDigits u) 2 u := by
  obtain ⟨c, t, e, hc⟩ := dd_cons u
  have h1 := name_head e (isL_D hc)
  have h2 := word_head e (isL_D hc)
  have h3 : cnt (decDigits u) 100000 = (u : Int) := by rw [cnt_dd, if_pos (by omega)]
  refine .inr ⟨by rw [e]; simp, all_pt (dd_all u).1, ?_⟩
  unfold tokOf
  rw [h1, h2, h3, if_neg (by simp), if_pos (by omega)]
theorem prs_posn (m : Nat) (h : m ≤ 1000000000000) : prs (pos m) = some (m : Int) := by
  have := prs_txt (a := (m : Int)) (rt_yes (by omega) (by omega))
  rw [show txt (m : Int) = pos m by unfold txt; rw [rt_yes (by omega) (by omega), if_pos rfl, if_neg (by omega)]; rfl] at this
  exact this
theorem good_money (m : Nat) (h : m ≤ 1000000000000) : Good (pos m) 3 m := by
  obtain ⟨c, t, e, hc⟩ := dd_cons (m / 100)
  have e' : pos m = c :: (t ++ ([46] ++ (decDigits (m / 10 % 10) ++ decDigits (m % 10)))) := by unfold pos; rw [e]; rfl
  have h1 := name_head e' (isL_D hc)
  have h2 := word_head e' (isL_D hc)
  have h3 : cnt (pos m) 100000 = -1 := cnt_not (by
    rw [pos, allD_append, allD_append]; simp [allD, isD])
  refine .inr ⟨by rw [e']; simp, ?_, ?_⟩
  · unfold pos
    rw [List.all_append, List.all_append, List.all_append, all_pt (dd_all _).1, all_pt (dd_all _).1, all_pt (dd_all _).1]; rfl
  · unfold tokOf
    rw [h1, h2, h3, if_neg (by simp), if_neg (by omega), prs_posn m h]
def goodB (x : List UInt8) : Bool := !x.isEmpty && x.all isPt && (isWord x || isName x)
theorem good_word {x : List UInt8} (h : goodB x = true) : Good x 1 0 := by
  simp only [goodB, Bool.and_eq_true] at h
  refine .inr ⟨by rintro rfl; simp at h, h.1.2, ?_⟩
  unfold tokOf; rw [if_pos h.2]
theorem dd_len (k u : Nat) (h : u < 10 ^ k) (hk : 1 ≤ k) : (decDigits u).length ≤ k := by
  induction k generalizing u with
  | zero => omega
  | succ k ih =>
    rw [decDigits]
    split
    · simp
    · rename_i h10
      have hk' : 1 ≤ k := by
        rcases k with _ | k
        · simp at h; omega
        · omega
      have := ih (u / 10) (by rw [Nat.pow_succ] at h; omega) hk'
      simp
      omega
/-- A token of one kind alone. -/
theorem good_kind {x : List UInt8} {k n : Int} (h : Good x k n) : (isName x && isWord x) = false ∧ ((isName x || isWord x) = decide (k = 1)) ∧ (k ≠ 2 → k ≠ 3 → n = 0) ∧ 0 ≤ n ∧ (k = 2 → n ≤ 100000) := by
  have hnw : (isName x && isWord x) = false := by
    unfold isName
    cases isWord x <;> simp
  refine ⟨hnw, ?_⟩
  rcases h with ⟨c, rfl, hs, rfl, rfl⟩ | ⟨h0, ha, ht⟩
  · have hl : isL c = false := by
      have := (sg_not hs).2
      simp only [isPt, Bool.or_eq_false_iff] at this
      exact this.1.1
    rw [name_head rfl hl, word_head rfl hl]
    exact ⟨rfl, fun _ _ => rfl, Int.le_refl _, fun h => by omega⟩
  · unfold tokOf at ht
    by_cases h1 : (isWord x || isName x) = true
    · rw [if_pos h1] at ht
      injection ht with ht
      injection ht with e1 e2
      subst e1; subst e2
      rw [Bool.or_comm] at h1
      exact ⟨by rw [h1]; rfl, fun _ _ => rfl, Int.le_refl _, fun h => by omega⟩
    · rw [if_neg h1] at ht
      rw [Bool.or_comm] at h1
      rw [Bool.not_eq_true _ |>.mp h1]
      by_cases h2 : 0 ≤ cnt x 100000
      · rw [if_pos h2] at ht
        injection ht with ht
        injection ht with e1 e2
        subst e1; subst e2
        have := cnt_bd x 100000
        exact ⟨rfl, fun h => absurd rfl h, h2, fun _ => by omega⟩
      · rw [if_neg h2] at ht
        cases hp : prs x with
        | none => rw [hp] at ht; cases ht
        | some a =>
          rw [hp] at ht
          injection ht with ht
          injection ht with e1 e2
          subst e1; subst e2
          refine ⟨rfl, fun _ h => absurd rfl h, ?_, fun h => by omega⟩
          obtain ⟨r1, r2⟩ := txt_of_prs hp
          by_cases h3 : a < 0
          · exfalso
            unfold txt at r2
            rw [if_pos r1, if_pos h3] at r2
            rw [← r2] at ha
            revert ha
            simp [isPt, isL, isD]
          · omega
end Go.Proofs.YtjhjdiaomnpkmaaDoor

namespace Go.Proofs.YtjhjdiaomnpkmaaDoor
open Go.RowKit Go.Lib
set_option linter.unusedVariables false
set_option linter.unusedSimpArgs false
abbrev TK (t : Tok) : Value := .agg #[.int .i64 t.1, .string (B t.2.1), .int .i64 t.2.2.1, .int .i64 t.2.2.2]
def cells4 (t : Tok) : List Value := [.int .i64 t.1, .string (B t.2.1), .int .i64 t.2.2.1, .int .i64 t.2.2.2]
def cellsOf (ts : List Tok) : List Value := ts.flatMap cells4
theorem cellsOf_snoc (ts : List Tok) (t : Tok) : cellsOf (ts ++ [t]) = cellsOf ts ++ cells4 t := by simp [cellsOf]
theorem cellsOf_at (ts : List Tok) (i : Nat) (h : i < ts.length) :
    (cellsOf ts)[i * 4]? = some (.int .i64 ts[i].1) ∧ (cellsOf ts)[i * 4 + 1]? = some (.string (B ts[i].2.1)) ∧ (cellsOf ts)[i * 4 + 2]? = some (.int .i64 ts[i].2.2.1) ∧ (cellsOf ts)[i * 4 + 3]? = some (.int .i64 ts[i].2.2.2) := by
  induction ts generalizing i with
  | nil => simp at h
  | cons e t ih =>
    have hc : cellsOf (e :: t) = cells4 e ++ cellsOf t := rfl
    cases i with
    | zero => rw [hc]; exact ⟨rfl, rfl, rfl, rfl⟩
    | succ i =>
      obtain ⟨h1, h2, h3, h4⟩ := ih i (by simpa using h)
      have l4 : (cells4 e).length = 4 := rfl
      refine ⟨?_, ?_, ?_, ?_⟩
      · rw [hc, List.getElem?_append_right (by omega), show (i + 1) * 4 - (cells4 e).length = i * 4 by omega]; exact h1
      · rw [hc, List.getElem?_append_right (by omega), show (i + 1) * 4 + 1 - (cells4 e).length = i * 4 + 1 by omega]; exact h2
      · rw [hc, List.getElem?_append_right (by omega), show (i + 1) * 4 + 2 - (cells4 e).length = i * 4 + 2 by omega]; exact h3
      · rw [hc, List.getElem?_append_right (by omega), show (i + 1) * 4 + 3 - (cells4 e).length = i * 4 + 3 by omega]; exact h4
/-- The cells from A on are these tokens. -/
def ToksAt (w : World) (A : Option Addr) (ts : List Tok) : Prop :=
  ∀ i (h : i < ts.length), ∃ (g off : Nat), A = some ⟨g, off, none⟩ ∧ g < w.heap.size ∧ w.cell? ⟨g, off + i * 4, none⟩ = some (.int .i64 ts[i].1) ∧ w.cell? ⟨g, off + i * 4 + 1, none⟩ = some (.string (B ts[i].2.1)) ∧
    w.cell? ⟨g, off + i * 4 + 2, none⟩ = some (.int .i64 ts[i].2.2.1) ∧ w.cell? ⟨g, off + i * 4 + 3, none⟩ = some (.int .i64 ts[i].2.2.2)
theorem ToksAt.nil (w : World) (A : Option Addr) : ToksAt w A [] := fun i h => absurd h (by simp)
theorem ToksAt.below {w w' : World} {A : Option Addr} {ts : List Tok} (h : ToksAt w A ts) (hb : Below w.heap.size w w') : ToksAt w' A ts := by
  intro i hi
  obtain ⟨g, off, e, hl, h0, h1, h2, h3⟩ := h i hi
  have hk : ∀ j, w'.cell? ⟨g, j, none⟩ = w.cell? ⟨g, j, none⟩ := fun j => hb.cell (p := ⟨g, j, none⟩) hl
  exact ⟨g, off, e, by have := hb.size; omega, by rw [hk]; exact h0, by rw [hk]; exact h1, by rw [hk]; exact h2, by rw [hk]; exact h3⟩
theorem ToksAt.rel {w w' : World} {A : Option Addr} {ts : List Tok} (h : ToksAt w A ts) (hr : Rel w w') : ToksAt w' A ts := h.below hr.2
/-- A slice of tokens of the call's own. -/
def TokOwn (w : World) (base : Nat) (v : Value) (ts : List Tok) : Prop := w.ownsRow base 65 4 v ts.length (cellsOf ts)
theorem TokOwn.nil (w : World) (base : Nat) : TokOwn w base (.slice none 0 0) [] := World.ownsRow_nil _ _ _ _
theorem TokOwn.rel {w w' : World} {base : Nat} {v : Value} {ts : List Tok} (h : TokOwn w base v ts) (hr : Rel w w') : TokOwn w' base v ts := own_rel h hr
theorem TokOwn.toks {w : World} {base : Nat} {A : Option Addr} {n c : Nat} {ts : List Tok} (h : TokOwn w base (.slice A n c) ts) (hn : n = ts.length) : ToksAt w A ts := by
  intro i hi
  have h : w.ownsRow base 65 4 (.slice A n c) ts.length (cellsOf ts) := h
  rcases h.2 with ⟨h0, h1⟩ | ⟨g, cap, cur, hv, hb, hh, _⟩
  · omega
  · have hA : A = some ⟨g, 0, none⟩ := by injection hv
    obtain ⟨c0, c1, c2, c3⟩ := cellsOf_at ts i hi
    have hc := h.cells (g := g) (by rw [hA]; rfl)
    have q0 := hc _ _ c0
    have q1 := hc _ _ c1
    have q2 := hc _ _ c2
    have q3 := hc _ _ c3
    rw [addr_at] at q0 q1 q2 q3
    refine ⟨g, 0, hA, Bk.lt (t := 65) hh, ?_, ?_, ?_, ?_⟩
    · exact q0
    · rw [Nat.add_assoc]; exact q1
    · rw [Nat.add_assoc]; exact q2
    · rw [Nat.add_assoc]; exact q3
theorem TokOwn.more {w1 : World} {base g cap : Nat} {ts : List Tok} {t : Tok}
    (hown1 : w1.ownsRow base 65 4 (.slice (some ⟨g, 0, none⟩) (ts.length + 1) cap) (ts.length + 1) (cellsOf ts ++ cells4 t)) : TokOwn w1 base (.slice (some ⟨g, 0, none⟩) (ts.length + 1) cap) (ts ++ [t]) := by
  unfold TokOwn
  rw [cellsOf_snoc, show (ts ++ [t]).length = ts.length + 1 by simp]; exact hown1
theorem tok_info : (Tryd.prog.info? 65).map (fun i => (i.zero, i.size, i.bytes)) = some (some (.agg #[.int .i64 0, .string ⟨#[]⟩, .int .i64 0, .int .i64 0]), 4, 40) := by kernel_rfl
theorem cells4_one (t : Tok) : ∀ u ∈ cells4 t, u.oneCell' = true := by
  intro u hu
  simp only [cells4, List.mem_cons, List.not_mem_nil, or_false] at hu
  rcases hu with rfl | rfl | rfl | rfl <;> rfl
theorem Bk.four {w : World} {g : Nat} {t : TypeId} {x y z u : Value} (h : Bk w g t #[x, y, z, u]) :
    (w.cell? ⟨g, 0, none⟩ = some x ∧ w.cell? ⟨g, 1, none⟩ = some y ∧ w.cell? ⟨g, 2, none⟩ = some z ∧ w.cell? ⟨g, 3, none⟩ = some u) ∧ (w.frozen? ⟨g, 0, none⟩ = false ∧ w.frozen? ⟨g, 1, none⟩ = false ∧ w.frozen? ⟨g, 2, none⟩ = false ∧ w.frozen? ⟨g, 3, none⟩ = false) :=
  ⟨⟨h.cell 0, h.cell 1, h.cell 2, h.cell 3⟩, ⟨h.frozen 0, h.frozen 1, h.frozen 2, h.frozen 3⟩⟩
theorem Bk.put4 {w : World} {g : Nat} {t : TypeId} {x y z u : Value} (h : Bk w g t #[x, y, z, u]) (a b c d : Value) : Bk ((((w.setCell ⟨g, 0, none⟩ a).setCell ⟨g, 1, none⟩ b).setCell ⟨g, 2, none⟩ c).setCell ⟨g, 3, none⟩ d) g t #[a, b, c, d] :=
  (((h.set_ 0 a).set_ 1 b).set_ 2 c).set_ 3 d
theorem Bk.snd (w : World) (cs cs' : Array Value) (t t' : TypeId) : Bk ((w.alloc (.cells cs t)).alloc (.cells cs' t')) (w.heap.size + 1) t' cs' := by
  have h := Bk.new (w.alloc (.cells cs t)) t' cs'
  rw [World.size_alloc] at h
  exact h
theorem Rel.put4 {w0 w : World} (h : Rel w0 w) {g : Nat} (hg : w0.heap.size ≤ g) (a b c d : Value) : Rel w0 ((((w.setCell ⟨g, 0, none⟩ a).setCell ⟨g, 1, none⟩ b).setCell ⟨g, 2, none⟩ c).setCell ⟨g, 3, none⟩ d) :=
  (((h.setCell hg a).setCell hg b).setCell hg c).setCell hg d
abbrev TB (w : World) (g : Nat) (t : Tok) : Prop := Bk w g 65 #[.int .i64 t.1, .string (B t.2.1), .int .i64 t.2.2.1, .int .i64 t.2.2.2]
end Go.Proofs.YtjhjdiaomnpkmaaDoor

namespace Go.Proofs.YtjhjdiaomnpkmaaDoor
open Go.Lib
set_option linter.unusedVariables false
set_option linter.unusedSimpArgs false
/-- An expression: kind, number, name, arguments. -/
inductive Ex where
  | mk (k n : Int) (nm : List UInt8) (l : List Ex)
def Ex.k : Ex → Int | .mk k _ _ _ => k
def Ex.n : Ex → Int | .mk _ n _ _ => n
def Ex.nm : Ex → List UInt8 | .mk _ _ nm _ => nm
def Ex.l : Ex → List Ex | .mk _ _ _ l => l
mutual
def size : Ex → Nat
  | .mk _ _ _ l => 1 + sizes l
def sizes : List Ex → Nat
  | [] => 0
  | x :: t => size x + sizes t
end
theorem size_mk (k n : Int) (nm : List UInt8) (l : List Ex) : size (.mk k n nm l) = 1 + sizes l := by rw [size]
theorem sizes_nil : sizes [] = 0 := by rw [sizes]
theorem sizes_cons (x : Ex) (t : List Ex) : sizes (x :: t) = size x + sizes t := by rw [sizes]
theorem size_mem {x : Ex} {l : List Ex} (h : x ∈ l) : size x ≤ sizes l := by
  induction l with
  | nil => cases h
  | cons y t ih =>
    rw [sizes_cons]
    rcases List.mem_cons.1 h with rfl | h
    · omega
    · have := ih h; omega
theorem size_pos (x : Ex) : 1 ≤ size x := by cases x; rw [size_mk]; omega
/-- What holds of an expression if it holds of all its arguments. -/
theorem ex_ind {P : Ex → Prop} (h : ∀ k n nm l, (∀ x ∈ l, P x) → P (.mk k n nm l)) : ∀ x, P x := by
  have : ∀ m x, size x ≤ m → P x := by
    intro m
    induction m with
    | zero => intro x hx; have := size_pos x; omega
    | succ m ih =>
      intro x hx
      cases x with
      | mk k n nm l =>
        rw [size_mk] at hx
        exact h k n nm l fun y hy => ih y (by have := size_mem hy; omega)
  exact fun x => this _ x (Nat.le_refl _)
/-- How many arguments a kind has; whether it is a condition; its greatest number; its word. -/
def argsN (k : Int) : Int := if k = 1 ∨ k = 2 ∨ k = 3 ∨ k = 4 ∨ k = 11 then 0 else if k = 5 ∨ k = 6 then 1 else if k = 7 ∨ k = 8 ∨ k = 9 ∨ k = 12 then 2 else if k = 10 then 3 else -1
def isCond (k : Int) : Bool := k == 11 || k == 12
def mostN (k : Int) : Int := if k = 4 ∨ k = 5 then 1000000000000 else if k = 6 then 100000 else if k = 11 then 1000 else 0
def wordK (k : Int) : List UInt8 :=
  if k = 1 then [108,111,119,101,115,116] else if k = 2 then [115,101,99,111,110,100] else if k = 3 then [102,114,111,109] else if k = 5 then [108,101,115,115] else if k = 6 then [99,117,116] else if k = 7 then [109,105,110] else if k = 8 then [109,97,120]
  else if k = 9 then [101,108,115,101] else if k = 10 then [105,102] else if k = 11 then [109,111,114,101] else if k = 12 then [97,98,111,118,101] else []
/-- May an expression be, but for how long its text is, within so many? -/
def fine : Nat → Ex → Bool
  | 0, _ => false
  | d + 1, x => decide (argsN x.k = (x.l.length : Int)) && decide (0 ≤ x.n ∧ x.n ≤ mostN x.k) && (decide (x.nm ≠ []) == decide (x.k = 3)) && (decide (x.k ≠ 3) || isName x.nm) &&
    (x.l.zipIdx).all fun p => (isCond p.1.k == (decide (x.k = 10) && decide (p.2 = 0))) && fine d p.1
def tailK (k n : Int) (nm : List UInt8) : List UInt8 := if k = 3 then nm else if k = 5 then [44, 32] ++ txt n else if k = 6 then [44, 32] ++ itoa n else if k = 11 then itoa n else []
mutual
def text : Ex → List UInt8
  | .mk k n nm l => if k = 4 then txt n else if k = 1 ∨ k = 2 then wordK k else wordK k ++ ([40] ++ (texts l ++ (tailK k n nm ++ [41])))
def texts : List Ex → List UInt8
  | [] => []
  | x :: t => text x ++ mores t
def mores : List Ex → List UInt8
  | [] => []
  | x :: t => [44, 32] ++ (text x ++ mores t)
end
theorem text_mk (k n : Int) (nm : List UInt8) (l : List Ex) : text (.mk k n nm l) = if k = 4 then txt n else if k = 1 ∨ k = 2 then wordK k else wordK k ++ ([40] ++ (texts l ++ (tailK k n nm ++ [41]))) := by rw [text]
theorem texts_nil : texts [] = [] := by rw [texts]
theorem texts_cons (x : Ex) (t : List Ex) : texts (x :: t) = text x ++ mores t := by rw [texts]
theorem mores_nil : mores [] = [] := by rw [mores]
theorem mores_cons (x : Ex) (t : List Ex) : mores (x :: t) = [44, 32] ++ (text x ++ mores t) := by rw [mores]
/-- May an expression be a strategy? -/
def rightX (x : Ex) : Bool := fine 32 x && !isCond x.k && decide (size x ≤ 2000) && decide ((text x).length ≤ 2000)
end Go.Proofs.YtjhjdiaomnpkmaaDoor

namespace Go.Proofs.YtjhjdiaomnpkmaaDoor
open Go.Lib
set_option linter.unusedVariables false
set_option linter.unusedSimpArgs false
theorem fine_eq (d : Nat) (k n : Int) (nm : List UInt8) (l : List Ex) : fine (d + 1) (.mk k n nm l) = (decide (argsN k = (l.length : Int)) && decide (0 ≤ n ∧ n ≤ mostN k) && (decide (nm ≠ []) == decide (k = 3)) && (decide (k ≠ 3) || isName nm) &&
    (l.zipIdx).all fun p => (isCond p.1.k == (decide (k = 10) && decide (p.2 = 0))) && fine d p.1) := rfl
/-- What may be, by itself: the shape of one expression, and of all in it. -/
theorem fine_parts {d : Nat} {k n : Int} {nm : List UInt8} {l : List Ex} (h : fine (d + 1) (.mk k n nm l) = true) :
    argsN k = (l.length : Int) ∧ (0 ≤ n ∧ n ≤ mostN k) ∧ (nm ≠ [] ↔ k = 3) ∧ (k = 3 → isName nm = true) ∧ ∀ i (hi : i < l.length), isCond l[i].k = (decide (k = 10) && decide (i = 0)) ∧ fine d l[i] = true := by
  rw [fine_eq] at h
  simp only [Bool.and_eq_true, decide_eq_true_eq, List.all_eq_true, beq_iff_eq, Bool.or_eq_true, decide_eq_decide] at h
  obtain ⟨⟨⟨⟨h1, h2⟩, h3⟩, h4⟩, h5⟩ := h
  refine ⟨h1, h2, h3, fun e => h4.resolve_left (by simpa using e), fun i hi => ?_⟩
  have := h5 (l[i], i) (by rw [List.mem_iff_getElem]; exact ⟨i, by simpa using hi, by simp⟩)
  exact this
theorem fine_mk {d : Nat} {k n : Int} {nm : List UInt8} {l : List Ex} (h1 : argsN k = (l.length : Int)) (h2 : 0 ≤ n ∧ n ≤ mostN k) (h3 : nm ≠ [] ↔ k = 3) (h4 : k = 3 → isName nm = true)
    (h5 : ∀ i (hi : i < l.length), isCond l[i].k = (decide (k = 10) && decide (i = 0)) ∧ fine d l[i] = true) : fine (d + 1) (.mk k n nm l) = true := by
  rw [fine_eq]
  simp only [Bool.and_eq_true, decide_eq_true_eq, List.all_eq_true, beq_iff_eq, Bool.or_eq_true, decide_eq_decide]
  refine ⟨⟨⟨⟨h1, h2⟩, h3⟩, ?_⟩, ?_⟩
  · by_cases e : k = 3
    · exact .inr (h4 e)
    · exact .inl e
  · rintro ⟨y, i⟩ hy
    obtain ⟨j, hj, e⟩ := List.mem_iff_getElem.1 hy
    simp at hj e
    obtain ⟨rfl, rfl⟩ := e
    exact h5 j hj
theorem fine_mem {d : Nat} {k n : Int} {nm : List UInt8} {l : List Ex} (h : fine (d + 1) (.mk k n nm l) = true) {y : Ex} (hy : y ∈ l) : fine d y = true := by
  obtain ⟨i, hi, rfl⟩ := List.mem_iff_getElem.1 hy
  exact ((fine_parts h).2.2.2.2 i hi).2
theorem name_parts {x : List UInt8} (h : isName x = true) : x ≠ [] ∧ x.all isPt = true ∧ x.length ≤ 12 ∧ ∃ c t, x = c :: t ∧ isL c = true := by
  simp only [isName, Bool.and_eq_true, decide_eq_true_eq] at h
  obtain ⟨⟨⟨⟨h1, h2⟩, h3⟩, _⟩, h4⟩ := h
  refine ⟨h1, ?_, h2, ?_⟩
  · rw [List.all_eq_true] at h4 ⊢
    intro c hc
    have := h4 c hc
    simp only [isPt, this, Bool.true_or]
  · cases x with
    | nil => exact absurd rfl h1
    | cons c t => exact ⟨c, t, rfl, by simpa using h3⟩
theorem name_good {x : List UInt8} (h : isName x = true) : Good x 1 0 := by
  obtain ⟨h1, h2, _⟩ := name_parts h
  refine .inr ⟨h1, h2, ?_⟩
  unfold tokOf; rw [if_pos (by simp [h])]
theorem txt_pos {n : Int} (h : 0 ≤ n) (h' : n ≤ 1000000000000) : txt n = pos n.toNat := by
  unfold txt; rw [rt_yes (by omega) (by omega), if_pos rfl, if_neg (by omega), show n.natAbs = n.toNat by omega]
theorem itoa_pos {n : Int} (h : 0 ≤ n) : itoa n = decDigits n.toNat := by unfold itoa; rw [if_neg (by omega)]
theorem txt_good {n : Int} (h : 0 ≤ n) (h' : n ≤ 1000000000000) : Good (txt n) 3 n := by
  rw [txt_pos h h']
  have := good_money n.toNat (by omega)
  rwa [show ((n.toNat : Nat) : Int) = n by omega] at this
theorem itoa_good {n : Int} (h : 0 ≤ n) (h' : n ≤ 100000) : Good (itoa n) 2 n := by
  rw [itoa_pos h]
  have := good_count n.toNat (by omega)
  rwa [show ((n.toNat : Nat) : Int) = n by omega] at this
theorem txt_head {n : Int} (h : 0 ≤ n) (h' : n ≤ 1000000000000) : ∃ c t, txt n = c :: t ∧ isD c = true := by
  obtain ⟨c, t, e, hc⟩ := dd_cons (n.toNat / 100)
  rw [txt_pos h h']
  exact ⟨c, _, by unfold pos; rw [e]; rfl, hc⟩
/-- A kind's word. -/
theorem word_kind {k : Int} (h : 0 ≤ argsN k) (h4 : k ≠ 4) : Good (wordK k) 1 0 ∧ (∃ c t, wordK k = c :: t ∧ isL c = true) ∧ (wordK k).length ≤ 6 := by
  have hk : k = 1 ∨ k = 2 ∨ k = 3 ∨ k = 5 ∨ k = 6 ∨ k = 7 ∨ k = 8 ∨ k = 9 ∨ k = 10 ∨ k = 11 ∨ k = 12 := by
    unfold argsN at h
    split at h
    · omega
    · split at h
      · omega
      · split at h
        · omega
        · split at h <;> omega
  rcases hk with rfl | rfl | rfl | rfl | rfl | rfl | rfl | rfl | rfl | rfl | rfl
  all_goals exact ⟨good_word (by decide), ⟨_, _, rfl, by decide⟩, by decide⟩
theorem stops_cons {c : UInt8} {t : List UInt8} (h : isPt c = false) : stops (c :: t) = true := by simp [stops, h]
theorem mores_stops (l : List Ex) {r : List UInt8} (hr : stops r = true) : stops (mores l ++ r) = true := by
  cases l with
  | nil => rw [mores_nil]; exact hr
  | cons x t => rw [mores_cons]; exact stops_cons (c := 44) (by decide)
theorem tail_stops (k n : Int) (nm r : List UInt8) (h : k ≠ 3) (h' : k ≠ 11) : stops (tailK k n nm ++ ([41] ++ r)) = true := by
  unfold tailK
  rw [if_neg h]
  split
  · exact stops_cons (c := 44) (by decide)
  · split
    · exact stops_cons (c := 44) (by decide)
    · exact stops_cons (c := 41) (by decide)
theorem most_le (k : Int) : mostN k ≤ 1000000000000 ∧ (k = 6 ∨ k = 11 → mostN k ≤ 100000) ∧ (k ≠ 4 → k ≠ 5 → k ≠ 6 → k ≠ 11 → mostN k = 0) := by
  unfold mostN
  refine ⟨?_, fun h => ?_, fun h1 h2 h3 h4 => ?_⟩
  · split
    · omega
    · split
      · omega
      · split <;> omega
  · rcases h with rfl | rfl <;> decide
  · rw [if_neg (by omega), if_neg h3, if_neg h4]
end Go.Proofs.YtjhjdiaomnpkmaaDoor

namespace Go.Proofs.YtjhjdiaomnpkmaaDoor
open Go.Lib
set_option linter.unusedVariables false
set_option linter.unusedSimpArgs false
/-- A text is scanned to at least n tokens, whatever stands behind it that is no part. -/
def Sc (a : List UInt8) (n : Nat) : Prop := ∀ p r, stops r = true → ∃ ts, lx p (a ++ r) = pre ts (lx (p + a.length) r) ∧ n ≤ ts.length
theorem Sc.append {a b : List UInt8} {n m : Nat} (ha : Sc a n) (hb : Sc b m) (hs : ∀ r, stops r = true → stops (b ++ r) = true) : Sc (a ++ b) (n + m) := by
  intro p r hr
  obtain ⟨ts, e, h⟩ := ha p (b ++ r) (hs r hr)
  obtain ⟨us, e', h'⟩ := hb (p + a.length) r hr
  refine ⟨ts ++ us, ?_, by rw [List.length_append]; omega⟩
  rw [List.append_assoc, e, e', pre_pre, List.length_append, Nat.add_assoc]
theorem Sc.nil : Sc [] 0 := fun p r _ => ⟨[], by rw [pre_nil]; rfl, Nat.zero_le _⟩
theorem Sc.good {x : List UInt8} {k n : Int} (h : Good x k n) : Sc x 1 := fun p r hr => ⟨_, lx_good h p r hr, Nat.le_refl _⟩
theorem Sc.comma {a : List UInt8} {n : Nat} (h : Sc a n) : Sc ([44, 32] ++ a) n := by
  intro p r hr
  obtain ⟨ts, e, h⟩ := h (p + 1 + 1) r hr
  refine ⟨(4, [44], 0, (p : Int)) :: ts, ?_, by simp; omega⟩
  have e1 := lx_sign p 44 (32 :: (a ++ r)) (by decide) (by decide)
  have e2 := lx_blank (p + 1) 32 (a ++ r) (by decide)
  show lx p (44 :: 32 :: (a ++ r)) = _
  rw [e1, e2, e, pre_pre]
  simp only [List.length_append, List.length_cons, List.length_nil, List.cons_append, List.nil_append]
  rw [show p + (a.length + 1 + 1) = p + 1 + 1 + a.length by omega]
theorem Sc.sign {c : UInt8} {a : List UInt8} {n : Nat} (hc : isSg c = true) (h : ∀ p r, stops r = true → ∃ ts, lx p (a ++ r) = pre ts (lx (p + a.length) r) ∧ n ≤ ts.length) : Sc ([c] ++ a) n := by
  intro p r hr
  obtain ⟨ts, e, h⟩ := h (p + 1) r hr
  refine ⟨(4, [c], 0, (p : Int)) :: ts, ?_, by simp; omega⟩
  have e1 := lx_sign p c (a ++ r) (sg_not hc).1 hc
  show lx p (c :: (a ++ r)) = _
  rw [e1, e, pre_pre]
  simp only [List.length_append, List.length_cons, List.length_nil, List.cons_append, List.nil_append]
  rw [show p + (a.length + 1) = p + 1 + a.length by omega]
theorem Sc.mores {l : List Ex} (h : ∀ x ∈ l, Sc (text x) (size x)) : Sc (mores l) (sizes l) := by
  induction l with
  | nil => rw [mores_nil, sizes_nil]; exact Sc.nil
  | cons x t ih =>
    rw [mores_cons, sizes_cons]
    exact Sc.comma (Sc.append (h x (List.mem_cons_self ..)) (ih fun y hy => h y (List.mem_cons_of_mem _ hy)) fun r hr => mores_stops t hr)
theorem Sc.texts {l : List Ex} (h : ∀ x ∈ l, Sc (text x) (size x)) : Sc (texts l) (sizes l) := by
  cases l with
  | nil => rw [texts_nil, sizes_nil]; exact Sc.nil
  | cons x t =>
    rw [texts_cons, sizes_cons]
    exact Sc.append (h x (List.mem_cons_self ..)) (Sc.mores fun y hy => h y (List.mem_cons_of_mem _ hy)) fun r hr => mores_stops t hr
theorem sc_tail {k n : Int} {nm : List UInt8} (hn : 0 ≤ n ∧ n ≤ mostN k) (hm : k = 3 → isName nm = true) : Sc (tailK k n nm) 0 := by
  obtain ⟨b1, b2, b3⟩ := most_le k
  have wk : ∀ {a : List UInt8} {n : Nat}, Sc a n → Sc a 0 := fun h p r hr => by
    obtain ⟨ts, e, _⟩ := h p r hr
    exact ⟨ts, e, Nat.zero_le _⟩
  unfold tailK
  split
  · rename_i e; exact wk (Sc.good (name_good (hm e)))
  · split
    · exact wk (Sc.comma (Sc.good (txt_good hn.1 (by omega))))
    · split
      · rename_i e; have := b2 (.inl e); exact wk (Sc.comma (Sc.good (itoa_good hn.1 (by omega))))
      · split
        · rename_i e; have := b2 (.inr e); exact wk (Sc.good (itoa_good hn.1 (by omega)))
        · exact Sc.nil
theorem text_scans : ∀ (x : Ex) (d : Nat), fine d x = true → Sc (text x) (size x) := ex_ind fun k n nm l ih d hx => by
  obtain ⟨d, rfl⟩ : ∃ e, d = e + 1 := by
    cases d with
    | zero => cases hx
    | succ d => exact ⟨d, rfl⟩
  obtain ⟨a1, a2, a3, a4, a5⟩ := fine_parts hx
  have m1 := most_le k
  have lnil : argsN k = 0 → l = [] := fun e2 => List.length_eq_zero_iff.1 (by omega)
  rw [text_mk, size_mk]
  by_cases k4 : k = 4
  · subst k4
    rw [if_pos rfl, lnil (by decide), sizes_nil]
    exact Sc.good (txt_good a2.1 (by omega))
  · obtain ⟨g, _, _⟩ := word_kind (by omega : 0 ≤ argsN k) k4
    rw [if_neg k4]
    by_cases k12 : k = 1 ∨ k = 2
    · rw [if_pos k12, lnil (by rcases k12 with rfl | rfl <;> decide), sizes_nil]
      exact Sc.good g
    · rw [if_neg k12]
      refine Sc.append (Sc.good g) (Sc.sign (by decide) ?_) (fun r _ => stops_cons (c := 40) (by decide))
      have h1 : Sc (texts l) (sizes l) := Sc.texts fun y hy => ih y hy d (fine_mem hx hy)
      have h2 : Sc (tailK k n nm ++ [41]) 0 := Sc.append (n := 0) (m := 0) (sc_tail a2 a4) (by
        have := Sc.sign (c := 41) (a := []) (n := 0) (by decide) (fun p r hr => ⟨[], by rw [pre_nil]; rfl, Nat.zero_le _⟩)
        exact this) (fun r _ => stops_cons (c := 41) (by decide))
      by_cases hl : l = []
      · subst hl
        rw [texts_nil, sizes_nil, List.nil_append]; exact h2
      · have hk3 : k ≠ 3 := fun e => hl (lnil (by rw [e]; decide))
        have hk11 : k ≠ 11 := fun e => hl (lnil (by rw [e]; decide))
        have := Sc.append h1 h2 fun r _ => by
          have := tail_stops k n nm r hk3 hk11
          rwa [List.append_assoc]
        exact this
theorem txt_len (n : Int) : (txt n).length ≤ 43 := by
  unfold txt
  split
  · rename_i h
    have hb := rt_iff.1 h
    have h1 : (pos n.natAbs).length ≤ 42 := by
      unfold pos
      have a1 := dd_len 14 (n.natAbs / 100) (by have : n.natAbs ≤ 1000000000000 := by omega
                                                have e : (10 : Nat) ^ 14 = 100000000000000 := by decide
                                                omega) (by omega)
      have a2 := dd_len 1 (n.natAbs / 10 % 10) (by omega) (by omega)
      have a3 := dd_len 1 (n.natAbs % 10) (by omega) (by omega)
      simp only [List.length_append, List.length_cons, List.length_nil]
      omega
    split
    · simp; omega
    · omega
  · simp
theorem itoa_len {n : Int} (h : 0 ≤ n) (h' : n ≤ 1000000000000) : (itoa n).length ≤ 14 := by
  rw [itoa_pos h]
  exact dd_len 14 n.toNat (by have e : (10 : Nat) ^ 14 = 100000000000000 := by decide
                              omega) (by omega)
theorem text_more : ∀ (x : Ex) (d : Nat), fine d x = true → size x ≤ (text x).length := ex_ind fun k n nm l ih d hx => by
  obtain ⟨d, rfl⟩ : ∃ e, d = e + 1 := by
    cases d with
    | zero => cases hx
    | succ d => exact ⟨d, rfl⟩
  obtain ⟨a1, a2, a3, a4, a5⟩ := fine_parts hx
  have lnil : argsN k = 0 → l = [] := fun e2 => List.length_eq_zero_iff.1 (by omega)
  have hm : ∀ l : List Ex, (∀ x ∈ l, size x ≤ (text x).length) → sizes l ≤ (mores l).length := by
    intro l
    induction l with
    | nil => intro _; rw [sizes_nil]; omega
    | cons x t ih2 =>
      intro h
      have h1 := h x (List.mem_cons_self ..)
      have h2 := ih2 fun y hy => h y (List.mem_cons_of_mem _ hy)
      rw [mores_cons, sizes_cons]
      simp only [List.length_append, List.length_cons, List.length_nil]
      omega
  have ht : sizes l ≤ (texts l).length := by
    cases l with
    | nil => rw [sizes_nil]; omega
    | cons x t =>
      have h1 := ih x (List.mem_cons_self ..) d (fine_mem hx (List.mem_cons_self ..))
      have h2 := hm t fun y hy => ih y (List.mem_cons_of_mem _ hy) d (fine_mem hx (List.mem_cons_of_mem _ hy))
      rw [texts_cons, sizes_cons]
      simp only [List.length_append]
      omega
  have m1 := most_le k
  rw [text_mk, size_mk]
  split
  · rename_i k4
    subst k4
    rw [lnil (by decide), sizes_nil]
    obtain ⟨c, t, e, _⟩ := txt_head a2.1 (by omega : n ≤ 1000000000000)
    rw [e]; simp
  · rename_i k4
    obtain ⟨_, ⟨c, t, e, _⟩, _⟩ := word_kind (by omega : 0 ≤ argsN k) k4
    split
    · rename_i k12
      rw [lnil (by rcases k12 with rfl | rfl <;> decide), sizes_nil, e]; simp
    · rw [e]
      simp only [List.length_append, List.length_cons, List.length_nil]
      omega
end Go.Proofs.YtjhjdiaomnpkmaaDoor

namespace Go.Proofs.YtjhjdiaomnpkmaaDoor
open Go.RowKit Go.Lib
set_option linter.unusedVariables false
set_option linter.unusedSimpArgs false
/-- One number of the raw ones, below n; 0 behind the last one. -/
def nx (n : Int) : List Int → Int × List Int
  | [] => (0, [])
  | c :: t => (pk c n, t)
end Go.Proofs.YtjhjdiaomnpkmaaDoor

namespace Go.Proofs.YtjhjdiaomnpkmaaDoor
open Go.RowKit Go.Lib
set_option linter.unusedVariables false
set_option linter.unusedSimpArgs false
/-- An expression as its row holds it: kind, number, name, and the slice of its arguments. -/
abbrev El := Int × Int × List UInt8 × Option Addr × Nat × Nat
abbrev EV (e : El) : Value := .agg #[.int .i64 e.1, .int .i64 e.2.1, .string (B e.2.2.1), .slice e.2.2.2.1 e.2.2.2.2.1 e.2.2.2.2.2]
def cellsE (e : El) : List Value := [.int .i64 e.1, .int .i64 e.2.1, .string (B e.2.2.1), .slice e.2.2.2.1 e.2.2.2.2.1 e.2.2.2.2.2]
def cellsEs (es : List El) : List Value := es.flatMap cellsE
theorem cellsEs_snoc (es : List El) (e : El) : cellsEs (es ++ [e]) = cellsEs es ++ cellsE e := by simp [cellsEs]
theorem cellsEs_at (es : List El) (i : Nat) (h : i < es.length) :
    (cellsEs es)[i * 4]? = some (.int .i64 es[i].1) ∧ (cellsEs es)[i * 4 + 1]? = some (.int .i64 es[i].2.1) ∧ (cellsEs es)[i * 4 + 2]? = some (.string (B es[i].2.2.1)) ∧ (cellsEs es)[i * 4 + 3]? = some (.slice es[i].2.2.2.1 es[i].2.2.2.2.1 es[i].2.2.2.2.2) := by
  induction es generalizing i with
  | nil => simp at h
  | cons e t ih =>
    have hc : cellsEs (e :: t) = cellsE e ++ cellsEs t := rfl
    cases i with
    | zero => rw [hc]; exact ⟨rfl, rfl, rfl, rfl⟩
    | succ i =>
      obtain ⟨h1, h2, h3, h4⟩ := ih i (by simpa using h)
      have l4 : (cellsE e).length = 4 := rfl
      refine ⟨?_, ?_, ?_, ?_⟩
      · rw [hc, List.getElem?_append_right (by omega), show (i + 1) * 4 - (cellsE e).length = i * 4 by omega]; exact h1
      · rw [hc, List.getElem?_append_right (by omega), show (i + 1) * 4 + 1 - (cellsE e).length = i * 4 + 1 by omega]; exact h2
      · rw [hc, List.getElem?_append_right (by omega), show (i + 1) * 4 + 2 - (cellsE e).length = i * 4 + 2 by omega]; exact h3
      · rw [hc, List.getElem?_append_right (by omega), show (i + 1) * 4 + 3 - (cellsE e).length = i * 4 + 3 by omega]; exact h4
/-- The cells from A on are these; their block is one of S. -/
def RowE (S : Nat → Prop) (w : World) (A : Option Addr) (es : List El) : Prop :=
  ∀ i (h : i < es.length), ∃ (g off : Nat), A = some ⟨g, off, none⟩ ∧ g < w.heap.size ∧ S g ∧ w.cell? ⟨g, off + i * 4, none⟩ = some (.int .i64 es[i].1) ∧ w.cell? ⟨g, off + i * 4 + 1, none⟩ = some (.int .i64 es[i].2.1) ∧
    w.cell? ⟨g, off + i * 4 + 2, none⟩ = some (.string (B es[i].2.2.1)) ∧ w.cell? ⟨g, off + i * 4 + 3, none⟩ = some (.slice es[i].2.2.2.1 es[i].2.2.2.2.1 es[i].2.2.2.2.2)
theorem RowE.mono {S S' : Nat → Prop} {w w' : World} {A : Option Addr} {es : List El} (h : RowE S w A es) (hs : w.heap.size ≤ w'.heap.size) (hm : ∀ g, S g → g < w.heap.size → S' g ∧ w'.heap[g]? = w.heap[g]?) : RowE S' w' A es := by
  intro i hi
  obtain ⟨g, off, e, hl, hS, h0, h1, h2, h3⟩ := h i hi
  obtain ⟨hS', hb⟩ := hm g hS hl
  have hk : ∀ j, w'.cell? ⟨g, j, none⟩ = w.cell? ⟨g, j, none⟩ := fun j => World.cell?_of_block (a := ⟨g, j, none⟩) hb
  exact ⟨g, off, e, by omega, hS', by rw [hk]; exact h0, by rw [hk]; exact h1, by rw [hk]; exact h2, by rw [hk]; exact h3⟩
def i64 (n : Int) : Prop := -9223372036854775808 ≤ n ∧ n ≤ 9223372036854775807
/-- In this world an element is this expression. -/
inductive ExAt (S : Nat → Prop) (w : World) : El → Ex → Prop where
  | mk (k n : Int) (nm : List UInt8) (A : Option Addr) (c : Nat) (l : List Ex) (es : List El) (hk : i64 k) (hn : i64 n) (hm : nm.length ≤ 100) (hl : es.length = l.length) (hrow : RowE S w A es)
      (hsub : ∀ i (h : i < es.length) (h' : i < l.length), ExAt S w es[i] l[i]) : ExAt S w (k, n, nm, A, l.length, c) (.mk k n nm l)
theorem ExAt.mono {S S' : Nat → Prop} {w w' : World} (hs : w.heap.size ≤ w'.heap.size) (hm : ∀ g, S g → g < w.heap.size → S' g ∧ w'.heap[g]? = w.heap[g]?) {e : El} {x : Ex} (h : ExAt S w e x) : ExAt S' w' e x := by
  induction h with
  | mk k n nm A c l es hk hn hm' hl hrow hsub ih => exact .mk k n nm A c l es hk hn hm' hl (hrow.mono hs hm) ih
theorem ExAt.rel {S : Nat → Prop} {w w' : World} {e : El} {x : Ex} (h : ExAt S w e x) (hr : Rel w w') : ExAt S w' e x := h.mono hr.size fun g hS hl => ⟨hS, hr.2.block g hl⟩
theorem ExAt.weak {S S' : Nat → Prop} {w : World} {e : El} {x : Ex} (h : ExAt S w e x) (hm : ∀ g, S g → S' g) : ExAt S' w e x := h.mono (Nat.le_refl _) fun g hS _ => ⟨hm g hS, rfl⟩
/-- What an element is, opened. -/
theorem ExAt.open {S : Nat → Prop} {w : World} {k n : Int} {nm : List UInt8} {l : List Ex} {e : El} (h : ExAt S w e (.mk k n nm l)) : ∃ A c es, e = (k, n, nm, A, l.length, c) ∧ i64 k ∧ i64 n ∧ nm.length ≤ 100 ∧ es.length = l.length ∧ RowE S w A es ∧ ∀ i (h : i < es.length) (h' : i < l.length), ExAt S w es[i] l[i] := by
  cases h with
  | mk k n nm A c l es hk hn hm hl hrow hsub => exact ⟨A, c, es, rfl, hk, hn, hm, hl, hrow, hsub⟩
theorem RowE.nil (S : Nat → Prop) (w : World) (A : Option Addr) : RowE S w A [] := fun i h => absurd h (by simp)
theorem ExAt.leaf (S : Nat → Prop) (w : World) (k n : Int) (nm : List UInt8) (A : Option Addr) (c : Nat) (hk : i64 k) (hn : i64 n) (hm : nm.length ≤ 100) : ExAt S w (k, n, nm, A, 0, c) (.mk k n nm []) :=
  .mk k n nm A c [] [] hk hn hm rfl (RowE.nil _ _ _) fun i h => absurd h (by simp)
theorem ExAt.grown {S S' : Nat → Prop} {w w' : World} {b : Option Nat} {e : El} {x : Ex} (h : ExAt S w e x) (hg : w.grownBy w' b) (hS : ∀ k, S k → S' k ∧ some k ≠ b) : ExAt S' w' e x := h.mono hg.size fun k hk hl => ⟨(hS k hk).1, hg.block k hl (hS k hk).2⟩
/-- A slice of expressions of the call's own. -/
def ElsOwn (w : World) (base : Nat) (v : Value) (es : List El) : Prop := w.ownsRow base 46 4 v es.length (cellsEs es)
theorem ElsOwn.toks {S : Nat → Prop} {w : World} {base : Nat} {A : Option Addr} {n c : Nat} {es : List El} (h : ElsOwn w base (.slice A n c) es) (hn : n = es.length) (hS : ∀ j, (Value.slice A n c).ownBlock = some j → S j) : RowE S w A es := by
  intro i hi
  have h : w.ownsRow base 46 4 (.slice A n c) es.length (cellsEs es) := h
  rcases h.2 with ⟨h0, h1⟩ | ⟨g, cap, cur, hv, hb, hh, _⟩
  · omega
  · have hA : A = some ⟨g, 0, none⟩ := by injection hv
    obtain ⟨c0, c1, c2, c3⟩ := cellsEs_at es i hi
    have hc := h.cells (g := g) (by rw [hA]; rfl)
    have q0 := hc _ _ c0
    have q1 := hc _ _ c1
    have q2 := hc _ _ c2
    have q3 := hc _ _ c3
    rw [addr_at] at q0 q1 q2 q3
    refine ⟨g, 0, hA, Bk.lt (t := 46) hh, hS g (by rw [hA]; rfl), ?_, ?_, ?_, ?_⟩
    · exact q0
    · rw [Nat.add_assoc]; exact q1
    · rw [Nat.add_assoc]; exact q2
    · rw [Nat.add_assoc]; exact q3
theorem ex_info : (Tryd.prog.info? 46).map (fun i => (i.zero, i.size, i.bytes)) = some (some (.agg #[.int .i64 0, .int .i64 0, .string ⟨#[]⟩, .slice none 0 0]), 4, 56) := by kernel_rfl
theorem cellsE_one (e : El) : ∀ u ∈ cellsE e, u.oneCell' = true := by
  intro u hu
  simp only [cellsE, List.mem_cons, List.not_mem_nil, or_false] at hu
  rcases hu with rfl | rfl | rfl | rfl <;> rfl
theorem grown_rel {w w' : World} (r : Option Nat) (h : Rel w w') : w.grownBy w' r := ⟨h.2.os, h.2.tape, h.2.output, h.2.size, fun k hk _ => h.2.block k hk⟩
theorem grown_trans {w w' w'' : World} {r : Option Nat} (h : w.grownBy w' r) (h' : w'.grownBy w'' r) : w.grownBy w'' r :=
  ⟨h'.os.trans h.os, h'.tape.trans h.tape, h'.output.trans h.output, Nat.le_trans h.size h'.size, fun k hk hn => (h'.block k (Nat.lt_of_lt_of_le hk h.size) hn).trans (h.block k hk hn)⟩
theorem grown_of {w w' w'' : World} {r : Option Nat} (h : w.grownBy w' r) {b : Option Nat} (h' : w'.grownBy w'' b) (hb : ∀ k, b = some k → w.heap.size ≤ k) : w.grownBy w'' r :=
  ⟨h'.os.trans h.os, h'.tape.trans h.tape, h'.output.trans h.output, Nat.le_trans h.size h'.size, fun k hk hn => (h'.block k (Nat.lt_of_lt_of_le hk h.size) (fun e => by have := hb k e.symm; omega)).trans (h.block k hk hn)⟩
theorem set_grown (w : World) (b i : Nat) (v : Value) : w.grownBy (w.setCell ⟨b, i, none⟩ v) (some b) :=
  ⟨rfl, rfl, rfl, by rw [World.size_setCell]; exact Nat.le_refl _, fun k _ hk => Below.heap_setCell w ⟨b, i, none⟩ v k (fun e => hk (by rw [e]))⟩
theorem put4_grown (w : World) (b : Nat) (x y z u : Value) : w.grownBy ((((w.setCell ⟨b, 0, none⟩ x).setCell ⟨b, 1, none⟩ y).setCell ⟨b, 2, none⟩ z).setCell ⟨b, 3, none⟩ u) (some b) :=
  grown_trans (grown_trans (grown_trans (set_grown w b 0 x) (set_grown _ b 1 y)) (set_grown _ b 2 z)) (set_grown _ b 3 u)
end Go.Proofs.YtjhjdiaomnpkmaaDoor

namespace Go.Proofs.YtjhjdiaomnpkmaaDoor
open Go.RowKit Go.Lib
set_option linter.unusedVariables false
set_option linter.unusedSimpArgs false
theorem kinds (k : Int) : (k = 1 ∨ k = 2 ∨ k = 3 ∨ k = 4 ∨ k = 5 ∨ k = 6 ∨ k = 7 ∨ k = 8 ∨ k = 9 ∨ k = 10 ∨ k = 11 ∨ k = 12) ∨
    ((k == 1) = false ∧ (k == 2) = false ∧ (k == 3) = false ∧ (k == 4) = false ∧ (k == 5) = false ∧ (k == 6) = false ∧ (k == 7) = false ∧ (k == 8) = false ∧ (k == 9) = false ∧ (k == 10) = false ∧ (k == 11) = false ∧ (k == 12) = false ∧ argsN k = -1 ∧ mostN k = 0 ∧ isCond k = false) := by
  by_cases h : k = 1 ∨ k = 2 ∨ k = 3 ∨ k = 4 ∨ k = 5 ∨ k = 6 ∨ k = 7 ∨ k = 8 ∨ k = 9 ∨ k = 10 ∨ k = 11 ∨ k = 12
  · exact .inl h
  · refine .inr ⟨?_, ?_, ?_, ?_, ?_, ?_, ?_, ?_, ?_, ?_, ?_, ?_, ?_, ?_, ?_⟩
    iterate 12 (· simp; omega)
    · unfold argsN; rw [if_neg (by omega), if_neg (by omega), if_neg (by omega), if_neg (by omega)]
    · unfold mostN; rw [if_neg (by omega), if_neg (by omega), if_neg (by omega)]
    · unfold isCond; simp; omega
end Go.Proofs.YtjhjdiaomnpkmaaDoor
