/- Plain mathematics of layer 7: expressions, their texts, sizes and depths. No program in this text; Plain mathematics of layer 7, second part: unlike right expressions have unlike texts; what is printed is scanned. No program in this text; Plain mathematics of layer 7, third part: what is printed is scanned; how long a text is. No program in this text. -/
import Derived.Test.YtldopbkjchgcnaaDoorZ01
namespace Go.Proofs.YtldopbkjchgcnaaDoor
open Go.Lib
set_option linter.unusedVariables false
set_option linter.unusedSimpArgs false

/-- An expression: kind, number, name, arguments. -/
inductive Ex where
  | mk (k n : Int) (nm : List UInt8) (l : List Ex)
def Ex.k : Ex → Int | .mk k _ _ _ => k
def Ex.n : Ex → Int | .mk _ n _ _ => n
def Ex.nm : Ex → List UInt8 | .mk _ _ nm _ => nm
def Ex.l : Ex → List Ex | .mk _ _ _ l => l
mutual
def size : Ex → Nat
  | .mk _ _ _ l => 1 + sizes l
def sizes : List Ex → Nat
  | [] => 0
  | x :: t => size x + sizes t
end
mutual
def deep : Ex → Nat
  | .mk _ _ _ l => deeps l + 1
def deeps : List Ex → Nat
  | [] => 0
  | x :: t => max (deep x) (deeps t)
end
theorem size_mk (k n : Int) (nm : List UInt8) (l : List Ex) : size (.mk k n nm l) = 1 + sizes l := by rw [size]
theorem sizes_nil : sizes [] = 0 := by rw [sizes]
theorem sizes_cons (x : Ex) (t : List Ex) : sizes (x :: t) = size x + sizes t := by rw [sizes]
theorem deep_mk (k n : Int) (nm : List UInt8) (l : List Ex) : deep (.mk k n nm l) = deeps l + 1 := by rw [deep]
theorem deeps_nil : deeps [] = 0 := by rw [deeps]
theorem deeps_cons (x : Ex) (t : List Ex) : deeps (x :: t) = max (deep x) (deeps t) := by rw [deeps]
theorem size_mem {x : Ex} {l : List Ex} (h : x ∈ l) : size x ≤ sizes l := by
  induction l with
  | nil => cases h
  | cons y t ih =>
    rw [sizes_cons]
    rcases List.mem_cons.1 h with rfl | h
    · omega
    · have := ih h; omega
theorem deep_mem {x : Ex} {l : List Ex} (h : x ∈ l) : deep x ≤ deeps l := by
  induction l with
  | nil => cases h
  | cons y t ih =>
    rw [deeps_cons]
    rcases List.mem_cons.1 h with rfl | h
    · omega
    · have := ih h; omega
theorem size_pos (x : Ex) : 1 ≤ size x := by cases x; rw [size_mk]; omega
theorem sizes_append (a b : List Ex) : sizes (a ++ b) = sizes a + sizes b := by
  induction a with
  | nil => simp [sizes_nil]
  | cons x t ih => rw [List.cons_append, sizes_cons, sizes_cons, ih]; omega
theorem deeps_append (a b : List Ex) : deeps (a ++ b) = max (deeps a) (deeps b) := by
  induction a with
  | nil => simp [deeps_nil]
  | cons x t ih => rw [List.cons_append, deeps_cons, deeps_cons, ih]; omega
/-- What holds of an expression if it holds of all its arguments. -/
theorem ex_ind {P : Ex → Prop} (h : ∀ k n nm l, (∀ x ∈ l, P x) → P (.mk k n nm l)) : ∀ x, P x := by
  have : ∀ m x, size x ≤ m → P x := by
    intro m
    induction m with
    | zero => intro x hx; have := size_pos x; omega
    | succ m ih =>
      intro x hx
      cases x with
      | mk k n nm l =>
        rw [size_mk] at hx
        exact h k n nm l fun y hy => ih y (by have := size_mem hy; omega)
  exact fun x => this _ x (Nat.le_refl _)
theorem deep_le_size : ∀ x, deep x ≤ size x := ex_ind fun k n nm l ih => by
  rw [deep_mk, size_mk]
  have : deeps l ≤ sizes l := by
    clear k n nm
    induction l with
    | nil => rw [deeps_nil]; omega
    | cons y t ih2 =>
      have h1 := ih y (List.mem_cons_self ..)
      have h2 := ih2 fun z hz => ih z (List.mem_cons_of_mem _ hz)
      rw [deeps_cons, sizes_cons]; omega
  omega
/-- Are two the same? -/
def sameN : Nat → Ex → Ex → Bool
  | 0, _, _ => false
  | d + 1, x, y => decide (x.k = y.k) && decide (x.n = y.n) && decide (x.nm = y.nm) && decide (x.l.length = y.l.length) && (x.l.zip y.l).all fun p => sameN d p.1 p.2
theorem zip_eq {a b : List Ex} (hl : a.length = b.length) (h : ∀ p ∈ a.zip b, p.1 = p.2) : a = b := by
  induction a generalizing b with
  | nil => cases b with
    | nil => rfl
    | cons y t => simp at hl
  | cons x s ih =>
    cases b with
    | nil => simp at hl
    | cons y t =>
      have e := h (x, y) (by simp)
      simp only at e
      rw [e, ih (by simpa using hl) fun p hp => h p (by simp [hp])]
theorem zip_self {a : List Ex} : ∀ p ∈ a.zip a, p.1 ∈ a ∧ p.1 = p.2 := by
  induction a with
  | nil => intro p hp; cases hp
  | cons x s ih =>
    intro p hp
    simp only [List.zip_cons_cons, List.mem_cons] at hp
    rcases hp with rfl | hp
    · exact ⟨List.mem_cons_self .., rfl⟩
    · exact ⟨List.mem_cons_of_mem _ (ih p hp).1, (ih p hp).2⟩
theorem same_eq : ∀ (d : Nat) (x y : Ex), sameN d x y = true → x = y := by
  intro d
  induction d with
  | zero => intro x y h; cases h
  | succ d ih =>
    intro x y h
    cases x with
    | mk k n nm l =>
      cases y with
      | mk k' n' nm' l' =>
        simp only [sameN, Bool.and_eq_true, List.all_eq_true] at h
        obtain ⟨⟨⟨⟨h1, h2⟩, h3⟩, h4⟩, h⟩ := h
        have e1 : k = k' := of_decide_eq_true h1
        have e2 : n = n' := of_decide_eq_true h2
        have e3 : nm = nm' := of_decide_eq_true h3
        have e4 : l.length = l'.length := of_decide_eq_true h4
        have e5 : l = l' := zip_eq e4 fun p hp => ih _ _ (h p hp)
        rw [e1, e2, e3, e5]
theorem same_refl : ∀ (x : Ex) (d : Nat), deep x ≤ d → sameN d x x = true := ex_ind fun k n nm l ih d hd => by
  rw [deep_mk] at hd
  cases d with
  | zero => omega
  | succ d =>
    simp only [sameN, Bool.and_eq_true, List.all_eq_true]
    refine ⟨⟨⟨⟨by simp, by simp⟩, by simp⟩, by simp⟩, fun p hp => ?_⟩
    obtain ⟨h1, h2⟩ := zip_self (a := l) p hp
    rw [← h2]
    exact ih _ h1 d (by have := deep_mem h1; omega)
/-- How many arguments a kind has; whether it is a condition; its greatest number; its word. -/
def argsN (k : Int) : Int := if k = 1 ∨ k = 2 ∨ k = 3 ∨ k = 4 ∨ k = 11 then 0 else if k = 5 ∨ k = 6 then 1 else if k = 7 ∨ k = 8 ∨ k = 9 ∨ k = 12 then 2 else if k = 10 then 3 else -1
def isCond (k : Int) : Bool := k == 11 || k == 12
def mostN (k : Int) : Int := if k = 4 ∨ k = 5 then 1000000000000 else if k = 6 then 100000 else if k = 11 then 1000 else 0
def wordK (k : Int) : List UInt8 :=
  if k = 1 then [108,111,119,101,115,116] else if k = 2 then [115,101,99,111,110,100] else if k = 3 then [102,114,111,109] else if k = 5 then [108,101,115,115] else if k = 6 then [99,117,116] else if k = 7 then [109,105,110] else if k = 8 then [109,97,120]
  else if k = 9 then [101,108,115,101] else if k = 10 then [105,102] else if k = 11 then [109,111,114,101] else if k = 12 then [97,98,111,118,101] else []
/-- May an expression be, but for how long its text is, within so many? -/
def fine : Nat → Ex → Bool
  | 0, _ => false
  | d + 1, x => decide (argsN x.k = (x.l.length : Int)) && decide (0 ≤ x.n ∧ x.n ≤ mostN x.k) && (decide (x.nm ≠ []) == decide (x.k = 3)) && (decide (x.k ≠ 3) || isName x.nm) &&
    (x.l.zipIdx).all fun p => (isCond p.1.k == (decide (x.k = 10) && decide (p.2 = 0))) && fine d p.1
def tailK (k n : Int) (nm : List UInt8) : List UInt8 := if k = 3 then nm else if k = 5 then [44, 32] ++ txt n else if k = 6 then [44, 32] ++ itoa n else if k = 11 then itoa n else []
mutual
def text : Ex → List UInt8
  | .mk k n nm l => if k = 4 then txt n else if k = 1 ∨ k = 2 then wordK k else wordK k ++ ([40] ++ (texts l ++ (tailK k n nm ++ [41])))
def texts : List Ex → List UInt8
  | [] => []
  | x :: t => text x ++ mores t
def mores : List Ex → List UInt8
  | [] => []
  | x :: t => [44, 32] ++ (text x ++ mores t)
end
theorem text_mk (k n : Int) (nm : List UInt8) (l : List Ex) : text (.mk k n nm l) = if k = 4 then txt n else if k = 1 ∨ k = 2 then wordK k else wordK k ++ ([40] ++ (texts l ++ (tailK k n nm ++ [41]))) := by rw [text]
theorem texts_nil : texts [] = [] := by rw [texts]
theorem texts_cons (x : Ex) (t : List Ex) : texts (x :: t) = text x ++ mores t := by rw [texts]
theorem mores_nil : mores [] = [] := by rw [mores]
theorem mores_cons (x : Ex) (t : List Ex) : mores (x :: t) = [44, 32] ++ (text x ++ mores t) := by rw [mores]
/-- May an expression be a strategy? -/
def rightX (x : Ex) : Bool := fine 32 x && !isCond x.k && decide (size x ≤ 2000) && decide ((text x).length ≤ 2000)
end Go.Proofs.YtldopbkjchgcnaaDoor

namespace Go.Proofs.YtldopbkjchgcnaaDoor
open Go.Lib
set_option linter.unusedVariables false
set_option linter.unusedSimpArgs false

theorem fine_eq (d : Nat) (k n : Int) (nm : List UInt8) (l : List Ex) : fine (d + 1) (.mk k n nm l) = (decide (argsN k = (l.length : Int)) && decide (0 ≤ n ∧ n ≤ mostN k) && (decide (nm ≠ []) == decide (k = 3)) && (decide (k ≠ 3) || isName nm) &&
    (l.zipIdx).all fun p => (isCond p.1.k == (decide (k = 10) && decide (p.2 = 0))) && fine d p.1) := rfl
/-- What may be, by itself: the shape of one expression, and of all in it. -/
theorem fine_parts {d : Nat} {k n : Int} {nm : List UInt8} {l : List Ex} (h : fine (d + 1) (.mk k n nm l) = true) :
    argsN k = (l.length : Int) ∧ (0 ≤ n ∧ n ≤ mostN k) ∧ (nm ≠ [] ↔ k = 3) ∧ (k = 3 → isName nm = true) ∧ ∀ i (hi : i < l.length), isCond l[i].k = (decide (k = 10) && decide (i = 0)) ∧ fine d l[i] = true := by
  rw [fine_eq] at h
  simp only [Bool.and_eq_true, decide_eq_true_eq, List.all_eq_true, beq_iff_eq, Bool.or_eq_true, decide_eq_decide] at h
  obtain ⟨⟨⟨⟨h1, h2⟩, h3⟩, h4⟩, h5⟩ := h
  refine ⟨h1, h2, h3, fun e => h4.resolve_left (by simpa using e), fun i hi => ?_⟩
  have := h5 (l[i], i) (by rw [List.mem_iff_getElem]; exact ⟨i, by simpa using hi, by simp⟩)
  exact this
theorem fine_mk {d : Nat} {k n : Int} {nm : List UInt8} {l : List Ex} (h1 : argsN k = (l.length : Int)) (h2 : 0 ≤ n ∧ n ≤ mostN k) (h3 : nm ≠ [] ↔ k = 3) (h4 : k = 3 → isName nm = true)
    (h5 : ∀ i (hi : i < l.length), isCond l[i].k = (decide (k = 10) && decide (i = 0)) ∧ fine d l[i] = true) : fine (d + 1) (.mk k n nm l) = true := by
  rw [fine_eq]
  simp only [Bool.and_eq_true, decide_eq_true_eq, List.all_eq_true, beq_iff_eq, Bool.or_eq_true, decide_eq_decide]
  refine ⟨⟨⟨⟨h1, h2⟩, h3⟩, ?_⟩, ?_⟩
  · by_cases e : k = 3
    · exact .inr (h4 e)
    · exact .inl e
  · rintro ⟨y, i⟩ hy
    obtain ⟨j, hj, e⟩ := List.mem_iff_getElem.1 hy
    simp at hj e
    obtain ⟨rfl, rfl⟩ := e
    exact h5 j hj
theorem fine_mem {d : Nat} {k n : Int} {nm : List UInt8} {l : List Ex} (h : fine (d + 1) (.mk k n nm l) = true) {y : Ex} (hy : y ∈ l) : fine d y = true := by
  obtain ⟨i, hi, rfl⟩ := List.mem_iff_getElem.1 hy
  exact ((fine_parts h).2.2.2.2 i hi).2
theorem fine_deep : ∀ (x : Ex) (d : Nat), fine d x = true → deep x ≤ d := ex_ind fun k n nm l ih d h => by
  cases d with
  | zero => cases h
  | succ d =>
    rw [deep_mk]
    have : deeps l ≤ d := by
      have hm : ∀ y ∈ l, deep y ≤ d := fun y hy => ih y hy d (fine_mem h hy)
      clear h ih
      induction l with
      | nil => rw [deeps_nil]; omega
      | cons y t ih2 =>
        rw [deeps_cons]
        have h1 := hm y (List.mem_cons_self ..)
        have h2 := ih2 fun z hz => hm z (List.mem_cons_of_mem _ hz)
        omega
    omega
/-- What may be within more may be within less, if it is not too deep. -/
theorem fine_less : ∀ (x : Ex) (d e : Nat), fine d x = true → deep x ≤ e → fine e x = true := ex_ind fun k n nm l ih d e h he => by
  rw [deep_mk] at he
  cases d with
  | zero => cases h
  | succ d =>
    cases e with
    | zero => omega
    | succ e =>
      obtain ⟨h1, h2, h3, h4, h5⟩ := fine_parts h
      exact fine_mk h1 h2 h3 h4 fun i hi => ⟨(h5 i hi).1, ih _ (List.getElem_mem hi) d e (h5 i hi).2 (by have := deep_mem (List.getElem_mem hi); omega)⟩
theorem name_parts {x : List UInt8} (h : isName x = true) : x ≠ [] ∧ x.all isPt = true ∧ x.length ≤ 12 ∧ ∃ c t, x = c :: t ∧ isL c = true := by
  simp only [isName, Bool.and_eq_true, decide_eq_true_eq] at h
  obtain ⟨⟨⟨⟨h1, h2⟩, h3⟩, _⟩, h4⟩ := h
  refine ⟨h1, ?_, h2, ?_⟩
  · rw [List.all_eq_true] at h4 ⊢
    intro c hc
    have := h4 c hc
    simp only [isPt, this, Bool.true_or]
  · cases x with
    | nil => exact absurd rfl h1
    | cons c t => exact ⟨c, t, rfl, by simpa using h3⟩
theorem name_good {x : List UInt8} (h : isName x = true) : Good x 1 0 := by
  obtain ⟨h1, h2, _⟩ := name_parts h
  refine .inr ⟨h1, h2, ?_⟩
  unfold tokOf; rw [if_pos (by simp [h])]
theorem txt_pos {n : Int} (h : 0 ≤ n) (h' : n ≤ 1000000000000) : txt n = pos n.toNat := by
  unfold txt; rw [rt_yes (by omega) (by omega), if_pos rfl, if_neg (by omega), show n.natAbs = n.toNat by omega]
theorem itoa_pos {n : Int} (h : 0 ≤ n) : itoa n = decDigits n.toNat := by unfold itoa; rw [if_neg (by omega)]
theorem txt_good {n : Int} (h : 0 ≤ n) (h' : n ≤ 1000000000000) : Good (txt n) 3 n := by
  rw [txt_pos h h']
  have := good_money n.toNat (by omega)
  rwa [show ((n.toNat : Nat) : Int) = n by omega] at this
theorem itoa_good {n : Int} (h : 0 ≤ n) (h' : n ≤ 100000) : Good (itoa n) 2 n := by
  rw [itoa_pos h]
  have := good_count n.toNat (by omega)
  rwa [show ((n.toNat : Nat) : Int) = n by omega] at this
theorem txt_head {n : Int} (h : 0 ≤ n) (h' : n ≤ 1000000000000) : ∃ c t, txt n = c :: t ∧ isD c = true := by
  obtain ⟨c, t, e, hc⟩ := dd_cons (n.toNat / 100)
  rw [txt_pos h h']
  exact ⟨c, _, by unfold pos; rw [e]; rfl, hc⟩
theorem good_pt {x : List UInt8} {k n : Int} (h : Good x k n) (hk : k ≠ 4) : x ≠ [] ∧ x.all isPt = true := by
  rcases h with ⟨_, _, _, e, _⟩ | ⟨h1, h2, _⟩
  · exact absurd e hk
  · exact ⟨h1, h2⟩
theorem itoa_inj {a b : Int} (ha : 0 ≤ a ∧ a ≤ 100000) (hb : 0 ≤ b ∧ b ≤ 100000) (h : itoa a = itoa b) : a = b := by
  rw [itoa_pos ha.1, itoa_pos hb.1] at h
  have h1 := cnt_dd a.toNat 100000
  have h2 := cnt_dd b.toNat 100000
  rw [if_pos (by omega)] at h1 h2
  rw [h, h2] at h1
  omega
/-- Two texts that begin with parts, and go on with none: parts and rest are the same. -/
theorem split_pt {a b r r' : List UInt8} (ha : a.all isPt = true) (hb : b.all isPt = true) (hr : stops r = true) (hr' : stops r' = true) (h : a ++ r = b ++ r') : a = b ∧ r = r' := by
  have h1 := take_run ha hr
  have h2 := take_run hb hr'
  rw [h] at h1
  exact ⟨h1.1.symm.trans h2.1, h1.2.symm.trans h2.2⟩
/-- A kind's word. -/
theorem word_kind {k : Int} (h : 0 ≤ argsN k) (h4 : k ≠ 4) : Good (wordK k) 1 0 ∧ (∃ c t, wordK k = c :: t ∧ isL c = true) ∧ (wordK k).length ≤ 6 := by
  have hk : k = 1 ∨ k = 2 ∨ k = 3 ∨ k = 5 ∨ k = 6 ∨ k = 7 ∨ k = 8 ∨ k = 9 ∨ k = 10 ∨ k = 11 ∨ k = 12 := by
    unfold argsN at h
    split at h
    · omega
    · split at h
      · omega
      · split at h
        · omega
        · split at h <;> omega
  rcases hk with rfl | rfl | rfl | rfl | rfl | rfl | rfl | rfl | rfl | rfl | rfl
  all_goals exact ⟨good_word (by decide), ⟨_, _, rfl, by decide⟩, by decide⟩
theorem word_inj {k k' : Int} (h : 0 ≤ argsN k) (h' : 0 ≤ argsN k') (h4 : k ≠ 4) (h4' : k' ≠ 4) (e : wordK k = wordK k') : k = k' := by
  have kinds : ∀ k : Int, 0 ≤ argsN k → k ≠ 4 → k = 1 ∨ k = 2 ∨ k = 3 ∨ k = 5 ∨ k = 6 ∨ k = 7 ∨ k = 8 ∨ k = 9 ∨ k = 10 ∨ k = 11 ∨ k = 12 := fun k h h4 => by
    unfold argsN at h
    split at h
    · omega
    · split at h
      · omega
      · split at h
        · omega
        · split at h <;> omega
  rcases kinds k h h4 with rfl | rfl | rfl | rfl | rfl | rfl | rfl | rfl | rfl | rfl | rfl <;> rcases kinds k' h' h4' with rfl | rfl | rfl | rfl | rfl | rfl | rfl | rfl | rfl | rfl | rfl <;> first | rfl | (revert e; decide)
theorem stops_cons {c : UInt8} {t : List UInt8} (h : isPt c = false) : stops (c :: t) = true := by simp [stops, h]
theorem mores_stops (l : List Ex) {r : List UInt8} (hr : stops r = true) : stops (mores l ++ r) = true := by
  cases l with
  | nil => rw [mores_nil]; exact hr
  | cons x t => rw [mores_cons]; exact stops_cons (c := 44) (by decide)
theorem tail_stops (k n : Int) (nm r : List UInt8) (h : k ≠ 3) (h' : k ≠ 11) : stops (tailK k n nm ++ ([41] ++ r)) = true := by
  unfold tailK
  rw [if_neg h]
  split
  · exact stops_cons (c := 44) (by decide)
  · split
    · exact stops_cons (c := 44) (by decide)
    · exact stops_cons (c := 41) (by decide)
/-- Texts of as many arguments, one behind the other. -/
theorem mores_inj {l l' : List Ex} (hl : l.length = l'.length) (hi : ∀ x ∈ l, ∀ y ∈ l', ∀ r r', stops r = true → stops r' = true → text x ++ r = text y ++ r' → x = y ∧ r = r') {r r' : List UInt8} (hr : stops r = true) (hr' : stops r' = true)
    (h : mores l ++ r = mores l' ++ r') : l = l' ∧ r = r' := by
  induction l generalizing l' with
  | nil =>
    cases l' with
    | nil => rw [mores_nil] at h; exact ⟨rfl, h⟩
    | cons y t => simp at hl
  | cons x s ih =>
    cases l' with
    | nil => simp at hl
    | cons y t =>
      rw [mores_cons, mores_cons] at h
      simp only [List.cons_append, List.nil_append, List.append_assoc, List.cons.injEq, true_and] at h
      obtain ⟨e, h⟩ := hi x (List.mem_cons_self ..) y (List.mem_cons_self ..) _ _ (mores_stops s hr) (mores_stops t hr') h
      obtain ⟨e2, h⟩ := ih (by simpa using hl) (fun a ha b hb => hi a (List.mem_cons_of_mem _ ha) b (List.mem_cons_of_mem _ hb)) h
      exact ⟨by rw [e, e2], h⟩
theorem texts_inj {l l' : List Ex} (hl : l.length = l'.length) (hi : ∀ x ∈ l, ∀ y ∈ l', ∀ r r', stops r = true → stops r' = true → text x ++ r = text y ++ r' → x = y ∧ r = r') {r r' : List UInt8} (hr : l ≠ [] → stops r = true) (hr' : l ≠ [] → stops r' = true)
    (h : texts l ++ r = texts l' ++ r') : l = l' ∧ r = r' := by
  cases l with
  | nil =>
    cases l' with
    | nil => rw [texts_nil] at h; exact ⟨rfl, h⟩
    | cons y t => simp at hl
  | cons x s =>
    cases l' with
    | nil => simp at hl
    | cons y t =>
      have hr := hr (by simp)
      have hr' := hr' (by simp)
      rw [texts_cons, texts_cons, List.append_assoc, List.append_assoc] at h
      obtain ⟨e, h⟩ := hi x (List.mem_cons_self ..) y (List.mem_cons_self ..) _ _ (mores_stops s hr) (mores_stops t hr') h
      obtain ⟨e2, h⟩ := mores_inj (by simpa using hl) (fun a ha b hb => hi a (List.mem_cons_of_mem _ ha) b (List.mem_cons_of_mem _ hb)) hr hr' h
      exact ⟨by rw [e, e2], h⟩
theorem most_le (k : Int) : mostN k ≤ 1000000000000 ∧ (k = 6 ∨ k = 11 → mostN k ≤ 100000) ∧ (k ≠ 4 → k ≠ 5 → k ≠ 6 → k ≠ 11 → mostN k = 0) := by
  unfold mostN
  refine ⟨?_, fun h => ?_, fun h1 h2 h3 h4 => ?_⟩
  · split
    · omega
    · split
      · omega
      · split <;> omega
  · rcases h with rfl | rfl <;> decide
  · rw [if_neg (by omega), if_neg h3, if_neg h4]
/-- What stands behind the arguments, up to the bracket. -/
theorem tail_inj {k n n' : Int} {nm nm' r r' : List UInt8} (hn : 0 ≤ n ∧ n ≤ mostN k) (hn' : 0 ≤ n' ∧ n' ≤ mostN k) (h3 : nm ≠ [] ↔ k = 3) (h3' : nm' ≠ [] ↔ k = 3) (hm : k = 3 → isName nm = true) (hm' : k = 3 → isName nm' = true) (h4 : k ≠ 4)
    (h : tailK k n nm ++ ([41] ++ r) = tailK k n' nm' ++ ([41] ++ r')) : n = n' ∧ nm = nm' ∧ r = r' := by
  obtain ⟨b1, b2, b3⟩ := most_le k
  have hs : ∀ r : List UInt8, stops ([41] ++ r) = true := fun r => stops_cons (c := 41) (by decide)
  by_cases k3 : k = 3
  · subst k3
    have e0 : mostN 3 = 0 := by decide
    have := split_pt (name_parts (hm rfl)).2.1 (name_parts (hm' rfl)).2.1 (hs r) (hs r') h
    exact ⟨by omega, this.1, by simpa using this.2⟩
  · have en : nm = [] := by
      by_cases e : nm = []
      · exact e
      · exact absurd (h3.1 e) k3
    have en' : nm' = [] := by
      by_cases e : nm' = []
      · exact e
      · exact absurd (h3'.1 e) k3
    by_cases k5 : k = 5
    · subst k5
      have h : txt n ++ ([41] ++ r) = txt n' ++ ([41] ++ r') := by
        have : [44, 32] ++ (txt n ++ ([41] ++ r)) = [44, 32] ++ (txt n' ++ ([41] ++ r')) := h
        simpa using this
      have q := split_pt (good_pt (txt_good hn.1 (by omega)) (by omega)).2 (good_pt (txt_good hn'.1 (by omega)) (by omega)).2 (hs r) (hs r') h
      exact ⟨txt_inj (rt_yes (by omega) (by omega)) (rt_yes (by omega) (by omega)) q.1, by rw [en, en'], by simpa using q.2⟩
    · by_cases k6 : k = 6
      · subst k6
        have bb := b2 (.inl rfl)
        have h : itoa n ++ ([41] ++ r) = itoa n' ++ ([41] ++ r') := by
          have : [44, 32] ++ (itoa n ++ ([41] ++ r)) = [44, 32] ++ (itoa n' ++ ([41] ++ r')) := h
          simpa using this
        have q := split_pt (good_pt (itoa_good hn.1 (by omega)) (by omega)).2 (good_pt (itoa_good hn'.1 (by omega)) (by omega)).2 (hs r) (hs r') h
        exact ⟨itoa_inj (by omega) (by omega) q.1, by rw [en, en'], by simpa using q.2⟩
      · by_cases k11 : k = 11
        · subst k11
          have bb := b2 (.inr rfl)
          have h : itoa n ++ ([41] ++ r) = itoa n' ++ ([41] ++ r') := h
          have q := split_pt (good_pt (itoa_good hn.1 (by omega)) (by omega)).2 (good_pt (itoa_good hn'.1 (by omega)) (by omega)).2 (hs r) (hs r') h
          exact ⟨itoa_inj (by omega) (by omega) q.1, by rw [en, en'], by simpa using q.2⟩
        · have := b3 h4 k5 k6 k11
          have e : tailK k n nm = tailK k n' nm' := by unfold tailK; rw [if_neg k3, if_neg k5, if_neg k6, if_neg k11, if_neg k3, if_neg k5, if_neg k6, if_neg k11]
          rw [e] at h
          have h := List.append_cancel_left h
          exact ⟨by omega, by rw [en, en'], by simpa using h⟩
/-- Unlike right expressions have unlike texts, none of which goes on as another one. -/
theorem text_inj : ∀ (x y : Ex) (d d' : Nat), fine d x = true → fine d' y = true → ∀ r r', stops r = true → stops r' = true → text x ++ r = text y ++ r' → x = y ∧ r = r' := ex_ind fun k n nm l ih y d d' hx hy r r' hr hr' h => by
  obtain ⟨d, rfl⟩ : ∃ e, d = e + 1 := by
    cases d with
    | zero => cases hx
    | succ d => exact ⟨d, rfl⟩
  obtain ⟨d', rfl⟩ : ∃ e, d' = e + 1 := by
    cases d' with
    | zero => cases hy
    | succ d => exact ⟨d, rfl⟩
  cases y with
  | mk k' n' nm' l' =>
    obtain ⟨a1, a2, a3, a4, a5⟩ := fine_parts hx
    obtain ⟨b1, b2, b3, b4, b5⟩ := fine_parts hy
    have m1 := most_le k
    have m2 := most_le k'
    have nil_of : ∀ {j : Int} {m : List UInt8}, (m ≠ [] ↔ j = 3) → j ≠ 3 → m = [] := fun hj h3 => by
      rename_i j m
      by_cases e : m = []
      · exact e
      · exact absurd (hj.1 e) h3
    have lnil : ∀ {j : Int} {m : List Ex}, argsN j = (m.length : Int) → argsN j = 0 → m = [] := fun e1 e2 => List.length_eq_zero_iff.1 (by omega)
    rw [text_mk, text_mk] at h
    by_cases k4 : k = 4
    · subst k4
      by_cases k4' : k' = 4
      · subst k4'
        rw [if_pos rfl, if_pos rfl] at h
        have q := split_pt (good_pt (txt_good a2.1 (by omega)) (by omega)).2 (good_pt (txt_good b2.1 (by omega)) (by omega)).2 hr hr' h
        have e1 := txt_inj (rt_yes (by omega) (by omega)) (rt_yes (by omega) (by omega)) q.1
        rw [e1, nil_of a3 (by omega), nil_of b3 (by omega), lnil a1 (by decide), lnil b1 (by decide)]
        exact ⟨rfl, q.2⟩
      · obtain ⟨c, t, e, hc⟩ := txt_head a2.1 (by omega : n ≤ 1000000000000)
        obtain ⟨_, ⟨c', t', e', hc'⟩, _⟩ := word_kind (by omega : 0 ≤ argsN k') k4'
        rw [if_pos rfl, if_neg k4', e, e'] at h
        have : c = c' := by split at h <;> (simp at h; exact h.1)
        subst this
        rw [isL_D hc] at hc'; cases hc'
    · by_cases k4' : k' = 4
      · subst k4'
        obtain ⟨c, t, e, hc⟩ := txt_head b2.1 (by omega : n' ≤ 1000000000000)
        obtain ⟨_, ⟨c', t', e', hc'⟩, _⟩ := word_kind (by omega : 0 ≤ argsN k) k4
        rw [if_neg k4, if_pos rfl, e, e'] at h
        have : c' = c := by split at h <;> (simp at h; exact h.1)
        subst this
        rw [isL_D hc] at hc'; cases hc'
      · obtain ⟨g, _, _⟩ := word_kind (by omega : 0 ≤ argsN k) k4
        obtain ⟨g', _, _⟩ := word_kind (by omega : 0 ≤ argsN k') k4'
        rw [if_neg k4, if_neg k4'] at h
        have hb : ∀ (z w : List UInt8), stops ([40] ++ z ++ w) = true := fun z w => stops_cons (c := 40) (by decide)
        have key : wordK k = wordK k' ∧ (if k = 1 ∨ k = 2 then [] else [40] ++ (texts l ++ (tailK k n nm ++ [41]))) ++ r = (if k' = 1 ∨ k' = 2 then [] else [40] ++ (texts l' ++ (tailK k' n' nm' ++ [41]))) ++ r' := by
          have form : ∀ (j : Int) (z s : List UInt8), (if j = 1 ∨ j = 2 then wordK j else wordK j ++ z) ++ s = wordK j ++ ((if j = 1 ∨ j = 2 then [] else z) ++ s) := fun j z s => by split <;> simp
          rw [form, form] at h
          refine split_pt (good_pt g (by omega)).2 (good_pt g' (by omega)).2 ?_ ?_ h
          · split
            · exact hr
            · exact hb _ _
          · split
            · exact hr'
            · exact hb _ _
        obtain ⟨ew, h⟩ := key
        have ek := word_inj (by omega) (by omega) k4 k4' ew
        subst ek
        by_cases k12 : k = 1 ∨ k = 2
        · rw [if_pos k12, if_pos k12] at h
          have e0 : argsN k = 0 := by rcases k12 with rfl | rfl <;> decide
          have e1 := m1.2.2 k4 (by omega) (by omega) (by omega)
          rw [nil_of a3 (by omega), nil_of b3 (by omega), lnil a1 e0, lnil b1 e0, show n = n' by omega]
          exact ⟨rfl, h⟩
        · rw [if_neg k12, if_neg k12] at h
          simp only [List.append_assoc] at h
          have h := List.append_cancel_left h
          have ts : ∀ {m : List Ex} (n : Int) (nm r : List UInt8), argsN k = (m.length : Int) → m ≠ [] → stops (tailK k n nm ++ ([41] ++ r)) = true := fun n nm r e1 e2 => tail_stops k n nm r (fun e => e2 (lnil e1 (by rw [e]; decide))) (fun e => e2 (lnil e1 (by rw [e]; decide)))
          have hlen : l.length = l'.length := by omega
          obtain ⟨el, h⟩ := texts_inj hlen (fun x hx' y hy' => ih x hx' y d d' (fine_mem hx hx') (fine_mem hy hy')) (fun e => ts n nm r a1 e) (fun e => ts n' nm' r' a1 e) h
          obtain ⟨en, em, h⟩ := tail_inj a2 b2 a3 b3 a4 b4 k4 h
          rw [el, en, em]
          exact ⟨rfl, h⟩
end Go.Proofs.YtldopbkjchgcnaaDoor

namespace Go.Proofs.YtldopbkjchgcnaaDoor
open Go.Lib
set_option linter.unusedVariables false
set_option linter.unusedSimpArgs false

/-- A text is scanned to at least n tokens, whatever stands behind it that is no part. -/
def Sc (a : List UInt8) (n : Nat) : Prop := ∀ p r, stops r = true → ∃ ts, lx p (a ++ r) = pre ts (lx (p + a.length) r) ∧ n ≤ ts.length
theorem Sc.append {a b : List UInt8} {n m : Nat} (ha : Sc a n) (hb : Sc b m) (hs : ∀ r, stops r = true → stops (b ++ r) = true) : Sc (a ++ b) (n + m) := by
  intro p r hr
  obtain ⟨ts, e, h⟩ := ha p (b ++ r) (hs r hr)
  obtain ⟨us, e', h'⟩ := hb (p + a.length) r hr
  refine ⟨ts ++ us, ?_, by rw [List.length_append]; omega⟩
  rw [List.append_assoc, e, e', pre_pre, List.length_append, Nat.add_assoc]
theorem Sc.nil : Sc [] 0 := fun p r _ => ⟨[], by rw [pre_nil]; rfl, Nat.zero_le _⟩
theorem Sc.good {x : List UInt8} {k n : Int} (h : Good x k n) : Sc x 1 := fun p r hr => ⟨_, lx_good h p r hr, Nat.le_refl _⟩
theorem Sc.comma {a : List UInt8} {n : Nat} (h : Sc a n) : Sc ([44, 32] ++ a) n := by
  intro p r hr
  obtain ⟨ts, e, h⟩ := h (p + 1 + 1) r hr
  refine ⟨(4, [44], 0, (p : Int)) :: ts, ?_, by simp; omega⟩
  have e1 := lx_sign p 44 (32 :: (a ++ r)) (by decide) (by decide)
  have e2 := lx_blank (p + 1) 32 (a ++ r) (by decide)
  show lx p (44 :: 32 :: (a ++ r)) = _
  rw [e1, e2, e, pre_pre]
  simp only [List.length_append, List.length_cons, List.length_nil, List.cons_append, List.nil_append]
  rw [show p + (a.length + 1 + 1) = p + 1 + 1 + a.length by omega]
theorem Sc.sign {c : UInt8} {a : List UInt8} {n : Nat} (hc : isSg c = true) (h : ∀ p r, stops r = true → ∃ ts, lx p (a ++ r) = pre ts (lx (p + a.length) r) ∧ n ≤ ts.length) : Sc ([c] ++ a) n := by
  intro p r hr
  obtain ⟨ts, e, h⟩ := h (p + 1) r hr
  refine ⟨(4, [c], 0, (p : Int)) :: ts, ?_, by simp; omega⟩
  have e1 := lx_sign p c (a ++ r) (sg_not hc).1 hc
  show lx p (c :: (a ++ r)) = _
  rw [e1, e, pre_pre]
  simp only [List.length_append, List.length_cons, List.length_nil, List.cons_append, List.nil_append]
  rw [show p + (a.length + 1) = p + 1 + a.length by omega]
theorem Sc.mores {l : List Ex} (h : ∀ x ∈ l, Sc (text x) (size x)) : Sc (mores l) (sizes l) := by
  induction l with
  | nil => rw [mores_nil, sizes_nil]; exact Sc.nil
  | cons x t ih =>
    rw [mores_cons, sizes_cons]
    exact Sc.comma (Sc.append (h x (List.mem_cons_self ..)) (ih fun y hy => h y (List.mem_cons_of_mem _ hy)) fun r hr => mores_stops t hr)
theorem Sc.texts {l : List Ex} (h : ∀ x ∈ l, Sc (text x) (size x)) : Sc (texts l) (sizes l) := by
  cases l with
  | nil => rw [texts_nil, sizes_nil]; exact Sc.nil
  | cons x t =>
    rw [texts_cons, sizes_cons]
    exact Sc.append (h x (List.mem_cons_self ..)) (Sc.mores fun y hy => h y (List.mem_cons_of_mem _ hy)) fun r hr => mores_stops t hr
theorem sc_tail {k n : Int} {nm : List UInt8} (hn : 0 ≤ n ∧ n ≤ mostN k) (hm : k = 3 → isName nm = true) : Sc (tailK k n nm) 0 := by
  obtain ⟨b1, b2, b3⟩ := most_le k
  have wk : ∀ {a : List UInt8} {n : Nat}, Sc a n → Sc a 0 := fun h p r hr => by
    obtain ⟨ts, e, _⟩ := h p r hr
    exact ⟨ts, e, Nat.zero_le _⟩
  unfold tailK
  split
  · rename_i e; exact wk (Sc.good (name_good (hm e)))
  · split
    · exact wk (Sc.comma (Sc.good (txt_good hn.1 (by omega))))
    · split
      · rename_i e; have := b2 (.inl e); exact wk (Sc.comma (Sc.good (itoa_good hn.1 (by omega))))
      · split
        · rename_i e; have := b2 (.inr e); exact wk (Sc.good (itoa_good hn.1 (by omega)))
        · exact Sc.nil
theorem text_scans : ∀ (x : Ex) (d : Nat), fine d x = true → Sc (text x) (size x) := ex_ind fun k n nm l ih d hx => by
  obtain ⟨d, rfl⟩ : ∃ e, d = e + 1 := by
    cases d with
    | zero => cases hx
    | succ d => exact ⟨d, rfl⟩
  obtain ⟨a1, a2, a3, a4, a5⟩ := fine_parts hx
  have m1 := most_le k
  have lnil : argsN k = 0 → l = [] := fun e2 => List.length_eq_zero_iff.1 (by omega)
  rw [text_mk, size_mk]
  by_cases k4 : k = 4
  · subst k4
    rw [if_pos rfl, lnil (by decide), sizes_nil]
    exact Sc.good (txt_good a2.1 (by omega))
  · obtain ⟨g, _, _⟩ := word_kind (by omega : 0 ≤ argsN k) k4
    rw [if_neg k4]
    by_cases k12 : k = 1 ∨ k = 2
    · rw [if_pos k12, lnil (by rcases k12 with rfl | rfl <;> decide), sizes_nil]
      exact Sc.good g
    · rw [if_neg k12]
      refine Sc.append (Sc.good g) (Sc.sign (by decide) ?_) (fun r _ => stops_cons (c := 40) (by decide))
      have h1 : Sc (texts l) (sizes l) := Sc.texts fun y hy => ih y hy d (fine_mem hx hy)
      have h2 : Sc (tailK k n nm ++ [41]) 0 := Sc.append (n := 0) (m := 0) (sc_tail a2 a4) (by
        have := Sc.sign (c := 41) (a := []) (n := 0) (by decide) (fun p r hr => ⟨[], by rw [pre_nil]; rfl, Nat.zero_le _⟩)
        exact this) (fun r _ => stops_cons (c := 41) (by decide))
      by_cases hl : l = []
      · subst hl
        rw [texts_nil, sizes_nil, List.nil_append]; exact h2
      · have hk3 : k ≠ 3 := fun e => hl (lnil (by rw [e]; decide))
        have hk11 : k ≠ 11 := fun e => hl (lnil (by rw [e]; decide))
        have := Sc.append h1 h2 fun r _ => by
          have := tail_stops k n nm r hk3 hk11
          rwa [List.append_assoc]
        exact this
/-- What is printed is scanned to more tokens than it has expressions. -/
theorem right_scans {x : Ex} (h : rightX x = true) : ∃ ts, lx 0 (text x) = .ok ts ∧ size x < ts.length := by
  simp only [rightX, Bool.and_eq_true] at h
  obtain ⟨ts, e, hl⟩ := text_scans x 32 h.1.1.1 0 [] rfl
  rw [List.append_nil, lx_nil] at e
  exact ⟨_, e, by rw [List.length_append]; simp; omega⟩
theorem txt_len (n : Int) : (txt n).length ≤ 43 := by
  unfold txt
  split
  · rename_i h
    have hb := rt_iff.1 h
    have h1 : (pos n.natAbs).length ≤ 42 := by
      unfold pos
      have a1 := dd_len 14 (n.natAbs / 100) (by have : n.natAbs ≤ 1000000000000 := by omega
                                                have e : (10 : Nat) ^ 14 = 100000000000000 := by decide
                                                omega) (by omega)
      have a2 := dd_len 1 (n.natAbs / 10 % 10) (by omega) (by omega)
      have a3 := dd_len 1 (n.natAbs % 10) (by omega) (by omega)
      simp only [List.length_append, List.length_cons, List.length_nil]
      omega
    split
    · simp; omega
    · omega
  · simp
theorem itoa_len {n : Int} (h : 0 ≤ n) (h' : n ≤ 1000000000000) : (itoa n).length ≤ 14 := by
  rw [itoa_pos h]
  exact dd_len 14 n.toNat (by have e : (10 : Nat) ^ 14 = 100000000000000 := by decide
                              omega) (by omega)
theorem mores_len {l : List Ex} (h : ∀ x ∈ l, (text x).length ≤ 60 * size x) : (mores l).length ≤ 60 * sizes l + 2 * l.length := by
  induction l with
  | nil => rw [mores_nil]; simp
  | cons x t ih =>
    have h1 := h x (List.mem_cons_self ..)
    have h2 := ih fun y hy => h y (List.mem_cons_of_mem _ hy)
    rw [mores_cons, sizes_cons]
    simp only [List.length_append, List.length_cons, List.length_nil]
    omega
theorem texts_len {l : List Ex} (h : ∀ x ∈ l, (text x).length ≤ 60 * size x) : (texts l).length ≤ 60 * sizes l + 2 * l.length := by
  cases l with
  | nil => rw [texts_nil]; simp
  | cons x t =>
    have h1 := h x (List.mem_cons_self ..)
    have h2 := mores_len fun y hy => h y (List.mem_cons_of_mem _ hy)
    rw [texts_cons, sizes_cons]
    simp only [List.length_append, List.length_cons]
    omega
theorem args_le (k : Int) : argsN k ≤ 3 := by
  unfold argsN
  split
  · omega
  · split
    · omega
    · split
      · omega
      · split <;> omega
theorem tail_len {k n : Int} {nm : List UInt8} (hn : 0 ≤ n ∧ n ≤ mostN k) (hm : k = 3 → isName nm = true) : (tailK k n nm).length ≤ 45 := by
  obtain ⟨b1, b2, b3⟩ := most_le k
  unfold tailK
  split
  · rename_i e; have := (name_parts (hm e)).2.2.1; omega
  · split
    · have := txt_len n; simp; omega
    · split
      · have := itoa_len hn.1 (by omega : n ≤ 1000000000000); simp; omega
      · split
        · have := itoa_len hn.1 (by omega : n ≤ 1000000000000); omega
        · simp
theorem text_len : ∀ (x : Ex) (d : Nat), fine d x = true → (text x).length ≤ 60 * size x := ex_ind fun k n nm l ih d hx => by
  obtain ⟨d, rfl⟩ : ∃ e, d = e + 1 := by
    cases d with
    | zero => cases hx
    | succ d => exact ⟨d, rfl⟩
  obtain ⟨a1, a2, a3, a4, a5⟩ := fine_parts hx
  have h1 := texts_len (l := l) fun y hy => ih y hy d (fine_mem hx hy)
  have h2 := tail_len a2 a4
  have h3 := args_le k
  have h4 := txt_len n
  rw [text_mk, size_mk]
  split
  · omega
  · rename_i k4
    obtain ⟨_, _, g⟩ := word_kind (by omega : 0 ≤ argsN k) k4
    split
    · omega
    · simp only [List.length_append, List.length_cons, List.length_nil]
      omega
theorem text_more : ∀ (x : Ex) (d : Nat), fine d x = true → size x ≤ (text x).length := ex_ind fun k n nm l ih d hx => by
  obtain ⟨d, rfl⟩ : ∃ e, d = e + 1 := by
    cases d with
    | zero => cases hx
    | succ d => exact ⟨d, rfl⟩
  obtain ⟨a1, a2, a3, a4, a5⟩ := fine_parts hx
  have lnil : argsN k = 0 → l = [] := fun e2 => List.length_eq_zero_iff.1 (by omega)
  have hm : ∀ l : List Ex, (∀ x ∈ l, size x ≤ (text x).length) → sizes l ≤ (mores l).length := by
    intro l
    induction l with
    | nil => intro _; rw [sizes_nil]; omega
    | cons x t ih2 =>
      intro h
      have h1 := h x (List.mem_cons_self ..)
      have h2 := ih2 fun y hy => h y (List.mem_cons_of_mem _ hy)
      rw [mores_cons, sizes_cons]
      simp only [List.length_append, List.length_cons, List.length_nil]
      omega
  have ht : sizes l ≤ (texts l).length := by
    cases l with
    | nil => rw [sizes_nil]; omega
    | cons x t =>
      have h1 := ih x (List.mem_cons_self ..) d (fine_mem hx (List.mem_cons_self ..))
      have h2 := hm t fun y hy => ih y (List.mem_cons_of_mem _ hy) d (fine_mem hx (List.mem_cons_of_mem _ hy))
      rw [texts_cons, sizes_cons]
      simp only [List.length_append]
      omega
  have m1 := most_le k
  rw [text_mk, size_mk]
  split
  · rename_i k4
    subst k4
    rw [lnil (by decide), sizes_nil]
    obtain ⟨c, t, e, _⟩ := txt_head a2.1 (by omega : n ≤ 1000000000000)
    rw [e]; simp
  · rename_i k4
    obtain ⟨_, ⟨c, t, e, _⟩, _⟩ := word_kind (by omega : 0 ≤ argsN k) k4
    split
    · rename_i k12
      rw [lnil (by rcases k12 with rfl | rfl <;> decide), sizes_nil, e]; simp
    · rw [e]
      simp only [List.length_append, List.length_cons, List.length_nil]
      omega
end Go.Proofs.YtldopbkjchgcnaaDoor
