/- Plain mathematics of layer 8, eighth part: expressions that stand in one another. No program in this text; Plain mathematics of layer 8, ninth part: what stands too deep is told at its place; what is cut off at the end of expressions in one another is missed. No program in this text; Plain mathematics of layer 8, tenth part: what is cut off at the end of expressions in one another is missed. No program in this text. -/
import Derived.Test.YtoajbbcjmalngaaZ07
namespace Go.Proofs.Ytoajbbcjmalngaa
open Go.Lib
set_option linter.unusedVariables false
set_option linter.unusedSimpArgs false

def rep {α : Type} (n : Nat) (a : List α) : List α := match n with
  | 0 => []
  | n + 1 => rep n a ++ a
theorem rep_zero {α : Type} (a : List α) : rep 0 a = [] := rfl
theorem rep_succ {α : Type} (n : Nat) (a : List α) : rep (n + 1) a = rep n a ++ a := rfl
theorem rep_front {α : Type} (n : Nat) (a : List α) : rep (n + 1) a = a ++ rep n a := by
  induction n with
  | zero => simp [rep]
  | succ n ih => rw [rep_succ, ih, List.append_assoc, ← rep_succ, ih]
theorem rep_len {α : Type} (n : Nat) (a : List α) : (rep n a).length = n * a.length := by
  induction n with
  | zero => simp [rep]
  | succ n ih => rw [rep_succ, List.length_append, ih, Nat.succ_mul]
def opL (kd : Nat) : List UInt8 := if kd = 0 then [108, 101, 115, 115, 40] else if kd = 1 then [109, 105, 110, 40, 49, 46, 48, 48, 44, 32] else [105, 102, 40, 97, 98, 111, 118, 101, 40, 115, 101, 99, 111, 110, 100, 44, 32, 108, 111, 119, 101, 115, 116, 41, 44, 32, 50, 46, 48, 48, 44, 32]
def shL (kd : Nat) : List UInt8 := if kd = 0 then [44, 32, 49, 46, 48, 48, 41] else [41]
def opS (kd : Nat) : List Sh := if kd = 0 then [(1, [108, 101, 115, 115], 0), sg 40] else if kd = 1 then [(1, [109, 105, 110], 0), sg 40, (3, [49, 46, 48, 48], 100), sg 44] else [(1, [105, 102], 0), sg 40, (1, [97, 98, 111, 118, 101], 0), sg 40, (1, [115, 101, 99, 111, 110, 100], 0), sg 44, (1, [108, 111, 119, 101, 115, 116], 0), sg 41, sg 44, (3, [50, 46, 48, 48], 200), sg 44]
def shS (kd : Nat) : List Sh := if kd = 0 then [sg 44, (3, [49, 46, 48, 48], 100), sg 41] else [sg 41]
def lowL : List UInt8 := [108, 111, 119, 101, 115, 116]
def nest (kd : Nat) : Nat → Ex
  | 0 => .mk 1 0 [] []
  | n + 1 => if kd = 0 then .mk 5 100 [] [nest kd n] else if kd = 1 then .mk 7 0 [] [.mk 4 100 [] [], nest kd n] else .mk 10 0 [] [.mk 12 0 [] [.mk 2 0 [] [], .mk 1 0 [] []], .mk 4 200 [] [], nest kd n]
theorem txt100 : txt 100 = [49, 46, 48, 48] := by
  rw [txt_pos (by omega) (by omega)]
  unfold pos
  rw [show (100 : Int).toNat / 100 = 1 by decide, show (100 : Int).toNat / 10 % 10 = 0 by decide, show (100 : Int).toNat % 10 = 0 by decide, dd_one _ (by omega), dd_one _ (by omega)]
  rfl
theorem txt200 : txt 200 = [50, 46, 48, 48] := by
  rw [txt_pos (by omega) (by omega)]
  unfold pos
  rw [show (200 : Int).toNat / 100 = 2 by decide, show (200 : Int).toNat / 10 % 10 = 0 by decide, show (200 : Int).toNat % 10 = 0 by decide, dd_one _ (by omega), dd_one _ (by omega)]
  rfl
theorem kd_cases {P : Nat → Prop} (h0 : P 0) (h1 : P 1) (h2 : ∀ kd, kd ≠ 0 → kd ≠ 1 → P kd) (kd : Nat) : P kd := by
  by_cases e0 : kd = 0
  · rw [e0]; exact h0
  · by_cases e1 : kd = 1
    · rw [e1]; exact h1
    · exact h2 kd e0 e1
theorem nest_text (kd n : Nat) : text (nest kd n) = rep n (opL kd) ++ (lowL ++ rep n (shL kd)) := by
  induction n with
  | zero => unfold nest; rw [text_mk]; rfl
  | succ n ih =>
    rw [rep_front n (opL kd), rep_succ n (shL kd)]
    unfold nest
    by_cases e0 : kd = 0
    · subst e0
      rw [if_pos rfl, text_mk, if_neg (by decide), if_neg (by decide), texts_cons, mores_nil, ih]
      simp only [tailK, txt100, opL, shL, if_true, List.append_nil, List.append_assoc, List.cons_append, List.nil_append, wordK]
      rfl
    · rw [if_neg e0]
      by_cases e1 : kd = 1
      · subst e1
        rw [if_pos rfl, text_mk, if_neg (by decide), if_neg (by decide), texts_cons, mores_cons, mores_nil, ih, text_mk, if_pos rfl, txt100]
        simp only [tailK, opL, shL, List.append_nil, List.append_assoc, List.cons_append, List.nil_append, wordK]
        rfl
      · rw [if_neg e1, text_mk, if_neg (by decide), if_neg (by decide), texts_cons, mores_cons, mores_cons, mores_nil, ih]
        simp only [text_mk, texts_cons, mores_cons, mores_nil, texts_nil, tailK, opL, shL, if_neg e0, if_neg e1, txt200, List.append_nil, List.append_assoc, List.cons_append, List.nil_append, wordK]
        rfl
theorem nest_toks (kd n : Nat) : toks (nest kd n) = rep n (opS kd) ++ ((1, lowL, 0) :: rep n (shS kd)) := by
  induction n with
  | zero => unfold nest; rw [toks_mk]; rfl
  | succ n ih =>
    rw [rep_front n (opS kd), rep_succ n (shS kd)]
    unfold nest
    by_cases e0 : kd = 0
    · subst e0
      rw [if_pos rfl, toks_mk, if_neg (by decide), if_neg (by decide), tokss_cons, tokms_nil, ih]
      simp only [tailS, txt100, opS, shS, if_true, List.append_nil, List.append_assoc, List.cons_append, List.nil_append, wordK]
      rfl
    · rw [if_neg e0]
      by_cases e1 : kd = 1
      · subst e1
        rw [if_pos rfl, toks_mk, if_neg (by decide), if_neg (by decide), tokss_cons, tokms_cons, tokms_nil, ih, toks_mk, if_pos rfl, txt100]
        simp only [tailS, opS, shS, List.append_nil, List.append_assoc, List.cons_append, List.nil_append, wordK]
        rfl
      · rw [if_neg e1, toks_mk, if_neg (by decide), if_neg (by decide), tokss_cons, tokms_cons, tokms_cons, tokms_nil, ih]
        simp only [toks_mk, tokss_cons, tokms_cons, tokms_nil, tokss_nil, tailS, opS, shS, if_neg e0, if_neg e1, txt200, List.append_nil, List.append_assoc, List.cons_append, List.nil_append, wordK]
        rfl
theorem nest_cond (kd n : Nat) : isCond (nest kd n).k = false := by
  cases n with
  | zero => rfl
  | succ n =>
    unfold nest
    split
    · rfl
    · split <;> rfl
theorem leaf_fine (k n : Int) (d : Nat) (h : (k = 1 ∨ k = 2) ∧ n = 0 ∨ k = 4 ∧ 0 ≤ n ∧ n ≤ 1000000000000) : fine (d + 1) (.mk k n [] []) = true := by
  rcases h with ⟨rfl | rfl, rfl⟩ | ⟨rfl, h⟩
  · exact fine_mk rfl (by decide) (by simp) (by simp) (fun i hi => absurd hi (by simp))
  · exact fine_mk rfl (by decide) (by simp) (by simp) (fun i hi => absurd hi (by simp))
  · exact fine_mk rfl h (by simp) (by simp) (fun i hi => absurd hi (by simp))
theorem nest_fine (kd n d : Nat) (hd : n + 1 ≤ d) (h2 : 2 ≤ kd → 1 ≤ n → n + 2 ≤ d) : fine d (nest kd n) = true := by
  induction n generalizing d with
  | zero =>
    obtain ⟨d, rfl⟩ : ∃ e, d = e + 1 := ⟨d - 1, by omega⟩
    exact leaf_fine 1 0 d (.inl ⟨.inl rfl, rfl⟩)
  | succ n ih =>
    obtain ⟨d, rfl⟩ : ∃ e, d = e + 1 := ⟨d - 1, by omega⟩
    have hi := ih d (by omega) (by omega)
    have hc := nest_cond kd n
    unfold nest
    by_cases e0 : kd = 0
    · rw [if_pos e0]
      refine fine_mk rfl (by decide) (by simp) (by simp) (fun i h => ?_)
      match i, h with
      | 0, _ => exact ⟨hc, hi⟩
    · rw [if_neg e0]
      obtain ⟨d, rfl⟩ : ∃ e, d = e + 1 := ⟨d - 1, by omega⟩
      by_cases e1 : kd = 1
      · rw [if_pos e1]
        refine fine_mk rfl (by decide) (by simp) (by simp) (fun i h => ?_)
        match i, h with
        | 0, _ => exact ⟨rfl, leaf_fine 4 100 d (.inr ⟨rfl, by omega, by omega⟩)⟩
        | 1, _ => exact ⟨hc, hi⟩
      · rw [if_neg e1]
        have := h2 (by omega) (by omega)
        obtain ⟨d, rfl⟩ : ∃ e, d = e + 1 := ⟨d - 1, by omega⟩
        refine fine_mk rfl (by decide) (by simp) (by simp) (fun i h => ?_)
        match i, h with
        | 0, _ =>
          refine ⟨rfl, fine_mk rfl (by decide) (by simp) (by simp) (fun i h => ?_)⟩
          match i, h with
          | 0, _ => exact ⟨rfl, leaf_fine 2 0 d (.inl ⟨.inr rfl, rfl⟩)⟩
          | 1, _ => exact ⟨rfl, leaf_fine 1 0 d (.inl ⟨.inl rfl, rfl⟩)⟩
        | 1, _ => exact ⟨rfl, leaf_fine 4 200 (d + 1) (.inr ⟨rfl, by omega, by omega⟩)⟩
        | 2, _ => exact ⟨hc, hi⟩
theorem opL_len (kd : Nat) : (opL kd).length ≤ 32 ∧ (shL kd).length ≤ 7 := by
  unfold opL shL
  split
  · decide
  · split <;> decide
theorem nest_len (kd n : Nat) : (text (nest kd n)).length ≤ 39 * n + 6 := by
  have := opL_len kd
  rw [nest_text]
  simp only [List.length_append, rep_len]
  have h1 := Nat.mul_le_mul_left n this.1
  have h2 := Nat.mul_le_mul_left n this.2
  have h3 : lowL.length = 6 := rfl
  omega
theorem nest_right (kd n : Nat) (h : n + 1 ≤ 32) (h2 : 2 ≤ kd → n + 2 ≤ 32) : rightX (nest kd n) = true := by
  have hf := nest_fine kd n 32 h (fun a _ => h2 a)
  rw [right_text hf (nest_cond kd n)]
  have := nest_len kd n
  exact decide_eq_true (by omega)
end Go.Proofs.Ytoajbbcjmalngaa

namespace Go.Proofs.Ytoajbbcjmalngaa
open Go.Lib
set_option linter.unusedVariables false
set_option linter.unusedSimpArgs false

/-- A text that ends so that whatever stands behind it is scanned by itself. -/
def Sy (a : List UInt8) (A : List Sh) : Prop := ∀ p r, ∃ ts, lx p (a ++ r) = pre ts (lx (p + a.length) r) ∧ ts.map sh = A
theorem Sy.nil : Sy [] [] := fun p r => ⟨[], by rw [pre_nil]; rfl, rfl⟩
theorem Sy.append {a b : List UInt8} {A B' : List Sh} (ha : Sy a A) (hb : Sy b B') : Sy (a ++ b) (A ++ B') := fun p r => by
  obtain ⟨ts, e, h⟩ := ha p (b ++ r)
  obtain ⟨us, e', h'⟩ := hb (p + a.length) r
  exact ⟨ts ++ us, by rw [List.append_assoc, e, e', pre_pre, List.length_append, Nat.add_assoc], by rw [List.map_append, h, h']⟩
theorem Sy.rep {a : List UInt8} {A : List Sh} (h : Sy a A) (n : Nat) : Sy (rep n a) (rep n A) := by
  induction n with
  | zero => exact Sy.nil
  | succ n ih => exact ih.append h
theorem Sy.sign {c : UInt8} (hc : isSg c = true) : Sy [c] [sg c] := fun p r => ⟨[(4, [c], 0, (p : Int))], by
  show lx p (c :: r) = _
  rw [lx_sign p c r (sg_not hc).1 hc]; rfl, rfl⟩
theorem Sy.blank : Sy [32] [] := fun p r => ⟨[], by
  show lx p (32 :: r) = _
  rw [lx_blank p 32 r (by decide), pre_nil]; rfl, rfl⟩
theorem Sy.word {x : List UInt8} {k n : Int} {c : UInt8} (h : Good x k n) (hc : isSg c = true) : Sy (x ++ [c]) [(k, x, n), sg c] := fun p r => by
  refine ⟨[(k, x, n, (p : Int)), (4, [c], 0, ((p + x.length : Nat) : Int))], ?_, rfl⟩
  rw [List.append_assoc, lx_good h p ([c] ++ r) (by simp [stops, (sg_not hc).2])]
  show pre _ (lx (p + x.length) (c :: r)) = _
  rw [lx_sign (p + x.length) c r (sg_not hc).1 hc, pre_pre, List.length_append]
  rfl
theorem good1 : Good [49, 46, 48, 48] 3 100 := by have := txt_good (n := 100) (by omega) (by omega); rwa [txt100] at this
theorem good2 : Good [50, 46, 48, 48] 3 200 := by have := txt_good (n := 200) (by omega) (by omega); rwa [txt200] at this
def bsL (kd : Nat) : List UInt8 := if kd = 0 then [] else if kd = 1 then [109, 105, 110, 40] else [105, 102, 40, 97, 98, 111, 118, 101, 40]
def bsS (kd : Nat) : List Sh := if kd = 0 then [] else if kd = 1 then [(1, [109, 105, 110], 0), sg 40] else [(1, [105, 102], 0), sg 40, (1, [97, 98, 111, 118, 101], 0), sg 40]
def lsL (kd : Nat) : List UInt8 := if kd = 0 then [108, 101, 115, 115, 40] else if kd = 1 then [49, 46, 48, 48, 44, 32] else [115, 101, 99, 111, 110, 100, 44, 32, 108, 111, 119, 101, 115, 116, 41, 44, 32, 50, 46, 48, 48, 44, 32]
def bsN (kd : Nat) : Nat := if kd = 0 then 0 else if kd = 1 then 1 else 2
theorem bs_sy (kd : Nat) : Sy (bsL kd) (bsS kd) := by
  unfold bsL bsS
  split
  · exact Sy.nil
  · split
    · exact Sy.word (x := [109, 105, 110]) (good_word (by decide)) (by decide)
    · exact (Sy.word (x := [105, 102]) (c := 40) (good_word (by decide)) (by decide)).append (Sy.word (x := [97, 98, 111, 118, 101]) (c := 40) (good_word (by decide)) (by decide))
theorem op_sy (kd : Nat) : Sy (opL kd) (opS kd) := by
  unfold opL opS
  split
  · exact Sy.word (x := [108, 101, 115, 115]) (good_word (by decide)) (by decide)
  · split
    · exact (Sy.word (x := [109, 105, 110]) (c := 40) (good_word (by decide)) (by decide)).append ((Sy.word (x := [49, 46, 48, 48]) (c := 44) good1 (by decide)).append Sy.blank)
    · exact (Sy.word (x := [105, 102]) (c := 40) (good_word (by decide)) (by decide)).append ((Sy.word (x := [97, 98, 111, 118, 101]) (c := 40) (good_word (by decide)) (by decide)).append ((Sy.word (x := [115, 101, 99, 111, 110, 100]) (c := 44) (good_word (by decide)) (by decide)).append (Sy.blank.append
        ((Sy.word (x := [108, 111, 119, 101, 115, 116]) (c := 41) (good_word (by decide)) (by decide)).append ((Sy.sign (c := 44) (by decide)).append (Sy.blank.append ((Sy.word (x := [50, 46, 48, 48]) (c := 44) good2 (by decide)).append Sy.blank)))))))
theorem sh_sy (kd : Nat) : Sy (shL kd) (shS kd) := by
  unfold shL shS
  split
  · exact (Sy.sign (c := 44) (by decide)).append (Sy.blank.append (Sy.word (x := [49, 46, 48, 48]) (c := 41) good1 (by decide)))
  · exact Sy.sign (by decide)
/-- Arguments that are parsed, and one that is not. -/
theorem args_fail (f : Bool → List Tok → Told Ex) (k : Int) (E : Int × Int) (R' : List Tok) : ∀ (l : List Ex) (i : Nat) (ts R : List Tok) (m : Nat), (∀ j (h : j < l.length) (a b : List Tok), a.map sh = toks l[j] → f (decide (k = 10) && decide (i + j = 0)) (a ++ b) = .ok (l[j], b)) →
    ts.map sh = (if i = 0 then tokss l else tokms l) → (if i = 0 ∧ l = [] then R = R' else ∃ p, R = (4, [44], 0, p) :: R') → f (decide (k = 10) && decide (i + l.length = 0)) R' = .error E → argsT f k i (l.length + (m + 1)) (ts ++ R) = .error E := by
  intro l
  induction l with
  | nil =>
    intro i ts R m _ h hR hf
    have : ts = [] := by
      have : ts.map sh = [] := by rw [h]; split <;> rfl
      simpa using this
    subst this
    simp only [List.length_nil, Nat.add_zero, Nat.zero_add, List.nil_append] at hf ⊢
    unfold argsT
    by_cases hi : i = 0
    · rw [if_pos ⟨hi, rfl⟩] at hR
      subst hR
      rw [if_pos hi]
      simp only
      rw [hf]
    · rw [if_neg (fun h => hi h.1)] at hR
      obtain ⟨p, rfl⟩ := hR
      rw [if_neg hi, take_sign]
      simp only
      rw [hf]
  | cons x t ih =>
    intro i ts R m hf h hR hE
    have h0 := hf 0 (by simp)
    simp only [Nat.add_zero, List.getElem_cons_zero] at h0
    rw [if_neg (by simp)] at hR
    have hrest : ∀ us : List Tok, us.map sh = tokms t → argsT f k (i + 1) (t.length + (m + 1)) (us ++ R) = .error E := fun us hu => ih (i + 1) us R m (fun j hj a b ha => by
        have := hf (j + 1) (by simpa using hj) a b ha
        rw [show i + (j + 1) = i + 1 + j by omega] at this
        exact this) (by rw [if_neg (by omega)]; exact hu) (by rw [if_neg (by omega)]; exact hR) (by rw [show i + 1 + t.length = i + (x :: t).length by simp; omega]; exact hE)
    rw [List.length_cons, show t.length + 1 + (m + 1) = (t.length + (m + 1)) + 1 by omega]
    unfold argsT
    by_cases hi : i = 0
    · rw [if_pos hi, tokss_cons] at h
      obtain ⟨a, b, rfl, ha, hb⟩ := map_app h
      rw [if_pos hi]
      simp only
      rw [List.append_assoc, h0 a _ ha]
      simp only
      rw [hrest b hb]
    · rw [if_neg hi, tokms_cons] at h
      obtain ⟨p, us, rfl, hu⟩ := map_cons' h
      obtain ⟨a, b, rfl, ha, hb⟩ := map_app hu
      rw [if_neg hi]
      simp only [sg, List.cons_append]
      rw [take_sign]
      simp only
      rw [List.append_assoc, h0 a _ ha]
      simp only
      rw [hrest b hb]
theorem call_fail (f : Bool → List Tok → Told Ex) (k p : Int) (E : Int × Int) (ts : List Tok) (h : argsT f k 0 (argsN k).toNat ts = .error E) : callT f k ((4, [40], 0, p) :: ts) = .error E := by
  unfold callT
  rw [take_sign]
  simp only
  rw [h]
/-- What stands too deep is told at its place. -/
theorem deep_tok (kd : Nat) : ∀ (d : Nat) (ts R : List Tok), ts.map sh = rep d (opS kd) ++ bsS kd → exprT (d + bsN kd) false (ts ++ R) = .error (81, atT R) := by
  intro d
  induction d with
  | zero =>
    intro ts R h
    rw [rep_zero, List.nil_append] at h
    unfold bsS at h
    unfold bsN
    by_cases e0 : kd = 0
    · rw [if_pos e0] at h ⊢
      obtain rfl : ts = [] := by simpa using h
      rfl
    · rw [if_neg e0] at h ⊢
      by_cases e1 : kd = 1
      · rw [if_pos e1] at h ⊢
        obtain ⟨p, us, rfl, hu⟩ := map_cons' h
        obtain ⟨q, vs, rfl, hv⟩ := map_cons' hu
        obtain rfl : vs = [] := by simpa using hv
        refine (exprT_call (k := 7) (d := 0) (kind_word (k := 7) (by decide) (by decide) (by decide) _ _) (by decide) (by decide) (by decide)).trans ?_
        exact call_fail _ 7 q _ R (args_fail (exprT 0) 7 _ R [] 0 [] R 1 (fun j h => absurd h (by simp)) rfl (by rw [if_pos ⟨rfl, rfl⟩]) (exprT_deep _ R))
      · rw [if_neg e1] at h ⊢
        obtain ⟨p, us, rfl, hu⟩ := map_cons' h
        obtain ⟨q, vs, rfl, hv⟩ := map_cons' hu
        obtain ⟨p2, us2, rfl, hu2⟩ := map_cons' hv
        obtain ⟨q2, vs2, rfl, hv2⟩ := map_cons' hu2
        obtain rfl : vs2 = [] := by simpa using hv2
        refine (exprT_call (k := 10) (d := 1) (kind_word (k := 10) (by decide) (by decide) (by decide) _ _) (by decide) (by decide) (by decide)).trans ?_
        refine call_fail _ 10 q _ _ (args_fail (exprT 1) 10 _ _ [] 0 [] _ 2 (fun j h => absurd h (by simp)) rfl (by rw [if_pos ⟨rfl, rfl⟩]) ?_)
        refine (exprT_call (k := 12) (d := 0) (kind_word (k := 12) (by decide) (by decide) (by decide) _ _) (by decide) (by decide) (by decide)).trans ?_
        exact call_fail _ 12 q2 _ R (args_fail (exprT 0) 12 _ R [] 0 [] R 1 (fun j h => absurd h (by simp)) rfl (by rw [if_pos ⟨rfl, rfl⟩]) (exprT_deep _ R))
  | succ d ih =>
    intro ts R h
    rw [rep_front, List.append_assoc] at h
    obtain ⟨o, ts', rfl, ho, ht⟩ := map_app h
    have hi := ih ts' R ht
    rw [List.append_assoc]
    unfold opS at ho
    by_cases e0 : kd = 0
    · subst e0
      rw [if_pos rfl] at ho
      obtain ⟨p, us, rfl, hu⟩ := map_cons' ho
      obtain ⟨q, vs, rfl, hv⟩ := map_cons' hu
      obtain rfl : vs = [] := by simpa using hv
      refine (exprT_call (k := 5) (d := d) (kind_word (k := 5) (by decide) (by decide) (by decide) _ _) (by decide) (by decide) (by decide)).trans ?_
      exact call_fail _ 5 q _ _ (args_fail (exprT d) 5 _ _ [] 0 [] _ 0 (fun j h => absurd h (by simp)) rfl (by rw [if_pos ⟨rfl, rfl⟩]) hi)
    · rw [if_neg e0] at ho
      by_cases e1 : kd = 1
      · subst e1
        rw [if_pos rfl] at ho
        obtain ⟨p, us, rfl, hu⟩ := map_cons' ho
        obtain ⟨q, vs, rfl, hv⟩ := map_cons' hu
        obtain ⟨p2, us2, rfl, hu2⟩ := map_cons' hv
        obtain ⟨q2, vs2, rfl, hv2⟩ := map_cons' hu2
        obtain rfl : vs2 = [] := by simpa using hv2
        refine (exprT_call (k := 7) (d := d + 1) (kind_word (k := 7) (by decide) (by decide) (by decide) _ _) (by decide) (by decide) (by decide)).trans ?_
        refine call_fail _ 7 q _ _ (args_fail (exprT (d + 1)) 7 _ (ts' ++ R) [.mk 4 100 [] []] 0 [(3, [49, 46, 48, 48], 100, p2)] _ 0 (fun j hj a b ha => ?_) ?_ (by rw [if_neg (by simp)]; exact ⟨q2, rfl⟩) hi)
        · obtain rfl : j = 0 := by simpa using hj
          exact expr_ok (.mk 4 100 [] []) (d + 1) a b (leaf_fine 4 100 d (.inr ⟨rfl, by omega, by omega⟩)) ha
        · rw [if_pos rfl, tokss_cons, tokms_nil, toks_mk, if_pos rfl, txt100]; rfl
      · rw [if_neg e1] at ho
        have hN : bsN kd = 2 := by unfold bsN; rw [if_neg e0, if_neg e1]
        rw [hN] at hi ⊢
        obtain ⟨p, us, rfl, hu⟩ := map_cons' ho
        obtain ⟨q, vs, rfl, hv⟩ := map_cons' hu
        obtain ⟨ta, tb, rfl, ha, hb⟩ := map_app (S := [(1, [97, 98, 111, 118, 101], 0), sg 40, (1, [115, 101, 99, 111, 110, 100], 0), sg 44, (1, [108, 111, 119, 101, 115, 116], 0), sg 41, sg 44, (3, [50, 46, 48, 48], 200)]) (S' := [sg 44]) hv
        obtain ⟨q2, vs2, rfl, hv2⟩ := map_cons' hb
        obtain rfl : vs2 = [] := by simpa using hv2
        refine (exprT_call (k := 10) (d := d + 2) (kind_word (k := 10) (by decide) (by decide) (by decide) _ _) (by decide) (by decide) (by decide)).trans ?_
        simp only [List.tail_cons, sg]
        have hgoal := args_fail (exprT (d + 2)) 10 (81, atT R) (ts' ++ R) [.mk 12 0 [] [.mk 2 0 [] [], .mk 1 0 [] []], .mk 4 200 [] []] 0 ta ((4, [44], 0, q2) :: (ts' ++ R)) 0 (fun j hj a b ha => by
          match j, hj with
          | 0, _ =>
            refine expr_ok (.mk 12 0 [] [.mk 2 0 [] [], .mk 1 0 [] []]) (d + 2) a b (fine_mk rfl (by decide) (by simp) (by simp) (fun i h => ?_)) ha
            match i, h with
            | 0, _ => exact ⟨rfl, leaf_fine 2 0 d (.inl ⟨.inr rfl, rfl⟩)⟩
            | 1, _ => exact ⟨rfl, leaf_fine 1 0 d (.inl ⟨.inl rfl, rfl⟩)⟩
          | 1, _ => exact expr_ok (.mk 4 200 [] []) (d + 2) a b (leaf_fine 4 200 (d + 1) (.inr ⟨rfl, by omega, by omega⟩)) ha) (by
          rw [if_pos rfl, ha]
          simp only [tokss_cons, tokms_cons, tokms_nil, toks_mk, tailS, txt200, wordK]
          rfl) (by rw [if_neg (by simp)]; exact ⟨q2, rfl⟩) hi
        refine (congrArg (callT (exprT (d + 2)) 10) (show _ = (4, [40], 0, q) :: (ta ++ ((4, [44], 0, q2) :: (ts' ++ R))) by simp)).trans ?_
        exact call_fail _ 10 q _ _ hgoal
theorem head_at {p : Nat} {c : UInt8} {t : List UInt8} {m : List Tok} (h : lx p (c :: t) = .ok m) (hb : isBl c = false) : atT m = (p : Int) := by
  cases hg : isSg c
  · cases hn : tokOf ((c :: t).takeWhile isPt) with
    | none => rw [lx_bad p c t hb hg hn] at h; cases h
    | some kn =>
      obtain ⟨k', n⟩ := kn
      rw [lx_tok p c t k' n hb hg hn] at h
      obtain ⟨l', _, rfl⟩ := pre_ok h
      rfl
  · rw [lx_sign p c t hb hg] at h
    obtain ⟨l', _, rfl⟩ := pre_ok h
    rfl
/-- A text whose beginning stands so deep that what is behind it may not. -/
theorem deep_text (kd : Nat) (a : List UInt8) (c : UInt8) (t : List UInt8) (hc : isBl c = false) (d : Nat) (hd : d + bsN kd = 32) (ha : a = rep d (opL kd) ++ bsL kd) (ts : List Tok) (hl : lx 0 (a ++ c :: t) = .ok ts) (h2 : (a ++ c :: t).length ≤ 2000) : parseS (a ++ c :: t) = .error (81, (a.length : Int)) := by
  have hsy : Sy a (rep d (opS kd) ++ bsS kd) := by rw [ha]; exact ((op_sy kd).rep d).append (bs_sy kd)
  obtain ⟨us, e, hm⟩ := hsy 0 (c :: t)
  rw [hl] at e
  obtain ⟨m, hm2, hts⟩ := pre_ok e.symm
  rw [Nat.zero_add] at hm2
  have hat := head_at hm2 hc
  unfold parseS
  rw [if_neg (by omega), hl]
  simp only
  unfold stratT
  have := deep_tok kd d us m hm
  rw [hd, ← hts, hat] at this
  rw [this]
theorem rep_add {α : Type} (a b : Nat) (x : List α) : rep (a + b) x = rep a x ++ rep b x := by
  induction b with
  | zero => simp [rep]
  | succ b ih => rw [← Nat.add_assoc, rep_succ, ih, rep_succ, List.append_assoc]
theorem deep_parse (kd n : Nat) (h : 32 ≤ n + (if 2 ≤ kd then 1 else 0)) (hn : n ≤ 40) : parseS (text (nest kd n)) = .error (81, if kd = 0 then 160 else if kd = 1 then 314 else 969) := by
  obtain ⟨ts, hl, _⟩ := fine_lex (nest_fine kd n (n + 2) (by omega) (by omega))
  have hlen := nest_len kd n
  by_cases e0 : kd = 0
  · subst e0
    rw [if_neg (by decide)] at h
    obtain ⟨m, rfl⟩ : ∃ m, n = 32 + m := ⟨n - 32, by omega⟩
    obtain ⟨c, t, hct, hc⟩ : ∃ c t, rep m (opL 0) ++ (lowL ++ rep (32 + m) (shL 0)) = c :: t ∧ isBl c = false := by
      cases m with
      | zero => exact ⟨108, _, rfl, by decide⟩
      | succ m => rw [rep_front]; exact ⟨108, _, rfl, by decide⟩
    have ht : text (nest 0 (32 + m)) = rep 32 (opL 0) ++ c :: t := by rw [nest_text, rep_add, List.append_assoc, hct]
    rw [ht] at hl hlen ⊢
    rw [deep_text 0 _ c t hc 32 rfl (by simp [bsL]) _ hl (by omega), rep_len]
    rfl
  · by_cases e1 : kd = 1
    · subst e1
      rw [if_neg (by decide)] at h
      obtain ⟨m, rfl⟩ : ∃ m, n = 31 + (1 + m) := ⟨n - 32, by omega⟩
      have ht : text (nest 1 (31 + (1 + m))) = (rep 31 (opL 1) ++ bsL 1) ++ 49 :: ([46, 48, 48, 44, 32] ++ (rep m (opL 1) ++ (lowL ++ rep (31 + (1 + m)) (shL 1)))) := by
        rw [nest_text, rep_add 31 (1 + m) (opL 1), rep_add 1 m, List.append_assoc, List.append_assoc, List.append_assoc]
        rfl
      rw [ht] at hl hlen ⊢
      rw [deep_text 1 _ 49 _ (by decide) 31 rfl rfl _ hl (by omega), List.length_append, rep_len]
      rfl
    · have hN : bsN kd = 2 := by unfold bsN; rw [if_neg e0, if_neg e1]
      have hO : opL kd = opL 2 := by unfold opL; rw [if_neg e0, if_neg e1]; rfl
      have hB : bsL kd = bsL 2 := by unfold bsL; rw [if_neg e0, if_neg e1]; rfl
      rw [if_pos (by omega)] at h
      obtain ⟨m, rfl⟩ : ∃ m, n = 30 + (1 + m) := ⟨n - 31, by omega⟩
      have ht : text (nest kd (30 + (1 + m))) = (rep 30 (opL kd) ++ bsL kd) ++ 115 :: ([101, 99, 111, 110, 100, 44, 32, 108, 111, 119, 101, 115, 116, 41, 44, 32, 50, 46, 48, 48, 44, 32] ++ (rep m (opL kd) ++ (lowL ++ rep (30 + (1 + m)) (shL kd)))) := by
        rw [nest_text, rep_add 30 (1 + m) (opL kd), rep_add 1 m, List.append_assoc, List.append_assoc, List.append_assoc, hO, hB]
        rfl
      rw [ht] at hl hlen ⊢
      rw [deep_text kd _ 115 _ (by decide) 30 (by rw [hN]) rfl _ hl (by omega), List.length_append, rep_len, hO, hB, if_neg e0, if_neg e1]
      rfl
end Go.Proofs.Ytoajbbcjmalngaa

namespace Go.Proofs.Ytoajbbcjmalngaa
open Go.Lib
set_option linter.unusedVariables false
set_option linter.unusedSimpArgs false

theorem bad_at {x : Ex} {d : Nat} {ts : List Tok} {w : Tok} {r : List Tok} {A B' : List Sh} {z : Sh} (hx : fine d x = true) (hw : Odd w) (ht : toks x = A ++ z :: B') (hm : ts.map sh = A) (hz : z.1 ≠ w.1) : exprT d (isCond x.k) (ts ++ w :: r) = .error (80, w.2.2.2) :=
  expr_bad x d ts w r A.length (by rw [ht]; simp) hx hw (by rw [ht, hm]; simp) (by simp only [ht]; rw [List.getElem_append_right (Nat.le_refl _)]; simpa using hz)
theorem take_back {α : Type} (a b : List α) (q : Nat) (h : q ≤ b.length) : (a ++ b).take ((a ++ b).length - q) = a ++ b.take (b.length - q) := by
  rw [List.length_append, List.take_append, List.take_of_length_le (by omega)]
  rw [show a.length + b.length - q - a.length = b.length - q by omega]
theorem low_sh (kd : Nat) : Sy (lowL ++ shL kd) ((1, lowL, 0) :: shS kd) := by
  unfold shL shS
  have hw : Good lowL 1 0 := good_word (by decide)
  by_cases e : kd = 0
  · rw [if_pos e, if_pos e]
    exact (Sy.word (c := 44) hw (by decide)).append (Sy.blank.append (Sy.word (x := [49, 46, 48, 48]) (c := 41) good1 (by decide)))
  · rw [if_neg e, if_neg e]
    exact Sy.word (c := 41) hw (by decide)
/-- A beginning of a text of expressions in one another. -/
theorem pre_sy (kd n m : Nat) : Sy (rep n (opL kd) ++ (lowL ++ rep (m + 1) (shL kd))) (rep n (opS kd) ++ ((1, lowL, 0) :: rep (m + 1) (shS kd))) := by
  rw [rep_front m (shL kd), rep_front m (shS kd)]
  have := ((op_sy kd).rep n).append ((low_sh kd).append ((sh_sy kd).rep m))
  simpa using this
/-- Behind it stands what is scanned to a token that can't. -/
theorem cut_bad {x : Ex} (hx : fine 32 x = true) (hc : isCond x.k = false) {a b : List UInt8} {A A2 B' : List Sh} {z : Sh} {us : List Tok} {w : Tok} {r : List Tok} (ha : Sy a A) (hb : lx a.length b = .ok (us ++ w :: r)) (hu : us.map sh = A2) (ht : toks x = A ++ (A2 ++ z :: B')) (hw : Odd w) (hz : z.1 ≠ w.1) (h2 : (a ++ b).length ≤ 2000) : parseS (a ++ b) = .error (80, w.2.2.2) := by
  obtain ⟨ts, e, hm⟩ := ha 0 b
  rw [Nat.zero_add, hb] at e
  unfold parseS
  rw [if_neg (by omega), e]
  simp only [pre]
  unfold stratT
  have := bad_at (d := 32) (ts := ts ++ us) (w := w) (r := r) hx hw (by rw [ht, ← List.append_assoc]) (by rw [List.map_append, hm, hu]) hz
  rw [hc, List.append_assoc] at this
  rw [this]
theorem cut_scan {a b : List UInt8} {A : List Sh} {p : Nat} (ha : Sy a A) (hb : lx a.length b = .error p) (h2 : (a ++ b).length ≤ 2000) : parseS (a ++ b) = .error (61, (p : Int)) := by
  obtain ⟨ts, e, hm⟩ := ha 0 b
  rw [Nat.zero_add, hb] at e
  unfold parseS
  rw [if_neg (by omega), e]
  rfl
theorem cut1 (p : Nat) : lx p [44, 32, 49, 46, 48, 48] = .ok ([(4, [44], 0, (p : Int)), (3, [49, 46, 48, 48], 100, ((p + 1 + 1 : Nat) : Int))] ++ [(5, [], 0, ((p + 1 + 1 + 4 : Nat) : Int))]) := by rw [lxF_eq 6 _ _ (by decide)]; rfl
theorem cut2 (p : Nat) : lx p [44, 32, 49, 46, 48] = .error (p + 1 + 1) := by rw [lxF_eq 5 _ _ (by decide)]; rfl
theorem cut3 (p : Nat) : lx p [44, 32, 49, 46] = .error (p + 1 + 1) := by rw [lxF_eq 4 _ _ (by decide)]; rfl
theorem cut4 (p : Nat) : lx p [44, 32, 49] = .ok ([(4, [44], 0, (p : Int))] ++ (2, [49], 1, ((p + 1 + 1 : Nat) : Int)) :: [(5, [], 0, ((p + 1 + 1 + 1 : Nat) : Int))]) := by rw [lxF_eq 3 _ _ (by decide)]; rfl
theorem cut5 (p : Nat) : lx p [44, 32] = .ok ([(4, [44], 0, (p : Int))] ++ [(5, [], 0, ((p + 1 + 1 : Nat) : Int))]) := by rw [lxF_eq 2 _ _ (by decide)]; rfl
/-- Cut by one to five bytes, it is told. -/
theorem deep_cut (kd n q : Nat) (h : 29 ≤ n) (hn : n ≤ 40) (hf : fine 32 (nest kd n) = true) (h1 : 1 ≤ q) (h5 : q ≤ 5) : ∃ c p : Int, (c = 80 ∨ c = 61) ∧ parseS ((text (nest kd n)).take ((text (nest kd n)).length - q)) = .error (c, p) := by
  have hlen := nest_len kd n
  have hc := nest_cond kd n
  have htk := nest_toks kd n
  have h2 : ((text (nest kd n)).take ((text (nest kd n)).length - q)).length ≤ 2000 := by rw [List.length_take]; omega
  by_cases e0 : kd = 0
  · subst e0
    obtain ⟨m, rfl⟩ : ∃ m, n = m + 1 + 1 := ⟨n - 2, by omega⟩
    have ht : text (nest 0 (m + 1 + 1)) = (rep (m + 1 + 1) (opL 0) ++ (lowL ++ rep (m + 1) (shL 0))) ++ shL 0 := by
      rw [nest_text, rep_succ (m + 1) (shL 0)]; simp
    have hk : toks (nest 0 (m + 1 + 1)) = (rep (m + 1 + 1) (opS 0) ++ ((1, lowL, 0) :: rep (m + 1) (shS 0))) ++ shS 0 := by
      rw [htk, rep_succ (m + 1) (shS 0)]; simp
    have hsy := pre_sy 0 (m + 1 + 1) m
    have h7 : (shL 0).length = 7 := rfl
    rw [ht, take_back _ _ q (by omega), h7] at h2 ⊢
    generalize hA : rep (m + 1 + 1) (opS 0) ++ ((1, lowL, 0) :: rep (m + 1) (shS 0)) = A at hsy hk
    generalize rep (m + 1 + 1) (opL 0) ++ (lowL ++ rep (m + 1) (shL 0)) = a at hsy h2 ⊢
    match q, h1, h5 with
    | 1, _, _ => exact ⟨80, _, .inl rfl, cut_bad hf hc hsy (cut1 _) (A2 := [sg 44, (3, [49, 46, 48, 48], 100)]) (z := sg 41) (B' := []) rfl hk (end_odd _) (show (4 : Int) ≠ 5 by decide) h2⟩
    | 2, _, _ => exact ⟨61, _, .inr rfl, cut_scan hsy (cut2 _) h2⟩
    | 3, _, _ => exact ⟨61, _, .inr rfl, cut_scan hsy (cut3 _) h2⟩
    | 4, _, _ => exact ⟨80, _, .inl rfl, cut_bad hf hc hsy (cut4 _) (A2 := [sg 44]) (z := (3, [49, 46, 48, 48], 100)) (B' := [sg 41]) rfl hk ⟨.inr rfl, show isName [49] = false by decide⟩ (show (3 : Int) ≠ 2 by decide) h2⟩
    | 5, _, _ => exact ⟨80, _, .inl rfl, cut_bad hf hc hsy (cut5 _) (A2 := [sg 44]) (z := (3, [49, 46, 48, 48], 100)) (B' := [sg 41]) rfl hk (end_odd _) (show (3 : Int) ≠ 5 by decide) h2⟩
  · have hL : shL kd = [41] := by unfold shL; rw [if_neg e0]
    have hS : shS kd = [sg 41] := by unfold shS; rw [if_neg e0]
    obtain ⟨m, hm⟩ : ∃ m, n = m + 1 + q := ⟨n - 1 - q, by omega⟩
    obtain ⟨q, rfl⟩ : ∃ j, q = j + 1 := ⟨q - 1, by omega⟩
    have ht : text (nest kd n) = (rep n (opL kd) ++ (lowL ++ rep (m + 1) (shL kd))) ++ rep (q + 1) (shL kd) := by
      rw [nest_text, show rep n (shL kd) = rep (m + 1) (shL kd) ++ rep (q + 1) (shL kd) by rw [hm, rep_add]]; simp
    have hk : toks (nest kd n) = (rep n (opS kd) ++ ((1, lowL, 0) :: rep (m + 1) (shS kd))) ++ ([] ++ sg 41 :: rep q (shS kd)) := by
      rw [htk, show rep n (shS kd) = rep (m + 1) (shS kd) ++ rep (q + 1) (shS kd) by rw [hm, rep_add], rep_front q (shS kd)]; simp [hS]
    have hl : (rep (q + 1) (shL kd)).length = q + 1 := by rw [rep_len, hL]; simp
    rw [ht, take_back _ _ (q + 1) (by omega), hl, Nat.sub_self, List.take_zero] at h2 ⊢
    exact ⟨80, _, .inl rfl, cut_bad hf hc (pre_sy kd n m) (b := []) (us := []) (lx_nil _) (A2 := []) (z := sg 41) rfl hk (end_odd _) (show (4 : Int) ≠ 5 by decide) h2⟩
end Go.Proofs.Ytoajbbcjmalngaa
