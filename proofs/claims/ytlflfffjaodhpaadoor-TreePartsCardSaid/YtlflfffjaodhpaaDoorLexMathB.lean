/- Plain mathematics of layer 6, second part: the law's pieces are tokens; what is no token is none. No program in this text. -/
import Derived.Test.YtlflfffjaodhpaaDoorLexMath
namespace Go.Proofs.YtlflfffjaodhpaaDoor
open Go.Lib
set_option linter.unusedVariables false
set_option linter.unusedSimpArgs false

def theSigns : List (List UInt8) := [[40], [41], [44]]
def theNames : List (List UInt8) := [[97], [98,111,98], [108,111,119,101,115], [97,99,109,101,57], [120,49], [101,108,115,101,101]]
def sellerL (k : Int) : List UInt8 := (theNames.getD (k % 6).toNat []) ++ decDigits (k / 6).toNat
/-- A piece of kind j: u is what n was picked to be. -/
def pieceL (j u : Int) : List UInt8 :=
  if j = 0 then theWords.getD u.toNat [] else if j = 1 then theSigns.getD u.toNat [] else if j = 2 then decDigits u.toNat else if j = 3 then pos u.toNat else sellerL u
def pieceM (j : Int) : Int := if j = 0 then 11 else if j = 1 then 3 else if j = 2 then 100001 else if j = 3 then 1000000 else 60
def pieceK (j : Int) : Int := if j = 1 then 4 else if j = 2 then 2 else if j = 3 then 3 else 1
def pieceN (j u : Int) : Int := if j = 2 ∨ j = 3 then u else 0
theorem name_head {x : List UInt8} {c : UInt8} {t : List UInt8} (hx : x = c :: t) (hc : isL c = false) : isName x = false := by
  subst hx; simp [isName, hc]
theorem word_head {x : List UInt8} {c : UInt8} {t : List UInt8} (hx : x = c :: t) (hc : isL c = false) : isWord x = false := by
  subst hx
  cases h : isWord (c :: t)
  · rfl
  · unfold isWord theWords at h
    simp only [List.any_cons, List.any_nil, Bool.or_false, Bool.or_eq_true, beq_iff_eq, List.cons.injEq] at h
    exfalso
    rcases h with ⟨e, _⟩ | ⟨e, _⟩ | ⟨e, _⟩ | ⟨e, _⟩ | ⟨e, _⟩ | ⟨e, _⟩ | ⟨e, _⟩ | ⟨e, _⟩ | ⟨e, _⟩ | ⟨e, _⟩ | ⟨e, _⟩ <;> (subst e; revert hc; decide)
theorem isL_D {c : UInt8} (h : isD c = true) : isL c = false := by
  rw [isD_iff] at h
  simp [isL]; omega
theorem isPt_D {c : UInt8} (h : isD c = true) : isPt c = true := by simp [isPt, h]
theorem all_pt {l : List UInt8} (h : allD l = true) : l.all isPt = true := by
  rw [List.all_eq_true]
  intro c hc
  exact isPt_D (List.all_eq_true.1 h c hc)
theorem dd_cons (u : Nat) : ∃ c t, decDigits u = c :: t ∧ isD c = true := by
  obtain ⟨h1, _, _, h4⟩ := dd_all u
  cases h : decDigits u with
  | nil => rw [h] at h4; cases h4
  | cons c t =>
    rw [h, allD_cons, Bool.and_eq_true] at h1
    exact ⟨c, t, rfl, h1.1⟩
theorem good_count (u : Nat) (h : u ≤ 100000) : Good (decDigits u) 2 u := by
  obtain ⟨c, t, e, hc⟩ := dd_cons u
  have h1 := name_head e (isL_D hc)
  have h2 := word_head e (isL_D hc)
  have h3 : cnt (decDigits u) 100000 = (u : Int) := by rw [cnt_dd, if_pos (by omega)]
  refine .inr ⟨by rw [e]; simp, all_pt (dd_all u).1, ?_⟩
  unfold tokOf
  rw [h1, h2, h3, if_neg (by simp), if_pos (by omega)]
theorem prs_posn (m : Nat) (h : m ≤ 1000000000000) : prs (pos m) = some (m : Int) := by
  have := prs_txt (a := (m : Int)) (rt_yes (by omega) (by omega))
  rw [show txt (m : Int) = pos m by unfold txt; rw [rt_yes (by omega) (by omega), if_pos rfl, if_neg (by omega)]; rfl] at this
  exact this
theorem good_money (m : Nat) (h : m ≤ 1000000000000) : Good (pos m) 3 m := by
  obtain ⟨c, t, e, hc⟩ := dd_cons (m / 100)
  have e' : pos m = c :: (t ++ ([46] ++ (decDigits (m / 10 % 10) ++ decDigits (m % 10)))) := by unfold pos; rw [e]; rfl
  have h1 := name_head e' (isL_D hc)
  have h2 := word_head e' (isL_D hc)
  have h3 : cnt (pos m) 100000 = -1 := cnt_not (by
    rw [pos, allD_append, allD_append]; simp [allD, isD])
  refine .inr ⟨by rw [e']; simp, ?_, ?_⟩
  · unfold pos
    rw [List.all_append, List.all_append, List.all_append, all_pt (dd_all _).1, all_pt (dd_all _).1, all_pt (dd_all _).1]; rfl
  · unfold tokOf
    rw [h1, h2, h3, if_neg (by simp), if_neg (by omega), prs_posn m h]
def goodB (x : List UInt8) : Bool := !x.isEmpty && x.all isPt && (isWord x || isName x)
theorem good_word {x : List UInt8} (h : goodB x = true) : Good x 1 0 := by
  simp only [goodB, Bool.and_eq_true] at h
  refine .inr ⟨by rintro rfl; simp at h, h.1.2, ?_⟩
  unfold tokOf; rw [if_pos h.2]
theorem lt_cases {P : Nat → Prop} (m : Nat) (h : ∀ i : Fin m, P i.val) (n : Nat) (hn : n < m) : P n := h ⟨n, hn⟩
theorem dd_one (n : Nat) (h : n < 10) : decDigits n = [UInt8.ofNat (48 + n)] := by rw [decDigits, dif_pos h]
theorem sellers : ∀ i : Fin 60, goodB ((theNames.getD (i.val % 6) []) ++ [UInt8.ofNat (48 + i.val / 6)]) = true := by decide
theorem seller_eq (u : Int) (h0 : 0 ≤ u) (h1 : u < 60) : sellerL u = (theNames.getD (u.toNat % 6) []) ++ [UInt8.ofNat (48 + u.toNat / 6)] := by
  unfold sellerL
  rw [show (u % 6).toNat = u.toNat % 6 by omega, show (u / 6).toNat = u.toNat / 6 by omega, dd_one _ (by omega)]
theorem seller_good (u : Int) (h0 : 0 ≤ u) (h1 : u < 60) : Good (sellerL u) 1 0 := by
  rw [seller_eq u h0 h1]
  exact good_word (sellers ⟨u.toNat, by omega⟩)
theorem words_good : ∀ i : Fin 11, goodB (theWords.getD i.val []) = true := by decide
theorem signs_good : ∀ i : Fin 3, ∃ c, theSigns.getD i.val [] = [c] ∧ isSg c = true
  | ⟨0, _⟩ => ⟨40, rfl, rfl⟩
  | ⟨1, _⟩ => ⟨41, rfl, rfl⟩
  | ⟨2, _⟩ => ⟨44, rfl, rfl⟩
theorem pieceM_at (j : Int) : (j = 0 → pieceM j = 11) ∧ (j = 1 → pieceM j = 3) ∧ (j = 2 → pieceM j = 100001) ∧ (j = 3 → pieceM j = 1000000) ∧ (j ≠ 0 → j ≠ 1 → j ≠ 2 → j ≠ 3 → pieceM j = 60) := by
  unfold pieceM
  refine ⟨fun h => by rw [if_pos h], fun h => by rw [if_neg (by omega), if_pos h], fun h => by rw [if_neg (by omega), if_neg (by omega), if_pos h], fun h => by rw [if_neg (by omega), if_neg (by omega), if_neg (by omega), if_pos h], fun h h1 h2 h3 => by rw [if_neg h, if_neg h1, if_neg h2, if_neg h3]⟩
theorem piece0 (u : Int) : pieceL 0 u = theWords.getD u.toNat [] ∧ pieceK 0 = 1 ∧ pieceN 0 u = 0 := ⟨rfl, rfl, rfl⟩
theorem piece1 (u : Int) : pieceL 1 u = theSigns.getD u.toNat [] ∧ pieceK 1 = 4 ∧ pieceN 1 u = 0 := ⟨rfl, rfl, rfl⟩
theorem piece2 (u : Int) : pieceL 2 u = decDigits u.toNat ∧ pieceK 2 = 2 ∧ pieceN 2 u = u := ⟨rfl, rfl, rfl⟩
theorem piece3 (u : Int) : pieceL 3 u = pos u.toNat ∧ pieceK 3 = 3 ∧ pieceN 3 u = u := ⟨rfl, rfl, rfl⟩
theorem piece4 {j : Int} (u : Int) (h0 : j ≠ 0) (h1 : j ≠ 1) (h2 : j ≠ 2) (h3 : j ≠ 3) : pieceL j u = sellerL u ∧ pieceK j = 1 ∧ pieceN j u = 0 := by
  unfold pieceL pieceK pieceN
  rw [if_neg h0, if_neg h1, if_neg h2, if_neg h3, if_neg h1, if_neg h2, if_neg h3, if_neg (by omega)]
  exact ⟨rfl, rfl, rfl⟩
theorem piece_good (j u : Int) (hu : 0 ≤ u) (hu' : u < pieceM j) : Good (pieceL j u) (pieceK j) (pieceN j u) := by
  obtain ⟨m0, m1, m2, m3, m4⟩ := pieceM_at j
  by_cases h0 : j = 0
  · have := m0 h0
    subst h0
    obtain ⟨e1, e2, e3⟩ := piece0 u
    rw [e1, e2, e3]
    exact good_word (words_good ⟨u.toNat, by omega⟩)
  · by_cases h1 : j = 1
    · have := m1 h1
      subst h1
      obtain ⟨e1, e2, e3⟩ := piece1 u
      rw [e1, e2, e3]
      obtain ⟨c, e, hc⟩ := signs_good ⟨u.toNat, by omega⟩
      exact .inl ⟨c, e, hc, rfl, rfl⟩
    · by_cases h2 : j = 2
      · have := m2 h2
        subst h2
        obtain ⟨e1, e2, e3⟩ := piece2 u
        rw [e1, e2, e3]
        have := good_count u.toNat (by omega)
        rwa [show ((u.toNat : Nat) : Int) = u by omega] at this
      · by_cases h3 : j = 3
        · have := m3 h3
          subst h3
          obtain ⟨e1, e2, e3⟩ := piece3 u
          rw [e1, e2, e3]
          have := good_money u.toNat (by omega)
          rwa [show ((u.toNat : Nat) : Int) = u by omega] at this
        · have := m4 h0 h1 h2 h3
          obtain ⟨e1, e2, e3⟩ := piece4 u h0 h1 h2 h3
          rw [e1, e2, e3]
          exact seller_good u hu (by omega)
/-- How long a piece is. -/
theorem words_len : ∀ i : Fin 11, (theWords.getD i.val []).length ≤ 6 := by decide
theorem signs_len : ∀ i : Fin 3, (theSigns.getD i.val []).length ≤ 6 := by decide
theorem names_len : ∀ i : Fin 6, (theNames.getD i.val []).length ≤ 5 := by decide
theorem dd_len (k u : Nat) (h : u < 10 ^ k) (hk : 1 ≤ k) : (decDigits u).length ≤ k := by
  induction k generalizing u with
  | zero => omega
  | succ k ih =>
    rw [decDigits]
    split
    · simp
    · rename_i h10
      have hk' : 1 ≤ k := by
        rcases k with _ | k
        · simp at h; omega
        · omega
      have := ih (u / 10) (by rw [Nat.pow_succ] at h; omega) hk'
      simp
      omega
theorem piece_len (j u : Int) (hu : 0 ≤ u) (hu' : u < pieceM j) : (pieceL j u).length ≤ 9 := by
  unfold pieceM at hu'
  unfold pieceL
  by_cases h0 : j = 0
  · rw [if_pos h0] at hu' ⊢
    exact Nat.le_trans (words_len ⟨u.toNat, by omega⟩) (by omega)
  · rw [if_neg h0] at hu' ⊢
    by_cases h1 : j = 1
    · rw [if_pos h1] at hu' ⊢
      exact Nat.le_trans (signs_len ⟨u.toNat, by omega⟩) (by omega)
    · rw [if_neg h1] at hu' ⊢
      by_cases h2 : j = 2
      · rw [if_pos h2] at hu' ⊢
        have := dd_len 6 u.toNat (by have : 10 ^ 6 = 1000000 := by decide
                                     omega) (by omega)
        omega
      · rw [if_neg h2] at hu' ⊢
        by_cases h3 : j = 3
        · rw [if_pos h3] at hu' ⊢
          have a := dd_len 4 (u.toNat / 100) (by have : 10 ^ 4 = 10000 := by decide
                                                 omega) (by omega)
          have b := dd_len 1 (u.toNat / 10 % 10) (by have : 10 ^ 1 = 10 := by decide
                                                     omega) (by omega)
          have c := dd_len 1 (u.toNat % 10) (by have : 10 ^ 1 = 10 := by decide
                                                omega) (by omega)
          unfold pos
          simp only [List.length_append, List.length_cons, List.length_nil]
          omega
        · rw [if_neg h3] at hu' ⊢
          rw [seller_eq u hu hu', List.length_append]
          have := names_len ⟨u.toNat % 6, by omega⟩
          simp only [List.length_cons, List.length_nil]
          simp only [] at this
          omega
/-- What is no token. -/
def theBads : List (List UInt8) := [[64], [65], [61], [49,97], [48,48], [49,48,48,48,48,49], [46,53], [49,46,53], [97,46,98], [97,98,99,100,101,102,103,104,105,106,107,108,109], [0], [9], [45,49], [49,46,50,51,52]]
theorem bads_bad : ∀ i : Fin 14, Bad (theBads.getD i.val []) = true := by decide
theorem bads_len : ∀ i : Fin 14, (theBads.getD i.val []).length ≤ 13 := by decide
/-- A token of one kind alone. -/
theorem good_kind {x : List UInt8} {k n : Int} (h : Good x k n) : (isName x && isWord x) = false ∧ ((isName x || isWord x) = decide (k = 1)) ∧ (k ≠ 2 → k ≠ 3 → n = 0) ∧ 0 ≤ n ∧ (k = 2 → n ≤ 100000) := by
  have hnw : (isName x && isWord x) = false := by
    unfold isName
    cases isWord x <;> simp
  refine ⟨hnw, ?_⟩
  rcases h with ⟨c, rfl, hs, rfl, rfl⟩ | ⟨h0, ha, ht⟩
  · have hl : isL c = false := by
      have := (sg_not hs).2
      simp only [isPt, Bool.or_eq_false_iff] at this
      exact this.1.1
    rw [name_head rfl hl, word_head rfl hl]
    exact ⟨rfl, fun _ _ => rfl, Int.le_refl _, fun h => by omega⟩
  · unfold tokOf at ht
    by_cases h1 : (isWord x || isName x) = true
    · rw [if_pos h1] at ht
      injection ht with ht
      injection ht with e1 e2
      subst e1; subst e2
      rw [Bool.or_comm] at h1
      exact ⟨by rw [h1]; rfl, fun _ _ => rfl, Int.le_refl _, fun h => by omega⟩
    · rw [if_neg h1] at ht
      rw [Bool.or_comm] at h1
      rw [Bool.not_eq_true _ |>.mp h1]
      by_cases h2 : 0 ≤ cnt x 100000
      · rw [if_pos h2] at ht
        injection ht with ht
        injection ht with e1 e2
        subst e1; subst e2
        have := cnt_bd x 100000
        exact ⟨rfl, fun h => absurd rfl h, h2, fun _ => by omega⟩
      · rw [if_neg h2] at ht
        cases hp : prs x with
        | none => rw [hp] at ht; cases ht
        | some a =>
          rw [hp] at ht
          injection ht with ht
          injection ht with e1 e2
          subst e1; subst e2
          refine ⟨rfl, fun _ h => absurd rfl h, ?_, fun h => by omega⟩
          obtain ⟨r1, r2⟩ := txt_of_prs hp
          by_cases h3 : a < 0
          · exfalso
            unfold txt at r2
            rw [if_pos r1, if_pos h3] at r2
            rw [← r2] at ha
            revert ha
            simp [isPt, isL, isD]
          · omega
end Go.Proofs.YtlflfffjaodhpaaDoor
