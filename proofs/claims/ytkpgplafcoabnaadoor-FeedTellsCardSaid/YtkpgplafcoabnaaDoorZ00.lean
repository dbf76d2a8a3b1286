/- Plain mathematics of layer 2: decimal numerals and amounts as lists of bytes. No program in this text; Plain mathematics of layer 2, second part: amounts' texts, and what of a text is an amount. No program in this text; The base: texts as lists, the relation of worlds, the law's pick and numerals (with the listed table); Plain mathematics of layer 2, third part: the order of amounts' texts. No program in this text; Plain mathematics of layer 6: words, names, tokens, and what of a text is scanned. No program in this text; Plain mathematics of layer 12: lines of feeds, and their texts. No program in this text. -/
import Derived.Test.YtkpgplafcoabnaaDoorZL

namespace Go.Proofs.YtkpgplafcoabnaaDoor
open Go.Lib
set_option linter.unusedVariables false
set_option linter.unusedSimpArgs false
def isD (c : UInt8) : Bool := decide (48 ≤ c.toNat ∧ c.toNat ≤ 57)
def val : List UInt8 → Int → Int
  | [], n => n
  | c :: t, n => val t (n * 10 + ((c.toNat : Int) - 48))
def digs (most : Int) : List UInt8 → Int → Int
  | [], n => n
  | c :: t, n => if isD c then (if most < n * 10 + ((c.toNat : Int) - 48) then -1 else digs most t (n * 10 + ((c.toNat : Int) - 48))) else -1
def allD (l : List UInt8) : Bool := l.all isD
def cano (l : List UInt8) : Bool := !l.isEmpty && allD l && (l.length == 1 || l.head? != some 48)
def cnt (l : List UInt8) (most : Int) : Int := if cano l && decide (val l 0 ≤ min most 1000000000000) then val l 0 else -1
theorem isD_iff {c : UInt8} : isD c = true ↔ 48 ≤ c.toNat ∧ c.toNat ≤ 57 := by simp [isD]
theorem allD_cons {c : UInt8} {t : List UInt8} : allD (c :: t) = (isD c && allD t) := rfl
theorem allD_append {a b : List UInt8} : allD (a ++ b) = (allD a && allD b) := by simp [allD]
theorem val_append (a b : List UInt8) (n : Int) : val (a ++ b) n = val b (val a n) := by
  induction a generalizing n with
  | nil => rfl
  | cons c t ih => simp only [List.cons_append, val, ih]
theorem val_ge {l : List UInt8} (h : allD l = true) {n : Int} (hn : 0 ≤ n) : n ≤ val l n := by
  induction l generalizing n with
  | nil => simp [val]
  | cons c t ih =>
    rw [allD_cons, Bool.and_eq_true] at h
    have hc := isD_iff.1 h.1
    have := ih h.2 (n := n * 10 + ((c.toNat : Int) - 48)) (by omega)
    simp only [val]; omega
theorem val_ge_pow {l : List UInt8} (h : allD l = true) {n : Int} (hn : 1 ≤ n) : 10 ^ l.length ≤ val l n := by
  induction l generalizing n with
  | nil => simpa [val] using hn
  | cons c t ih =>
    rw [allD_cons, Bool.and_eq_true] at h
    have hc := isD_iff.1 h.1
    simp only [val, List.length_cons]
    -- n*10 + d ≥ 10: split as 10 times
    have key : ∀ (t : List UInt8) (m k : Int), allD t = true → 0 ≤ m → 0 ≤ k → val t m + k * 10 ^ t.length = val t (m + k) := by
      intro t
      induction t with
      | nil => intro m k _ _ _; simp [val]
      | cons d t ih2 =>
        intro m k hd hm hk
        rw [allD_cons, Bool.and_eq_true] at hd
        have hdd := isD_iff.1 hd.1
        simp only [val, List.length_cons]
        have := ih2 (m * 10 + ((d.toNat : Int) - 48)) (k * 10) hd.2 (by omega) (by omega)
        rw [show (m + k) * 10 + ((d.toNat : Int) - 48) = m * 10 + ((d.toNat : Int) - 48) + k * 10 by omega, ← this, Int.pow_succ]
        rw [Int.mul_comm (10 ^ t.length) 10, ← Int.mul_assoc]
    have k1 := key t 0 10 h.2 (by omega) (by omega)
    have k2 := key t 10 (n * 10 + ((c.toNat : Int) - 48) - 10) h.2 (by omega) (by omega)
    rw [show (10 : Int) + (n * 10 + ((c.toNat : Int) - 48) - 10) = n * 10 + ((c.toNat : Int) - 48) by omega] at k2
    have hp : (0 : Int) ≤ (n * 10 + ((c.toNat : Int) - 48) - 10) * 10 ^ t.length := Int.mul_nonneg (by omega) (Int.le_of_lt (Int.pow_pos (by omega)))
    have hv := val_ge h.2 (n := 0) (by omega)
    rw [show (0 : Int) + 10 = 10 by omega] at k1
    rw [Int.pow_succ, Int.mul_comm]
    omega
theorem digs_eq (most : Int) (l : List UInt8) : ∀ n : Int, 0 ≤ n → digs most l n = if allD l && (l.isEmpty || decide (val l n ≤ most)) then val l n else -1 := by
  induction l with
  | nil => intro n _; simp [digs, allD, val]
  | cons c t ih =>
    intro n hn
    have ev : val (c :: t) n = val t (n * 10 + ((c.toNat : Int) - 48)) := rfl
    rw [ev]
    simp only [digs, allD_cons, List.isEmpty_cons, Bool.false_or]
    cases hc : isD c
    · simp
    · have hc' := isD_iff.1 hc
      have h0 : 0 ≤ n * 10 + ((c.toNat : Int) - 48) := by omega
      simp only [if_true, Bool.true_and]
      generalize hm' : n * 10 + ((c.toNat : Int) - 48) = m at *
      cases ht : allD t
      · simp only [Bool.false_and]
        split
        · rfl
        · rw [ih _ h0, ht]; simp
      · have hg := val_ge ht h0
        by_cases hm : most < m
        · rw [if_pos hm]
          split
          · rename_i h
            simp only [Bool.true_and, decide_eq_true_eq] at h
            omega
          · rfl
        · rw [if_neg hm, ih _ h0, ht]
          cases t with
          | nil =>
            have e0 : val [] m = m := rfl
            rw [e0]
            simp only [List.isEmpty_nil, Bool.true_or, Bool.and_true, if_true, Bool.true_and]
            rw [if_pos (decide_eq_true (by omega))]
          | cons d t => simp only [List.isEmpty_cons, Bool.false_or, Bool.true_and]
theorem digs_bd (most : Int) (l : List UInt8) (n : Int) (hn : 0 ≤ n) (hm : n ≤ most ∨ 0 ≤ most) (hl : n ≤ most) : -1 ≤ digs most l n ∧ (digs most l n ≤ most ∨ digs most l n = -1) := by
  rw [digs_eq most l n hn]
  split
  · rename_i h
    simp only [Bool.and_eq_true, Bool.or_eq_true, decide_eq_true_eq] at h
    have := val_ge h.1 hn
    rcases h.2 with h2 | h2
    · cases l with
      | nil => simp only [val]; omega
      | cons => simp at h2
    · omega
  · omega
theorem of48 {k : Nat} (h : k < 10) : (UInt8.ofNat (48 + k)).toNat = 48 + k := by
  simp [UInt8.toNat_ofNat']; omega
theorem dd_all (u : Nat) : allD (decDigits u) = true ∧ val (decDigits u) 0 = u ∧ (1 ≤ u → (decDigits u).head? ≠ some 48) ∧ (decDigits u).isEmpty = false := by
  induction u using Nat.strongRecOn with
  | _ u ih =>
    by_cases h : u < 10
    · rw [decDigits, dif_pos h]
      have h8 := of48 h
      refine ⟨by simp [allD, isD, h8]; omega, by simp only [val, h8]; omega, fun hu he => ?_, rfl⟩
      simp only [List.head?_cons, Option.some.injEq] at he
      have := congrArg UInt8.toNat he
      rw [h8] at this
      have h48 : (48 : UInt8).toNat = 48 := rfl
      omega
    · obtain ⟨a, b, c, d⟩ := ih (u / 10) (by omega)
      have h8 := of48 (show u % 10 < 10 by omega)
      rw [decDigits, dif_neg h]
      refine ⟨by rw [allD_append, a]; simp [allD, isD, h8]; omega, by rw [val_append, b]; simp only [val, h8]; omega, fun _ => ?_, by simp⟩
      have := c (by omega)
      cases e : decDigits (u / 10) with
      | nil => rw [e] at d; cases d
      | cons x t => rw [e] at this; simpa using this
theorem dd_cano (u : Nat) : cano (decDigits u) = true := by
  obtain ⟨a, b, c, d⟩ := dd_all u
  unfold cano
  rw [a, d]
  by_cases h : u < 10
  · rw [decDigits_one h]; rfl
  · have := c (by omega)
    simp [bne, this]
theorem val_pos {l : List UInt8} (h : allD l = true) (he : l.isEmpty = false) (hh : l.head? ≠ some 48) : 1 ≤ val l 0 := by
  cases l with
  | nil => cases he
  | cons c t =>
    rw [allD_cons, Bool.and_eq_true] at h
    have hc := isD_iff.1 h.1
    have h48 : c.toNat ≠ 48 := fun e => hh (by simp; exact UInt8.toNat_inj.1 (by rw [e]; rfl))
    have := val_ge h.2 (n := 0 * 10 + ((c.toNat : Int) - 48)) (by omega)
    simp only [val]; omega
theorem dd_of : ∀ (k : Nat) (l : List UInt8), l.length = k → cano l = true → decDigits (val l 0).toNat = l := by
  intro k
  induction k with
  | zero => intro l hl hc; cases l with
    | nil => simp [cano] at hc
    | cons => simp at hl
  | succ k ih =>
    intro l hl hc
    obtain ⟨t, c, rfl⟩ : ∃ t c, l = t ++ [c] := by
      have hne : l ≠ [] := by intro e; rw [e] at hl; simp at hl
      exact ⟨l.dropLast, l.getLast hne, (List.dropLast_concat_getLast hne).symm⟩
    simp only [cano, Bool.and_eq_true, allD_append, Bool.or_eq_true] at hc
    obtain ⟨⟨_, ht, hd⟩, hh⟩ := hc
    have hd := isD_iff.1 (by simpa [allD] using hd)
    rw [val_append]
    simp only [val]
    cases hte : t.isEmpty
    · have hh' : t.head? ≠ some 48 := by
        rcases hh with h1 | h1
        · cases t with
          | nil => cases hte
          | cons x t => simp at h1
        · cases t with
          | nil => cases hte
          | cons x t => simpa using h1
      have h1 := val_pos ht hte hh'
      have hl' : t.length = k := by simpa using hl
      have := ih t hl' (by simp only [cano, hte, ht, Bool.not_false, Bool.true_and, Bool.or_eq_true]; right; simpa using hh')
      rw [decDigits, dif_neg (by omega)]
      have e1 : (val t 0 * 10 + ((c.toNat : Int) - 48)).toNat / 10 = (val t 0).toNat := by omega
      have e2 : (val t 0 * 10 + ((c.toNat : Int) - 48)).toNat % 10 = c.toNat - 48 := by omega
      rw [e1, e2, this]
      congr 1
      rw [show 48 + (c.toNat - 48) = c.toNat by omega]
      simp
    · have : t = [] := by simpa using hte
      subst this
      simp only [val]
      rw [decDigits_one (by omega)]
      rw [show 48 + ((0 : Int) * 10 + ((c.toNat : Int) - 48)).toNat = c.toNat by omega]
      simp
theorem dd_of' {l : List UInt8} (h : cano l = true) : decDigits (val l 0).toNat = l := dd_of _ l rfl h
theorem cnt_dd (u : Nat) (most : Int) : cnt (decDigits u) most = if (u : Int) ≤ min most 1000000000000 then (u : Int) else -1 := by
  unfold cnt
  rw [dd_cano, (dd_all u).2.1]
  simp
theorem cano_nonneg {l : List UInt8} (h : cano l = true) : 0 ≤ val l 0 := by
  simp only [cano, Bool.and_eq_true] at h
  exact val_ge h.1.2 (by omega)
theorem cnt_bd (l : List UInt8) (most : Int) : -1 ≤ cnt l most ∧ cnt l most ≤ 1000000000000 ∧ (cnt l most ≤ most ∨ cnt l most = -1) := by
  unfold cnt
  split
  · rename_i h
    simp only [Bool.and_eq_true, decide_eq_true_eq] at h
    have := cano_nonneg h.1
    omega
  · omega
theorem dd_of_cnt {l : List UInt8} {most : Int} (h : 0 ≤ cnt l most) : itoa (cnt l most) = l := by
  unfold cnt at h ⊢
  split at h
  · rename_i hc
    rw [if_pos hc]
    simp only [Bool.and_eq_true, decide_eq_true_eq] at hc
    unfold itoa
    rw [if_neg (by omega)]
    exact dd_of' hc.1
  · omega
/-- The program's Count. -/
theorem cnt_prog (l : List UInt8) (most : Int) (h : l.isEmpty = false) (h' : l.length ≤ 1 ∨ l.head? ≠ some 48) : digs (min most 1000000000000) l 0 = cnt l most := by
  rw [digs_eq _ _ _ (by omega)]
  unfold cnt cano
  rw [h]
  have e : (l.length == 1 || l.head? != some 48) = true := by
    simp only [Bool.or_eq_true, beq_iff_eq, bne_iff_ne]
    rcases h' with h' | h'
    · left
      cases l with
      | nil => cases h
      | cons x t => simp at h' ⊢; exact h'
    · right; exact h'
  rw [e]
  simp
theorem cnt_no {l : List UInt8} {most : Int} (h : l.isEmpty = true ∨ (1 < l.length ∧ l.head? = some 48)) : cnt l most = -1 := by
  unfold cnt cano
  rcases h with h | ⟨h, h'⟩
  · rw [h]; simp
  · have : (l.length == 1 || l.head? != some 48) = false := by simp [h']; omega
    rw [this]; simp
theorem cnt_long {l : List UInt8} {most : Int} (h : 13 < l.length) : cnt l most = -1 := by
  unfold cnt
  split
  · rename_i hc
    simp only [Bool.and_eq_true, decide_eq_true_eq, cano] at hc
    obtain ⟨⟨⟨_, hd⟩, hh⟩, hv⟩ := hc
    exfalso
    cases l with
    | nil => simp at h
    | cons c t =>
      have hh' : c ≠ 48 := by
        rcases Bool.or_eq_true _ _ ▸ hh with h1 | h1
        · simp at h1; subst h1; simp at h
        · simpa using h1
      rw [allD_cons, Bool.and_eq_true] at hd
      have hcd := isD_iff.1 hd.1
      have h48 : c.toNat ≠ 48 := fun e => hh' (UInt8.toNat_inj.1 (by rw [e]; rfl))
      have hp := val_ge_pow hd.2 (n := 0 * 10 + ((c.toNat : Int) - 48)) (by omega)
      have h13 : (10 : Int) ^ 13 ≤ 10 ^ t.length := by
        have : 10 ^ 13 ≤ 10 ^ t.length := Nat.pow_le_pow_right (by omega) (by simp at h; omega)
        exact_mod_cast this
      have hp2 : (10000000000000 : Int) ≤ val (c :: t) 0 := Int.le_trans h13 hp
      omega
  · rfl
theorem cnt_not {l : List UInt8} {most : Int} (h : allD l = false) : cnt l most = -1 := by
  unfold cnt cano; rw [h]; simp
end Go.Proofs.YtkpgplafcoabnaaDoor

namespace Go.Proofs.YtkpgplafcoabnaaDoor
open Go.Lib
set_option linter.unusedVariables false
set_option linter.unusedSimpArgs false
def rt (a : Int) : Bool := decide (-1000000000000 ≤ a ∧ a ≤ 1000000000000)
theorem rt_yes {a : Int} (h : -1000000000000 ≤ a) (h' : a ≤ 1000000000000) : rt a = true := by simp [rt, h, h']
theorem rt_no {a : Int} (h : a < -1000000000000 ∨ 1000000000000 < a) : rt a = false := by simp [rt]; omega
theorem rt_iff {a : Int} : rt a = true ↔ -1000000000000 ≤ a ∧ a ≤ 1000000000000 := by simp [rt]
def pos (m : Nat) : List UInt8 := decDigits (m / 100) ++ ([46] ++ (decDigits (m / 10 % 10) ++ decDigits (m % 10)))
def txt (a : Int) : List UInt8 := if rt a then (if a < 0 then 45 :: pos a.natAbs else pos a.natAbs) else []
def negL (l : List UInt8) : Bool := l.head? == some 45
def body (l : List UInt8) : List UInt8 := if negL l then l.tail else l
def fin (neg : Bool) (m : Int) : Option Int := if 1000000000000 < m ∨ (neg = true ∧ m = 0) then none else some (if neg then -m else m)
def last3 (t : List UInt8) : Option (List UInt8 × UInt8 × UInt8) := match t.reverse with
  | d :: c :: e :: r => if e == 46 then some (r.reverse, c, d) else none
  | _ => none
def two (c d : UInt8) : Int := ((c.toNat : Int) - 48) * 10 + ((d.toNat : Int) - 48)
def prs (l : List UInt8) : Option Int := match last3 (body l) with
  | some (x, c, d) => if decide (0 ≤ cnt x 10000000000) && (isD c && isD d) then fin (negL l) (cnt x 10000000000 * 100 + two c d) else none
  | none => none
def prs1 (l : List UInt8) : Int := (prs l).getD 0
def prs2 (l : List UInt8) : Int := if (prs l).isSome then 0 else 20
def pair (l : List UInt8) : Int := if l.length = 2 then digs 99 l 0 else -1
theorem last3_mk (x : List UInt8) (c d : UInt8) : last3 (x ++ [46, c, d]) = some (x, c, d) := by
  unfold last3
  simp
theorem last3_of {t x : List UInt8} {c d : UInt8} (h : last3 t = some (x, c, d)) : t = x ++ [46, c, d] := by
  unfold last3 at h
  split at h
  · rename_i d' c' e' r heq
    split at h
    · rename_i he
      simp only [Option.some.injEq, Prod.mk.injEq] at h
      obtain ⟨rfl, rfl, rfl⟩ := h
      have := congrArg List.reverse heq
      rw [List.reverse_reverse] at this
      rw [this]
      have : e' = 46 := by simpa using he
      simp [this]
    · cases h
  · cases h
theorem cnt_allD {x : List UInt8} {m : Int} (h : 0 ≤ cnt x m) : allD x = true := by
  cases e : allD x
  · rw [cnt_not e] at h; omega
  · rfl
theorem prs_mk {l x : List UInt8} {c d : UInt8} (h : body l = x ++ [46, c, d]) : prs l = if decide (0 ≤ cnt x 10000000000) && (isD c && isD d) then fin (negL l) (cnt x 10000000000 * 100 + two c d) else none := by
  unfold prs
  rw [h, last3_mk]
theorem prs_no {l : List UInt8} (h : last3 (body l) = none) : prs l = none := by
  unfold prs
  rw [h]
theorem two_bd {c d : UInt8} (hc : isD c = true) (hd : isD d = true) : 0 ≤ two c d ∧ two c d ≤ 99 := by
  have := isD_iff.1 hc; have := isD_iff.1 hd; unfold two; omega
theorem not_mem_of_allD {l : List UInt8} (h : allD l = true) : (46 : UInt8) ∉ l := fun hm => by
  unfold allD at h
  have := List.all_eq_true.1 h 46 hm
  simp [isD] at this
theorem pair_two (c d : UInt8) : pair [c, d] = if isD c && isD d then two c d else -1 := by
  unfold pair
  rw [if_pos (show [c, d].length = 2 from rfl), digs_eq _ _ _ (by omega)]
  simp only [allD, List.all_cons, List.all_nil, Bool.and_true, List.isEmpty_cons, Bool.false_or, val]
  cases hc : isD c
  · simp
  · cases hd : isD d
    · simp
    · have := two_bd hc hd
      unfold two at this ⊢
      rw [if_pos (by simp; omega)]
      simp
theorem pair_no {l : List UInt8} (h : l.length ≠ 2) : pair l = -1 := by unfold pair; rw [if_neg h]
theorem pair_bd (l : List UInt8) : -1 ≤ pair l ∧ pair l ≤ 99 := by
  unfold pair
  split
  · have := digs_bd 99 l 0 (by omega) (.inl (by omega)) (by omega); omega
  · omega
theorem cut46 (t : List UInt8) : (∃ x y, t = x ++ 46 :: y ∧ 46 ∉ x ∧ (cut t [46]).1 = x ∧ (cut t [46]).2.1 = y) ∨ (46 ∉ t ∧ (cut t [46]).2.1 = []) := by
  have key : ∀ t : List UInt8, (∃ (x y : List UInt8), t = x ++ 46 :: y ∧ 46 ∉ x ∧ indexByte t 46 = x.length) ∨ (46 ∉ t ∧ indexByte t 46 = -1) := by
    intro t
    induction t with
    | nil => right; exact ⟨by simp, rfl⟩
    | cons b t ih =>
      by_cases hb : b = 46
      · left
        refine ⟨[], t, by rw [hb]; rfl, by simp, ?_⟩
        simp [indexByte, hb]
      · rcases ih with ⟨x, y, rfl, hx, hi⟩ | ⟨hn, hi⟩
        · left
          refine ⟨b :: x, y, rfl, by simp [hx, Ne.symm hb], ?_⟩
          unfold indexByte
          rw [if_neg (by simpa using hb), hi, if_neg (by simp)]
          simp
        · right
          refine ⟨by simp [hn, Ne.symm hb], ?_⟩
          unfold indexByte
          rw [if_neg (by simpa using hb), hi]
          rfl
  unfold cut
  rw [index_one]
  rcases key t with ⟨x, y, rfl, hx, hi⟩ | ⟨hn, hi⟩
  · left
    refine ⟨x, y, rfl, hx, ?_, ?_⟩
    · rw [hi, if_pos (by omega)]; simp
    · rw [hi, if_pos (by omega)]; simp
  · right
    refine ⟨hn, ?_⟩
    rw [hi, if_neg (by omega)]
/-- What the program's Parse answers, case by case. -/
theorem prog_no {l : List UInt8} (h : cnt (cut (body l) [46]).1 10000000000 < 0 ∨ pair (cut (body l) [46]).2.1 < 0) : prs l = none := by
  cases e : last3 (body l) with
  | none => exact prs_no e
  | some p =>
    obtain ⟨x, c, d⟩ := p
    have ht := last3_of e
    rw [prs_mk ht]
    split
    · rename_i hh
      exfalso
      simp only [Bool.and_eq_true, decide_eq_true_eq] at hh
      have hx : (46 : UInt8) ∉ x := not_mem_of_allD (cnt_allD hh.1)
      rcases cut46 (body l) with ⟨x', y', ht', hx', e1, e2⟩ | ⟨hn, _⟩
      · rw [e1, e2] at h
        rw [ht] at ht'
        have hx2 : x = x' ∧ [c, d] = y' := by
          clear h hh ht e e1 e2
          revert x'
          induction x with
          | nil =>
            intro x' ht' hx'
            cases x' with
            | nil => simpa using ht'
            | cons b x' => simp at ht'; exact absurd (by simp [ht'.1]) hx'
          | cons b x ih =>
            intro x' ht' hx'
            cases x' with
            | nil => simp at ht'; exact absurd (by simp [ht'.1]) hx
            | cons b' x' =>
              simp only [List.cons_append, List.cons.injEq] at ht'
              have := ih (fun hm => hx (by simp [hm])) x' ht'.2 (fun hm => hx' (by simp [hm]))
              exact ⟨by rw [ht'.1, this.1], this.2⟩
        obtain ⟨rfl, rfl⟩ := hx2
        rw [pair_two, hh.2.1, hh.2.2] at h
        have := two_bd hh.2.1 hh.2.2
        simp at h
        omega
      · exact hn (by rw [ht]; simp)
    · rfl
theorem prog_yes {l : List UInt8} (h1 : 0 ≤ cnt (cut (body l) [46]).1 10000000000) (h2 : 0 ≤ pair (cut (body l) [46]).2.1) :
    prs l = fin (negL l) (cnt (cut (body l) [46]).1 10000000000 * 100 + pair (cut (body l) [46]).2.1) := by
  rcases cut46 (body l) with ⟨x, y, ht, hx, e1, e2⟩ | ⟨hn, e2⟩
  · rw [e1] at h1 ⊢
    rw [e2] at h2 ⊢
    have hl : y.length = 2 := by
      by_cases hl : y.length = 2
      · exact hl
      · rw [pair_no hl] at h2; omega
    match y, hl with
    | [c, d], _ =>
      rw [pair_two] at h2 ⊢
      split at h2
      · rename_i hcd
        rw [if_pos hcd, prs_mk ht, if_pos (by rw [hcd]; simpa using h1)]
      · omega
  · rw [e2, pair_no (by simp)] at h2; omega
theorem ofD {c : UInt8} (h : isD c = true) : decDigits (((c.toNat : Int) - 48).toNat) = [c] := by
  have := isD_iff.1 h
  rw [decDigits_one (by omega), show 48 + ((c.toNat : Int) - 48).toNat = c.toNat by omega]
  simp
theorem pos_of {x : List UInt8} {c d : UInt8} (hx : 0 ≤ cnt x 10000000000) (hc : isD c = true) (hd : isD d = true) : pos (cnt x 10000000000 * 100 + two c d).toNat = x ++ [46, c, d] := by
  have hb := cnt_bd x 10000000000
  have h1 := isD_iff.1 hc; have h2 := isD_iff.1 hd
  unfold pos two
  generalize hw : cnt x 10000000000 = w at *
  have e1 : (w * 100 + (((c.toNat : Int) - 48) * 10 + ((d.toNat : Int) - 48))).toNat / 100 = w.toNat := by omega
  have e2 : (w * 100 + (((c.toNat : Int) - 48) * 10 + ((d.toNat : Int) - 48))).toNat / 10 % 10 = ((c.toNat : Int) - 48).toNat := by omega
  have e3 : (w * 100 + (((c.toNat : Int) - 48) * 10 + ((d.toNat : Int) - 48))).toNat % 10 = ((d.toNat : Int) - 48).toNat := by omega
  rw [e1, e2, e3, ofD hc, ofD hd]
  have hi : itoa (cnt x 10000000000) = x := dd_of_cnt (by rw [hw]; exact hx)
  rw [hw] at hi
  unfold itoa at hi
  rw [if_neg (by omega)] at hi
  rw [hi]
  rfl
theorem of_body {l : List UInt8} (h : negL l = true) : l = 45 :: body l := by
  unfold body; rw [h]
  unfold negL at h
  cases l with
  | nil => simp at h
  | cons b t => simp at h; simp [h]
theorem of_body' {l : List UInt8} (h : negL l = false) : l = body l := by unfold body; rw [h]; rfl
theorem txt_of_prs {l : List UInt8} {a : Int} (h : prs l = some a) : rt a = true ∧ txt a = l := by
  cases e : last3 (body l) with
  | none => rw [prs_no e] at h; cases h
  | some p =>
    obtain ⟨x, c, d⟩ := p
    have ht := last3_of e
    rw [prs_mk ht] at h
    split at h
    · rename_i hh
      simp only [Bool.and_eq_true, decide_eq_true_eq] at hh
      have hb := cnt_bd x 10000000000
      have h2 := two_bd hh.2.1 hh.2.2
      have hp := pos_of hh.1 hh.2.1 hh.2.2
      generalize hm : cnt x 10000000000 * 100 + two c d = m at *
      unfold fin at h
      split at h
      · cases h
      · rename_i hn
        simp only [Option.some.injEq] at h
        cases hg : negL l
        · rw [hg] at h; simp at h
          subst h
          have hr : rt m = true := rt_yes (by omega) (by omega)
          refine ⟨hr, ?_⟩
          unfold txt
          rw [hr, if_pos rfl, if_neg (by omega), show m.natAbs = m.toNat by omega, hp, ← ht, ← of_body' hg]
        · rw [hg] at h hn; simp at h hn
          subst h
          have hr : rt (-m) = true := rt_yes (by omega) (by omega)
          refine ⟨hr, ?_⟩
          unfold txt
          rw [hr, if_pos rfl, if_pos (by omega), show (-m).natAbs = m.toNat by omega, hp, ← ht, ← of_body hg]
    · cases h
theorem pos_eq (m : Nat) : pos m = decDigits (m / 100) ++ [46, UInt8.ofNat (48 + m / 10 % 10), UInt8.ofNat (48 + m % 10)] := by
  unfold pos
  rw [decDigits_one (show m / 10 % 10 < 10 by omega), decDigits_one (show m % 10 < 10 by omega)]
  rfl
end Go.Proofs.YtkpgplafcoabnaaDoor

namespace Go.Proofs.YtkpgplafcoabnaaDoor
open Go.RowKit Go.Lib
set_option linter.unusedVariables false
set_option linter.unusedSimpArgs false
def B (l : List UInt8) : ByteArray := ⟨l.toArray⟩
theorem B_list (l : List UInt8) : (B l).data.toList = l := by simp [B]
theorem B_toList (l : List UInt8) : (B l).toList = l := ByteArray.toList_mk l
theorem B_of (s : ByteArray) : B s.data.toList = s := by simp [B]
theorem B_append (a b : List UInt8) : B a ++ B b = B (a ++ b) := ByteArray.mk_append_mk a b
theorem B_size (l : List UInt8) : (B l).size = l.length := by simp [B, ByteArray.size]
def pk (c n : Int) : Int := if c < 0 then -((c + 1).tmod n) else c % n
def Two (e : Ending) (x y : Int) : Prop := e = .returned (.tuple #[.int .i64 x, .int .i64 y])
def Tab (w : World) : Prop := Lib.TabIs Tryd.prog w "internal/strconv.uint64pow10" .u64 Lib.pow10Tab
theorem gTab : Tryd.prog.globalNamed "internal/strconv.uint64pow10" = some 3 := by kernel_rfl
def Rel (w0 w : World) : Prop := Tab w0 ∧ Below w0.heap.size w0 w
theorem Rel.tab {w0 w : World} (h : Rel w0 w) : Tab w := Joins.tab_stays gTab h.1 h.2 (Nat.le_refl _)
theorem Rel.self {w0 w : World} (h : Rel w0 w) : Rel w w := ⟨h.tab, Below.refl _ _⟩
theorem Rel.trans {w0 w w' : World} (h : Rel w0 w) (h' : Rel w w') : Rel w0 w' := ⟨h.1, h.2.trans (h'.2.mono h.2.size)⟩
theorem Rel.size {w0 w : World} (h : Rel w0 w) : w0.heap.size ≤ w.heap.size := h.2.size
theorem Rel.start {w : World} (h : Tab w) : Rel w w := ⟨h, Below.refl _ _⟩
theorem Rel.step {w0 w w' : World} (h : Rel w0 w) (hb : Below w.heap.size w w') : Rel w0 w' := ⟨h.1, h.2.trans (hb.mono h.2.size)⟩
theorem Rel.alloc {w0 w : World} (h : Rel w0 w) (o : Obj) : Rel w0 (w.alloc o) := ⟨h.1, h.2.alloc h.2.size o⟩
theorem Rel.drew {w0 w : World} (h : Rel w0 w) : Rel w0 w.drew := ⟨h.1, h.2.drew⟩
theorem Rel.drewN {w0 w : World} (h : Rel w0 w) (n : Nat) : Rel w0 (w.drewN n) := ⟨h.1, ⟨h.2.os, h.2.tape, h.2.output, h.2.size, h.2.block⟩⟩
theorem Rel.setCell {w0 w : World} (h : Rel w0 w) {p : Addr} (hp : w0.heap.size ≤ p.block) (u : Value) : Rel w0 (w.setCell p u) := ⟨h.1, h.2.setCell hp u⟩
theorem Rel.grow {w0 w : World} (h : Rel w0 w) (os : Array Obj) : Rel w0 (Sort.grow w os) := by
  refine h.step ⟨rfl, rfl, rfl, ?_, fun k hk => ?_⟩
  · show w.heap.size ≤ (w.heap ++ os).size
    rw [Array.size_append]; omega
  · show (w.heap ++ os)[k]? = w.heap[k]?
    rw [Array.getElem?_append_left hk]
theorem ret_int {k : IntKind} {a b : Int} (h : a = b) : Ending.returned (.int k a) = .returned (.int k b) := by rw [h]
theorem ret_bool {a b : Bool} (h : a = b) : Ending.returned (.bool a) = .returned (.bool b) := by rw [h]
theorem ret_str {a b : ByteArray} (h : a = b) : Ending.returned (.string a) = .returned (.string b) := by rw [h]
theorem ret_two {a b c d : Int} (h : a = c) (h' : b = d) : Two (Ending.returned (.tuple #[.int .i64 a, .int .i64 b])) c d := by subst h; subst h'; rfl
theorem int_at {f : FuncId} {args : Array Value} {w : World} {R : World → Prop} {x : Int} (y : Int) (c : Calls Tryd.prog f args w fun e w' => e = .returned (.int .i64 x) ∧ R w') (h : Hid (x = y)) : Calls Tryd.prog f args w fun e w' => e = .returned (.int .i64 y) ∧ R w' := by
  have e := h.out; subst e; exact c
theorem tdt (p n : Int) (hn : 0 < n) : n * p.tdiv n + p.tmod n = p ∧ (0 ≤ p → 0 ≤ p.tmod n) ∧ (p ≤ 0 → p.tmod n ≤ 0) ∧ p.tmod n < n ∧ -n < p.tmod n := by
  refine ⟨Int.mul_tdiv_add_tmod p n, fun h => Int.tmod_nonneg n h, fun h => ?_, Int.tmod_lt_of_pos p hn, ?_⟩
  · have := Int.tmod_nonneg n (a := -p) (by omega)
    rw [Int.neg_tmod] at this; omega
  · have := Int.tmod_lt_of_pos (-p) hn
    rw [Int.neg_tmod] at this; omega
theorem pk_bd (c n : Int) (hn : 0 < n) : 0 ≤ pk c n ∧ pk c n < n := by
  unfold pk
  split
  · have := tdt (c + 1) n hn; omega
  · exact ⟨Int.emod_nonneg c (by omega), Int.emod_lt_of_pos c hn⟩
set_option maxHeartbeats 400000 in
theorem pick_any (c n : Int) (hc : -9223372036854775808 ≤ c) (hc' : c ≤ 9223372036854775807) (hn : 0 < n) (hn' : n ≤ 9223372036854775807) (w : World) :
    Calls Tryd.prog 34 #[.int .i64 c, .int .i64 n] w fun e w' => e = .returned (.int .i64 (pk c n)) ∧ w = w' := by
  by_cases h : c < 0
  all_goals
    go_enter Tryd.func34, Tryd.ntmps34
    go_wp2
    all_goals
      go_ret
      exact ⟨ret_int (by unfold pk; split <;> first | rfl | omega), rfl⟩
theorem bool_at {f : FuncId} {args : Array Value} {w : World} {R : World → Prop} {x : Bool} (y : Bool) (c : Calls Tryd.prog f args w fun e w' => e = .returned (.bool x) ∧ R w') (h : Hid (x = y)) : Calls Tryd.prog f args w fun e w' => e = .returned (.bool y) ∧ R w' := by
  have e := h.out; subst e; exact c
def dgt (d : Int) : UInt8 := UInt8.ofNat (48 + d.toNat)
theorem dd_step {n : Int} (h : 0 ≤ n) (h' : 10 ≤ n) : decDigits n.toNat = decDigits (n / 10).toNat ++ [dgt (n % 10)] := by
  unfold dgt
  rw [decDigits, dif_neg (by omega)]
  congr 2
  · omega
  · congr 2; omega
theorem dd_last {n : Int} (h : 0 ≤ n) (h' : ¬ 10 ≤ n) : decDigits n.toNat = [dgt (n % 10)] := by
  unfold dgt
  rw [decDigits, dif_pos (by omega)]
  congr 2; omega
theorem nd_le (k u : Nat) (h : u < 10 ^ k) (hk : 1 ≤ k) : (decDigits u).length ≤ k := by
  induction k generalizing u with
  | zero => omega
  | succ k ih =>
    rw [decDigits]
    split
    · simp
    · rename_i h10
      have hk' : 1 ≤ k := by
        rcases k with _ | k
        · simp at h; omega
        · omega
      have := ih (u / 10) (by rw [Nat.pow_succ] at h; omega) hk'
      simp
      omega
theorem dd_size (n : Int) (h : n ≤ 9223372036854775807) : (B (decDigits n.toNat)).size ≤ 19 := by
  rw [B_size]
  exact nd_le 19 n.toNat (by have e : 10 ^ 19 = 10000000000000000000 := by decide
                             omega) (by omega)
theorem byte_string (w : World) (d : Int) (h0 : 0 ≤ d) (h1 : d ≤ 9) : (convert 59 9 (.slice (some ⟨w.heap.size, 0, none⟩) 1 1)).run Tryd.prog (w.alloc (.cells #[.int .u8 (48 + d)] 5)) =
    .ok (.string (B [dgt d])) (w.alloc (.cells #[.int .u8 (48 + d)] 5)) := by
  have e : (48 + d : Int) = ((UInt8.ofNat (48 + d.toNat)).toNat : Int) := by rw [of48 (by omega)]; omega
  rw [e]
  exact run_convert_bytes_back (P := Tryd.prog) _ 59 9 5 ⟨w.heap.size, 0, none⟩ 1 [UInt8.ofNat (48 + d.toNat)] Tryd.underlying59 Tryd.underlying5 Tryd.underlying9 (fun j hj => by
    obtain rfl : j = 0 := by simpa using hj
    simp [Addr.add, go_sem])
set_option maxHeartbeats 400000 in
theorem ldec_any (w0 : World) : ∀ (k : Nat) (n : Int), 0 ≤ n → n.toNat ≤ k → n ≤ 9223372036854775807 → ∀ w, Rel w0 w →
    Calls Tryd.prog 35 #[.int .i64 n] w fun e w' => e = .returned (.string (B (decDigits n.toNat))) ∧ Rel w0 w' := by
  intro k
  induction k with
  | zero =>
    intro n h0 hk h1 w hr
    obtain rfl : n = 0 := by omega
    have hconv : ∀ w : World, (convert 59 9 (.slice (some ⟨w.heap.size, 0, none⟩) 1 1)).run Tryd.prog (w.alloc (.cells #[.int .u8 48] 5)) = .ok (.string (B [dgt 0])) (w.alloc (.cells #[.int .u8 48] 5)) := fun w => byte_string w 0 (by omega) (by omega)
    go_enter Tryd.func35, Tryd.ntmps35
    go_wp2_with (fail)
    go_ret
    exact ⟨ret_str (by rw [dd_last (by omega) (by omega)]; rfl), hr.alloc _⟩
  | succ k ih =>
    intro n h0 hk h1 w hr
    have b1 : 0 ≤ n % 10 := by omega
    have b2 : n % 10 ≤ 9 := by omega
    have hconv := fun w : World => byte_string w (n % 10) b1 b2
    by_cases h : 10 ≤ n
    · have HS := Lib.hid (dd_step h0 h)
      have z1 := dd_size (n / 10) (by omega)
      have z2 : (B [dgt (n % 10)]).size ≤ 1 := Nat.le_refl _
      have z3 : ¬ 9223372036854775807 < (B (decDigits (n / 10).toNat)).size + (B [dgt (n % 10)]).size := by omega
      go_enter Tryd.func35, Tryd.ntmps35
      go_wp2_with ((go_at_call 35; (with_reducible refine (ih (n / 10) (by omega) (by omega) (by omega) _ (hr.alloc _)).mono ?_); rintro e w' ⟨rfl, hr'⟩))
      go_ret
      exact ⟨ret_str (by rw [HS.out, B_append]), hr'⟩
    · have HS := Lib.hid (dd_last h0 h)
      go_enter Tryd.func35, Tryd.ntmps35
      go_wp2_with (fail)
      go_ret
      exact ⟨ret_str (by rw [HS.out]), hr.alloc _⟩
theorem decimal_any (n : Int) (h0 : 0 ≤ n) (h1 : n ≤ 9223372036854775807) (w0 w : World) (hr : Rel w0 w) :
    Calls Tryd.prog 35 #[.int .i64 n] w fun e w' => e = .returned (.string (B (decDigits n.toNat))) ∧ Rel w0 w' := ldec_any w0 _ n h0 (Nat.le_refl _) h1 w hr
end Go.Proofs.YtkpgplafcoabnaaDoor

namespace Go.Proofs.YtkpgplafcoabnaaDoor
open Go.Lib
set_option linter.unusedVariables false
set_option linter.unusedSimpArgs false
theorem pos_len (m : Nat) : (pos m).length = (decDigits (m / 100)).length + 3 := by rw [pos_eq]; simp
theorem txt_pos {a : Int} (h : 0 ≤ a) (h' : a ≤ 1000000000000) : txt a = pos a.toNat := by
  unfold txt
  rw [rt_yes (by omega) h', if_pos rfl, if_neg (by omega), show a.natAbs = a.toNat by omega]
end Go.Proofs.YtkpgplafcoabnaaDoor

namespace Go.Proofs.YtkpgplafcoabnaaDoor
open Go.Lib
set_option linter.unusedVariables false
set_option linter.unusedSimpArgs false
def isL (c : UInt8) : Bool := decide (97 ≤ c.toNat ∧ c.toNat ≤ 122)
def isPt (c : UInt8) : Bool := isL c || isD c || c == 46
def isBl (c : UInt8) : Bool := c == 32 || c == 10
def isSg (c : UInt8) : Bool := c == 40 || c == 41 || c == 44
def theWords : List (List UInt8) := [[108,111,119,101,115,116], [115,101,99,111,110,100], [102,114,111,109], [108,101,115,115], [99,117,116], [109,105,110], [109,97,120], [101,108,115,101], [105,102], [109,111,114,101], [97,98,111,118,101]]
def isWord (l : List UInt8) : Bool := theWords.any (· == l)
def isName (l : List UInt8) : Bool := decide (l ≠ [] ∧ l.length ≤ 12) && (l.head?.any isL) && !isWord l && l.all (fun c => isL c || isD c)
/-- A token: its kind, its text, its number, its place. -/
abbrev Tok := Int × List UInt8 × Int × Int
/-- What a run of parts is: a kind and a number. -/
def tokOf (x : List UInt8) : Option (Int × Int) :=
  if isWord x || isName x then some (1, 0)
  else if 0 ≤ cnt x 100000 then some (2, cnt x 100000)
  else match prs x with
    | some a => some (3, a)
    | none => none
/-- What is scanned: tokens, or the place of what is none. -/
abbrev Scan := Except Nat (List Tok)
def pre (ts : List Tok) : Scan → Scan
  | .ok l => .ok (ts ++ l)
  | .error k => .error k
theorem pre_nil (r : Scan) : pre [] r = r := by cases r <;> rfl
theorem run_len (l : List UInt8) : (l.dropWhile isPt).length = l.length - (l.takeWhile isPt).length := by
  have := congrArg List.length (List.takeWhile_append_dropWhile (p := isPt) (l := l))
  simp only [List.length_append] at this
  omega
theorem tokOf_nil : tokOf [] = none := by decide
theorem tokOf_ne {x : List UInt8} {k n : Int} (h : tokOf x = some (k, n)) : x ≠ [] := by
  rintro rfl; rw [tokOf_nil] at h; cases h
def lx (p : Nat) (l : List UInt8) : Scan :=
  match l with
  | [] => .ok [(5, [], 0, (p : Int))]
  | c :: t =>
    if isBl c then lx (p + 1) t
    else if isSg c then pre [(4, [c], 0, (p : Int))] (lx (p + 1) t)
    else
      match h : tokOf ((c :: t).takeWhile isPt) with
      | none => .error p
      | some kn => pre [(kn.1, (c :: t).takeWhile isPt, kn.2, (p : Int))] (lx (p + ((c :: t).takeWhile isPt).length) ((c :: t).dropWhile isPt))
  termination_by l.length
  decreasing_by
    all_goals simp_wf
    have h1 := tokOf_ne (k := kn.1) (n := kn.2) h
    have h2 := run_len (c :: t)
    have h3 : 1 ≤ ((c :: t).takeWhile isPt).length := by
      rcases hx : (c :: t).takeWhile isPt with _ | ⟨a, b⟩
      · exact absurd hx h1
      · simp
    simp at h2 h3 ⊢
    omega
/-- No part stands at the beginning. -/
def stops (r : List UInt8) : Bool := r.head?.all fun c => !isPt c
theorem pt_not {c : UInt8} (h : isPt c = true) : isBl c = false ∧ isSg c = false := by
  simp only [isPt, isL, isD, isBl, isSg, Bool.or_eq_true, decide_eq_true_eq, beq_iff_eq, Bool.or_eq_false_iff, beq_eq_false_iff_ne] at h ⊢
  refine ⟨⟨?_, ?_⟩, ⟨?_, ?_⟩, ?_⟩
  all_goals rintro rfl; revert h; decide
theorem sg_not {c : UInt8} (h : isSg c = true) : isBl c = false ∧ isPt c = false := by
  constructor
  · simp only [isBl, isSg, Bool.or_eq_true, beq_iff_eq, Bool.or_eq_false_iff, beq_eq_false_iff_ne] at h ⊢
    rcases h with (rfl | rfl) | rfl <;> decide
  · cases hp : isPt c
    · rfl
    · rw [(pt_not hp).2] at h; cases h
/-- Each token stands at q or behind, and behind the one ahead of it. -/
def Ord : Int → List Tok → Prop
  | _, [] => True
  | q, t :: ts => q ≤ t.2.2.2 ∧ Ord (t.2.2.2 + (t.2.1.length : Int)) ts
theorem Ord.mono {q q' : Int} {ts : List Tok} (h : Ord q ts) (hq : q' ≤ q) : Ord q' ts := by
  cases ts with
  | nil => trivial
  | cons t ts => exact ⟨by have := h.1; omega, h.2⟩
theorem Ord.at {ts : List Tok} {q : Int} (h : Ord q ts) (i : Nat) (hi : i + 1 < ts.length) : ts[i].2.2.2 + (ts[i].2.1.length : Int) ≤ ts[i + 1].2.2.2 := by
  induction ts generalizing i q with
  | nil => simp at hi
  | cons t ts ih =>
    cases i with
    | zero =>
      cases ts with
      | nil => simp at hi
      | cons u us => exact h.2.1
    | succ i => exact ih h.2 i (by simpa using hi)
end Go.Proofs.YtkpgplafcoabnaaDoor

namespace Go.Proofs.YtkpgplafcoabnaaDoor
open Go.Lib
set_option linter.unusedVariables false
set_option linter.unusedSimpArgs false
/-- Source, number, goods, seller, price. -/
abbrev Fd := List UInt8 × Int × List UInt8 × List UInt8 × Int
def goneL : List UInt8 := [103, 111, 110, 101]
def priceT (p : Int) : List UInt8 := if 0 < p then txt p else goneL
def rightF (f : Fd) : Bool := isName f.1 && isName f.2.2.1 && isName f.2.2.2.1 && decide (1 ≤ f.2.1 ∧ f.2.1 ≤ 1000000000000) && decide (0 ≤ f.2.2.2.2 ∧ f.2.2.2.2 ≤ 1000000000000)
def textF (f : Fd) : List UInt8 := f.1 ++ 32 :: (itoa f.2.1 ++ 32 :: (f.2.2.1 ++ 32 :: (f.2.2.2.1 ++ 32 :: priceT f.2.2.2.2)))
theorem rightF_iff {f : Fd} : rightF f = true ↔ isName f.1 = true ∧ isName f.2.2.1 = true ∧ isName f.2.2.2.1 = true ∧ (1 ≤ f.2.1 ∧ f.2.1 ≤ 1000000000000) ∧ (0 ≤ f.2.2.2.2 ∧ f.2.2.2.2 ≤ 1000000000000) := by
  unfold rightF
  simp only [Bool.and_eq_true, decide_eq_true_eq]
  constructor
  · rintro ⟨⟨⟨⟨a, b⟩, c⟩, d⟩, e⟩; exact ⟨a, b, c, d, e⟩
  · rintro ⟨a, b, c, d, e⟩; exact ⟨⟨⟨⟨a, b⟩, c⟩, d⟩, e⟩
/-- Parted by blanks. -/
def fieldsF : List UInt8 → List (List UInt8)
  | [] => [[]]
  | c :: t => if c = 32 then [] :: fieldsF t else match fieldsF t with
    | [] => [[c]]
    | x :: r => (c :: x) :: r
def joinF : List (List UInt8) → List UInt8
  | [] => []
  | [x] => x
  | x :: y :: r => x ++ 32 :: joinF (y :: r)
theorem fields_ne (s : List UInt8) : fieldsF s ≠ [] := by
  cases s with
  | nil => simp [fieldsF]
  | cons c t =>
    unfold fieldsF
    split
    · simp
    · split <;> simp
theorem fields_one {x : List UInt8} (h : 32 ∉ x) : fieldsF x = [x] := by
  induction x with
  | nil => rfl
  | cons c t ih =>
    simp only [List.mem_cons, not_or] at h
    unfold fieldsF
    rw [if_neg (fun e => h.1 e.symm), ih h.2]
theorem fields_app {x : List UInt8} (h : 32 ∉ x) (t : List UInt8) : fieldsF (x ++ 32 :: t) = x :: fieldsF t := by
  induction x with
  | nil => rw [List.nil_append, fieldsF, if_pos rfl]
  | cons c r ih =>
    simp only [List.mem_cons, not_or] at h
    rw [List.cons_append, fieldsF, if_neg (fun e => h.1 e.symm), ih h.2]
theorem join_cons (x : List UInt8) {l : List (List UInt8)} (h : l ≠ []) : joinF (x :: l) = x ++ 32 :: joinF l := by
  cases l with
  | nil => exact absurd rfl h
  | cons y r => rfl
theorem join_head (c : UInt8) (x : List UInt8) (r : List (List UInt8)) : joinF ((c :: x) :: r) = c :: joinF (x :: r) := by
  cases r with
  | nil => rfl
  | cons y r => rfl
theorem fields_join (s : List UInt8) : joinF (fieldsF s) = s := by
  induction s with
  | nil => rfl
  | cons c t ih =>
    unfold fieldsF
    by_cases h : c = 32
    · rw [if_pos h, join_cons _ (fields_ne t), ih, h]; rfl
    · rw [if_neg h]
      cases hf : fieldsF t with
      | nil => exact absurd hf (fields_ne t)
      | cons x r =>
        rw [hf] at ih
        show joinF ((c :: x) :: r) = c :: t
        rw [join_head, ih]
theorem fields_clean (s : List UInt8) : ∀ x ∈ fieldsF s, (32 : UInt8) ∉ x := by
  induction s with
  | nil => intro x hx; simp only [fieldsF, List.mem_singleton] at hx; subst hx; simp
  | cons c t ih =>
    intro x hx
    unfold fieldsF at hx
    by_cases h : c = 32
    · rw [if_pos h] at hx
      rcases List.mem_cons.1 hx with rfl | hx
      · simp
      · exact ih x hx
    · rw [if_neg h] at hx
      cases hf : fieldsF t with
      | nil => exact absurd hf (fields_ne t)
      | cons y r =>
        rw [hf] at hx ih
        rcases List.mem_cons.1 hx with rfl | hx
        · simp only [List.mem_cons, not_or]
          exact ⟨fun e => h e.symm, ih y (by simp)⟩
        · exact ih x (by simp [hx])
/-- A field that is a number, a price: what it says; 0, and below 0: it is none. -/
def seqF (s : List UInt8) : Int := if cnt s 1000000000000 < 1 then 0 else cnt s 1000000000000
def priceF (s : List UInt8) : Int := if s = goneL then 0 else match prs s with
  | some n => if n < 1 then -1 else n
  | none => -1
def okF (i : Nat) (x : List UInt8) : Bool := if i = 1 then decide (0 < seqF x) else if i = 4 then decide (0 ≤ priceF x) else isName x
/-- The first field that may not stand there. -/
def firstF : Nat → List (List UInt8) → Option Nat
  | _, [] => none
  | i, x :: r => if okF i x then firstF (i + 1) r else some i
def decF (s : List UInt8) : Except (Int × Int) Fd := if 100 < s.length then .error (60, 0) else match fieldsF s with
  | [a, b, c, d, e] => match firstF 0 [a, b, c, d, e] with
    | some i => .error (112, i)
    | none => .ok (a, seqF b, c, d, priceF e)
  | _ => .error (111, 0)
theorem num_clean {x : List UInt8} (h : allD x = true) : (32 : UInt8) ∉ x := fun hm => by
  unfold allD at h
  have := List.all_eq_true.1 h 32 hm
  simp [isD] at this
theorem itoa_eq (n : Int) (h : 0 ≤ n) : itoa n = decDigits n.toNat := by unfold itoa; rw [if_neg (by omega)]
theorem itoa_clean (n : Int) (h : 0 ≤ n) : (32 : UInt8) ∉ itoa n := by rw [itoa_eq n h]; exact num_clean (dd_all _).1
theorem txt_clean (a : Int) (h : 0 ≤ a) (h' : a ≤ 1000000000000) : (32 : UInt8) ∉ txt a := by
  rw [txt_pos h h']
  unfold pos
  simp only [List.mem_append, List.mem_singleton, not_or]
  exact ⟨num_clean (dd_all _).1, by decide, num_clean (dd_all _).1, num_clean (dd_all _).1⟩
theorem gone_clean : (32 : UInt8) ∉ goneL := by decide
theorem price_clean {p : Int} (h : 0 ≤ p) (h' : p ≤ 1000000000000) : (32 : UInt8) ∉ priceT p := by
  unfold priceT; split
  · exact txt_clean p h h'
  · exact gone_clean
theorem name_clean {x : List UInt8} (h : isName x = true) : (32 : UInt8) ∉ x := fun hm => by
  unfold isName at h
  simp only [Bool.and_eq_true] at h
  have := List.all_eq_true.1 h.2 32 hm
  simp [isL, isD] at this
theorem name_len {x : List UInt8} (h : isName x = true) : x.length ≤ 12 := by
  unfold isName at h
  simp only [Bool.and_eq_true, decide_eq_true_eq] at h
  exact h.1.1.1.2
theorem dd_len13 (n : Nat) (h : n ≤ 1000000000000) : (decDigits n).length ≤ 13 := by
  rcases Nat.lt_or_ge 13 (decDigits n).length with hl | hl
  · have h1 := cnt_long (most := 1000000000000) hl
    rw [cnt_dd, if_pos (by omega)] at h1
    omega
  · exact hl
theorem price_len {p : Int} (h : 0 ≤ p) (h' : p ≤ 1000000000000) : (priceT p).length ≤ 16 := by
  unfold priceT; split
  · rw [txt_pos h h', pos_len]
    have := dd_len13 (p.toNat / 100) (by omega)
    omega
  · decide
theorem fdtext_len {f : Fd} (h : rightF f = true) : (textF f).length ≤ 69 := by
  obtain ⟨h1, h2, h3, h4, h5⟩ := rightF_iff.1 h
  have a := name_len h1
  have b := name_len h2
  have c := name_len h3
  have d := dd_len13 f.2.1.toNat (by omega)
  have e := price_len h5.1 h5.2
  unfold textF
  rw [itoa_eq _ (by omega)]
  simp only [List.length_append, List.length_cons]
  omega
theorem seq_of {x : List UInt8} (h : 0 < seqF x) : 1 ≤ seqF x ∧ seqF x ≤ 1000000000000 ∧ itoa (seqF x) = x := by
  unfold seqF at h ⊢
  by_cases hc : cnt x 1000000000000 < 1
  · rw [if_pos hc] at h; omega
  · rw [if_neg hc]
    have := cnt_bd x 1000000000000
    exact ⟨by omega, this.2.1, dd_of_cnt (by omega)⟩
theorem price_of {x : List UInt8} (h : 0 ≤ priceF x) : priceF x ≤ 1000000000000 ∧ priceT (priceF x) = x := by
  unfold priceF at h ⊢
  by_cases hg : x = goneL
  · rw [if_pos hg]; exact ⟨by decide, by rw [hg]; rfl⟩
  · rw [if_neg hg] at h ⊢
    cases hp : prs x with
    | none => rw [hp] at h; simp at h
    | some n =>
      rw [hp] at h
      simp only at h ⊢
      by_cases hn : n < 1
      · rw [if_pos hn] at h; omega
      · rw [if_neg hn]
        obtain ⟨h1, h2⟩ := txt_of_prs hp
        have := rt_iff.1 h1
        exact ⟨this.2, by unfold priceT; rw [if_pos (by omega), h2]⟩
/-- Encode undoes Decode; what is read is right. -/
theorem dec_ok {s : List UInt8} {f : Fd} (h : decF s = .ok f) : rightF f = true ∧ textF f = s := by
  unfold decF at h
  by_cases hl : 100 < s.length
  · rw [if_pos hl] at h; cases h
  rw [if_neg hl] at h
  have hj := fields_join s
  match hf : fieldsF s, h with
  | [a, b, c, d, e], h =>
    rw [hf] at hj
    simp only at h
    cases hb : firstF 0 [a, b, c, d, e] with
    | some i => rw [hb] at h; cases h
    | none =>
      rw [hb] at h
      injection h with h
      subst h
      simp only [firstF] at hb
      have k0 : okF 0 a = true := by cases k : okF 0 a <;> simp_all
      have k1 : okF 1 b = true := by cases k : okF 1 b <;> simp_all
      have k2 : okF 2 c = true := by cases k : okF 2 c <;> simp_all
      have k3 : okF 3 d = true := by cases k : okF 3 d <;> simp_all
      have k4 : okF 4 e = true := by cases k : okF 4 e <;> simp_all
      have s1 := seq_of (x := b) (by unfold okF at k1; rw [if_pos rfl] at k1; exact of_decide_eq_true k1)
      have s4 : 0 ≤ priceF e := by unfold okF at k4; rw [if_neg (by decide), if_pos rfl] at k4; exact of_decide_eq_true k4
      have s5 := price_of s4
      refine ⟨rightF_iff.2 ⟨k0, k2, k3, ⟨s1.1, s1.2.1⟩, ⟨s4, s5.1⟩⟩, ?_⟩
      unfold textF
      simp only
      rw [s1.2.2, s5.2]
      exact hj
  | [], h => cases h
  | [_], h => cases h
  | [_, _], h => cases h
  | [_, _, _], h => cases h
  | [_, _, _, _], h => cases h
  | _ :: _ :: _ :: _ :: _ :: _ :: _, h => cases h
end Go.Proofs.YtkpgplafcoabnaaDoor
