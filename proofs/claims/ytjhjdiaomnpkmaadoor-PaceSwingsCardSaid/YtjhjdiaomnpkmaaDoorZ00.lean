/- Plain mathematics of layer 2: decimal numerals and amounts as lists of bytes. No program in this text; Plain mathematics of layer 2, second part: amounts' texts, and what of a text is an amount. No program in this text; The base: texts as lists, the relation of worlds, the law's pick and numerals (with the listed table); Blocks that are known whole, rows of the call's own, and what is kept of them; Plain mathematics of layer 6: words, names, tokens, and what of a text is scanned. No program in this text. -/
import Derived.Test.YtjhjdiaomnpkmaaDoorZL

namespace Go.Proofs.YtjhjdiaomnpkmaaDoor
open Go.Lib
set_option linter.unusedVariables false
set_option linter.unusedSimpArgs false
def isD (c : UInt8) : Bool := decide (48 ≤ c.toNat ∧ c.toNat ≤ 57)
def val : List UInt8 → Int → Int
  | [], n => n
  | c :: t, n => val t (n * 10 + ((c.toNat : Int) - 48))
def digs (most : Int) : List UInt8 → Int → Int
  | [], n => n
  | c :: t, n => if isD c then (if most < n * 10 + ((c.toNat : Int) - 48) then -1 else digs most t (n * 10 + ((c.toNat : Int) - 48))) else -1
def allD (l : List UInt8) : Bool := l.all isD
def cano (l : List UInt8) : Bool := !l.isEmpty && allD l && (l.length == 1 || l.head? != some 48)
def cnt (l : List UInt8) (most : Int) : Int := if cano l && decide (val l 0 ≤ min most 1000000000000) then val l 0 else -1
theorem isD_iff {c : UInt8} : isD c = true ↔ 48 ≤ c.toNat ∧ c.toNat ≤ 57 := by simp [isD]
theorem allD_cons {c : UInt8} {t : List UInt8} : allD (c :: t) = (isD c && allD t) := rfl
theorem allD_append {a b : List UInt8} : allD (a ++ b) = (allD a && allD b) := by simp [allD]
theorem val_append (a b : List UInt8) (n : Int) : val (a ++ b) n = val b (val a n) := by
  induction a generalizing n with
  | nil => rfl
  | cons c t ih => simp only [List.cons_append, val, ih]
theorem val_ge {l : List UInt8} (h : allD l = true) {n : Int} (hn : 0 ≤ n) : n ≤ val l n := by
  induction l generalizing n with
  | nil => simp [val]
  | cons c t ih =>
    rw [allD_cons, Bool.and_eq_true] at h
    have hc := isD_iff.1 h.1
    have := ih h.2 (n := n * 10 + ((c.toNat : Int) - 48)) (by omega)
    simp only [val]; omega
theorem val_lt {l : List UInt8} (h : allD l = true) {n : Int} (hn : 0 ≤ n) : val l n < (n + 1) * 10 ^ l.length := by
  induction l generalizing n with
  | nil => simp [val]; omega
  | cons c t ih =>
    rw [allD_cons, Bool.and_eq_true] at h
    have hc := isD_iff.1 h.1
    have := ih h.2 (n := n * 10 + ((c.toNat : Int) - 48)) (by omega)
    simp only [val, List.length_cons]
    have hp : (0 : Int) < 10 ^ t.length := Int.pow_pos (by omega)
    have h2 : (n * 10 + ((c.toNat : Int) - 48) + 1) * 10 ^ t.length ≤ ((n + 1) * 10) * 10 ^ t.length := Int.mul_le_mul_of_nonneg_right (by omega) (by omega)
    rw [Int.pow_succ, Int.mul_comm (10 ^ t.length) 10, ← Int.mul_assoc]
    omega
theorem val_ge_pow {l : List UInt8} (h : allD l = true) {n : Int} (hn : 1 ≤ n) : 10 ^ l.length ≤ val l n := by
  induction l generalizing n with
  | nil => simpa [val] using hn
  | cons c t ih =>
    rw [allD_cons, Bool.and_eq_true] at h
    have hc := isD_iff.1 h.1
    simp only [val, List.length_cons]
    -- n*10 + d ≥ 10: split as 10 times
    have key : ∀ (t : List UInt8) (m k : Int), allD t = true → 0 ≤ m → 0 ≤ k → val t m + k * 10 ^ t.length = val t (m + k) := by
      intro t
      induction t with
      | nil => intro m k _ _ _; simp [val]
      | cons d t ih2 =>
        intro m k hd hm hk
        rw [allD_cons, Bool.and_eq_true] at hd
        have hdd := isD_iff.1 hd.1
        simp only [val, List.length_cons]
        have := ih2 (m * 10 + ((d.toNat : Int) - 48)) (k * 10) hd.2 (by omega) (by omega)
        rw [show (m + k) * 10 + ((d.toNat : Int) - 48) = m * 10 + ((d.toNat : Int) - 48) + k * 10 by omega, ← this, Int.pow_succ]
        rw [Int.mul_comm (10 ^ t.length) 10, ← Int.mul_assoc]
    have k1 := key t 0 10 h.2 (by omega) (by omega)
    have k2 := key t 10 (n * 10 + ((c.toNat : Int) - 48) - 10) h.2 (by omega) (by omega)
    rw [show (10 : Int) + (n * 10 + ((c.toNat : Int) - 48) - 10) = n * 10 + ((c.toNat : Int) - 48) by omega] at k2
    have hp : (0 : Int) ≤ (n * 10 + ((c.toNat : Int) - 48) - 10) * 10 ^ t.length := Int.mul_nonneg (by omega) (Int.le_of_lt (Int.pow_pos (by omega)))
    have hv := val_ge h.2 (n := 0) (by omega)
    rw [show (0 : Int) + 10 = 10 by omega] at k1
    rw [Int.pow_succ, Int.mul_comm]
    omega
theorem digs_eq (most : Int) (l : List UInt8) : ∀ n : Int, 0 ≤ n → digs most l n = if allD l && (l.isEmpty || decide (val l n ≤ most)) then val l n else -1 := by
  induction l with
  | nil => intro n _; simp [digs, allD, val]
  | cons c t ih =>
    intro n hn
    have ev : val (c :: t) n = val t (n * 10 + ((c.toNat : Int) - 48)) := rfl
    rw [ev]
    simp only [digs, allD_cons, List.isEmpty_cons, Bool.false_or]
    cases hc : isD c
    · simp
    · have hc' := isD_iff.1 hc
      have h0 : 0 ≤ n * 10 + ((c.toNat : Int) - 48) := by omega
      simp only [if_true, Bool.true_and]
      generalize hm' : n * 10 + ((c.toNat : Int) - 48) = m at *
      cases ht : allD t
      · simp only [Bool.false_and]
        split
        · rfl
        · rw [ih _ h0, ht]; simp
      · have hg := val_ge ht h0
        by_cases hm : most < m
        · rw [if_pos hm]
          split
          · rename_i h
            simp only [Bool.true_and, decide_eq_true_eq] at h
            omega
          · rfl
        · rw [if_neg hm, ih _ h0, ht]
          cases t with
          | nil =>
            have e0 : val [] m = m := rfl
            rw [e0]
            simp only [List.isEmpty_nil, Bool.true_or, Bool.and_true, if_true, Bool.true_and]
            rw [if_pos (decide_eq_true (by omega))]
          | cons d t => simp only [List.isEmpty_cons, Bool.false_or, Bool.true_and]
theorem digs_bd (most : Int) (l : List UInt8) (n : Int) (hn : 0 ≤ n) (hm : n ≤ most ∨ 0 ≤ most) (hl : n ≤ most) : -1 ≤ digs most l n ∧ (digs most l n ≤ most ∨ digs most l n = -1) := by
  rw [digs_eq most l n hn]
  split
  · rename_i h
    simp only [Bool.and_eq_true, Bool.or_eq_true, decide_eq_true_eq] at h
    have := val_ge h.1 hn
    rcases h.2 with h2 | h2
    · cases l with
      | nil => simp only [val]; omega
      | cons => simp at h2
    · omega
  · omega
theorem of48 {k : Nat} (h : k < 10) : (UInt8.ofNat (48 + k)).toNat = 48 + k := by
  simp [UInt8.toNat_ofNat']; omega
theorem dd_all (u : Nat) : allD (decDigits u) = true ∧ val (decDigits u) 0 = u ∧ (1 ≤ u → (decDigits u).head? ≠ some 48) ∧ (decDigits u).isEmpty = false := by
  induction u using Nat.strongRecOn with
  | _ u ih =>
    by_cases h : u < 10
    · rw [decDigits, dif_pos h]
      have h8 := of48 h
      refine ⟨by simp [allD, isD, h8]; omega, by simp only [val, h8]; omega, fun hu he => ?_, rfl⟩
      simp only [List.head?_cons, Option.some.injEq] at he
      have := congrArg UInt8.toNat he
      rw [h8] at this
      have h48 : (48 : UInt8).toNat = 48 := rfl
      omega
    · obtain ⟨a, b, c, d⟩ := ih (u / 10) (by omega)
      have h8 := of48 (show u % 10 < 10 by omega)
      rw [decDigits, dif_neg h]
      refine ⟨by rw [allD_append, a]; simp [allD, isD, h8]; omega, by rw [val_append, b]; simp only [val, h8]; omega, fun _ => ?_, by simp⟩
      have := c (by omega)
      cases e : decDigits (u / 10) with
      | nil => rw [e] at d; cases d
      | cons x t => rw [e] at this; simpa using this
theorem dd_cano (u : Nat) : cano (decDigits u) = true := by
  obtain ⟨a, b, c, d⟩ := dd_all u
  unfold cano
  rw [a, d]
  by_cases h : u < 10
  · rw [decDigits_one h]; rfl
  · have := c (by omega)
    simp [bne, this]
theorem val_pos {l : List UInt8} (h : allD l = true) (he : l.isEmpty = false) (hh : l.head? ≠ some 48) : 1 ≤ val l 0 := by
  cases l with
  | nil => cases he
  | cons c t =>
    rw [allD_cons, Bool.and_eq_true] at h
    have hc := isD_iff.1 h.1
    have h48 : c.toNat ≠ 48 := fun e => hh (by simp; exact UInt8.toNat_inj.1 (by rw [e]; rfl))
    have := val_ge h.2 (n := 0 * 10 + ((c.toNat : Int) - 48)) (by omega)
    simp only [val]; omega
theorem dd_of : ∀ (k : Nat) (l : List UInt8), l.length = k → cano l = true → decDigits (val l 0).toNat = l := by
  intro k
  induction k with
  | zero => intro l hl hc; cases l with
    | nil => simp [cano] at hc
    | cons => simp at hl
  | succ k ih =>
    intro l hl hc
    obtain ⟨t, c, rfl⟩ : ∃ t c, l = t ++ [c] := by
      have hne : l ≠ [] := by intro e; rw [e] at hl; simp at hl
      exact ⟨l.dropLast, l.getLast hne, (List.dropLast_concat_getLast hne).symm⟩
    simp only [cano, Bool.and_eq_true, allD_append, Bool.or_eq_true] at hc
    obtain ⟨⟨_, ht, hd⟩, hh⟩ := hc
    have hd := isD_iff.1 (by simpa [allD] using hd)
    rw [val_append]
    simp only [val]
    cases hte : t.isEmpty
    · have hh' : t.head? ≠ some 48 := by
        rcases hh with h1 | h1
        · cases t with
          | nil => cases hte
          | cons x t => simp at h1
        · cases t with
          | nil => cases hte
          | cons x t => simpa using h1
      have h1 := val_pos ht hte hh'
      have hl' : t.length = k := by simpa using hl
      have := ih t hl' (by simp only [cano, hte, ht, Bool.not_false, Bool.true_and, Bool.or_eq_true]; right; simpa using hh')
      rw [decDigits, dif_neg (by omega)]
      have e1 : (val t 0 * 10 + ((c.toNat : Int) - 48)).toNat / 10 = (val t 0).toNat := by omega
      have e2 : (val t 0 * 10 + ((c.toNat : Int) - 48)).toNat % 10 = c.toNat - 48 := by omega
      rw [e1, e2, this]
      congr 1
      rw [show 48 + (c.toNat - 48) = c.toNat by omega]
      simp
    · have : t = [] := by simpa using hte
      subst this
      simp only [val]
      rw [decDigits_one (by omega)]
      rw [show 48 + ((0 : Int) * 10 + ((c.toNat : Int) - 48)).toNat = c.toNat by omega]
      simp
theorem dd_of' {l : List UInt8} (h : cano l = true) : decDigits (val l 0).toNat = l := dd_of _ l rfl h
theorem cnt_dd (u : Nat) (most : Int) : cnt (decDigits u) most = if (u : Int) ≤ min most 1000000000000 then (u : Int) else -1 := by
  unfold cnt
  rw [dd_cano, (dd_all u).2.1]
  simp
theorem cano_nonneg {l : List UInt8} (h : cano l = true) : 0 ≤ val l 0 := by
  simp only [cano, Bool.and_eq_true] at h
  exact val_ge h.1.2 (by omega)
theorem cnt_bd (l : List UInt8) (most : Int) : -1 ≤ cnt l most ∧ cnt l most ≤ 1000000000000 ∧ (cnt l most ≤ most ∨ cnt l most = -1) := by
  unfold cnt
  split
  · rename_i h
    simp only [Bool.and_eq_true, decide_eq_true_eq] at h
    have := cano_nonneg h.1
    omega
  · omega
theorem dd_of_cnt {l : List UInt8} {most : Int} (h : 0 ≤ cnt l most) : itoa (cnt l most) = l := by
  unfold cnt at h ⊢
  split at h
  · rename_i hc
    rw [if_pos hc]
    simp only [Bool.and_eq_true, decide_eq_true_eq] at hc
    unfold itoa
    rw [if_neg (by omega)]
    exact dd_of' hc.1
  · omega
/-- The program's Count. -/
theorem cnt_prog (l : List UInt8) (most : Int) (h : l.isEmpty = false) (h' : l.length ≤ 1 ∨ l.head? ≠ some 48) : digs (min most 1000000000000) l 0 = cnt l most := by
  rw [digs_eq _ _ _ (by omega)]
  unfold cnt cano
  rw [h]
  have e : (l.length == 1 || l.head? != some 48) = true := by
    simp only [Bool.or_eq_true, beq_iff_eq, bne_iff_ne]
    rcases h' with h' | h'
    · left
      cases l with
      | nil => cases h
      | cons x t => simp at h' ⊢; exact h'
    · right; exact h'
  rw [e]
  simp
theorem cnt_no {l : List UInt8} {most : Int} (h : l.isEmpty = true ∨ (1 < l.length ∧ l.head? = some 48)) : cnt l most = -1 := by
  unfold cnt cano
  rcases h with h | ⟨h, h'⟩
  · rw [h]; simp
  · have : (l.length == 1 || l.head? != some 48) = false := by simp [h']; omega
    rw [this]; simp
theorem cnt_long {l : List UInt8} {most : Int} (h : 13 < l.length) : cnt l most = -1 := by
  unfold cnt
  split
  · rename_i hc
    simp only [Bool.and_eq_true, decide_eq_true_eq, cano] at hc
    obtain ⟨⟨⟨_, hd⟩, hh⟩, hv⟩ := hc
    exfalso
    cases l with
    | nil => simp at h
    | cons c t =>
      have hh' : c ≠ 48 := by
        rcases Bool.or_eq_true _ _ ▸ hh with h1 | h1
        · simp at h1; subst h1; simp at h
        · simpa using h1
      rw [allD_cons, Bool.and_eq_true] at hd
      have hcd := isD_iff.1 hd.1
      have h48 : c.toNat ≠ 48 := fun e => hh' (UInt8.toNat_inj.1 (by rw [e]; rfl))
      have hp := val_ge_pow hd.2 (n := 0 * 10 + ((c.toNat : Int) - 48)) (by omega)
      have h13 : (10 : Int) ^ 13 ≤ 10 ^ t.length := by
        have : 10 ^ 13 ≤ 10 ^ t.length := Nat.pow_le_pow_right (by omega) (by simp at h; omega)
        exact_mod_cast this
      have hp2 : (10000000000000 : Int) ≤ val (c :: t) 0 := Int.le_trans h13 hp
      omega
  · rfl
theorem cnt_not {l : List UInt8} {most : Int} (h : allD l = false) : cnt l most = -1 := by
  unfold cnt cano; rw [h]; simp
end Go.Proofs.YtjhjdiaomnpkmaaDoor

namespace Go.Proofs.YtjhjdiaomnpkmaaDoor
open Go.Lib
set_option linter.unusedVariables false
set_option linter.unusedSimpArgs false
def rt (a : Int) : Bool := decide (-1000000000000 ≤ a ∧ a ≤ 1000000000000)
theorem rt_yes {a : Int} (h : -1000000000000 ≤ a) (h' : a ≤ 1000000000000) : rt a = true := by simp [rt, h, h']
theorem rt_no {a : Int} (h : a < -1000000000000 ∨ 1000000000000 < a) : rt a = false := by simp [rt]; omega
theorem rt_iff {a : Int} : rt a = true ↔ -1000000000000 ≤ a ∧ a ≤ 1000000000000 := by simp [rt]
def pos (m : Nat) : List UInt8 := decDigits (m / 100) ++ ([46] ++ (decDigits (m / 10 % 10) ++ decDigits (m % 10)))
def txt (a : Int) : List UInt8 := if rt a then (if a < 0 then 45 :: pos a.natAbs else pos a.natAbs) else []
def negL (l : List UInt8) : Bool := l.head? == some 45
def body (l : List UInt8) : List UInt8 := if negL l then l.tail else l
def fin (neg : Bool) (m : Int) : Option Int := if 1000000000000 < m ∨ (neg = true ∧ m = 0) then none else some (if neg then -m else m)
def last3 (t : List UInt8) : Option (List UInt8 × UInt8 × UInt8) := match t.reverse with
  | d :: c :: e :: r => if e == 46 then some (r.reverse, c, d) else none
  | _ => none
def two (c d : UInt8) : Int := ((c.toNat : Int) - 48) * 10 + ((d.toNat : Int) - 48)
def prs (l : List UInt8) : Option Int := match last3 (body l) with
  | some (x, c, d) => if decide (0 ≤ cnt x 10000000000) && (isD c && isD d) then fin (negL l) (cnt x 10000000000 * 100 + two c d) else none
  | none => none
def prs1 (l : List UInt8) : Int := (prs l).getD 0
def prs2 (l : List UInt8) : Int := if (prs l).isSome then 0 else 20
def pair (l : List UInt8) : Int := if l.length = 2 then digs 99 l 0 else -1
theorem last3_mk (x : List UInt8) (c d : UInt8) : last3 (x ++ [46, c, d]) = some (x, c, d) := by
  unfold last3
  simp
theorem last3_of {t x : List UInt8} {c d : UInt8} (h : last3 t = some (x, c, d)) : t = x ++ [46, c, d] := by
  unfold last3 at h
  split at h
  · rename_i d' c' e' r heq
    split at h
    · rename_i he
      simp only [Option.some.injEq, Prod.mk.injEq] at h
      obtain ⟨rfl, rfl, rfl⟩ := h
      have := congrArg List.reverse heq
      rw [List.reverse_reverse] at this
      rw [this]
      have : e' = 46 := by simpa using he
      simp [this]
    · cases h
  · cases h
theorem cnt_allD {x : List UInt8} {m : Int} (h : 0 ≤ cnt x m) : allD x = true := by
  cases e : allD x
  · rw [cnt_not e] at h; omega
  · rfl
theorem prs_mk {l x : List UInt8} {c d : UInt8} (h : body l = x ++ [46, c, d]) : prs l = if decide (0 ≤ cnt x 10000000000) && (isD c && isD d) then fin (negL l) (cnt x 10000000000 * 100 + two c d) else none := by
  unfold prs
  rw [h, last3_mk]
theorem prs_no {l : List UInt8} (h : last3 (body l) = none) : prs l = none := by
  unfold prs
  rw [h]
theorem two_bd {c d : UInt8} (hc : isD c = true) (hd : isD d = true) : 0 ≤ two c d ∧ two c d ≤ 99 := by
  have := isD_iff.1 hc; have := isD_iff.1 hd; unfold two; omega
theorem not_mem_of_allD {l : List UInt8} (h : allD l = true) : (46 : UInt8) ∉ l := fun hm => by
  unfold allD at h
  have := List.all_eq_true.1 h 46 hm
  simp [isD] at this
theorem pair_two (c d : UInt8) : pair [c, d] = if isD c && isD d then two c d else -1 := by
  unfold pair
  rw [if_pos (show [c, d].length = 2 from rfl), digs_eq _ _ _ (by omega)]
  simp only [allD, List.all_cons, List.all_nil, Bool.and_true, List.isEmpty_cons, Bool.false_or, val]
  cases hc : isD c
  · simp
  · cases hd : isD d
    · simp
    · have := two_bd hc hd
      unfold two at this ⊢
      rw [if_pos (by simp; omega)]
      simp
theorem pair_no {l : List UInt8} (h : l.length ≠ 2) : pair l = -1 := by unfold pair; rw [if_neg h]
theorem pair_bd (l : List UInt8) : -1 ≤ pair l ∧ pair l ≤ 99 := by
  unfold pair
  split
  · have := digs_bd 99 l 0 (by omega) (.inl (by omega)) (by omega); omega
  · omega
theorem cut46 (t : List UInt8) : (∃ x y, t = x ++ 46 :: y ∧ 46 ∉ x ∧ (cut t [46]).1 = x ∧ (cut t [46]).2.1 = y) ∨ (46 ∉ t ∧ (cut t [46]).2.1 = []) := by
  have key : ∀ t : List UInt8, (∃ (x y : List UInt8), t = x ++ 46 :: y ∧ 46 ∉ x ∧ indexByte t 46 = x.length) ∨ (46 ∉ t ∧ indexByte t 46 = -1) := by
    intro t
    induction t with
    | nil => right; exact ⟨by simp, rfl⟩
    | cons b t ih =>
      by_cases hb : b = 46
      · left
        refine ⟨[], t, by rw [hb]; rfl, by simp, ?_⟩
        simp [indexByte, hb]
      · rcases ih with ⟨x, y, rfl, hx, hi⟩ | ⟨hn, hi⟩
        · left
          refine ⟨b :: x, y, rfl, by simp [hx, Ne.symm hb], ?_⟩
          unfold indexByte
          rw [if_neg (by simpa using hb), hi, if_neg (by simp)]
          simp
        · right
          refine ⟨by simp [hn, Ne.symm hb], ?_⟩
          unfold indexByte
          rw [if_neg (by simpa using hb), hi]
          rfl
  unfold cut
  rw [index_one]
  rcases key t with ⟨x, y, rfl, hx, hi⟩ | ⟨hn, hi⟩
  · left
    refine ⟨x, y, rfl, hx, ?_, ?_⟩
    · rw [hi, if_pos (by omega)]; simp
    · rw [hi, if_pos (by omega)]; simp
  · right
    refine ⟨hn, ?_⟩
    rw [hi, if_neg (by omega)]
/-- What the program's Parse answers, case by case. -/
theorem prog_no {l : List UInt8} (h : cnt (cut (body l) [46]).1 10000000000 < 0 ∨ pair (cut (body l) [46]).2.1 < 0) : prs l = none := by
  cases e : last3 (body l) with
  | none => exact prs_no e
  | some p =>
    obtain ⟨x, c, d⟩ := p
    have ht := last3_of e
    rw [prs_mk ht]
    split
    · rename_i hh
      exfalso
      simp only [Bool.and_eq_true, decide_eq_true_eq] at hh
      have hx : (46 : UInt8) ∉ x := not_mem_of_allD (cnt_allD hh.1)
      rcases cut46 (body l) with ⟨x', y', ht', hx', e1, e2⟩ | ⟨hn, _⟩
      · rw [e1, e2] at h
        rw [ht] at ht'
        have hx2 : x = x' ∧ [c, d] = y' := by
          clear h hh ht e e1 e2
          revert x'
          induction x with
          | nil =>
            intro x' ht' hx'
            cases x' with
            | nil => simpa using ht'
            | cons b x' => simp at ht'; exact absurd (by simp [ht'.1]) hx'
          | cons b x ih =>
            intro x' ht' hx'
            cases x' with
            | nil => simp at ht'; exact absurd (by simp [ht'.1]) hx
            | cons b' x' =>
              simp only [List.cons_append, List.cons.injEq] at ht'
              have := ih (fun hm => hx (by simp [hm])) x' ht'.2 (fun hm => hx' (by simp [hm]))
              exact ⟨by rw [ht'.1, this.1], this.2⟩
        obtain ⟨rfl, rfl⟩ := hx2
        rw [pair_two, hh.2.1, hh.2.2] at h
        have := two_bd hh.2.1 hh.2.2
        simp at h
        omega
      · exact hn (by rw [ht]; simp)
    · rfl
theorem prog_yes {l : List UInt8} (h1 : 0 ≤ cnt (cut (body l) [46]).1 10000000000) (h2 : 0 ≤ pair (cut (body l) [46]).2.1) :
    prs l = fin (negL l) (cnt (cut (body l) [46]).1 10000000000 * 100 + pair (cut (body l) [46]).2.1) := by
  rcases cut46 (body l) with ⟨x, y, ht, hx, e1, e2⟩ | ⟨hn, e2⟩
  · rw [e1] at h1 ⊢
    rw [e2] at h2 ⊢
    have hl : y.length = 2 := by
      by_cases hl : y.length = 2
      · exact hl
      · rw [pair_no hl] at h2; omega
    match y, hl with
    | [c, d], _ =>
      rw [pair_two] at h2 ⊢
      split at h2
      · rename_i hcd
        rw [if_pos hcd, prs_mk ht, if_pos (by rw [hcd]; simpa using h1)]
      · omega
  · rw [e2, pair_no (by simp)] at h2; omega
theorem ofD {c : UInt8} (h : isD c = true) : decDigits (((c.toNat : Int) - 48).toNat) = [c] := by
  have := isD_iff.1 h
  rw [decDigits_one (by omega), show 48 + ((c.toNat : Int) - 48).toNat = c.toNat by omega]
  simp
theorem pos_of {x : List UInt8} {c d : UInt8} (hx : 0 ≤ cnt x 10000000000) (hc : isD c = true) (hd : isD d = true) : pos (cnt x 10000000000 * 100 + two c d).toNat = x ++ [46, c, d] := by
  have hb := cnt_bd x 10000000000
  have h1 := isD_iff.1 hc; have h2 := isD_iff.1 hd
  unfold pos two
  generalize hw : cnt x 10000000000 = w at *
  have e1 : (w * 100 + (((c.toNat : Int) - 48) * 10 + ((d.toNat : Int) - 48))).toNat / 100 = w.toNat := by omega
  have e2 : (w * 100 + (((c.toNat : Int) - 48) * 10 + ((d.toNat : Int) - 48))).toNat / 10 % 10 = ((c.toNat : Int) - 48).toNat := by omega
  have e3 : (w * 100 + (((c.toNat : Int) - 48) * 10 + ((d.toNat : Int) - 48))).toNat % 10 = ((d.toNat : Int) - 48).toNat := by omega
  rw [e1, e2, e3, ofD hc, ofD hd]
  have hi : itoa (cnt x 10000000000) = x := dd_of_cnt (by rw [hw]; exact hx)
  rw [hw] at hi
  unfold itoa at hi
  rw [if_neg (by omega)] at hi
  rw [hi]
  rfl
theorem of_body {l : List UInt8} (h : negL l = true) : l = 45 :: body l := by
  unfold body; rw [h]
  unfold negL at h
  cases l with
  | nil => simp at h
  | cons b t => simp at h; simp [h]
theorem of_body' {l : List UInt8} (h : negL l = false) : l = body l := by unfold body; rw [h]; rfl
theorem txt_of_prs {l : List UInt8} {a : Int} (h : prs l = some a) : rt a = true ∧ txt a = l := by
  cases e : last3 (body l) with
  | none => rw [prs_no e] at h; cases h
  | some p =>
    obtain ⟨x, c, d⟩ := p
    have ht := last3_of e
    rw [prs_mk ht] at h
    split at h
    · rename_i hh
      simp only [Bool.and_eq_true, decide_eq_true_eq] at hh
      have hb := cnt_bd x 10000000000
      have h2 := two_bd hh.2.1 hh.2.2
      have hp := pos_of hh.1 hh.2.1 hh.2.2
      generalize hm : cnt x 10000000000 * 100 + two c d = m at *
      unfold fin at h
      split at h
      · cases h
      · rename_i hn
        simp only [Option.some.injEq] at h
        cases hg : negL l
        · rw [hg] at h; simp at h
          subst h
          have hr : rt m = true := rt_yes (by omega) (by omega)
          refine ⟨hr, ?_⟩
          unfold txt
          rw [hr, if_pos rfl, if_neg (by omega), show m.natAbs = m.toNat by omega, hp, ← ht, ← of_body' hg]
        · rw [hg] at h hn; simp at h hn
          subst h
          have hr : rt (-m) = true := rt_yes (by omega) (by omega)
          refine ⟨hr, ?_⟩
          unfold txt
          rw [hr, if_pos rfl, if_pos (by omega), show (-m).natAbs = m.toNat by omega, hp, ← ht, ← of_body hg]
    · cases h
theorem dd_head (u : Nat) : (decDigits u).head? ≠ some 45 := by
  obtain ⟨a, _, _, d⟩ := dd_all u
  cases e : decDigits u with
  | nil => simp
  | cons c t =>
    rw [e] at a
    rw [allD_cons, Bool.and_eq_true] at a
    have := isD_iff.1 a.1
    simp
    intro h
    rw [h] at this
    simp at this
theorem pos_eq (m : Nat) : pos m = decDigits (m / 100) ++ [46, UInt8.ofNat (48 + m / 10 % 10), UInt8.ofNat (48 + m % 10)] := by
  unfold pos
  rw [decDigits_one (show m / 10 % 10 < 10 by omega), decDigits_one (show m % 10 < 10 by omega)]
  rfl
theorem pos_head (m : Nat) : (pos m).head? ≠ some 45 := by
  have h := dd_head (m / 100)
  have he := (dd_all (m / 100)).2.2.2
  rw [pos_eq]
  cases e : decDigits (m / 100) with
  | nil => rw [e] at he; cases he
  | cons c t => rw [e] at h; simpa using h
theorem prs_pos (m : Nat) (l : List UInt8) (hl : body l = pos m) (hm : m ≤ 1000000000000) : prs l = fin (negL l) m := by
  rw [pos_eq] at hl
  have h1 : isD (UInt8.ofNat (48 + m / 10 % 10)) = true := isD_iff.2 (by rw [of48 (by omega)]; omega)
  have h2 : isD (UInt8.ofNat (48 + m % 10)) = true := isD_iff.2 (by rw [of48 (by omega)]; omega)
  rw [prs_mk hl, cnt_dd, if_pos (show ((m / 100 : Nat) : Int) ≤ min 10000000000 1000000000000 by omega), if_pos (by simp only [h1, h2, Bool.and_true, decide_eq_true_eq]; omega)]
  unfold two
  rw [of48 (show m / 10 % 10 < 10 by omega), of48 (show m % 10 < 10 by omega)]
  congr 1
  omega
theorem prs_txt {a : Int} (h : rt a = true) : prs (txt a) = some a := by
  have hb := rt_iff.1 h
  unfold txt
  rw [h, if_pos rfl]
  by_cases ha : a < 0
  · rw [if_pos ha, prs_pos a.natAbs _ (by simp [body, negL]) (by omega)]
    unfold fin
    rw [show negL (45 :: pos a.natAbs) = true from rfl, if_neg (by omega)]
    simp; omega
  · have hn : negL (pos a.natAbs) = false := by unfold negL; simpa using pos_head a.natAbs
    rw [if_neg ha, prs_pos a.natAbs _ (by unfold body; rw [hn]; rfl) (by omega)]
    unfold fin
    rw [hn, if_neg (by simp; omega)]
    simp; omega
theorem ref_no {l x : List UInt8} {c d : UInt8} (ht : body l = x ++ [46, c, d]) (h : cnt x 10000000000 < 0 ∨ isD c = false ∨ isD d = false) : prs l = none := by
  rw [prs_mk ht]
  rw [if_neg]
  simp only [Bool.and_eq_true, decide_eq_true_eq]
  rintro ⟨a, b, c⟩
  rcases h with h | h | h
  · omega
  · rw [h] at b; cases b
  · rw [h] at c; cases c
theorem ref_short {l : List UInt8} (h : (body l).length < 4) : prs l = none := by
  cases e : last3 (body l) with
  | none => exact prs_no e
  | some p =>
    obtain ⟨x, c, d⟩ := p
    have ht := last3_of e
    rw [ht] at h
    have hx : x = [] := by
      cases x with
      | nil => rfl
      | cons => simp at h; omega
    exact ref_no ht (.inl (by rw [hx]; simp [cnt, cano]))
end Go.Proofs.YtjhjdiaomnpkmaaDoor

namespace Go.Proofs.YtjhjdiaomnpkmaaDoor
open Go.RowKit Go.Lib
set_option linter.unusedVariables false
set_option linter.unusedSimpArgs false
def B (l : List UInt8) : ByteArray := ⟨l.toArray⟩
theorem B_list (l : List UInt8) : (B l).data.toList = l := by simp [B]
theorem B_toList (l : List UInt8) : (B l).toList = l := ByteArray.toList_mk l
theorem B_of (s : ByteArray) : B s.data.toList = s := by simp [B]
theorem B_append (a b : List UInt8) : B a ++ B b = B (a ++ b) := ByteArray.mk_append_mk a b
theorem B_size (l : List UInt8) : (B l).size = l.length := by simp [B, ByteArray.size]
def pk (c n : Int) : Int := if c < 0 then -((c + 1).tmod n) else c % n
def Two (e : Ending) (x y : Int) : Prop := e = .returned (.tuple #[.int .i64 x, .int .i64 y])
def Tab (w : World) : Prop := Lib.TabIs Tryd.prog w "internal/strconv.uint64pow10" .u64 Lib.pow10Tab
theorem gTab : Tryd.prog.globalNamed "internal/strconv.uint64pow10" = some 1 := by kernel_rfl
def Rel (w0 w : World) : Prop := Tab w0 ∧ Below w0.heap.size w0 w
theorem Rel.tab {w0 w : World} (h : Rel w0 w) : Tab w := Joins.tab_stays gTab h.1 h.2 (Nat.le_refl _)
theorem Rel.self {w0 w : World} (h : Rel w0 w) : Rel w w := ⟨h.tab, Below.refl _ _⟩
theorem Rel.trans {w0 w w' : World} (h : Rel w0 w) (h' : Rel w w') : Rel w0 w' := ⟨h.1, h.2.trans (h'.2.mono h.2.size)⟩
theorem Rel.size {w0 w : World} (h : Rel w0 w) : w0.heap.size ≤ w.heap.size := h.2.size
theorem Rel.start {w : World} (h : Tab w) : Rel w w := ⟨h, Below.refl _ _⟩
theorem Rel.step {w0 w w' : World} (h : Rel w0 w) (hb : Below w.heap.size w w') : Rel w0 w' := ⟨h.1, h.2.trans (hb.mono h.2.size)⟩
theorem Rel.alloc {w0 w : World} (h : Rel w0 w) (o : Obj) : Rel w0 (w.alloc o) := ⟨h.1, h.2.alloc h.2.size o⟩
theorem Rel.drew {w0 w : World} (h : Rel w0 w) : Rel w0 w.drew := ⟨h.1, h.2.drew⟩
theorem Rel.drewN {w0 w : World} (h : Rel w0 w) (n : Nat) : Rel w0 (w.drewN n) := ⟨h.1, ⟨h.2.os, h.2.tape, h.2.output, h.2.size, h.2.block⟩⟩
theorem Rel.setCell {w0 w : World} (h : Rel w0 w) {p : Addr} (hp : w0.heap.size ≤ p.block) (u : Value) : Rel w0 (w.setCell p u) := ⟨h.1, h.2.setCell hp u⟩
theorem Rel.grow {w0 w : World} (h : Rel w0 w) (os : Array Obj) : Rel w0 (Sort.grow w os) := by
  refine h.step ⟨rfl, rfl, rfl, ?_, fun k hk => ?_⟩
  · show w.heap.size ≤ (w.heap ++ os).size
    rw [Array.size_append]; omega
  · show (w.heap ++ os)[k]? = w.heap[k]?
    rw [Array.getElem?_append_left hk]
theorem ret_int {k : IntKind} {a b : Int} (h : a = b) : Ending.returned (.int k a) = .returned (.int k b) := by rw [h]
theorem ret_bool {a b : Bool} (h : a = b) : Ending.returned (.bool a) = .returned (.bool b) := by rw [h]
theorem ret_str {a b : ByteArray} (h : a = b) : Ending.returned (.string a) = .returned (.string b) := by rw [h]
theorem ret_two {a b c d : Int} (h : a = c) (h' : b = d) : Two (Ending.returned (.tuple #[.int .i64 a, .int .i64 b])) c d := by subst h; subst h'; rfl
theorem int_at {f : FuncId} {args : Array Value} {w : World} {R : World → Prop} {x : Int} (y : Int) (c : Calls Tryd.prog f args w fun e w' => e = .returned (.int .i64 x) ∧ R w') (h : Hid (x = y)) : Calls Tryd.prog f args w fun e w' => e = .returned (.int .i64 y) ∧ R w' := by
  have e := h.out; subst e; exact c
theorem two_at {f : FuncId} {args : Array Value} {w : World} {R : World → Prop} {x y : Int} (x' y' : Int) (c : Calls Tryd.prog f args w fun e w' => Two e x y ∧ R w') (h : Hid (x = x')) (h' : Hid (y = y')) : Calls Tryd.prog f args w fun e w' => e = .returned (.tuple #[.int .i64 x', .int .i64 y']) ∧ R w' := by
  have e := h.out; have e' := h'.out; subst e; subst e'; exact c
theorem tdt (p n : Int) (hn : 0 < n) : n * p.tdiv n + p.tmod n = p ∧ (0 ≤ p → 0 ≤ p.tmod n) ∧ (p ≤ 0 → p.tmod n ≤ 0) ∧ p.tmod n < n ∧ -n < p.tmod n := by
  refine ⟨Int.mul_tdiv_add_tmod p n, fun h => Int.tmod_nonneg n h, fun h => ?_, Int.tmod_lt_of_pos p hn, ?_⟩
  · have := Int.tmod_nonneg n (a := -p) (by omega)
    rw [Int.neg_tmod] at this; omega
  · have := Int.tmod_lt_of_pos (-p) hn
    rw [Int.neg_tmod] at this; omega
theorem pk_bd (c n : Int) (hn : 0 < n) : 0 ≤ pk c n ∧ pk c n < n := by
  unfold pk
  split
  · have := tdt (c + 1) n hn; omega
  · exact ⟨Int.emod_nonneg c (by omega), Int.emod_lt_of_pos c hn⟩
theorem bool_at {f : FuncId} {args : Array Value} {w : World} {R : World → Prop} {x : Bool} (y : Bool) (c : Calls Tryd.prog f args w fun e w' => e = .returned (.bool x) ∧ R w') (h : Hid (x = y)) : Calls Tryd.prog f args w fun e w' => e = .returned (.bool y) ∧ R w' := by
  have e := h.out; subst e; exact c
theorem nd_le (k u : Nat) (h : u < 10 ^ k) (hk : 1 ≤ k) : (decDigits u).length ≤ k := by
  induction k generalizing u with
  | zero => omega
  | succ k ih =>
    rw [decDigits]
    split
    · simp
    · rename_i h10
      have hk' : 1 ≤ k := by
        rcases k with _ | k
        · simp at h; omega
        · omega
      have := ih (u / 10) (by rw [Nat.pow_succ] at h; omega) hk'
      simp
      omega
theorem dd_size (n : Int) (h : n ≤ 9223372036854775807) : (B (decDigits n.toNat)).size ≤ 19 := by
  rw [B_size]
  exact nd_le 19 n.toNat (by have e : 10 ^ 19 = 10000000000000000000 := by decide
                             omega) (by omega)
end Go.Proofs.YtjhjdiaomnpkmaaDoor

namespace Go.Proofs.YtjhjdiaomnpkmaaDoor
open Go.RowKit Go.Lib
set_option linter.unusedVariables false
set_option linter.unusedSimpArgs false
theorem blk_of_cell {w : World} {a : Addr} {v : Value} (h : w.cell? a = some v) : a.block < w.heap.size := by
  rcases Nat.lt_or_ge a.block w.heap.size with hn | hn
  · exact hn
  · simp [World.cell?, Array.getElem?_eq_none hn] at h
theorem block_add (a : Addr) (n : Nat) : (a.add n).block = a.block := by unfold Addr.add; split <;> rfl
/-- Block g is just these cells, none of them frozen. -/
def Bk (w : World) (g : Nat) (t : TypeId) (cs : Array Value) : Prop := w.heap[g]? = some (.cells cs t (0, 0))
theorem Bk.lt {w : World} {g : Nat} {t : TypeId} {cs : Array Value} (h : Bk w g t cs) : g < w.heap.size := by
  rcases Nat.lt_or_ge g w.heap.size with h' | h'
  · exact h'
  · unfold Bk at h; rw [Array.getElem?_eq_none h'] at h; cases h
theorem Bk.cell {w : World} {g : Nat} {t : TypeId} {cs : Array Value} (h : Bk w g t cs) (i : Nat) : w.cell? ⟨g, i, none⟩ = cs[i]? := cell_of_row w g i cs t (0, 0) h
theorem Bk.frozen {w : World} {g : Nat} {t : TypeId} {cs : Array Value} (h : Bk w g t cs) (i : Nat) : w.frozen? ⟨g, i, none⟩ = false := by
  unfold Bk at h; simp [World.frozen?, h]
theorem Bk.new (w : World) (t : TypeId) (cs : Array Value) : Bk (w.alloc (.cells cs t)) w.heap.size t cs := heap_alloc_new w _
theorem Bk.alloc {w : World} {g : Nat} {t : TypeId} {cs : Array Value} (h : Bk w g t cs) (o : Obj) : Bk (w.alloc o) g t cs := (Below.heap_alloc w o g h.lt).trans h
theorem Bk.set_ {w : World} {g : Nat} {t : TypeId} {cs : Array Value} (h : Bk w g t cs) (i : Nat) (u : Value) : Bk (w.setCell ⟨g, i, none⟩ u) g t (cs.setIfInBounds i u) := by
  unfold Bk at h ⊢
  simp [World.setCell, Array.getElem?_modify, h]
theorem Bk.far {w : World} {g : Nat} {t : TypeId} {cs : Array Value} (h : Bk w g t cs) {p : Addr} (hp : g ≠ p.block) (u : Value) : Bk (w.setCell p u) g t cs := (Below.heap_setCell w p u g hp).trans h
theorem Bk.rel {w w' : World} {g : Nat} {t : TypeId} {cs : Array Value} (h : Bk w g t cs) (hr : Rel w w') : Bk w' g t cs := (hr.2.block g h.lt).trans h
theorem Bk.grown {w w' : World} {g : Nat} {t : TypeId} {cs : Array Value} (h : Bk w g t cs) {row : Option Nat} (hb : w.grownBy w' row) (hg : some g ≠ row) : Bk w' g t cs := (hb.block g h.lt hg).trans h
theorem Bk.drew {w : World} {g : Nat} {t : TypeId} {cs : Array Value} (h : Bk w g t cs) : Bk w.drew g t cs := h
theorem Bk.ne {w : World} {g g' : Nat} {t t' : TypeId} {cs cs' : Array Value} (h : Bk w g t cs) (h' : Bk w g' t' cs') (hne : t ≠ t') : g ≠ g' := by
  rintro rfl
  unfold Bk at h h'
  rw [h] at h'
  injection h' with h'
  injection h' with _ ht
  exact hne ht
theorem Rel.grown {w0 w w' : World} (h : Rel w0 w) {row : Option Nat} (hg : w.grownBy w' row) (hr : ∀ k, row = some k → w0.heap.size ≤ k) : Rel w0 w' := ⟨h.1, Below.grown h.2 hg h.2.size hr⟩
theorem own_rel {w w' : World} {base : Nat} {e : TypeId} {size n : Nat} {v : Value} {xs : List Value} (h : w.ownsRow base e size v n xs) (hr : Rel w w') : w'.ownsRow base e size v n xs :=
  h.kept (row := none) ⟨hr.2.os, hr.2.tape, hr.2.output, hr.2.size, fun k hk _ => hr.2.block k hk⟩ (by cases v.ownBlock <;> simp)
theorem own_set {w : World} {base : Nat} {e : TypeId} {size n : Nat} {v : Value} {xs : List Value} (h : w.ownsRow base e size v n xs) {p : Addr} (hp : some p.block ≠ v.ownBlock) (u : Value) : (w.setCell p u).ownsRow base e size v n xs :=
  h.kept (row := some p.block) ⟨rfl, rfl, rfl, by simp, fun k hk hne => Below.heap_setCell w p u k (fun e => hne (by rw [e]))⟩ (by
    cases hv : v.ownBlock with
    | none => exact .inl rfl
    | some k => exact .inr (by rw [hv] at hp; exact Ne.symm hp))
/-- What a value that owns a row looks like. -/
theorem own_slice {w : World} {base : Nat} {e : TypeId} {size n : Nat} {v : Value} {xs : List Value} (h : w.ownsRow base e size v n xs) : ∃ A c, v = .slice A n c ∧ c ≤ maxLen := by
  rcases h.2 with ⟨rfl, rfl⟩ | ⟨g, cap, cur, rfl, _, _, _, hm, _⟩
  · exact ⟨none, 0, rfl, Nat.zero_le _⟩
  · exact ⟨_, cap, rfl, hm⟩
theorem addr_at (g off k : Nat) : (⟨g, off, none⟩ : Addr).add k = ⟨g, off + k, none⟩ := by unfold Addr.add; split <;> simp_all
theorem Bk.two {w : World} {g : Nat} {t : TypeId} {x y : Value} (h : Bk w g t #[x, y]) :
    (w.cell? ⟨g, 0, none⟩ = some x ∧ w.cell? ⟨g, 1, none⟩ = some y) ∧ (w.frozen? ⟨g, 0, none⟩ = false ∧ w.frozen? ⟨g, 1, none⟩ = false) :=
  ⟨⟨h.cell 0, h.cell 1⟩, ⟨h.frozen 0, h.frozen 1⟩⟩
end Go.Proofs.YtjhjdiaomnpkmaaDoor

namespace Go.Proofs.YtjhjdiaomnpkmaaDoor
open Go.Lib
set_option linter.unusedVariables false
set_option linter.unusedSimpArgs false
def isL (c : UInt8) : Bool := decide (97 ≤ c.toNat ∧ c.toNat ≤ 122)
def isPt (c : UInt8) : Bool := isL c || isD c || c == 46
def isBl (c : UInt8) : Bool := c == 32 || c == 10
def isSg (c : UInt8) : Bool := c == 40 || c == 41 || c == 44
def theWords : List (List UInt8) := [[108,111,119,101,115,116], [115,101,99,111,110,100], [102,114,111,109], [108,101,115,115], [99,117,116], [109,105,110], [109,97,120], [101,108,115,101], [105,102], [109,111,114,101], [97,98,111,118,101]]
def isWord (l : List UInt8) : Bool := theWords.any (· == l)
def isName (l : List UInt8) : Bool := decide (l ≠ [] ∧ l.length ≤ 12) && (l.head?.any isL) && !isWord l && l.all (fun c => isL c || isD c)
/-- A token: its kind, its text, its number, its place. -/
abbrev Tok := Int × List UInt8 × Int × Int
/-- What a run of parts is: a kind and a number. -/
def tokOf (x : List UInt8) : Option (Int × Int) :=
  if isWord x || isName x then some (1, 0)
  else if 0 ≤ cnt x 100000 then some (2, cnt x 100000)
  else match prs x with
    | some a => some (3, a)
    | none => none
/-- What is scanned: tokens, or the place of what is none. -/
abbrev Scan := Except Nat (List Tok)
def pre (ts : List Tok) : Scan → Scan
  | .ok l => .ok (ts ++ l)
  | .error k => .error k
theorem pre_nil (r : Scan) : pre [] r = r := by cases r <;> rfl
theorem pre_pre (a b : List Tok) (r : Scan) : pre a (pre b r) = pre (a ++ b) r := by cases r <;> simp [pre]
theorem run_len (l : List UInt8) : (l.dropWhile isPt).length = l.length - (l.takeWhile isPt).length := by
  have := congrArg List.length (List.takeWhile_append_dropWhile (p := isPt) (l := l))
  simp only [List.length_append] at this
  omega
theorem tokOf_nil : tokOf [] = none := by decide
theorem tokOf_ne {x : List UInt8} {k n : Int} (h : tokOf x = some (k, n)) : x ≠ [] := by
  rintro rfl; rw [tokOf_nil] at h; cases h
def lx (p : Nat) (l : List UInt8) : Scan :=
  match l with
  | [] => .ok [(5, [], 0, (p : Int))]
  | c :: t =>
    if isBl c then lx (p + 1) t
    else if isSg c then pre [(4, [c], 0, (p : Int))] (lx (p + 1) t)
    else
      match h : tokOf ((c :: t).takeWhile isPt) with
      | none => .error p
      | some kn => pre [(kn.1, (c :: t).takeWhile isPt, kn.2, (p : Int))] (lx (p + ((c :: t).takeWhile isPt).length) ((c :: t).dropWhile isPt))
  termination_by l.length
  decreasing_by
    all_goals simp_wf
    have h1 := tokOf_ne (k := kn.1) (n := kn.2) h
    have h2 := run_len (c :: t)
    have h3 : 1 ≤ ((c :: t).takeWhile isPt).length := by
      rcases hx : (c :: t).takeWhile isPt with _ | ⟨a, b⟩
      · exact absurd hx h1
      · simp
    simp at h2 h3 ⊢
    omega
theorem lx_nil (p : Nat) : lx p [] = .ok [(5, [], 0, (p : Int))] := by rw [lx]
theorem lx_blank (p : Nat) (c : UInt8) (t : List UInt8) (h : isBl c = true) : lx p (c :: t) = lx (p + 1) t := by rw [lx, if_pos h]
theorem lx_sign (p : Nat) (c : UInt8) (t : List UInt8) (h : isBl c = false) (h' : isSg c = true) : lx p (c :: t) = pre [(4, [c], 0, (p : Int))] (lx (p + 1) t) := by
  rw [lx, if_neg (by rw [h]; simp), if_pos h']
theorem lx_bad (p : Nat) (c : UInt8) (t : List UInt8) (h : isBl c = false) (h' : isSg c = false) (hn : tokOf ((c :: t).takeWhile isPt) = none) : lx p (c :: t) = .error p := by
  rw [lx, if_neg (by rw [h]; simp), if_neg (by rw [h']; simp)]
  split
  · rfl
  · rename_i h2; rw [hn] at h2; cases h2
theorem lx_tok (p : Nat) (c : UInt8) (t : List UInt8) (k n : Int) (h : isBl c = false) (h' : isSg c = false) (hn : tokOf ((c :: t).takeWhile isPt) = some (k, n)) :
    lx p (c :: t) = pre [(k, (c :: t).takeWhile isPt, n, (p : Int))] (lx (p + ((c :: t).takeWhile isPt).length) ((c :: t).dropWhile isPt)) := by
  rw [lx, if_neg (by rw [h]; simp), if_neg (by rw [h']; simp)]
  split
  · rename_i h2; rw [hn] at h2; cases h2
  · rename_i kn h2; rw [hn] at h2; cases h2; rfl
/-- A token that stands by itself. -/
def Good (x : List UInt8) (k n : Int) : Prop := (∃ c, x = [c] ∧ isSg c = true ∧ k = 4 ∧ n = 0) ∨ (x ≠ [] ∧ x.all isPt = true ∧ tokOf x = some (k, n))
/-- No part stands at the beginning. -/
def stops (r : List UInt8) : Bool := r.head?.all fun c => !isPt c
theorem pt_not {c : UInt8} (h : isPt c = true) : isBl c = false ∧ isSg c = false := by
  simp only [isPt, isL, isD, isBl, isSg, Bool.or_eq_true, decide_eq_true_eq, beq_iff_eq, Bool.or_eq_false_iff, beq_eq_false_iff_ne] at h ⊢
  refine ⟨⟨?_, ?_⟩, ⟨?_, ?_⟩, ?_⟩
  all_goals rintro rfl; revert h; decide
theorem sg_not {c : UInt8} (h : isSg c = true) : isBl c = false ∧ isPt c = false := by
  constructor
  · simp only [isBl, isSg, Bool.or_eq_true, beq_iff_eq, Bool.or_eq_false_iff, beq_eq_false_iff_ne] at h ⊢
    rcases h with (rfl | rfl) | rfl <;> decide
  · cases hp : isPt c
    · rfl
    · rw [(pt_not hp).2] at h; cases h
theorem take_run {x r : List UInt8} (hx : x.all isPt = true) (hr : stops r = true) : (x ++ r).takeWhile isPt = x ∧ (x ++ r).dropWhile isPt = r := by
  induction x with
  | nil =>
    cases r with
    | nil => exact ⟨rfl, rfl⟩
    | cons c t =>
      have hc : isPt c = false := by simpa [stops] using hr
      simp [List.takeWhile_cons, List.dropWhile_cons, hc]
  | cons c t ih =>
    simp only [List.all_cons, Bool.and_eq_true] at hx
    have := ih hx.2
    simp [List.takeWhile_cons, List.dropWhile_cons, hx.1, this.1, this.2]
theorem lx_good {x : List UInt8} {k n : Int} (h : Good x k n) (p : Nat) (r : List UInt8) (hr : stops r = true) : lx p (x ++ r) = pre [(k, x, n, (p : Int))] (lx (p + x.length) r) := by
  rcases h with ⟨c, rfl, hs, rfl, rfl⟩ | ⟨h0, ha, ht⟩
  · exact lx_sign p c r (sg_not hs).1 hs
  · cases x with
    | nil => exact absurd rfl h0
    | cons c t =>
      have hc : isPt c = true := by simp only [List.all_cons, Bool.and_eq_true] at ha; exact ha.1
      obtain ⟨e1, e2⟩ := take_run ha hr
      have e1' : (c :: (t ++ r)).takeWhile isPt = c :: t := e1
      have e2' : (c :: (t ++ r)).dropWhile isPt = r := e2
      show lx p (c :: (t ++ r)) = _
      rw [lx_tok p c (t ++ r) k n (pt_not hc).1 (pt_not hc).2 (by rw [e1']; exact ht), e1', e2']
/-- Each token stands at q or behind, and behind the one ahead of it. -/
def Ord : Int → List Tok → Prop
  | _, [] => True
  | q, t :: ts => q ≤ t.2.2.2 ∧ Ord (t.2.2.2 + (t.2.1.length : Int)) ts
theorem Ord.mono {q q' : Int} {ts : List Tok} (h : Ord q ts) (hq : q' ≤ q) : Ord q' ts := by
  cases ts with
  | nil => trivial
  | cons t ts => exact ⟨by have := h.1; omega, h.2⟩
theorem pre_ok {ts l : List Tok} {r : Scan} (h : pre ts r = .ok l) : ∃ m, r = .ok m ∧ l = ts ++ m := by
  cases r with
  | ok m => exact ⟨m, rfl, by injection h with h; exact h.symm⟩
  | error k => cases h
theorem all_run (l : List UInt8) : (l.takeWhile isPt).all isPt = true := by
  induction l with
  | nil => rfl
  | cons c t ih =>
    rw [List.takeWhile_cons]
    split
    · rename_i h; simp only [List.all_cons, h, Bool.true_and]; exact ih
    · rfl
/-- What comes out: right tokens in order, and the end. -/
theorem lx_out : ∀ (m : Nat) (s : List UInt8), s.length ≤ m → ∀ (p : Nat) (l : List Tok), lx p s = .ok l →
    ∃ ts, l = ts ++ [(5, [], 0, ((p + s.length : Nat) : Int))] ∧ (∀ t ∈ ts, Good t.2.1 t.1 t.2.2.1 ∧ t.2.1.length ≤ s.length ∧ (p : Int) ≤ t.2.2.2 ∧ t.2.2.2 + (t.2.1.length : Int) ≤ ((p + s.length : Nat) : Int)) ∧ Ord p ts ∧ ts.length ≤ s.length := by
  intro m
  induction m with
  | zero =>
    intro s hs p l h
    obtain rfl : s = [] := List.length_eq_zero_iff.1 (by omega)
    rw [lx_nil] at h
    injection h with h
    exact ⟨[], by rw [← h]; rfl, (fun t ht => by cases ht), trivial, Nat.zero_le _⟩
  | succ m ih =>
    intro s hs p l h
    cases s with
    | nil =>
      rw [lx_nil] at h
      injection h with h
      exact ⟨[], by rw [← h]; rfl, (fun t ht => by cases ht), trivial, Nat.zero_le _⟩
    | cons c t =>
      simp only [List.length_cons] at hs ⊢
      cases hb : isBl c
      · cases hg : isSg c
        · cases hn : tokOf ((c :: t).takeWhile isPt) with
          | none => rw [lx_bad p c t hb hg hn] at h; cases h
          | some kn =>
            obtain ⟨k, n⟩ := kn
            rw [lx_tok p c t k n hb hg hn] at h
            obtain ⟨l', h', rfl⟩ := pre_ok h
            have hx := tokOf_ne hn
            have h2 := run_len (c :: t)
            have h3 : 1 ≤ ((c :: t).takeWhile isPt).length := by
              rcases hx' : (c :: t).takeWhile isPt with _ | ⟨a, b⟩
              · exact absurd hx' hx
              · simp
            have h4 : ((c :: t).takeWhile isPt).length ≤ (c :: t).length := (List.takeWhile_sublist _).length_le
            have ha := all_run (c :: t)
            generalize (c :: t).takeWhile isPt = x at *
            generalize (c :: t).dropWhile isPt = r at *
            simp only [List.length_cons] at h2 h4
            obtain ⟨ts, e, hts, ho, hle⟩ := ih r (by omega) (p + x.length) l' h'
            refine ⟨(k, x, n, (p : Int)) :: ts, ?_, ?_, ?_, by simp; omega⟩
            · rw [e, show p + x.length + r.length = p + (t.length + 1) by omega]; rfl
            · intro u hu
              rcases List.mem_cons.1 hu with rfl | hu
              · exact ⟨.inr ⟨hx, ha, hn⟩, h4, Int.le_refl _, by simp only []; omega⟩
              · have := hts u hu
                exact ⟨this.1, by omega, by omega, by omega⟩
            · exact ⟨Int.le_refl _, ho.mono (by simp only []; omega)⟩
        · rw [lx_sign p c t hb hg] at h
          obtain ⟨l', h', rfl⟩ := pre_ok h
          obtain ⟨ts, e, hts, ho, hle⟩ := ih t (by omega) (p + 1) l' h'
          refine ⟨(4, [c], 0, (p : Int)) :: ts, ?_, ?_, ?_, by simp; omega⟩
          · rw [e, show p + 1 + t.length = p + (t.length + 1) by omega]; rfl
          · intro u hu
            rcases List.mem_cons.1 hu with rfl | hu
            · exact ⟨.inl ⟨c, rfl, hg, rfl, rfl⟩, by simp, Int.le_refl _, by simp; omega⟩
            · have := hts u hu
              exact ⟨this.1, by omega, by omega, by omega⟩
          · exact ⟨Int.le_refl _, ho.mono (by simp)⟩
      · rw [lx_blank p c t hb] at h
        obtain ⟨ts, e, hts, ho, hle⟩ := ih t (by omega) (p + 1) l h
        exact ⟨ts, by rw [e, show p + 1 + t.length = p + (t.length + 1) by omega], fun u hu => ⟨(hts u hu).1, by have := (hts u hu).2; omega, by have := (hts u hu).2; omega, by have := (hts u hu).2; omega⟩, ho.mono (by omega), by omega⟩
end Go.Proofs.YtjhjdiaomnpkmaaDoor
