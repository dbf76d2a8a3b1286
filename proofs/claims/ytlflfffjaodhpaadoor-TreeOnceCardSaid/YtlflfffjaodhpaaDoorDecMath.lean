/- Plain mathematics of layer 2: decimal numerals and amounts as lists of bytes. No program in this text. -/
import Derived.Lib.ItoaMem
import Derived.Lib.Bytealg
import GoSem.Op.String
namespace Go.Proofs.YtlflfffjaodhpaaDoor
open Go.Lib
set_option linter.unusedVariables false
set_option linter.unusedSimpArgs false

def isD (c : UInt8) : Bool := decide (48 ≤ c.toNat ∧ c.toNat ≤ 57)
def val : List UInt8 → Int → Int
  | [], n => n
  | c :: t, n => val t (n * 10 + ((c.toNat : Int) - 48))
def digs (most : Int) : List UInt8 → Int → Int
  | [], n => n
  | c :: t, n => if isD c then (if most < n * 10 + ((c.toNat : Int) - 48) then -1 else digs most t (n * 10 + ((c.toNat : Int) - 48))) else -1
def allD (l : List UInt8) : Bool := l.all isD
def cano (l : List UInt8) : Bool := !l.isEmpty && allD l && (l.length == 1 || l.head? != some 48)
def cnt (l : List UInt8) (most : Int) : Int := if cano l && decide (val l 0 ≤ min most 1000000000000) then val l 0 else -1

theorem isD_iff {c : UInt8} : isD c = true ↔ 48 ≤ c.toNat ∧ c.toNat ≤ 57 := by simp [isD]
theorem allD_cons {c : UInt8} {t : List UInt8} : allD (c :: t) = (isD c && allD t) := rfl
theorem allD_append {a b : List UInt8} : allD (a ++ b) = (allD a && allD b) := by simp [allD]
theorem val_append (a b : List UInt8) (n : Int) : val (a ++ b) n = val b (val a n) := by
  induction a generalizing n with
  | nil => rfl
  | cons c t ih => simp only [List.cons_append, val, ih]
theorem val_ge {l : List UInt8} (h : allD l = true) {n : Int} (hn : 0 ≤ n) : n ≤ val l n := by
  induction l generalizing n with
  | nil => simp [val]
  | cons c t ih =>
    rw [allD_cons, Bool.and_eq_true] at h
    have hc := isD_iff.1 h.1
    have := ih h.2 (n := n * 10 + ((c.toNat : Int) - 48)) (by omega)
    simp only [val]; omega
theorem val_lt {l : List UInt8} (h : allD l = true) {n : Int} (hn : 0 ≤ n) : val l n < (n + 1) * 10 ^ l.length := by
  induction l generalizing n with
  | nil => simp [val]; omega
  | cons c t ih =>
    rw [allD_cons, Bool.and_eq_true] at h
    have hc := isD_iff.1 h.1
    have := ih h.2 (n := n * 10 + ((c.toNat : Int) - 48)) (by omega)
    simp only [val, List.length_cons]
    have hp : (0 : Int) < 10 ^ t.length := Int.pow_pos (by omega)
    have h2 : (n * 10 + ((c.toNat : Int) - 48) + 1) * 10 ^ t.length ≤ ((n + 1) * 10) * 10 ^ t.length := Int.mul_le_mul_of_nonneg_right (by omega) (by omega)
    rw [Int.pow_succ, Int.mul_comm (10 ^ t.length) 10, ← Int.mul_assoc]
    omega
theorem val_ge_pow {l : List UInt8} (h : allD l = true) {n : Int} (hn : 1 ≤ n) : 10 ^ l.length ≤ val l n := by
  induction l generalizing n with
  | nil => simpa [val] using hn
  | cons c t ih =>
    rw [allD_cons, Bool.and_eq_true] at h
    have hc := isD_iff.1 h.1
    simp only [val, List.length_cons]
    -- n*10 + d ≥ 10: split as 10 times
    have key : ∀ (t : List UInt8) (m k : Int), allD t = true → 0 ≤ m → 0 ≤ k → val t m + k * 10 ^ t.length = val t (m + k) := by
      intro t
      induction t with
      | nil => intro m k _ _ _; simp [val]
      | cons d t ih2 =>
        intro m k hd hm hk
        rw [allD_cons, Bool.and_eq_true] at hd
        have hdd := isD_iff.1 hd.1
        simp only [val, List.length_cons]
        have := ih2 (m * 10 + ((d.toNat : Int) - 48)) (k * 10) hd.2 (by omega) (by omega)
        rw [show (m + k) * 10 + ((d.toNat : Int) - 48) = m * 10 + ((d.toNat : Int) - 48) + k * 10 by omega, ← this, Int.pow_succ]
        rw [Int.mul_comm (10 ^ t.length) 10, ← Int.mul_assoc]
    have k1 := key t 0 10 h.2 (by omega) (by omega)
    have k2 := key t 10 (n * 10 + ((c.toNat : Int) - 48) - 10) h.2 (by omega) (by omega)
    rw [show (10 : Int) + (n * 10 + ((c.toNat : Int) - 48) - 10) = n * 10 + ((c.toNat : Int) - 48) by omega] at k2
    have hp : (0 : Int) ≤ (n * 10 + ((c.toNat : Int) - 48) - 10) * 10 ^ t.length := Int.mul_nonneg (by omega) (Int.le_of_lt (Int.pow_pos (by omega)))
    have hv := val_ge h.2 (n := 0) (by omega)
    rw [show (0 : Int) + 10 = 10 by omega] at k1
    rw [Int.pow_succ, Int.mul_comm]
    omega
theorem digs_eq (most : Int) (l : List UInt8) : ∀ n : Int, 0 ≤ n → digs most l n = if allD l && (l.isEmpty || decide (val l n ≤ most)) then val l n else -1 := by
  induction l with
  | nil => intro n _; simp [digs, allD, val]
  | cons c t ih =>
    intro n hn
    have ev : val (c :: t) n = val t (n * 10 + ((c.toNat : Int) - 48)) := rfl
    rw [ev]
    simp only [digs, allD_cons, List.isEmpty_cons, Bool.false_or]
    cases hc : isD c
    · simp
    · have hc' := isD_iff.1 hc
      have h0 : 0 ≤ n * 10 + ((c.toNat : Int) - 48) := by omega
      simp only [if_true, Bool.true_and]
      generalize hm' : n * 10 + ((c.toNat : Int) - 48) = m at *
      cases ht : allD t
      · simp only [Bool.false_and]
        split
        · rfl
        · rw [ih _ h0, ht]; simp
      · have hg := val_ge ht h0
        by_cases hm : most < m
        · rw [if_pos hm]
          split
          · rename_i h
            simp only [Bool.true_and, decide_eq_true_eq] at h
            omega
          · rfl
        · rw [if_neg hm, ih _ h0, ht]
          cases t with
          | nil =>
            have e0 : val [] m = m := rfl
            rw [e0]
            simp only [List.isEmpty_nil, Bool.true_or, Bool.and_true, if_true, Bool.true_and]
            rw [if_pos (decide_eq_true (by omega))]
          | cons d t => simp only [List.isEmpty_cons, Bool.false_or, Bool.true_and]
theorem digs_bd (most : Int) (l : List UInt8) (n : Int) (hn : 0 ≤ n) (hm : n ≤ most ∨ 0 ≤ most) (hl : n ≤ most) : -1 ≤ digs most l n ∧ (digs most l n ≤ most ∨ digs most l n = -1) := by
  rw [digs_eq most l n hn]
  split
  · rename_i h
    simp only [Bool.and_eq_true, Bool.or_eq_true, decide_eq_true_eq] at h
    have := val_ge h.1 hn
    rcases h.2 with h2 | h2
    · cases l with
      | nil => simp only [val]; omega
      | cons => simp at h2
    · omega
  · omega

theorem of48 {k : Nat} (h : k < 10) : (UInt8.ofNat (48 + k)).toNat = 48 + k := by
  simp [UInt8.toNat_ofNat']; omega
theorem dd_all (u : Nat) : allD (decDigits u) = true ∧ val (decDigits u) 0 = u ∧ (1 ≤ u → (decDigits u).head? ≠ some 48) ∧ (decDigits u).isEmpty = false := by
  induction u using Nat.strongRecOn with
  | _ u ih =>
    by_cases h : u < 10
    · rw [decDigits, dif_pos h]
      have h8 := of48 h
      refine ⟨by simp [allD, isD, h8]; omega, by simp only [val, h8]; omega, fun hu he => ?_, rfl⟩
      simp only [List.head?_cons, Option.some.injEq] at he
      have := congrArg UInt8.toNat he
      rw [h8] at this
      have h48 : (48 : UInt8).toNat = 48 := rfl
      omega
    · obtain ⟨a, b, c, d⟩ := ih (u / 10) (by omega)
      have h8 := of48 (show u % 10 < 10 by omega)
      rw [decDigits, dif_neg h]
      refine ⟨by rw [allD_append, a]; simp [allD, isD, h8]; omega, by rw [val_append, b]; simp only [val, h8]; omega, fun _ => ?_, by simp⟩
      have := c (by omega)
      cases e : decDigits (u / 10) with
      | nil => rw [e] at d; cases d
      | cons x t => rw [e] at this; simpa using this
theorem dd_cano (u : Nat) : cano (decDigits u) = true := by
  obtain ⟨a, b, c, d⟩ := dd_all u
  unfold cano
  rw [a, d]
  by_cases h : u < 10
  · rw [decDigits_one h]; rfl
  · have := c (by omega)
    simp [bne, this]
theorem val_pos {l : List UInt8} (h : allD l = true) (he : l.isEmpty = false) (hh : l.head? ≠ some 48) : 1 ≤ val l 0 := by
  cases l with
  | nil => cases he
  | cons c t =>
    rw [allD_cons, Bool.and_eq_true] at h
    have hc := isD_iff.1 h.1
    have h48 : c.toNat ≠ 48 := fun e => hh (by simp; exact UInt8.toNat_inj.1 (by rw [e]; rfl))
    have := val_ge h.2 (n := 0 * 10 + ((c.toNat : Int) - 48)) (by omega)
    simp only [val]; omega
theorem dd_of : ∀ (k : Nat) (l : List UInt8), l.length = k → cano l = true → decDigits (val l 0).toNat = l := by
  intro k
  induction k with
  | zero => intro l hl hc; cases l with
    | nil => simp [cano] at hc
    | cons => simp at hl
  | succ k ih =>
    intro l hl hc
    obtain ⟨t, c, rfl⟩ : ∃ t c, l = t ++ [c] := by
      have hne : l ≠ [] := by intro e; rw [e] at hl; simp at hl
      exact ⟨l.dropLast, l.getLast hne, (List.dropLast_concat_getLast hne).symm⟩
    simp only [cano, Bool.and_eq_true, allD_append, Bool.or_eq_true] at hc
    obtain ⟨⟨_, ht, hd⟩, hh⟩ := hc
    have hd := isD_iff.1 (by simpa [allD] using hd)
    rw [val_append]
    simp only [val]
    cases hte : t.isEmpty
    · have hh' : t.head? ≠ some 48 := by
        rcases hh with h1 | h1
        · cases t with
          | nil => cases hte
          | cons x t => simp at h1
        · cases t with
          | nil => cases hte
          | cons x t => simpa using h1
      have h1 := val_pos ht hte hh'
      have hl' : t.length = k := by simpa using hl
      have := ih t hl' (by simp only [cano, hte, ht, Bool.not_false, Bool.true_and, Bool.or_eq_true]; right; simpa using hh')
      rw [decDigits, dif_neg (by omega)]
      have e1 : (val t 0 * 10 + ((c.toNat : Int) - 48)).toNat / 10 = (val t 0).toNat := by omega
      have e2 : (val t 0 * 10 + ((c.toNat : Int) - 48)).toNat % 10 = c.toNat - 48 := by omega
      rw [e1, e2, this]
      congr 1
      rw [show 48 + (c.toNat - 48) = c.toNat by omega]
      simp
    · have : t = [] := by simpa using hte
      subst this
      simp only [val]
      rw [decDigits_one (by omega)]
      rw [show 48 + ((0 : Int) * 10 + ((c.toNat : Int) - 48)).toNat = c.toNat by omega]
      simp
theorem dd_of' {l : List UInt8} (h : cano l = true) : decDigits (val l 0).toNat = l := dd_of _ l rfl h
theorem cnt_dd (u : Nat) (most : Int) : cnt (decDigits u) most = if (u : Int) ≤ min most 1000000000000 then (u : Int) else -1 := by
  unfold cnt
  rw [dd_cano, (dd_all u).2.1]
  simp
theorem cano_nonneg {l : List UInt8} (h : cano l = true) : 0 ≤ val l 0 := by
  simp only [cano, Bool.and_eq_true] at h
  exact val_ge h.1.2 (by omega)
theorem cnt_bd (l : List UInt8) (most : Int) : -1 ≤ cnt l most ∧ cnt l most ≤ 1000000000000 ∧ (cnt l most ≤ most ∨ cnt l most = -1) := by
  unfold cnt
  split
  · rename_i h
    simp only [Bool.and_eq_true, decide_eq_true_eq] at h
    have := cano_nonneg h.1
    omega
  · omega
theorem dd_of_cnt {l : List UInt8} {most : Int} (h : 0 ≤ cnt l most) : itoa (cnt l most) = l := by
  unfold cnt at h ⊢
  split at h
  · rename_i hc
    rw [if_pos hc]
    simp only [Bool.and_eq_true, decide_eq_true_eq] at hc
    unfold itoa
    rw [if_neg (by omega)]
    exact dd_of' hc.1
  · omega

/-- The program's Count. -/
theorem cnt_prog (l : List UInt8) (most : Int) (h : l.isEmpty = false) (h' : l.length ≤ 1 ∨ l.head? ≠ some 48) : digs (min most 1000000000000) l 0 = cnt l most := by
  rw [digs_eq _ _ _ (by omega)]
  unfold cnt cano
  rw [h]
  have e : (l.length == 1 || l.head? != some 48) = true := by
    simp only [Bool.or_eq_true, beq_iff_eq, bne_iff_ne]
    rcases h' with h' | h'
    · left
      cases l with
      | nil => cases h
      | cons x t => simp at h' ⊢; exact h'
    · right; exact h'
  rw [e]
  simp
theorem cnt_no {l : List UInt8} {most : Int} (h : l.isEmpty = true ∨ (1 < l.length ∧ l.head? = some 48)) : cnt l most = -1 := by
  unfold cnt cano
  rcases h with h | ⟨h, h'⟩
  · rw [h]; simp
  · have : (l.length == 1 || l.head? != some 48) = false := by simp [h']; omega
    rw [this]; simp
theorem cnt_long {l : List UInt8} {most : Int} (h : 13 < l.length) : cnt l most = -1 := by
  unfold cnt
  split
  · rename_i hc
    simp only [Bool.and_eq_true, decide_eq_true_eq, cano] at hc
    obtain ⟨⟨⟨_, hd⟩, hh⟩, hv⟩ := hc
    exfalso
    cases l with
    | nil => simp at h
    | cons c t =>
      have hh' : c ≠ 48 := by
        rcases Bool.or_eq_true _ _ ▸ hh with h1 | h1
        · simp at h1; subst h1; simp at h
        · simpa using h1
      rw [allD_cons, Bool.and_eq_true] at hd
      have hcd := isD_iff.1 hd.1
      have h48 : c.toNat ≠ 48 := fun e => hh' (UInt8.toNat_inj.1 (by rw [e]; rfl))
      have hp := val_ge_pow hd.2 (n := 0 * 10 + ((c.toNat : Int) - 48)) (by omega)
      have h13 : (10 : Int) ^ 13 ≤ 10 ^ t.length := by
        have : 10 ^ 13 ≤ 10 ^ t.length := Nat.pow_le_pow_right (by omega) (by simp at h; omega)
        exact_mod_cast this
      have hp2 : (10000000000000 : Int) ≤ val (c :: t) 0 := Int.le_trans h13 hp
      omega
  · rfl
theorem cnt_not {l : List UInt8} {most : Int} (h : allD l = false) : cnt l most = -1 := by
  unfold cnt cano; rw [h]; simp
theorem cnt_yes {l : List UInt8} {most : Int} (h : allD l = true) (h1 : l.isEmpty = false) (h' : l.length ≤ 1 ∨ l.head? ≠ some 48) : cnt l most = if most < val l 0 ∨ 1000000000000 < val l 0 then -1 else val l 0 := by
  rw [← cnt_prog l most h1 h', digs_eq _ _ _ (by omega), h, h1]
  simp only [Bool.true_and, Bool.false_or, decide_eq_true_eq]
  by_cases hc : most < val l 0 ∨ 1000000000000 < val l 0
  · rw [if_neg (by omega), if_pos hc]
  · rw [if_pos (by omega), if_neg hc]
end Go.Proofs.YtlflfffjaodhpaaDoor
