/- Plain mathematics of layer 2, third part: the order of amounts' texts. No program in this text. -/
import Derived.Test.YtfpcpmkkeigcmaaDoorDecMathB
namespace Go.Proofs.YtfpcpmkkeigcmaaDoor
open Go.Lib
set_option linter.unusedVariables false
set_option linter.unusedSimpArgs false

theorem dd_mono : ∀ (v u : Nat), u ≤ v → (decDigits u).length ≤ (decDigits v).length := by
  intro v
  induction v using Nat.strongRecOn with
  | _ v ih =>
    intro u hu
    by_cases h : u < 10
    · rw [decDigits_one h]
      have := (dd_all v).2.2.2
      cases e : decDigits v with
      | nil => rw [e] at this; cases this
      | cons => simp
    · have := ih (v / 10) (by omega) (u / 10) (by omega)
      rw [decDigits, dif_neg h, decDigits.eq_1 v, dif_neg (by omega)]
      simp
      omega
theorem val_lo {l : List UInt8} (h : allD l = true) {n : Int} (hn : 0 ≤ n) : n * 10 ^ l.length ≤ val l n := by
  induction l generalizing n with
  | nil => simp [val]
  | cons c t ih =>
    rw [allD_cons, Bool.and_eq_true] at h
    have hc := isD_iff.1 h.1
    have := ih h.2 (n := n * 10 + ((c.toNat : Int) - 48)) (by omega)
    simp only [val, List.length_cons]
    have h2 : (n * 10) * 10 ^ t.length ≤ (n * 10 + ((c.toNat : Int) - 48)) * 10 ^ t.length := Int.mul_le_mul_of_nonneg_right (by omega) (Int.le_of_lt (Int.pow_pos (by omega)))
    rw [Int.pow_succ, Int.mul_comm (10 ^ t.length) 10, ← Int.mul_assoc]
    exact Int.le_trans h2 this
theorem less_val : ∀ (a b : List UInt8), a.length = b.length → allD a = true → allD b = true → ∀ n : Int, 0 ≤ n → val a n < val b n → Op.bytesLess a b = true := by
  intro a
  induction a with
  | nil =>
    intro b hl _ _ n _ hv
    cases b with
    | nil => simp [val] at hv
    | cons => simp at hl
  | cons x a ih =>
    intro b hl ha hb n hn hv
    cases b with
    | nil => simp at hl
    | cons y b =>
      rw [allD_cons, Bool.and_eq_true] at ha hb
      have hx := isD_iff.1 ha.1
      have hy := isD_iff.1 hb.1
      have hl' : a.length = b.length := by simpa using hl
      simp only [val] at hv
      simp only [Op.bytesLess]
      by_cases h1 : x.toNat < y.toNat
      · have : x < y := UInt8.lt_iff_toNat_lt.2 h1
        simp [this]
      · by_cases h2 : x = y
        · subst h2
          have := ih b hl' ha.2 hb.2 _ (by omega) hv
          simp [this]
        · exfalso
          have h3 : y.toNat < x.toNat := by
            have : x.toNat ≠ y.toNat := fun e => h2 (UInt8.toNat_inj.1 e)
            omega
          have b1 := val_lt hb.2 (n := n * 10 + ((y.toNat : Int) - 48)) (by omega)
          have b2 := val_lo ha.2 (n := n * 10 + ((x.toNat : Int) - 48)) (by omega)
          rw [hl'] at b2
          have b3 : (n * 10 + ((y.toNat : Int) - 48) + 1) * 10 ^ b.length ≤ (n * 10 + ((x.toNat : Int) - 48)) * 10 ^ b.length := Int.mul_le_mul_of_nonneg_right (by omega) (Int.le_of_lt (Int.pow_pos (by omega)))
          have := Int.lt_of_lt_of_le b1 (Int.le_trans b3 b2)
          omega
theorem less_app : ∀ (a b c d : List UInt8), a.length = b.length → Op.bytesLess a b = true → Op.bytesLess (a ++ c) (b ++ d) = true := by
  intro a
  induction a with
  | nil => intro b c d hl h; cases b with
    | nil => simp [Op.bytesLess] at h
    | cons => simp at hl
  | cons x a ih =>
    intro b c d hl h
    cases b with
    | nil => simp at hl
    | cons y b =>
      simp only [List.cons_append, Op.bytesLess, Bool.or_eq_true, Bool.and_eq_true] at h ⊢
      rcases h with h | ⟨h, h'⟩
      · exact .inl h
      · exact .inr ⟨h, ih b c d (by simpa using hl) h'⟩
theorem less_same : ∀ (a c d : List UInt8), Op.bytesLess (a ++ c) (a ++ d) = Op.bytesLess c d := by
  intro a
  induction a with
  | nil => intro c d; rfl
  | cons x a ih =>
    intro c d
    simp only [List.cons_append, Op.bytesLess, ih, beq_self_eq_true, Bool.true_and]
    have : ¬ x < x := fun h => by have := UInt8.lt_iff_toNat_lt.1 h; omega
    simp [this]
theorem less_irr (a : List UInt8) : Op.bytesLess a a = false := by
  have := less_same a [] []
  rw [List.append_nil] at this
  rw [this]
  rfl
theorem pos_len (m : Nat) : (pos m).length = (decDigits (m / 100)).length + 3 := by rw [pos_eq]; simp
theorem txt_pos {a : Int} (h : 0 ≤ a) (h' : a ≤ 1000000000000) : txt a = pos a.toNat := by
  unfold txt
  rw [rt_yes (by omega) h', if_pos rfl, if_neg (by omega), show a.natAbs = a.toNat by omega]
theorem pos_less {u v : Nat} (h : u < v) (hl : (pos u).length = (pos v).length) : Op.bytesLess (pos u) (pos v) = true := by
  rw [pos_len, pos_len] at hl
  rw [pos_eq, pos_eq]
  by_cases hq : u / 100 = v / 100
  · rw [hq, less_same]
    rw [show [46, UInt8.ofNat (48 + u / 10 % 10), UInt8.ofNat (48 + u % 10)] = [46] ++ [UInt8.ofNat (48 + u / 10 % 10), UInt8.ofNat (48 + u % 10)] from rfl,
      show [46, UInt8.ofNat (48 + v / 10 % 10), UInt8.ofNat (48 + v % 10)] = [46] ++ [UInt8.ofNat (48 + v / 10 % 10), UInt8.ofNat (48 + v % 10)] from rfl, less_same]
    have f1 := of48 (show u / 10 % 10 < 10 by omega)
    have f2 := of48 (show u % 10 < 10 by omega)
    have f3 := of48 (show v / 10 % 10 < 10 by omega)
    have f4 := of48 (show v % 10 < 10 by omega)
    refine less_val _ _ rfl ?_ ?_ 0 (by omega) ?_
    · simp only [allD, List.all_cons, List.all_nil, isD, f1, f2]; simp; omega
    · simp only [allD, List.all_cons, List.all_nil, isD, f3, f4]; simp; omega
    · simp only [val, f1, f2, f3, f4]; omega
  · refine less_app _ _ _ _ (by omega) (less_val _ _ (by omega) (dd_all _).1 (dd_all _).1 0 (by omega) ?_)
    rw [(dd_all _).2.1, (dd_all _).2.1]
    omega
theorem pos_mono {u v : Nat} (h : u ≤ v) : (pos u).length ≤ (pos v).length := by
  rw [pos_len, pos_len]
  have := dd_mono (v / 100) (u / 100) (by omega)
  omega
theorem pos_four (m : Nat) : 4 ≤ (pos m).length := by
  rw [pos_len]
  have := (dd_all (m / 100)).2.2.2
  cases e : decDigits (m / 100) with
  | nil => rw [e] at this; cases this
  | cons => simp
end Go.Proofs.YtfpcpmkkeigcmaaDoor
