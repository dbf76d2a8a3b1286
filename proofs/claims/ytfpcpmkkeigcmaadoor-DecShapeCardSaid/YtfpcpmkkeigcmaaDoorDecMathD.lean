/- Plain mathematics of layer 2, fourth part: the digits of an amount's text. No program in this text. -/
import Derived.Test.YtfpcpmkkeigcmaaDoorDecMathC
namespace Go.Proofs.YtfpcpmkkeigcmaaDoor
open Go.Lib
set_option linter.unusedVariables false
set_option linter.unusedSimpArgs false

def isP (c : UInt8) : Bool := c == 48 || c == 46 || c == 45
def noDot (l : List UInt8) : List UInt8 := l.filter (· != 46)
theorem isP_no {c : UInt8} (h : c.toNat ≠ 48) (h' : c.toNat ≠ 46) (h'' : c.toNat ≠ 45) : isP c = false := by
  unfold isP
  simp only [Bool.or_eq_false_iff, beq_eq_false_iff_ne]
  exact ⟨⟨fun e => h (by rw [e]; rfl), fun e => h' (by rw [e]; rfl)⟩, fun e => h'' (by rw [e]; rfl)⟩
theorem noDot_allD {l : List UInt8} (h : allD l = true) : noDot l = l := by
  unfold noDot
  rw [List.filter_eq_self]
  intro c hc
  unfold allD at h
  have := isD_iff.1 (List.all_eq_true.1 h c hc)
  simp only [bne_iff_ne]
  intro e
  rw [e] at this
  have : (46 : UInt8).toNat = 46 := rfl
  omega
theorem noDot_append (a b : List UInt8) : noDot (a ++ b) = noDot a ++ noDot b := by unfold noDot; rw [List.filter_append]
theorem dd_snoc {m : Nat} (h : 10 ≤ m) : decDigits m = decDigits (m / 10) ++ [UInt8.ofNat (48 + m % 10)] := by rw [decDigits, dif_neg (by omega)]
theorem two_all {a b : Nat} (ha : a < 10) (hb : b < 10) : allD [UInt8.ofNat (48 + a), UInt8.ofNat (48 + b)] = true := by
  have f1 := of48 ha
  have f2 := of48 hb
  simp only [allD, List.all_cons, List.all_nil, isD, f1, f2]; simp; omega
theorem shape_pos (m : Nat) (h : 1 ≤ m) : noDot ((pos m).dropWhile isP) = decDigits m := by
  rw [pos_eq]
  have d1 : m / 10 % 10 < 10 := by omega
  have d2 : m % 10 < 10 := by omega
  by_cases h1 : 100 ≤ m
  · obtain ⟨a, b, c, d⟩ := dd_all (m / 100)
    have hne := c (by omega)
    have hk : (decDigits (m / 100) ++ [46, UInt8.ofNat (48 + m / 10 % 10), UInt8.ofNat (48 + m % 10)]).dropWhile isP = decDigits (m / 100) ++ [46, UInt8.ofNat (48 + m / 10 % 10), UInt8.ofNat (48 + m % 10)] := by
      cases e : decDigits (m / 100) with
      | nil => rw [e] at d; cases d
      | cons x t =>
        rw [e] at a hne
        rw [allD_cons, Bool.and_eq_true] at a
        have hx := isD_iff.1 a.1
        have hx48 : x.toNat ≠ 48 := fun e => hne (by simp; exact UInt8.toNat_inj.1 (by rw [e]; rfl))
        rw [List.cons_append, List.dropWhile_cons, isP_no hx48 (by omega) (by omega)]
        rfl
    rw [hk, noDot_append, noDot_allD a]
    have e3 : noDot [46, UInt8.ofNat (48 + m / 10 % 10), UInt8.ofNat (48 + m % 10)] = [UInt8.ofNat (48 + m / 10 % 10), UInt8.ofNat (48 + m % 10)] := by
      have := noDot_allD (two_all d1 d2)
      rw [show [46, UInt8.ofNat (48 + m / 10 % 10), UInt8.ofNat (48 + m % 10)] = [46] ++ [UInt8.ofNat (48 + m / 10 % 10), UInt8.ofNat (48 + m % 10)] from rfl, noDot_append, this]
      rfl
    rw [e3, dd_snoc (m := m) (by omega), dd_snoc (m := m / 10) (by omega), Nat.div_div_eq_div_mul]
    simp
  · have e0 : m / 100 = 0 := by omega
    rw [e0, decDigits_one (show 0 < 10 by omega)]
    have p48 : isP 48 = true := by decide
    have p46 : isP 46 = true := by decide
    rw [show [UInt8.ofNat (48 + 0)] ++ [46, UInt8.ofNat (48 + m / 10 % 10), UInt8.ofNat (48 + m % 10)] = 48 :: 46 :: UInt8.ofNat (48 + m / 10 % 10) :: [UInt8.ofNat (48 + m % 10)] from rfl]
    rw [List.dropWhile_cons, p48, if_pos rfl, List.dropWhile_cons, p46, if_pos rfl, List.dropWhile_cons]
    have f1 := of48 d1
    have f2 := of48 d2
    by_cases h2 : 10 ≤ m
    · rw [isP_no (by rw [f1]; omega) (by rw [f1]; omega) (by rw [f1]; omega)]
      have := noDot_allD (two_all d1 d2)
      simp only [Bool.false_eq_true, if_false]
      rw [this, decDigits_two (by omega) (by omega), show m / 10 % 10 = m / 10 by omega]
    · rw [show m / 10 % 10 = 0 by omega, show isP (UInt8.ofNat (48 + 0)) = true by decide, if_pos rfl, List.dropWhile_cons, isP_no (by rw [f2]; omega) (by rw [f2]; omega) (by rw [f2]; omega)]
      simp only [Bool.false_eq_true, if_false]
      rw [decDigits_one (by omega), show m % 10 = m by omega]
      have := of48 (show m < 10 by omega)
      refine noDot_allD ?_
      simp only [allD, List.all_cons, List.all_nil, isD, this]; simp; omega
theorem shape_txt {x : Int} (h : x ≠ 0) (h1 : -1000000000000 ≤ x) (h2 : x ≤ 1000000000000) : noDot ((txt x).dropWhile isP) = decDigits x.natAbs := by
  unfold txt
  rw [rt_yes h1 h2, if_pos rfl]
  split
  · rw [List.dropWhile_cons, show isP 45 = true by decide, if_pos rfl]
    exact shape_pos _ (by omega)
  · exact shape_pos _ (by omega)
theorem txt_hund {x : Int} (h : x ≠ 0) (h1 : -10000000000 ≤ x) (h2 : x ≤ 10000000000) : txt (100 * x) = (if x < 0 then [45] else []) ++ (decDigits x.natAbs ++ [46, 48, 48]) := by
  unfold txt
  rw [rt_yes (by omega) (by omega), if_pos rfl, pos_eq, show (100 * x).natAbs / 100 = x.natAbs by omega, show (100 * x).natAbs / 10 % 10 = 0 by omega, show (100 * x).natAbs % 10 = 0 by omega]
  by_cases hx : x < 0
  · rw [if_pos hx, if_pos (by omega)]; rfl
  · rw [if_neg hx, if_neg (by omega)]; rfl
theorem skip_no {c : UInt8} {t : List UInt8} (h : isP c = false) : (c :: t).dropWhile isP = c :: t := by rw [List.dropWhile_cons, h]; rfl
theorem skip_go {c : UInt8} {t : List UInt8} (h : isP c = true) : (c :: t).dropWhile isP = t.dropWhile isP := by rw [List.dropWhile_cons, h]; rfl
theorem noDot_dot (t : List UInt8) : noDot (46 :: t) = noDot t := rfl
theorem noDot_go {c : UInt8} (t : List UInt8) (h : c.toNat ≠ 46) : noDot (c :: t) = c :: noDot t := by
  unfold noDot
  rw [List.filter_cons, if_pos (by simp only [bne_iff_ne]; intro e; exact h (by rw [e]; rfl))]
theorem txt_four {x : Int} (h1 : -1000000000000 ≤ x) (h2 : x ≤ 1000000000000) : ∃ m c t, (txt x).length = m + 4 ∧ (txt x)[m + 1]? = some 46 ∧ txt x = c :: t ∧ (c.toNat = 45 ↔ x < 0) := by
  have hp := pos_eq x.natAbs
  have h4 := pos_four x.natAbs
  have hh := pos_head x.natAbs
  unfold txt
  rw [rt_yes h1 h2, if_pos rfl]
  by_cases hx : x < 0
  · rw [if_pos hx]
    refine ⟨(pos x.natAbs).length - 3, 45, pos x.natAbs, by simp; omega, ?_, rfl, ⟨fun _ => hx, fun _ => rfl⟩⟩
    rw [List.getElem?_cons_succ, hp]; simp
  · rw [if_neg hx]
    obtain ⟨c, t, e⟩ : ∃ c t, pos x.natAbs = c :: t := by
      cases e : pos x.natAbs with
      | nil => rw [e] at h4; simp at h4
      | cons c t => exact ⟨c, t, rfl⟩
    refine ⟨(pos x.natAbs).length - 4, c, t, by omega, ?_, e, ⟨fun h => ?_, fun h => absurd h hx⟩⟩
    · rw [show (pos x.natAbs).length - 4 + 1 = (pos x.natAbs).length - 3 by omega, hp]; simp
    · rw [e] at hh
      exact absurd (by simp; exact UInt8.toNat_inj.1 (by rw [h]; rfl)) hh
end Go.Proofs.YtfpcpmkkeigcmaaDoor
