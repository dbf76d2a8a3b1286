/- Plain mathematics of layer 2, second part: amounts' texts, and what of a text is an amount. No program in this text. -/
import Derived.Test.YtkpgplafcoabnaaDoorZL
import Derived.Test.YtkpgplafcoabnaaDoorZ00
namespace Go.Proofs.YtkpgplafcoabnaaDoor
open Go.Lib
set_option linter.unusedVariables false
set_option linter.unusedSimpArgs false
theorem dd_head (u : Nat) : (decDigits u).head? ≠ some 45 := by
  obtain ⟨a, _, _, d⟩ := dd_all u
  cases e : decDigits u with
  | nil => simp
  | cons c t =>
    rw [e] at a
    rw [allD_cons, Bool.and_eq_true] at a
    have := isD_iff.1 a.1
    simp
    intro h
    rw [h] at this
    simp at this
theorem pos_head (m : Nat) : (pos m).head? ≠ some 45 := by
  have h := dd_head (m / 100)
  have he := (dd_all (m / 100)).2.2.2
  rw [pos_eq]
  cases e : decDigits (m / 100) with
  | nil => rw [e] at he; cases he
  | cons c t => rw [e] at h; simpa using h
theorem prs_pos (m : Nat) (l : List UInt8) (hl : body l = pos m) (hm : m ≤ 1000000000000) : prs l = fin (negL l) m := by
  rw [pos_eq] at hl
  have h1 : isD (UInt8.ofNat (48 + m / 10 % 10)) = true := isD_iff.2 (by rw [of48 (by omega)]; omega)
  have h2 : isD (UInt8.ofNat (48 + m % 10)) = true := isD_iff.2 (by rw [of48 (by omega)]; omega)
  rw [prs_mk hl, cnt_dd, if_pos (show ((m / 100 : Nat) : Int) ≤ min 10000000000 1000000000000 by omega), if_pos (by simp only [h1, h2, Bool.and_true, decide_eq_true_eq]; omega)]
  unfold two
  rw [of48 (show m / 10 % 10 < 10 by omega), of48 (show m % 10 < 10 by omega)]
  congr 1
  omega
theorem prs_txt {a : Int} (h : rt a = true) : prs (txt a) = some a := by
  have hb := rt_iff.1 h
  unfold txt
  rw [h, if_pos rfl]
  by_cases ha : a < 0
  · rw [if_pos ha, prs_pos a.natAbs _ (by simp [body, negL]) (by omega)]
    unfold fin
    rw [show negL (45 :: pos a.natAbs) = true from rfl, if_neg (by omega)]
    simp; omega
  · have hn : negL (pos a.natAbs) = false := by unfold negL; simpa using pos_head a.natAbs
    rw [if_neg ha, prs_pos a.natAbs _ (by unfold body; rw [hn]; rfl) (by omega)]
    unfold fin
    rw [hn, if_neg (by simp; omega)]
    simp; omega
end Go.Proofs.YtkpgplafcoabnaaDoor
