/- Plain mathematics of layer 2: decimal numerals and amounts as lists of bytes. No program in this text; Plain mathematics of layer 2, second part: amounts' texts, and what of a text is an amount. No program in this text; Blocks that are known whole, rows of the call's own, and what is kept of them. -/
import Derived.Test.YtkpgplafcoabnaaDoorZL
import Derived.Test.YtkpgplafcoabnaaDoorZ00
import Derived.Test.YtkpgplafcoabnaaDoorZ01
import Derived.Test.YtkpgplafcoabnaaDoorZ10
namespace Go.Proofs.YtkpgplafcoabnaaDoor
open Go.Lib
set_option linter.unusedVariables false
set_option linter.unusedSimpArgs false
theorem val_lt {l : List UInt8} (h : allD l = true) {n : Int} (hn : 0 ≤ n) : val l n < (n + 1) * 10 ^ l.length := by
  induction l generalizing n with
  | nil => simp [val]; omega
  | cons c t ih =>
    rw [allD_cons, Bool.and_eq_true] at h
    have hc := isD_iff.1 h.1
    have := ih h.2 (n := n * 10 + ((c.toNat : Int) - 48)) (by omega)
    simp only [val, List.length_cons]
    have hp : (0 : Int) < 10 ^ t.length := Int.pow_pos (by omega)
    have h2 : (n * 10 + ((c.toNat : Int) - 48) + 1) * 10 ^ t.length ≤ ((n + 1) * 10) * 10 ^ t.length := Int.mul_le_mul_of_nonneg_right (by omega) (by omega)
    rw [Int.pow_succ, Int.mul_comm (10 ^ t.length) 10, ← Int.mul_assoc]
    omega
theorem cnt_yes {l : List UInt8} {most : Int} (h : allD l = true) (h1 : l.isEmpty = false) (h' : l.length ≤ 1 ∨ l.head? ≠ some 48) : cnt l most = if most < val l 0 ∨ 1000000000000 < val l 0 then -1 else val l 0 := by
  rw [← cnt_prog l most h1 h', digs_eq _ _ _ (by omega), h, h1]
  simp only [Bool.true_and, Bool.false_or, decide_eq_true_eq]
  by_cases hc : most < val l 0 ∨ 1000000000000 < val l 0
  · rw [if_neg (by omega), if_pos hc]
  · rw [if_pos (by omega), if_neg hc]
end Go.Proofs.YtkpgplafcoabnaaDoor

namespace Go.Proofs.YtkpgplafcoabnaaDoor
open Go.Lib
set_option linter.unusedVariables false
set_option linter.unusedSimpArgs false
/-- The document's own answer: where the parts are right, the text of the amount decides. -/
theorem ref_yes {l x : List UInt8} {c d : UInt8} (ht : body l = x ++ [46, c, d]) (hx : 0 ≤ cnt x 10000000000) (hc : isD c = true) (hd : isD d = true) :
    prs l = if txt ((if negL l then -1 else 1) * (cnt x 10000000000 * 100 + two c d)) = l then some ((if negL l then -1 else 1) * (cnt x 10000000000 * 100 + two c d)) else none := by
  have e : prs l = fin (negL l) (cnt x 10000000000 * 100 + two c d) := by rw [prs_mk ht, if_pos (by simp [hx, hc, hd])]
  have hsign : ∀ m : Int, (if negL l then -m else m) = (if negL l then -1 else 1) * m := by intro m; cases negL l <;> simp
  generalize hm : cnt x 10000000000 * 100 + two c d = m at *
  generalize hA : (if negL l then -1 else 1) * m = A at *
  cases hp : prs l with
  | some a =>
    have h1 := (txt_of_prs hp).2
    rw [hp] at e
    unfold fin at e
    split at e
    · cases e
    · rw [hsign, hA] at e
      obtain rfl := Option.some.inj e
      rw [if_pos h1]
  | none =>
    rw [if_neg]
    intro h
    cases hr : rt A
    · unfold txt at h
      rw [hr] at h
      have hl : l = [] := h.symm
      subst hl
      simp [body, negL] at ht
    · have := prs_txt hr
      rw [h, hp] at this
      cases this
theorem ref_no {l x : List UInt8} {c d : UInt8} (ht : body l = x ++ [46, c, d]) (h : cnt x 10000000000 < 0 ∨ isD c = false ∨ isD d = false) : prs l = none := by
  rw [prs_mk ht]
  rw [if_neg]
  simp only [Bool.and_eq_true, decide_eq_true_eq]
  rintro ⟨a, b, c⟩
  rcases h with h | h | h
  · omega
  · rw [h] at b; cases b
  · rw [h] at c; cases c
theorem ref_short {l : List UInt8} (h : (body l).length < 4) : prs l = none := by
  cases e : last3 (body l) with
  | none => exact prs_no e
  | some p =>
    obtain ⟨x, c, d⟩ := p
    have ht := last3_of e
    rw [ht] at h
    have hx : x = [] := by
      cases x with
      | nil => rfl
      | cons => simp at h; omega
    exact ref_no ht (.inl (by rw [hx]; simp [cnt, cano]))
theorem ref_dot {l : List UInt8} (h : 4 ≤ (body l).length) (h' : (body l)[(body l).length - 3]? ≠ some 46) : prs l = none := by
  cases e : last3 (body l) with
  | none => exact prs_no e
  | some p =>
    obtain ⟨x, c, d⟩ := p
    have ht := last3_of e
    exfalso
    apply h'
    rw [ht]
    simp
theorem ref_parts {t : List UInt8} (h : 4 ≤ t.length) (h' : t[t.length - 3]? = some 46) : ∃ c d, t = t.take (t.length - 3) ++ [46, c, d] ∧ t[t.length - 2]? = some c ∧ t[t.length - 1]? = some d := by
  have h2 : t.length - 2 < t.length := by omega
  have h1 : t.length - 1 < t.length := by omega
  have h3 : t.length - 3 < t.length := by omega
  refine ⟨t[t.length - 2], t[t.length - 1], ?_, List.getElem?_eq_getElem h2, List.getElem?_eq_getElem h1⟩
  have e3 : t[t.length - 3] = 46 := by rw [List.getElem?_eq_getElem h3] at h'; exact Option.some.inj h'
  have d3 := List.drop_eq_getElem_cons h3
  have d2 := List.drop_eq_getElem_cons h2
  have d1 := List.drop_eq_getElem_cons h1
  rw [show t.length - 3 + 1 = t.length - 2 by omega, e3, d2, show t.length - 2 + 1 = t.length - 1 by omega, d1, show t.length - 1 + 1 = t.length by omega, List.drop_length] at d3
  have := List.take_append_drop (t.length - 3) t
  rw [d3] at this
  exact this.symm
end Go.Proofs.YtkpgplafcoabnaaDoor

namespace Go.Proofs.YtkpgplafcoabnaaDoor
open Go.RowKit Go.Lib
set_option linter.unusedVariables false
set_option linter.unusedSimpArgs false
theorem Bk.two {w : World} {g : Nat} {t : TypeId} {x y : Value} (h : Bk w g t #[x, y]) :
    (w.cell? ⟨g, 0, none⟩ = some x ∧ w.cell? ⟨g, 1, none⟩ = some y) ∧ (w.frozen? ⟨g, 0, none⟩ = false ∧ w.frozen? ⟨g, 1, none⟩ = false) :=
  ⟨⟨h.cell 0, h.cell 1⟩, ⟨h.frozen 0, h.frozen 1⟩⟩
end Go.Proofs.YtkpgplafcoabnaaDoor
