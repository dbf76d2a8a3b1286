/- Plain mathematics of layer 12: lines of feeds, and their texts. No program in this text. -/
import Derived.Test.YtkpgplafcoabnaaDoorZL
import Derived.Test.YtkpgplafcoabnaaDoorZ00
import Derived.Test.YtkpgplafcoabnaaDoorZ14
namespace Go.Proofs.YtkpgplafcoabnaaDoor
open Go.Lib
set_option linter.unusedVariables false
set_option linter.unusedSimpArgs false
theorem seq_itoa {n : Int} (h : 1 ≤ n) (h' : n ≤ 1000000000000) : seqF (itoa n) = n := by
  have e : cnt (itoa n) 1000000000000 = n := by
    rw [itoa_eq n (by omega), cnt_dd, if_pos (by omega)]; omega
  unfold seqF
  rw [e, if_neg (by omega)]
theorem fields_text {f : Fd} (h : rightF f = true) : fieldsF (textF f) = [f.1, itoa f.2.1, f.2.2.1, f.2.2.2.1, priceT f.2.2.2.2] := by
  obtain ⟨h1, h2, h3, h4, h5⟩ := rightF_iff.1 h
  unfold textF
  rw [fields_app (name_clean h1), fields_app (itoa_clean _ (by omega)), fields_app (name_clean h2), fields_app (name_clean h3), fields_one (price_clean h5.1 h5.2)]
/-- Decode undoes Encode. -/
theorem dec_text {f : Fd} (h : rightF f = true) : decF (textF f) = .ok f := by
  have hl := fdtext_len h
  unfold decF
  rw [if_neg (by omega), fields_text h]
  obtain ⟨h1, h2, h3, h4, h5⟩ := rightF_iff.1 h
  have hs := seq_itoa h4.1 h4.2
  have hp := price_txt h5.1 h5.2
  have e : firstF 0 [f.1, itoa f.2.1, f.2.2.1, f.2.2.2.1, priceT f.2.2.2.2] = none := by
    have k0 : okF 0 f.1 = true := h1
    have k1 : okF 1 (itoa f.2.1) = true := by unfold okF; rw [if_pos rfl, hs]; exact decide_eq_true (by omega)
    have k2 : okF 2 f.2.2.1 = true := h2
    have k3 : okF 3 f.2.2.2.1 = true := h3
    have k4 : okF 4 (priceT f.2.2.2.2) = true := by unfold okF; rw [if_neg (by decide), if_pos rfl, hp]; exact decide_eq_true h5.1
    simp only [firstF, k0, k1, k2, k3, k4, if_true]
  simp only
  rw [e]
  simp only
  rw [hs, hp]
end Go.Proofs.YtkpgplafcoabnaaDoor
