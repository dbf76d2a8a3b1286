/- Plain mathematics of layer 12: lines of feeds, and their texts. No program in this text. -/
import Derived.Test.YtkpgplafcoabnaaDoorZL
import Derived.Test.YtkpgplafcoabnaaDoorZ00
import Derived.Test.YtkpgplafcoabnaaDoorZ10
namespace Go.Proofs.YtkpgplafcoabnaaDoor
open Go.Lib
set_option linter.unusedVariables false
set_option linter.unusedSimpArgs false
theorem txt_not_gone {p : Int} (h : 1 ≤ p) (h' : p ≤ 1000000000000) : txt p ≠ goneL := fun e => by
  have h1 := prs_txt (a := p) (by simp [rt]; omega)
  rw [e] at h1
  have h2 : prs goneL = none := by decide
  rw [h2] at h1; cases h1
theorem price_txt {p : Int} (h : 0 ≤ p) (h' : p ≤ 1000000000000) : priceF (priceT p) = p := by
  unfold priceT
  by_cases hp : 0 < p
  · rw [if_pos hp]
    unfold priceF
    rw [if_neg (txt_not_gone (by omega) h'), prs_txt (by simp [rt]; omega)]
    simp only
    rw [if_neg (by omega)]
  · rw [if_neg hp]
    unfold priceF
    rw [if_pos rfl]; omega
end Go.Proofs.YtkpgplafcoabnaaDoor
