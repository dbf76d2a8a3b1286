/- Plain mathematics of layer 12: lines of feeds, and their texts. No program in this text. -/
import Derived.Test.YtkpgplafcoabnaaDoorZL
import Derived.Test.YtkpgplafcoabnaaDoorZ00
import Derived.Test.YtkpgplafcoabnaaDoorZ15
namespace Go.Proofs.YtkpgplafcoabnaaDoor
open Go.Lib
set_option linter.unusedVariables false
set_option linter.unusedSimpArgs false
theorem textF_inj {f g : Fd} (hf : rightF f = true) (hg : rightF g = true) : textF f = textF g ↔ f = g := ⟨fun e => by
  have h := dec_text hf
  rw [e, dec_text hg] at h
  injection h with h
  exact h.symm, fun e => by rw [e]⟩
end Go.Proofs.YtkpgplafcoabnaaDoor
