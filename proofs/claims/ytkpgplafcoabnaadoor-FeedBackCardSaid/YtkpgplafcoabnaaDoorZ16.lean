/- What the laws of layer 12 share; FeedUnlike, over what the program is asked. -/
import Derived.Test.YtkpgplafcoabnaaDoorZL
import Derived.Test.YtkpgplafcoabnaaDoorZ00
import Derived.Test.YtkpgplafcoabnaaDoorZ01
namespace Go.Proofs.YtkpgplafcoabnaaDoor
open Go.RowKit Go.Lib
set_option linter.unusedVariables false
set_option linter.unusedSimpArgs false
theorem rig_at (H : FeedOk) (f : Fd) (hf : FdFit f) (v : Value) (hv : FV f = v) (b : Bool) (hb : rightF f = b) (w : World) (hr : Rel w w) :
    Calls Tryd.prog 13 #[v] w fun r w' => r = .returned (.bool b) ∧ Rel w w' := by
  rw [← hv, ← hb]; exact H.1 f w w hf hr
end Go.Proofs.YtkpgplafcoabnaaDoor
