/- What the laws of layer 12 share; FeedUnlike, over what the program is asked. -/
import Derived.Test.YtkpgplafcoabnaaDoorZL
import Derived.Test.YtkpgplafcoabnaaDoorZ00
import Derived.Test.YtkpgplafcoabnaaDoorZ01
import Derived.Test.YtkpgplafcoabnaaDoorZ02
namespace Go.Proofs.YtkpgplafcoabnaaDoor
open Go.RowKit Go.Lib
set_option linter.unusedVariables false
set_option linter.unusedSimpArgs false
theorem enc_at (H : FeedOk) (f : Fd) (hf : FdFit f) (v : Value) (hv : FV f = v) (s : ByteArray) (hs : B (encT f) = s) (e : Int) (he : encE f = e) (w : World) (hr : Rel w w) :
    Calls Tryd.prog 11 #[v] w fun r w' => r = .returned (.tuple #[.string s, .int .i64 e]) ∧ Rel w w' := by
  rw [← hv, ← hs, ← he]; exact H.2.1 f w w hf hr
end Go.Proofs.YtkpgplafcoabnaaDoor
