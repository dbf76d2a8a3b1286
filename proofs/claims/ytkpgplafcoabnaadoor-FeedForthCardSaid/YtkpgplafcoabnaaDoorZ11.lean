/- What the laws of layer 12 share; FeedUnlike, over what the program is asked. -/
import Derived.Test.YtkpgplafcoabnaaDoorZL
import Derived.Test.YtkpgplafcoabnaaDoorZ00
import Derived.Test.YtkpgplafcoabnaaDoorZ01
import Derived.Test.YtkpgplafcoabnaaDoorZ02
namespace Go.Proofs.YtkpgplafcoabnaaDoor
open Go.RowKit Go.Lib
set_option linter.unusedVariables false
set_option linter.unusedSimpArgs false
theorem dec_at (H : FeedOk) (s : List UInt8) (t : ByteArray) (ht : B s = t) (hl : s.length ≤ 9223372036854775807) (v : Value) (hv : FV (decV s) = v) (e n : Int) (he : decE s = e) (hn : decN s = n) (w : World) (hr : Rel w w) :
    Calls Tryd.prog 16 #[.string t] w fun r w' => r = .returned (.tuple #[v, .int .i64 e, .int .i64 n]) ∧ Rel w w' := by
  rw [← ht, ← hv, ← he, ← hn]; exact H.2.2 s w w hl hr
end Go.Proofs.YtkpgplafcoabnaaDoor
