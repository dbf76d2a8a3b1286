/- FeedForth's walk for its proof, over what the program was shown to tell. -/
import Derived.Test.YtkpgplafcoabnaaDoorArgFeedZ
import Derived.Test.YtkpgplafcoabnaaDoorZ00
import Derived.Test.YtkpgplafcoabnaaDoorZ01
import Derived.Test.YtkpgplafcoabnaaDoorZ02
import Derived.Test.YtkpgplafcoabnaaDoorZ03
import Derived.Test.YtkpgplafcoabnaaDoorZ09
import Derived.Test.YtkpgplafcoabnaaDoorZ25
namespace Go.Proofs.YtkpgplafcoabnaaDoor
open Go.RowKit Go.Lib
set_option linter.unusedVariables false
set_option linter.unusedSimpArgs false

theorem FeedForth_walk (a0 : ByteArray) (a1 : Raw) (a2 : Int) (a3 : ByteArray) (w : World) (s0 : a0.size ≤ 140737488351232) (w1 : RawFit a1) (w2 : (Lit.int .i64 a2).wf = true) (s3 : a3.size ≤ 140737488351232) (hT : Tab w) :
    Calls Tryd.prog 5 #[.string a0, RV5 a1, .int .i64 a2, .string a3] w fun e w' => e = .returned (.bool true) ∧ Below w.heap.size w w' := by
  obtain ⟨r10, r11, r12, r13, r14⟩ := a1
  exact (FeedForth_at feedOk a0 r10 r11 r12 r13 r14 a2 a3 w1 (wfi64 w2) s0 s3 w (Rel.start hT)).mono fun e w' h => ⟨h.1, h.2.2⟩
end Go.Proofs.YtkpgplafcoabnaaDoor
