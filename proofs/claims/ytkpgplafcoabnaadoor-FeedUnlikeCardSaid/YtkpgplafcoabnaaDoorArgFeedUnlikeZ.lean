/- FeedUnlike's walk for its proof, over what the program was shown to tell. -/
import Derived.Test.YtkpgplafcoabnaaDoorArgFeedZ
import Derived.Test.YtkpgplafcoabnaaDoorZ00
import Derived.Test.YtkpgplafcoabnaaDoorZ01
import Derived.Test.YtkpgplafcoabnaaDoorZ02
import Derived.Test.YtkpgplafcoabnaaDoorZ03
import Derived.Test.YtkpgplafcoabnaaDoorZ09
import Derived.Test.YtkpgplafcoabnaaDoorZ32
namespace Go.Proofs.YtkpgplafcoabnaaDoor
open Go.RowKit Go.Lib
set_option linter.unusedVariables false
set_option linter.unusedSimpArgs false

theorem FeedUnlike_walk (a0 : Raw) (a1 : Raw) (a2 : Int) (w : World) (w0 : RawFit a0) (w1 : RawFit a1) (w2 : (Lit.int .i64 a2).wf = true) (hT : Tab w) :
    Calls Tryd.prog 7 #[RV5 a0, RV5 a1, .int .i64 a2] w fun e w' => e = .returned (.bool true) ∧ Below w.heap.size w w' := by
  obtain ⟨r00, r01, r02, r03, r04⟩ := a0
  obtain ⟨r10, r11, r12, r13, r14⟩ := a1
  exact (FeedUnlike_at feedOk r00 r01 r02 r03 r04 r10 r11 r12 r13 r14 a2 w0 w1 (wfi64 w2) w (Rel.start hT)).mono fun e w' h => ⟨h.1, h.2.2⟩
end Go.Proofs.YtkpgplafcoabnaaDoor
