/- FeedBack's walk for its proof, over what the program was shown to tell. -/
import Derived.Test.YtkpgplafcoabnaaDoorArgFeedZ
import Derived.Test.YtkpgplafcoabnaaDoorZ00
import Derived.Test.YtkpgplafcoabnaaDoorZ01
import Derived.Test.YtkpgplafcoabnaaDoorZ02
import Derived.Test.YtkpgplafcoabnaaDoorZ03
import Derived.Test.YtkpgplafcoabnaaDoorZ09
import Derived.Test.YtkpgplafcoabnaaDoorZ22
namespace Go.Proofs.YtkpgplafcoabnaaDoor
open Go.RowKit Go.Lib
set_option linter.unusedVariables false
set_option linter.unusedSimpArgs false

theorem FeedBack_walk (a0 : Raw) (a1 : Fd) (w : World) (w0 : RawFit a0) (w1 : FdFit a1) (hT : Tab w) :
    Calls Tryd.prog 4 #[RV5 a0, FV a1] w fun e w' => e = .returned (.bool true) ∧ Below w.heap.size w w' := by
  obtain ⟨r00, r01, r02, r03, r04⟩ := a0
  exact (FeedBack_at feedOk r00 r01 r02 r03 r04 w0 a1 w1 w (Rel.start hT)).mono fun e w' h => ⟨h.1, h.2.2⟩
end Go.Proofs.YtkpgplafcoabnaaDoor
