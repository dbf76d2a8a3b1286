/- FeedTells's walk for its proof, over what the program was shown to tell. -/
import Derived.Test.YtkpgplafcoabnaaDoorArgFeedZ
import Derived.Test.YtkpgplafcoabnaaDoorZ00
import Derived.Test.YtkpgplafcoabnaaDoorZ01
import Derived.Test.YtkpgplafcoabnaaDoorZ02
import Derived.Test.YtkpgplafcoabnaaDoorZ03
import Derived.Test.YtkpgplafcoabnaaDoorZ09
import Derived.Test.YtkpgplafcoabnaaDoorZ31
namespace Go.Proofs.YtkpgplafcoabnaaDoor
open Go.RowKit Go.Lib
set_option linter.unusedVariables false
set_option linter.unusedSimpArgs false

theorem FeedTells_walk (a0 : Fd) (a1 : Raw) (a2 : ByteArray) (a3 : Int) (a4 : ByteArray) (w : World) (w0 : FdFit a0) (w1 : RawFit a1) (s2 : a2.size ≤ 140737488351232) (w3 : (Lit.int .i64 a3).wf = true) (s4 : a4.size ≤ 140737488351232) (hT : Tab w) :
    Calls Tryd.prog 3 #[FV a0, RV5 a1, .string a2, .int .i64 a3, .string a4] w fun e w' => e = .returned (.bool true) ∧ Below w.heap.size w w' := by
  obtain ⟨r10, r11, r12, r13, r14⟩ := a1
  exact (FeedTells_at feedOk a0 w0 r10 r11 r12 r13 r14 a2 a3 a4 w1 (wfi64 w3) s2 s4 w (Rel.start hT)).mono fun e w' h => ⟨h.1, h.2.2⟩
end Go.Proofs.YtkpgplafcoabnaaDoor
