/- CodeSize's walk for its card, over what the program was shown to tell. -/
import Derived.Test.YtldopbkjchgcnaaDoorZ06
import Derived.Test.YtldopbkjchgcnaaDoorZ19
import Derived.Test.YtldopbkjchgcnaaDoorZ30
import Derived.Test.YtldopbkjchgcnaaDoorZ29
namespace Go.Proofs.YtldopbkjchgcnaaDoor
open Go.RowKit Go.Lib
set_option linter.unusedVariables false
set_option linter.unusedSimpArgs false

theorem CodeSize_walk (a0 : Option Addr) (len0 cap0 : Nat) (z0 : List Int) (w : World) (w0 : IsRow .i64 w a0 len0 cap0 z0) (hT : Tab w) :
    Calls Tryd.prog 4 #[.slice a0 len0 cap0] w fun e w' => e = .returned (.bool true) ∧ Below w.heap.size w w' := by
  obtain ⟨L0, rfl, i0⟩ := ints_of w0
  exact (CodeSize_at codeProOk tright_any treeSizeOk a0 cap0 L0 w (Rel.start hT) i0).mono fun e w' h => ⟨h.1, h.2.2⟩
end Go.Proofs.YtldopbkjchgcnaaDoor
