/- CodeParts's walk for its card, over what the program was shown to tell. -/
import Derived.Test.YtldopbkjchgcnaaDoorZ06
import Derived.Test.YtldopbkjchgcnaaDoorZ32
import Derived.Test.YtldopbkjchgcnaaDoorZ30
import Derived.Test.YtldopbkjchgcnaaDoorZ29
namespace Go.Proofs.YtldopbkjchgcnaaDoor
open Go.RowKit Go.Lib
set_option linter.unusedVariables false
set_option linter.unusedSimpArgs false

theorem CodeParts_walk (a0 : Option Addr) (len0 cap0 : Nat) (z0 : List Int) (a1 : Option Addr) (len1 cap1 : Nat) (z1 : List Int) (w : World) (w0 : IsRow .i64 w a0 len0 cap0 z0) (w1 : IsRow .i64 w a1 len1 cap1 z1) (hT : Tab w) :
    Calls Tryd.prog 6 #[.slice a0 len0 cap0, .slice a1 len1 cap1] w fun e w' => e = .returned (.bool true) ∧ Below w.heap.size w w' := by
  obtain ⟨L0, rfl, i0⟩ := ints_of w0
  obtain ⟨L1, rfl, i1⟩ := ints_of w1
  exact (CodeParts_at codeProOk tright_any a0 cap0 L0 a1 cap1 L1 w (Rel.start hT) i0 i1).mono fun e w' h => ⟨h.1, h.2.2⟩
end Go.Proofs.YtldopbkjchgcnaaDoor
