/- CodeTells's walk for its card, over what the program was shown to tell. -/
import Derived.Test.YtldopbkjchgcnaaDoorArgInstrsZ
import Derived.Test.YtldopbkjchgcnaaDoorZ35
import Derived.Test.YtldopbkjchgcnaaDoorZ30
namespace Go.Proofs.YtldopbkjchgcnaaDoor
open Go.RowKit Go.Lib
set_option linter.unusedVariables false
set_option linter.unusedSimpArgs false

theorem CodeTells_walk (a0 : Option Addr) (len0 cap0 : Nat) (z0 : List Int) (a1 a2 : Int) (a3 : Option Addr) (len3 cap3 : Nat) (z3 : List In) (w : World) (w0 : IsRow .i64 w a0 len0 cap0 z0) (w1 : (Lit.int .i64 a1).wf = true) (w2 : (Lit.int .i64 a2).wf = true) (w3 : len3 = z3.length ∧ InsArg w a3 cap3 z3 ∧ (textC z3).length ≤ 1000000000) (hT : Tab w) :
    Calls Tryd.prog 3 #[.slice a0 len0 cap0, .int .i64 a1, .int .i64 a2, .slice a3 len3 cap3] w fun e w' => e = .returned (.bool true) ∧ Below w.heap.size w w' := by
  obtain ⟨L0, rfl, i0⟩ := ints_of w0
  obtain ⟨rfl, w4, w5⟩ := w3
  exact (CodeTells_at codeProOk a0 cap0 L0 a1 a2 (wf64 w1) (wf64 w2) a3 cap3 z3 w5 w (Rel.start hT) i0 w4).mono fun e w' h => ⟨h.1, h.2.2⟩
end Go.Proofs.YtldopbkjchgcnaaDoor
