/- Raw pairs, raw triples and raw numbers as arguments, opened; the walks for the shell. -/
import Derived.Test.YtminmcledbfchaaZL
import Derived.Test.YtminmcledbfchaaZ00
import Derived.Test.YtminmcledbfchaaZ01
import Derived.Test.YtminmcledbfchaaZ08
import Derived.Test.YtminmcledbfchaaZ25
namespace Go.Proofs.Ytminmcledbfchaa
open Go.RowKit Go.ChangeShapes Go.WideShapes
open Go.Lib
set_option linter.unusedVariables false
set_option linter.unusedSimpArgs false
theorem HeapTop_walk (a0 : Option Addr) (len0 cap0 : Nat) (z0 : List (Int × Int)) (a1 a2 : Int) (w : World) (w0 : PairsIn w a0 len0 z0) (w1 : (Lit.int .i64 a1).wf = true) (w2 : (Lit.int .i64 a2).wf = true) :
    Calls Try.prog 7 #[.slice a0 len0 cap0, .int .i64 a1, .int .i64 a2] w fun e w' => e = .returned (.bool true) ∧ Below w.heap.size w w' := by
  obtain rfl := w0.1.symm
  exact (HeapTop_at heapOk16 z0 a0 cap0 a1 a2 (wf64K w1) (wf64K w2) w (Rel.start trivial) w0).mono fun e w' h => ⟨h.1, h.2.2⟩
end Go.Proofs.Ytminmcledbfchaa
