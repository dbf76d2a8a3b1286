/- Raw pairs, raw triples and raw numbers as arguments, opened; the walks for the shell. -/
import Derived.Test.YtminmcledbfchaaZL
import Derived.Test.YtminmcledbfchaaZ00
import Derived.Test.YtminmcledbfchaaZ01
import Derived.Test.YtminmcledbfchaaZ08
import Derived.Test.YtminmcledbfchaaZ12
import Derived.Test.YtminmcledbfchaaZ28
namespace Go.Proofs.Ytminmcledbfchaa
open Go.RowKit Go.ChangeShapes Go.WideShapes
open Go.Lib
set_option linter.unusedVariables false
set_option linter.unusedSimpArgs false
theorem HeapTurns_walk (a0 : Option Addr) (len0 cap0 : Nat) (z0 : List Int) (a1 : Int) (w : World) (w0 : IsRow .i64 w a0 len0 cap0 z0) (w1 : (Lit.int .i64 a1).wf = true) :
    Calls Try.prog 5 #[.slice a0 len0 cap0, .int .i64 a1] w fun e w' => e = .returned (.bool true) ∧ Below w.heap.size w w' := by
  obtain ⟨L, rfl, hL⟩ := ints_of w0
  exact (HeapTurns_at heapOk16 a1 (wf64K w1) a0 cap0 L w (Rel.start trivial) hL).mono fun e w' h => ⟨h.1, h.2.2⟩
end Go.Proofs.Ytminmcledbfchaa
