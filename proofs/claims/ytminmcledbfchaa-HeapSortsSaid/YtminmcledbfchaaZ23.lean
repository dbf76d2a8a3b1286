/- Raw pairs, raw triples and raw numbers as arguments, opened; the walks for the shell. -/
import Derived.Test.YtminmcledbfchaaZL
import Derived.Test.YtminmcledbfchaaZ00
import Derived.Test.YtminmcledbfchaaZ01
import Derived.Test.YtminmcledbfchaaZ08
import Derived.Test.YtminmcledbfchaaZ22
namespace Go.Proofs.Ytminmcledbfchaa
open Go.RowKit Go.ChangeShapes Go.WideShapes
open Go.Lib
set_option linter.unusedVariables false
set_option linter.unusedSimpArgs false
theorem HeapSorts_walk (a0 : Option Addr) (len0 cap0 : Nat) (z0 : List (Int × Int)) (w : World) (w0 : PairsIn w a0 len0 z0) :
    Calls Try.prog 4 #[.slice a0 len0 cap0] w fun e w' => e = .returned (.bool true) ∧ Below w.heap.size w w' := by
  obtain rfl := w0.1.symm
  exact (HeapSorts_at heapOk16 z0 a0 cap0 w (Rel.start trivial) w0).mono fun e w' h => ⟨h.1, h.2.2⟩
end Go.Proofs.Ytminmcledbfchaa
