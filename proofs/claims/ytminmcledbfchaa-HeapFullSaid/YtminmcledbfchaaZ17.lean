/- Raw pairs, raw triples and raw numbers as arguments, opened; the walks for the shell. -/
import Derived.Test.YtminmcledbfchaaZL
import Derived.Test.YtminmcledbfchaaZ00
import Derived.Test.YtminmcledbfchaaZ01
import Derived.Test.YtminmcledbfchaaZ08
import Derived.Test.YtminmcledbfchaaZ12
import Derived.Test.YtminmcledbfchaaZ16
namespace Go.Proofs.Ytminmcledbfchaa
open Go.RowKit Go.ChangeShapes Go.WideShapes
open Go.Lib
set_option linter.unusedVariables false
set_option linter.unusedSimpArgs false
theorem HeapFull_walk (a0 : Int) (a1 : Option Addr) (len1 cap1 : Nat) (z1 : List Int) (a2 : Int) (w : World) (w0 : (Lit.int .i64 a0).wf = true) (w1 : IsRow .i64 w a1 len1 cap1 z1) (w2 : (Lit.int .i64 a2).wf = true) :
    Calls Try.prog 8 #[.int .i64 a0, .slice a1 len1 cap1, .int .i64 a2] w fun e w' => e = .returned (.bool true) ∧ Below w.heap.size w w' := by
  obtain ⟨L, rfl, hL⟩ := ints_of w1
  exact (HeapFull_at heapOk16 a0 a2 (wf64K w0) (wf64K w2) a1 cap1 L w (Rel.start trivial) hL).mono fun e w' h => ⟨h.1, h.2.2⟩
end Go.Proofs.Ytminmcledbfchaa
