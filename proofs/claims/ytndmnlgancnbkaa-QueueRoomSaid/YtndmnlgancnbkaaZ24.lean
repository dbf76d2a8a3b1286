/- Raw numbers as arguments, opened; the walks for the shell. -/
import Derived.Test.YtndmnlgancnbkaaZL
import Derived.Test.YtndmnlgancnbkaaZ00
import Derived.Test.YtndmnlgancnbkaaZ01
import Derived.Test.YtndmnlgancnbkaaZ02
import Derived.Test.YtndmnlgancnbkaaZ03
import Derived.Test.YtndmnlgancnbkaaZ14
import Derived.Test.YtndmnlgancnbkaaZ15
import Derived.Test.YtndmnlgancnbkaaZ23
namespace Go.Proofs.Ytndmnlgancnbkaa
open Go.RowKit Go.ChangeShapes Go.WideShapes
open Go.Lib
set_option linter.unusedVariables false
set_option linter.unusedSimpArgs false
theorem QueueRoom_walk (a0 : Option Addr) (len0 cap0 : Nat) (z0 : List Int) (a1 : Int) (w : World) (w0 : IsRow .i64 w a0 len0 cap0 z0) (w1 : (Lit.int .i64 a1).wf = true) :
    Calls Try.prog 7 #[.slice a0 len0 cap0, .int .i64 a1] w fun e w' => e = .returned (.bool true) ∧ Below w.heap.size w w' := by
  obtain ⟨L, rfl, hL⟩ := row_nums w0
  exact (QueueRoom_at queueOk17 a0 cap0 L a1 (wf64K w1) w (Rel.start trivial) hL).mono fun e w' h => ⟨h.1, h.2.2⟩
end Go.Proofs.Ytndmnlgancnbkaa
