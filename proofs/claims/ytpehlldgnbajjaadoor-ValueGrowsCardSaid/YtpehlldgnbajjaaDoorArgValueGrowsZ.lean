/- ValueGrows's walk for its card, over what the program was shown to tell. -/
import Derived.Test.YtpehlldgnbajjaaDoorArgPairsZ
import Derived.Test.YtpehlldgnbajjaaDoorZ30
import Derived.Test.YtpehlldgnbajjaaDoorZ27
namespace Go.Proofs.YtpehlldgnbajjaaDoor
open Go.RowKit Go.Lib
set_option linter.unusedVariables false
set_option linter.unusedSimpArgs false

theorem ValueGrows_walk (a0 : Option Addr) (len0 cap0 : Nat) (z0 : List (Int × Int)) (a1 a2 : Int) (w : World) (w0 : PairsIn w a0 len0 z0) (w1 : (Lit.int .i64 a1).wf = true) (w2 : (Lit.int .i64 a2).wf = true) (hT : Tab w) :
    Calls Tryd.prog 6 #[.slice a0 len0 cap0, .int .i64 a1, .int .i64 a2] w fun e w' => e = .returned (.bool true) ∧ Below w.heap.size w w' := by
  obtain rfl := w0.len
  exact (ValueGrows_at valueOk a0 cap0 z0 a1 a2 (wf64 w1) (wf64 w2) w (Rel.start hT) w0).mono fun e w' h => ⟨h.1, h.2.2⟩
end Go.Proofs.YtpehlldgnbajjaaDoor
