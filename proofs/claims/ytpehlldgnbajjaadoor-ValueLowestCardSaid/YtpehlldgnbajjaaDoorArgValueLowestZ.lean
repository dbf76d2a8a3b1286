/- ValueLowest's walk for its card, over what the program was shown to tell. -/
import Derived.Test.YtpehlldgnbajjaaDoorArgPairsZ
import Derived.Test.YtpehlldgnbajjaaDoorZ29
import Derived.Test.YtpehlldgnbajjaaDoorZ27
namespace Go.Proofs.YtpehlldgnbajjaaDoor
open Go.RowKit Go.Lib
set_option linter.unusedVariables false
set_option linter.unusedSimpArgs false

theorem ValueLowest_walk (a0 : Option Addr) (len0 cap0 : Nat) (z0 : List (Int × Int)) (w : World) (w0 : PairsIn w a0 len0 z0) (hT : Tab w) :
    Calls Tryd.prog 4 #[.slice a0 len0 cap0] w fun e w' => e = .returned (.bool true) ∧ Below w.heap.size w w' := by
  obtain rfl := w0.len
  exact (ValueLowest_at valueOk a0 cap0 z0 w (Rel.start hT) w0).mono fun e w' h => ⟨h.1, h.2.2⟩
end Go.Proofs.YtpehlldgnbajjaaDoor
