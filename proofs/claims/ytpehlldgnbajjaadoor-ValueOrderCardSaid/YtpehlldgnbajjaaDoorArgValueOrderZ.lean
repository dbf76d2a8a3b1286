/- ValueOrder's walk for its card, over what the program was shown to tell. -/
import Derived.Test.YtpehlldgnbajjaaDoorArgPairsZ
import Derived.Test.YtpehlldgnbajjaaDoorZ30
import Derived.Test.YtpehlldgnbajjaaDoorZ27
namespace Go.Proofs.YtpehlldgnbajjaaDoor
open Go.RowKit Go.Lib
set_option linter.unusedVariables false
set_option linter.unusedSimpArgs false

theorem ValueOrder_walk (a0 : Option Addr) (len0 cap0 : Nat) (z0 : List Int) (a1 : Option Addr) (len1 cap1 : Nat) (z1 : List (Int × Int)) (a2 : Int) (a3 : Bool) (w : World) (w0 : IsRow .i64 w a0 len0 cap0 z0) (w1 : PairsIn w a1 len1 z1) (w2 : (Lit.int .i64 a2).wf = true) (hT : Tab w) :
    Calls Tryd.prog 3 #[.slice a0 len0 cap0, .slice a1 len1 cap1, .int .i64 a2, .bool a3] w fun e w' => e = .returned (.bool true) ∧ Below w.heap.size w w' := by
  obtain ⟨L0, rfl, i0⟩ := ints_of w0
  obtain rfl := w1.len
  exact (ValueOrder_at valueOk a0 cap0 L0 a1 cap1 z1 a2 a3 (wf64 w2) w (Rel.start hT) i0 w1).mono fun e w' h => ⟨h.1, h.2.2⟩
end Go.Proofs.YtpehlldgnbajjaaDoor
