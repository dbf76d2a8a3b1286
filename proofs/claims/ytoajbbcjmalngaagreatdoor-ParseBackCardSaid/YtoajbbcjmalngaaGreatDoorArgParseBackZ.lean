/- ParseBack's walk for its card, over what the program was shown to tell. -/
import Derived.Test.YtoajbbcjmalngaaGreatDoorZ05
import Derived.Test.YtoajbbcjmalngaaGreatDoorZ25
import Derived.Test.YtoajbbcjmalngaaGreatDoorZ29
namespace Go.Proofs.YtoajbbcjmalngaaGreatDoor
open Go.RowKit Go.Lib
set_option linter.unusedVariables false
set_option linter.unusedSimpArgs false

theorem ParseBack_walk (a0 : Option Addr) (len0 cap0 : Nat) (z0 : List Int) (w : World) (w0 : IsRow .i64 w a0 len0 cap0 z0) (hT : Tab w) :
    Calls Tryz.prog 3 #[.slice a0 len0 cap0] w fun e w' => e = .returned (.bool true) ∧ Below w.heap.size w w' := by
  obtain ⟨L0, rfl, i0⟩ := ints_of w0
  exact (ParseBack_at treeOk parseOk a0 cap0 L0 w (Rel.start hT) i0).mono fun e w' h => ⟨h.1, h.2.2⟩
end Go.Proofs.YtoajbbcjmalngaaGreatDoor
