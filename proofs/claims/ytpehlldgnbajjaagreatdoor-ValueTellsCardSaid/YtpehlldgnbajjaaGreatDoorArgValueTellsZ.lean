/- ValueTells's walk for its card, over what the program was shown to tell. -/
import Derived.Test.YtpehlldgnbajjaaGreatDoorArgOffsZ
import Derived.Test.YtpehlldgnbajjaaGreatDoorZ31
import Derived.Test.YtpehlldgnbajjaaGreatDoorZ29
namespace Go.Proofs.YtpehlldgnbajjaaGreatDoor
open Go.RowKit Go.Lib
set_option linter.unusedVariables false
set_option linter.unusedSimpArgs false

theorem ValueTells_walk (a0 : Option Addr) (len0 cap0 : Nat) (z0 : List Int) (a1 a2 : Int) (a3 : Option Addr) (len3 cap3 : Nat) (z3 : List (Int × Int)) (a4 : Option Addr) (len4 cap4 : Nat) (z4 : List Of) (w : World) (w0 : IsRow .i64 w a0 len0 cap0 z0) (w1 : (Lit.int .i64 a1).wf = true) (w2 : (Lit.int .i64 a2).wf = true) (w3 : PairsIn w a3 len3 z3) (w4 : len4 = z4.length ∧ OffArg w a4 cap4 z4) (hT : Tab w) :
    Calls Tryz.prog 3 #[.slice a0 len0 cap0, .int .i64 a1, .int .i64 a2, .slice a3 len3 cap3, .slice a4 len4 cap4] w fun e w' => e = .returned (.bool true) ∧ Below w.heap.size w w' := by
  obtain ⟨L0, rfl, i0⟩ := ints_of w0
  obtain rfl := w3.len
  obtain ⟨rfl, w4⟩ := w4
  exact (ValueTells_at valueOk a0 cap0 L0 a1 a2 (wf64 w1) (wf64 w2) a3 cap3 z3 a4 cap4 z4 w (Rel.start hT) i0 w3 w4).mono fun e w' h => ⟨h.1, h.2.2⟩
end Go.Proofs.YtpehlldgnbajjaaGreatDoor
