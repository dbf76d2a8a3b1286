/- ParseForth's walk for its card, over what the program was shown to tell. -/
import Derived.Test.YtoajbbcjmalngaaGreatDoorZ05
import Derived.Test.YtoajbbcjmalngaaGreatDoorZ31
import Derived.Test.YtoajbbcjmalngaaGreatDoorZ29
namespace Go.Proofs.YtoajbbcjmalngaaGreatDoor
open Go.RowKit Go.Lib
set_option linter.unusedVariables false
set_option linter.unusedSimpArgs false

theorem ParseForth_walk (a0 : ByteArray) (a1 : Option Addr) (len1 cap1 : Nat) (z1 : List Int) (a2 : Int) (a3 : ByteArray) (w : World) (s0 : a0.size ≤ 140737488351232) (w1 : IsRow .i64 w a1 len1 cap1 z1) (w2 : (Lit.int .i64 a2).wf = true) (s3 : a3.size ≤ 140737488351232) (hT : Tab w) :
    Calls Tryz.prog 4 #[.string a0, .slice a1 len1 cap1, .int .i64 a2, .string a3] w fun e w' => e = .returned (.bool true) ∧ Below w.heap.size w w' := by
  obtain ⟨L1, rfl, i1⟩ := ints_of w1
  exact (ParseForth_at treeOk parseOk a0 s0 a1 cap1 L1 a2 (wf64 w2).1 (wf64 w2).2 a3 s3 w (Rel.start hT) i1).mono fun e w' h => ⟨h.1, h.2.2⟩
end Go.Proofs.YtoajbbcjmalngaaGreatDoor
