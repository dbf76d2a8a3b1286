/- RunTells's walk for its proof, over what the program was shown to tell. -/
import Derived.Test.YtcckemhelockaaaGreatDoorArgPairsZ
import Derived.Test.YtcckemhelockaaaGreatDoorArgInstrsZ
import Derived.Test.YtcckemhelockaaaGreatDoorArgOffsZ
import Derived.Test.YtcckemhelockaaaGreatDoorZ00
import Derived.Test.YtcckemhelockaaaGreatDoorZ01
import Derived.Test.YtcckemhelockaaaGreatDoorZ02
import Derived.Test.YtcckemhelockaaaGreatDoorZ03
import Derived.Test.YtcckemhelockaaaGreatDoorZ04
import Derived.Test.YtcckemhelockaaaGreatDoorZ07
import Derived.Test.YtcckemhelockaaaGreatDoorZ09
import Derived.Test.YtcckemhelockaaaGreatDoorZ15
import Derived.Test.YtcckemhelockaaaGreatDoorZ17
import Derived.Test.YtcckemhelockaaaGreatDoorZ64
namespace Go.Proofs.YtcckemhelockaaaGreatDoor
open Go.RowKit Go.Lib
set_option linter.unusedVariables false
set_option linter.unusedSimpArgs false

theorem RunTells_walk (a0 : Option Addr) (len0 cap0 : Nat) (z0 : List (Int × Int)) (a1 : Option Addr) (len1 cap1 : Nat) (z1 : List In) (a2 : Option Addr) (len2 cap2 : Nat) (z2 : List (Int × Int)) (a3 : Option Addr) (len3 cap3 : Nat) (z3 : List Of) (w : World) (w0 : PairsIn w a0 len0 z0) (w1 : len1 = z1.length ∧ InsArg w a1 cap1 z1) (w2 : PairsIn w a2 len2 z2) (w3 : len3 = z3.length ∧ OffArg w a3 cap3 z3) (hT : Tab w) :
    Calls Tryz.prog 3 #[.slice a0 len0 cap0, .slice a1 len1 cap1, .slice a2 len2 cap2, .slice a3 len3 cap3] w fun e w' => e = .returned (.bool true) ∧ Below w.heap.size w w' := by
  obtain rfl := w0.len
  obtain ⟨rfl, w1⟩ := w1
  obtain rfl := w2.len
  obtain ⟨rfl, w3⟩ := w3
  exact (RunTells_at runsOk a0 cap0 z0 a1 cap1 z1 a2 cap2 z2 a3 cap3 z3 w (Rel.start hT) w0 w1 w2 w3).mono fun e w' h => ⟨h.1, h.2.2⟩
end Go.Proofs.YtcckemhelockaaaGreatDoor
