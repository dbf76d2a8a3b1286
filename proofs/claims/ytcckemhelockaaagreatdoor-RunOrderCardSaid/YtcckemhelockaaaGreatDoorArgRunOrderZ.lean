/- RunOrder's walk for its proof, over what the program was shown to tell. -/
import Derived.Test.YtcckemhelockaaaGreatDoorArgPairsZ
import Derived.Test.YtcckemhelockaaaGreatDoorZ00
import Derived.Test.YtcckemhelockaaaGreatDoorZ01
import Derived.Test.YtcckemhelockaaaGreatDoorZ03
import Derived.Test.YtcckemhelockaaaGreatDoorZ04
import Derived.Test.YtcckemhelockaaaGreatDoorZ07
import Derived.Test.YtcckemhelockaaaGreatDoorZ09
import Derived.Test.YtcckemhelockaaaGreatDoorZ15
import Derived.Test.YtcckemhelockaaaGreatDoorZ17
import Derived.Test.YtcckemhelockaaaGreatDoorZ19
import Derived.Test.YtcckemhelockaaaGreatDoorZ56
namespace Go.Proofs.YtcckemhelockaaaGreatDoor
open Go.RowKit Go.Lib
set_option linter.unusedVariables false
set_option linter.unusedSimpArgs false

theorem RunOrder_walk (a0 : Option Addr) (len0 cap0 : Nat) (z0 : List (Int × Int)) (a1 : Option Addr) (len1 cap1 : Nat) (z1 : List (Int × Int)) (a2 : Int) (w : World) (w0 : PairsIn w a0 len0 z0) (w1 : PairsIn w a1 len1 z1) (w2 : (Lit.int .i64 a2).wf = true) (hT : Tab w) :
    Calls Tryz.prog 7 #[.slice a0 len0 cap0, .slice a1 len1 cap1, .int .i64 a2] w fun e w' => e = .returned (.bool true) ∧ Below w.heap.size w w' := by
  obtain rfl := w0.len
  obtain rfl := w1.len
  exact (RunOrder_at runsOk a0 cap0 z0 a1 cap1 z1 a2 (wf64 w2) w (Rel.start hT) w0 w1).mono fun e w' h => ⟨h.1, h.2.2⟩
end Go.Proofs.YtcckemhelockaaaGreatDoor
