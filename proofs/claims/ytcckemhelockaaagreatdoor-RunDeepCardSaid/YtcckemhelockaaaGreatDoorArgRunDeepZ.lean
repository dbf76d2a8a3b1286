/- RunDeep's walk for its proof, over what the program was shown to tell. -/
import Derived.Test.YtcckemhelockaaaGreatDoorArgPairsZ
import Derived.Test.YtcckemhelockaaaGreatDoorZ00
import Derived.Test.YtcckemhelockaaaGreatDoorZ01
import Derived.Test.YtcckemhelockaaaGreatDoorZ03
import Derived.Test.YtcckemhelockaaaGreatDoorZ04
import Derived.Test.YtcckemhelockaaaGreatDoorZ07
import Derived.Test.YtcckemhelockaaaGreatDoorZ09
import Derived.Test.YtcckemhelockaaaGreatDoorZ15
import Derived.Test.YtcckemhelockaaaGreatDoorZ17
import Derived.Test.YtcckemhelockaaaGreatDoorZ19
import Derived.Test.YtcckemhelockaaaGreatDoorZ55
namespace Go.Proofs.YtcckemhelockaaaGreatDoor
open Go.RowKit Go.Lib
set_option linter.unusedVariables false
set_option linter.unusedSimpArgs false

theorem RunDeep_walk (a0 : Int) (a1 : Option Addr) (len1 cap1 : Nat) (z1 : List (Int × Int)) (w : World) (w0 : (Lit.int .i64 a0).wf = true) (w1 : PairsIn w a1 len1 z1) (hT : Tab w) :
    Calls Tryz.prog 6 #[.int .i64 a0, .slice a1 len1 cap1] w fun e w' => e = .returned (.bool true) ∧ Below w.heap.size w w' := by
  obtain rfl := w1.len
  exact (RunDeep_at runsOk a0 (wf64 w0) a1 cap1 z1 w (Rel.start hT) w1).mono fun e w' h => ⟨h.1, h.2.2⟩
end Go.Proofs.YtcckemhelockaaaGreatDoor
