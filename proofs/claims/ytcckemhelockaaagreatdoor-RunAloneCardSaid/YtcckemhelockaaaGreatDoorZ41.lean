/- RunSame, over what the program is asked. -/
import Derived.Test.YtcckemhelockaaaGreatDoorZL
import Derived.Test.YtcckemhelockaaaGreatDoorZ00
import Derived.Test.YtcckemhelockaaaGreatDoorZ01
import Derived.Test.YtcckemhelockaaaGreatDoorZ02
import Derived.Test.YtcckemhelockaaaGreatDoorZ04
import Derived.Test.YtcckemhelockaaaGreatDoorZ09
namespace Go.Proofs.YtcckemhelockaaaGreatDoor
open Go.RowKit Go.Lib
set_option linter.unusedVariables false
set_option linter.unusedSimpArgs false
theorem eval11 (H : EvalOk) (x : Ex) (os : List Of) (m : Nat) (v e : Int) (b : Bool) (hv : Hid (RV (evalS os x) = .tuple #[.int .i64 v, .bool b, .int .i64 e])) (hm : Hid (os.length = m)) (S : Nat → Prop) (el : El) (A : Option Addr) (c : Nat) (w0 w : World) (hr : Rel w0 w) (h : ExAt S w el x) (hz : size x ≤ 90000) (ho : OffArg w A c os) (ev : Value) (he : Hid (EV el = ev)) :
    Calls Tryz.prog 19 #[ev, .slice A m c] w fun z w' => z = .returned (.tuple #[.int .i64 v, .bool b, .int .i64 e]) ∧ Rel w0 w' := by
  rw [← he.out, ← hm.out, ← hv.out]; exact H x S el A c os w0 w hr h hz ho
end Go.Proofs.YtcckemhelockaaaGreatDoor
