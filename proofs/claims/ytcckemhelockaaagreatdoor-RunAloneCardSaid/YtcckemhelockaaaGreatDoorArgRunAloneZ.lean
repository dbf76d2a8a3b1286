/- RunAlone's walk for its proof, over what the program was shown to tell. -/
import Derived.Test.YtcckemhelockaaaGreatDoorArgPairsZ
import Derived.Test.YtcckemhelockaaaGreatDoorZ00
import Derived.Test.YtcckemhelockaaaGreatDoorZ01
import Derived.Test.YtcckemhelockaaaGreatDoorZ03
import Derived.Test.YtcckemhelockaaaGreatDoorZ04
import Derived.Test.YtcckemhelockaaaGreatDoorZ07
import Derived.Test.YtcckemhelockaaaGreatDoorZ09
import Derived.Test.YtcckemhelockaaaGreatDoorZ15
import Derived.Test.YtcckemhelockaaaGreatDoorZ17
import Derived.Test.YtcckemhelockaaaGreatDoorZ32
import Derived.Test.YtcckemhelockaaaGreatDoorZ35
import Derived.Test.YtcckemhelockaaaGreatDoorZ53
namespace Go.Proofs.YtcckemhelockaaaGreatDoor
open Go.RowKit Go.Lib
set_option linter.unusedVariables false
set_option linter.unusedSimpArgs false

theorem RunAlone_walk (a0 : Option Addr) (len0 cap0 : Nat) (z0 : List Int) (a1 : Option Addr) (len1 cap1 : Nat) (z1 : List Int) (a2 : Option Addr) (len2 cap2 : Nat) (z2 : List (Int × Int)) (w : World) (w0 : IsRow .i64 w a0 len0 cap0 z0) (w1 : IsRow .i64 w a1 len1 cap1 z1) (w2 : PairsIn w a2 len2 z2) (hT : Tab w) :
    Calls Tryz.prog 8 #[.slice a0 len0 cap0, .slice a1 len1 cap1, .slice a2 len2 cap2] w fun e w' => e = .returned (.bool true) ∧ Below w.heap.size w w' := by
  obtain ⟨L0, rfl, i0⟩ := ints_of w0
  obtain ⟨L1, rfl, i1⟩ := ints_of w1
  obtain rfl := w2.len
  exact (RunAlone_at runsOk compile_any veval_any a0 cap0 L0 a1 cap1 L1 a2 cap2 z2 w (Rel.start hT) i0 i1 w2).mono fun e w' h => ⟨h.1, h.2.2⟩
end Go.Proofs.YtcckemhelockaaaGreatDoor
