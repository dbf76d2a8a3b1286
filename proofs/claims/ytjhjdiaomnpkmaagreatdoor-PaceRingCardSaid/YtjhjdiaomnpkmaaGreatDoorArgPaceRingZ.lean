/- PaceRing's walk for its card, over what the program was shown to tell. -/
import Derived.Test.YtjhjdiaomnpkmaaGreatDoorArgConfZ
import Derived.Test.YtjhjdiaomnpkmaaGreatDoorArgPairsZ
import Derived.Test.YtjhjdiaomnpkmaaGreatDoorZ23
import Derived.Test.YtjhjdiaomnpkmaaGreatDoorZ31
set_option maxRecDepth 100000
set_option maxHeartbeats 8000000
set_option linter.unusedVariables false
set_option linter.unusedSimpArgs false
namespace Go.Proofs.YtjhjdiaomnpkmaaGreatDoor
open Go.RowKit Go.Lib
set_option linter.unusedVariables false
set_option linter.unusedSimpArgs false

theorem PaceRing_walk(a0:Raw6)(a1:Option Addr)(len1 cap1:Nat)(z1:List (Int×Int))(w:World)(w0:Raw6Fit a0)(w1:PairsIn w a1 len1 z1)(hT:Tab w):
  Calls Tryz.prog 7 #[RV6 a0,.slice a1 len1 cap1] w fun e w'=>e= .returned (.bool true)∧Below w.heap.size w w':=by
 obtain rfl:=w1.len
 obtain⟨r0,r1,r2,r3,r4,r5⟩:=a0
 obtain⟨h0,h1,h2,h3,h4,h5⟩:=w0
 exact(PaceRing_at confOk15 paceOk15 r0 r1 r2 r3 r4 r5 z1 a1 cap1 w (Rel.start hT) w1 h0 h1 h2 h3 h4 h5).mono fun e w' h=>⟨h.1,h.2.2⟩
end Go.Proofs.YtjhjdiaomnpkmaaGreatDoor
