/- PaceTells's walk for its card, over what the program was shown to tell. -/
import Derived.Test.YtjhjdiaomnpkmaaGreatDoorArgConfZ
import Derived.Test.YtjhjdiaomnpkmaaGreatDoorArgPaceZ
import Derived.Test.YtjhjdiaomnpkmaaGreatDoorZ23
import Derived.Test.YtjhjdiaomnpkmaaGreatDoorZ42
set_option maxRecDepth 100000
set_option maxHeartbeats 8000000
set_option linter.unusedVariables false
set_option linter.unusedSimpArgs false
namespace Go.Proofs.YtjhjdiaomnpkmaaGreatDoor
open Go.RowKit Go.Lib
set_option linter.unusedVariables false
set_option linter.unusedSimpArgs false

theorem PaceTells_walk(a0:Raw6)(a1:Cf)(a2:PaG)(a3 a4:Int)(w:World)(w0:Raw6Fit a0)(w1:CfFit a1)(w2:PaAt w a2.1 a2.2.1 a2.2.2.1 a2.2.2.2∧(a2.2.1=none→a2.2.2.2=0))(w3:(Lit.int .i64 a3).wf=true)(w4:(Lit.int .i64 a4).wf=true)(hT:Tab w):
  Calls Tryz.prog 3 #[RV6 a0,CfV a1,PaGV a2,.int .i64 a3,.int .i64 a4] w fun e w'=>e= .returned (.bool true)∧Below w.heap.size w w':=by
 obtain⟨r0,r1,r2,r3,r4,r5⟩:=a0
 obtain⟨h0,h1,h2,h3,h4,h5⟩:=w0
 obtain⟨f1,c1,m1,o1,b1,u⟩:=a1
 obtain⟨⟨la,at_,L,sw⟩,A,n,k⟩:=a2
 exact(PaceTells_at confOk15 paceOk15 r0 r1 r2 r3 r4 r5 f1 c1 m1 o1 b1 u (B u) rfl w1 la at_ sw L A n k a3 a4 (wf64c w3) (wf64c w4) w (Rel.start hT) w2.1 w2.2 h0 h1 h2 h3 h4 h5).mono fun e w' h=>⟨h.1,h.2.2⟩
end Go.Proofs.YtjhjdiaomnpkmaaGreatDoor
