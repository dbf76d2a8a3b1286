/- ConfigTells's walk for its card, over what the program was shown to tell. -/
import Derived.Test.YtfekhbeaphpelaaGreatDoorArgConfY
import Derived.Test.YtfekhbeaphpelaaGreatDoorY22
set_option maxRecDepth 100000
set_option maxHeartbeats 8000000
set_option linter.unusedVariables false
set_option linter.unusedSimpArgs false
namespace Go.Proofs.YtfekhbeaphpelaaGreatDoor
open Go.RowKit Go.Lib
set_option linter.unusedVariables false
set_option linter.unusedSimpArgs false

theorem ConfigTells_walk(a0:Raw6)(a1:Option Addr)(len1 cap1:Nat)(z1:List Int)(a2:Cf)(a3:Option Addr)(len3 cap3:Nat)(z3:List (Int×Int))(a4:Option Addr)(len4 cap4:Nat)(z4:List Of)(a5:Int)(w:World)(w0:Raw6Fit a0)(w1:IsRow .i64 w a1 len1 cap1 z1)(w2:CfFit a2)(w3:PairsIn w a3 len3 z3)(w4:len4=List.length z4∧OffArg w a4 cap4 z4)(w5:(Lit.int .i64 a5).wf=true)(hT:Tab w):
  Calls Tryz.prog 3 #[RV6 a0,.slice a1 len1 cap1,CfV a2,.slice a3 len3 cap3,.slice a4 len4 cap4,yI a5] w fun e w'=>e= .returned (.bool true)∧Below w.heap.size w w':=by
 obtain⟨L,rfl,hi⟩:=ints_of w1
 obtain rfl:=w3.len
 obtain⟨rfl,w4⟩:=w4
 obtain⟨f1,c1,m1,o1,b1,u⟩:=a2
 obtain⟨r0,r1,r2,r3,r4,r5⟩:=a0
 obtain⟨h0,h1,h2,h3,h4,h5⟩:=w0
 exact(ConfigTells_at confProOk r0 r1 r2 r3 r4 r5 L a1 cap1 f1 c1 m1 o1 b1 u (B u) rfl w2 z3 a3 cap3 z4 a4 cap4 z4.length rfl a5 (wf64c w5) w (Rel.start hT) hi w3 w4 h0 h1 h2 h3 h4 h5).mono fun e w' h=>⟨h.1,h.2.2⟩
end Go.Proofs.YtfekhbeaphpelaaGreatDoor
