/- ConfigFloor's walk for its card, over what the program was shown to tell. -/
import Derived.Test.YtfekhbeaphpelaaGreatDoorArgConfZ
import Derived.Test.YtfekhbeaphpelaaGreatDoorZ25
import Derived.Test.YtfekhbeaphpelaaGreatDoorZ31
set_option maxRecDepth 100000
set_option maxHeartbeats 8000000
namespace Go.Proofs.YtfekhbeaphpelaaGreatDoor
open Go.RowKit Go.Lib
set_option linter.unusedVariables false
set_option linter.unusedSimpArgs false

theorem ConfigFloor_walk(a0:Raw6)(a1:Option Addr)(len1 cap1:Nat)(z1:List Int)(a2:Option Addr)(len2 cap2:Nat)(z2:List (Int×Int))(a3 a4:Int)(w:World)(w0:Raw6Fit a0)(w1:IsRow .i64 w a1 len1 cap1 z1)(w2:PairsIn w a2 len2 z2)(w3:(Lit.int .i64 a3).wf=true)(w4:(Lit.int .i64 a4).wf=true)(hT:Tab w):
  Calls Tryz.prog 6 #[RV6 a0,.slice a1 len1 cap1,.slice a2 len2 cap2,.int .i64 a3,.int .i64 a4] w fun e w'=>e= .returned (.bool true)∧Below w.heap.size w w':=by
 obtain⟨L,rfl,hi⟩:=ints_of w1
 obtain rfl:=w2.len
 obtain⟨r0,r1,r2,r3,r4,r5⟩:=a0
 obtain⟨h0,h1,h2,h3,h4,h5⟩:=w0
 exact(ConfigFloor_at confProOk r0 r1 r2 r3 r4 r5 L a1 cap1 z2 a2 cap2 a3 a4 (wf64c w3) (wf64c w4) w (Rel.start hT) hi w2 h0 h1 h2 h3 h4 h5).mono fun e w' h=>⟨h.1,h.2.2⟩
end Go.Proofs.YtfekhbeaphpelaaGreatDoor
