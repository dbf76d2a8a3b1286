/- ConfigAlone's walk for its card, over what the program was shown to tell. -/
import Derived.Test.YtfekhbeaphpelaaGreatDoorArgConfZ
import Derived.Test.YtfekhbeaphpelaaGreatDoorZ25
import Derived.Test.YtfekhbeaphpelaaGreatDoorZ30
set_option maxRecDepth 100000
set_option maxHeartbeats 8000000
namespace Go.Proofs.YtfekhbeaphpelaaGreatDoor
open Go.RowKit Go.Lib
set_option linter.unusedVariables false
set_option linter.unusedSimpArgs false

theorem ConfigAlone_walk(a0:Raw6)(a1:ByteArray)(a2:Int)(w:World)(w0:Raw6Fit a0)(s1:a1.size≤140737488351232)(w2:(Lit.int .i64 a2).wf=true)(hT:Tab w):
  Calls Tryz.prog 8 #[RV6 a0,.string a1,.int .i64 a2] w fun e w'=>e= .returned (.bool true)∧Below w.heap.size w w':=by
 obtain⟨r0,r1,r2,r3,r4,r5⟩:=a0
 obtain⟨h0,h1,h2,h3,h4,h5⟩:=w0
 exact(ConfigAlone_at confProOk r0 r1 r2 r3 r4 r5 a1 (Nat.le_trans s1 (by decide)) a2 (wf64c w2) w (Rel.start hT) h0 h1 h2 h3 h4 h5).mono fun e w' h=>⟨h.1,h.2.2⟩
end Go.Proofs.YtfekhbeaphpelaaGreatDoor
