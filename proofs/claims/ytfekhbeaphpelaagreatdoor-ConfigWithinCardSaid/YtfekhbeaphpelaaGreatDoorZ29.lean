/- Plain mathematics of layer 14: what may be asked for. No program in this text. -/

import Derived.Test.YtfekhbeaphpelaaGreatDoorZ02
set_option maxRecDepth 100000
set_option maxHeartbeats 8000000
namespace Go.Proofs.YtfekhbeaphpelaaGreatDoor
open Go.Lib
set_option linter.unusedVariables false
set_option linter.unusedSimpArgs false
theorem low_le{c:Cf}(h:numsOk c=true):lowC c≤ceC c:=by
 have:=nums_iff.1 h;unfold lowC;omega
end Go.Proofs.YtfekhbeaphpelaaGreatDoor
