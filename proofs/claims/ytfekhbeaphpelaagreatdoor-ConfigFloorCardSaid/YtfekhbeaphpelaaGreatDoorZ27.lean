/- The law on floors and ceilings, walked. -/

import Derived.Test.YtfekhbeaphpelaaGreatDoorZ10
set_option maxRecDepth 100000
set_option maxHeartbeats 8000000
namespace Go.Proofs.YtfekhbeaphpelaaGreatDoor
open Go.RowKit Go.Lib
set_option linter.unusedVariables false
set_option linter.unusedSimpArgs false
theorem fit_of{f c m o b f' c' m' o' b':Int}{t:List UInt8}(h:CfFit (f,c,m,o,b,t))(h1:i64 f')(h2:i64 c')(h3:i64 m')(h4:i64 o')(h5:i64 b'):CfFit (f',c',m',o',b',t):=⟨⟨h1,h2,h3,h4,h5⟩,h.2⟩
theorem i64_of{x:Int}(h0: -1≤x)(h1:x≤10000):i64 x:=⟨by omega,by omega⟩
end Go.Proofs.YtfekhbeaphpelaaGreatDoor
