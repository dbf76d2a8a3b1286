/- The law on floors and ceilings, walked. -/

import Derived.Test.YtfekhbeaphpelaaGreatDoorZ02
set_option maxRecDepth 100000
set_option maxHeartbeats 8000000
namespace Go.Proofs.YtfekhbeaphpelaaGreatDoor
open Go.RowKit Go.Lib
set_option linter.unusedVariables false
set_option linter.unusedSimpArgs false
theorem targ_of2{f c m o b:Int}{t:List UInt8}(hn:1≤f∧f≤c∧c≤1000000000000∧0≤m∧m≤c∧0≤o∧o≤1048576∧0≤b∧b≤1000000000000)(ht:textE t=0)(os:List Of):targetC (f,c,m,o,b,t) os=(tellT t os).map fun n=>max (max f m) (min n c):=
 target_of (c:=(f,c,m,o,b,t)) (nums_iff.2 hn) ht os
end Go.Proofs.YtfekhbeaphpelaaGreatDoor
