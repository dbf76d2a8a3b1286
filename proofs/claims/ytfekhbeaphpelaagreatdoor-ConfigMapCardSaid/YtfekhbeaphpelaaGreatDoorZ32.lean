/- The law on floors and ceilings, walked. -/

import Derived.Test.YtfekhbeaphpelaaGreatDoorZ02
set_option maxRecDepth 100000
set_option maxHeartbeats 8000000
namespace Go.Proofs.YtfekhbeaphpelaaGreatDoor
open Go.RowKit Go.Lib
set_option linter.unusedVariables false
set_option linter.unusedSimpArgs false
theorem check_map{f c m o b m' o' b' f' c':Int}{t:List UInt8}(h:checkC (f,c,m,o,b,t)=0)(hn:1≤f'∧f'≤c'∧c'≤1000000000000∧0≤m'∧m'≤c'∧0≤o'∧o'≤1048576∧0≤b'∧b'≤1000000000000):checkC (f',c',m',o',b',t)=0:=
 check_zero.2 ⟨nums_iff.2 hn,(check_zero.1 h).2⟩
end Go.Proofs.YtfekhbeaphpelaaGreatDoor
