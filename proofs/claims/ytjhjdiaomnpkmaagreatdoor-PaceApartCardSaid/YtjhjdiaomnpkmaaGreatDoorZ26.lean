/- A raw config. -/

import Derived.Test.YtjhjdiaomnpkmaaGreatDoorZ25
set_option maxRecDepth 100000
set_option maxHeartbeats 8000000
set_option linter.unusedVariables false
set_option linter.unusedSimpArgs false
namespace Go.Proofs.YtjhjdiaomnpkmaaGreatDoor
open Go.RowKit Go.Lib
theorem row15_at{w:World}{D:Option Addr}{l:List (Int×Int)}(h:RowAt clP15 2 w D l)(h0:0<l.length):∃g off:Nat,D=some ⟨g,off,none⟩∧∀i (hi:i<l.length),w.cell? ⟨g,off+i*2,none⟩=some (.int .i64 l[i].1)∧w.cell? ⟨g,off+i*2+1,none⟩=some (.int .i64 l[i].2):=by
 obtain⟨g,off,rfl,_,_⟩:=h 0 h0
 refine⟨g,off,rfl,fun i hi=> ?_⟩
 obtain⟨g',off',e,_,hc⟩:=h i hi
 injection e with e
 injection e with e1 e2
 subst e1;subst e2
 exact⟨hc 0 (by decide),hc 1 (by decide)⟩
end Go.Proofs.YtjhjdiaomnpkmaaGreatDoor
