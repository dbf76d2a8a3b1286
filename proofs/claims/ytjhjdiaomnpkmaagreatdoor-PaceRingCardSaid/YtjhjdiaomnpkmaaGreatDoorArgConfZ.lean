/- A config by value, and six raw numbers by value, as arguments, opened. -/
import Derived.Test.YtjhjdiaomnpkmaaGreatDoorArgOffsZ
import Derived.ChangeArms
import Derived.WideShapes
import Derived.Test.YtjhjdiaomnpkmaaGreatDoorRows
import Derived.Test.YtjhjdiaomnpkmaaGreatDoorZ11
set_option maxRecDepth 100000
set_option maxHeartbeats 8000000
set_option linter.unusedVariables false
set_option linter.unusedSimpArgs false
namespace Go.Proofs.YtjhjdiaomnpkmaaGreatDoor
open Go.RowKit Go.ChangeShapes Go.WideShapes
open Go.Lib
set_option linter.unusedVariables false
set_option linter.unusedSimpArgs false

theorem wf64c{a:Int}(h:(Lit.int .i64 a).wf=true):i64 a:=by
 have h2: -9223372036854775808≤a∧a≤9223372036854775807:=by have:=bounds_i64 h;omega
 exact h2
theorem okWide_arr6{P:Program}{w:World}{r:Reach}{base:Nat}{t e:TypeId}{n:Nat}{v:Value}(ht:P.underlying t=some (.array n e))(h:Value.okWide P w r base t v):∃cs,v= .agg cs∧cs.size=P.cellsOf t:=by
 simp only[Value.okWide,ht] at h
 obtain⟨cs,h1,h2,_⟩:=h
 exact⟨cs,h1,h2⟩
abbrev Raw6:=Int×Int×Int×Int×Int×Int
abbrev RV6(r:Raw6):Value:= .agg #[.int .i64 r.1,.int .i64 r.2.1,.int .i64 r.2.2.1,.int .i64 r.2.2.2.1,.int .i64 r.2.2.2.2.1,.int .i64 r.2.2.2.2.2]
def Raw6Fit(r:Raw6):Prop:=i64 r.1∧i64 r.2.1∧i64 r.2.2.1∧i64 r.2.2.2.1∧i64 r.2.2.2.2.1∧i64 r.2.2.2.2.2
section
variable {H:Type} {enc:TypeId×Value→H} {w:World} {base:Nat} {held:Bool}
theorem conf_cells{fuel:Nat}{cs:List Value}{x:DataW H×List MemPlace}(h:DataW.trod enc Tryz.prog w base (fun _=>true) held fuel 24 cs=some x):∃c:Cf,cs=[.int .i64 (flC c),.int .i64 (ceC c),.int .i64 (mpC c),.int .i64 (coC c),.int .i64 (bdC c),.string (B (txC c))]∧CfFit c:=by
 obtain⟨xs,m,rfl,_,hl,hxl,hi⟩:=DataW.trod_struct Tryz.underlying24 h
 have c6:Tryz.prog.cellsOf 24=6:=by kernel_rfl
 have c1:Tryz.prog.cellsOf 3=1:=by kernel_rfl
 have cs1:Tryz.prog.cellsOf 9=1:=by kernel_rfl
 rw[c6] at hl
 match cs,hl with
 |[v0,v1,v2,v3,v4,v5],_=>
  have h0:DataW.trod enc Tryz.prog w base (fun _=>true) held m 3 (([v0,v1,v2,v3,v4,v5].drop 0).take (Tryz.prog.cellsOf 3))=xs[0]?:=hi 0 _ rfl
  have h1:DataW.trod enc Tryz.prog w base (fun _=>true) held m 3 (([v0,v1,v2,v3,v4,v5].drop 1).take (Tryz.prog.cellsOf 3))=xs[1]?:=hi 1 _ rfl
  have h2:DataW.trod enc Tryz.prog w base (fun _=>true) held m 3 (([v0,v1,v2,v3,v4,v5].drop 2).take (Tryz.prog.cellsOf 3))=xs[2]?:=hi 2 _ rfl
  have h3:DataW.trod enc Tryz.prog w base (fun _=>true) held m 3 (([v0,v1,v2,v3,v4,v5].drop 3).take (Tryz.prog.cellsOf 3))=xs[3]?:=hi 3 _ rfl
  have h4:DataW.trod enc Tryz.prog w base (fun _=>true) held m 3 (([v0,v1,v2,v3,v4,v5].drop 4).take (Tryz.prog.cellsOf 3))=xs[4]?:=hi 4 _ rfl
  have h5:DataW.trod enc Tryz.prog w base (fun _=>true) held m 9 (([v0,v1,v2,v3,v4,v5].drop 5).take (Tryz.prog.cellsOf 9))=xs[5]?:=hi 5 _ rfl
  have hx6:xs.length=6:=hxl
  rw[cs1,List.getElem?_eq_getElem (by omega)] at h5
  rw[c1,List.getElem?_eq_getElem (by omega)] at h0 h1 h2 h3 h4
  obtain⟨p0,e0,_,w0⟩:=DataW.trod_int Tryz.underlying3 h0
  obtain⟨p1,e1,_,w1⟩:=DataW.trod_int Tryz.underlying3 h1
  obtain⟨p2,e2,_,w2⟩:=DataW.trod_int Tryz.underlying3 h2
  obtain⟨p3,e3,_,w3⟩:=DataW.trod_int Tryz.underlying3 h3
  obtain⟨p4,e4,_,w4⟩:=DataW.trod_int Tryz.underlying3 h4
  obtain⟨s5,e5,_,w5⟩:=DataW.trod_string Tryz.underlying9 h5
  simp at e0 e1 e2 e3 e4 e5
  unfold maxLen at w5
  refine⟨(p0,p1,p2,p3,p4,s5.data.toList),by rw[e0,e1,e2,e3,e4,e5];show[Value.int .i64 p0,.int .i64 p1,.int .i64 p2,.int .i64 p3,.int .i64 p4,.string s5]=[Value.int .i64 p0,.int .i64 p1,.int .i64 p2,.int .i64 p3,.int .i64 p4,.string (B s5.data.toList)];rw[B_of], ?_⟩
  exact⟨⟨wf64c w0,wf64c w1,wf64c w2,wf64c w3,wf64c w4⟩,by show s5.data.toList.length≤_;simpa using Nat.le_trans w5 (by decide)⟩
theorem raw6_cells{fuel:Nat}{cs:List Value}{x:DataW H×List MemPlace}(h:DataW.trod enc Tryz.prog w base (fun _=>true) held fuel 22 cs=some x):∃r:Raw6,cs=[.int .i64 r.1,.int .i64 r.2.1,.int .i64 r.2.2.1,.int .i64 r.2.2.2.1,.int .i64 r.2.2.2.2.1,.int .i64 r.2.2.2.2.2]∧Raw6Fit r:=by
 obtain⟨xs,m,rfl,_,hl,hxl,hi⟩:=DataW.trod_array Tryz.underlying22 h
 have c6:Tryz.prog.cellsOf 22=6:=by kernel_rfl
 have c1:Tryz.prog.cellsOf 3=1:=by kernel_rfl
 rw[c6] at hl
 match cs,hl with
 |[v0,v1,v2,v3,v4,v5],_=>
  have h0:=hi 0 (by omega)
  have h1:=hi 1 (by omega)
  have h2:=hi 2 (by omega)
  have h3:=hi 3 (by omega)
  have h4:=hi 4 (by omega)
  have h5:=hi 5 (by omega)
  rw[c1] at h0 h1 h2 h3 h4 h5
  rw[List.getElem?_eq_getElem (by omega)] at h0 h1 h2 h3 h4 h5
  obtain⟨p0,e0,_,w0⟩:=DataW.trod_int Tryz.underlying3 h0
  obtain⟨p1,e1,_,w1⟩:=DataW.trod_int Tryz.underlying3 h1
  obtain⟨p2,e2,_,w2⟩:=DataW.trod_int Tryz.underlying3 h2
  obtain⟨p3,e3,_,w3⟩:=DataW.trod_int Tryz.underlying3 h3
  obtain⟨p4,e4,_,w4⟩:=DataW.trod_int Tryz.underlying3 h4
  obtain⟨p5,e5,_,w5⟩:=DataW.trod_int Tryz.underlying3 h5
  simp at e0 e1 e2 e3 e4 e5
  exact⟨(p0,p1,p2,p3,p4,p5),by rw[e0,e1,e2,e3,e4,e5],wf64c w0,wf64c w1,wf64c w2,wf64c w3,wf64c w4,wf64c w5⟩
theorem conf_open{r:Reach}{b0:Nat}{v:Value}{d:DataW H}{p:List MemPlace}(hv:Value.okWide Tryz.prog w r b0 24 v)(h:DataW.Trod enc Tryz.prog w base (fun _=>true) held 24 v d p):∃c:Cf,v=CfV c∧CfFit c:=by
 obtain⟨cs,rfl,_⟩:=okWide_struct Tryz.underlying24 hv
 obtain⟨fuel,hf⟩:=h
 obtain⟨c,hc,hfit⟩:=conf_cells hf
 refine⟨c, ?_,hfit⟩
 have hc:cs.toList=_:=hc
 show Value.agg cs= .agg _
 congr 1
 exact Array.toList_inj.1 hc
theorem raw6_open{r:Reach}{b0:Nat}{v:Value}{d:DataW H}{p:List MemPlace}(hv:Value.okWide Tryz.prog w r b0 22 v)(h:DataW.Trod enc Tryz.prog w base (fun _=>true) held 22 v d p):∃q:Raw6,v=RV6 q∧Raw6Fit q:=by
 obtain⟨cs,rfl,hsz⟩:=okWide_arr6 Tryz.underlying22 hv
 obtain⟨fuel,hf⟩:=h
 obtain⟨q,hc,hfit⟩:=raw6_cells hf
 refine⟨q, ?_,hfit⟩
 have hc:cs.toList=_:=hc
 show Value.agg cs= .agg _
 congr 1
 exact Array.toList_inj.1 hc
end
end Go.Proofs.YtjhjdiaomnpkmaaGreatDoor
