/- A pace by value, as an argument, opened. -/
import Derived.Test.YtjhjdiaomnpkmaaGreatDoorArgConfZ
import Derived.Test.YtjhjdiaomnpkmaaGreatDoorZ12
import Derived.Test.YtjhjdiaomnpkmaaGreatDoorZ37
set_option maxRecDepth 100000
set_option maxHeartbeats 8000000
set_option linter.unusedVariables false
set_option linter.unusedSimpArgs false
namespace Go.Proofs.YtjhjdiaomnpkmaaGreatDoor
open Go.RowKit Go.ChangeShapes Go.WideShapes
open Go.Lib
set_option linter.unusedVariables false
set_option linter.unusedSimpArgs false

section
variable {H:Type} {enc:TypeId×Value→H} {w:World} {base:Nat} {held:Bool}
abbrev PaG:=Pa15×Option Addr×Nat×Nat
abbrev PaGV(q:PaG):Value:= .agg #[.int .i64 (laP q.1),.int .i64 (atP q.1),.slice q.2.1 q.2.2.1 q.2.2.2,.int .i64 (swP q.1)]
theorem pace_cells{fuel:Nat}{cs:List Value}{x:DataW H×List MemPlace}(h:DataW.trod enc Tryz.prog w base (fun _=>true) held fuel 27 cs=some x):∃(p:Pa15)(A:Option Addr)(n k:Nat),cs=[.int .i64 (laP p),.int .i64 (atP p),.slice A n k,.int .i64 (swP p)]∧PaAt w p A n k∧(A=none→k=0):=by
 obtain⟨xs,m,rfl,_,hl,hxl,hi⟩:=DataW.trod_struct Tryz.underlying27 h
 have c4:Tryz.prog.cellsOf 27=4:=by kernel_rfl
 have c1:Tryz.prog.cellsOf 3=1:=by kernel_rfl
 have cs1:Tryz.prog.cellsOf 25=1:=by kernel_rfl
 rw[c4] at hl
 match cs,hl with
 |[v0,v1,v2,v3],_=>
  have h0:DataW.trod enc Tryz.prog w base (fun _=>true) held m 3 (([v0,v1,v2,v3].drop 0).take (Tryz.prog.cellsOf 3))=xs[0]?:=hi 0 _ rfl
  have h1:DataW.trod enc Tryz.prog w base (fun _=>true) held m 3 (([v0,v1,v2,v3].drop 1).take (Tryz.prog.cellsOf 3))=xs[1]?:=hi 1 _ rfl
  have h2:DataW.trod enc Tryz.prog w base (fun _=>true) held m 25 (([v0,v1,v2,v3].drop 2).take (Tryz.prog.cellsOf 25))=xs[2]?:=hi 2 _ rfl
  have h3:DataW.trod enc Tryz.prog w base (fun _=>true) held m 3 (([v0,v1,v2,v3].drop 3).take (Tryz.prog.cellsOf 3))=xs[3]?:=hi 3 _ rfl
  have hx4:xs.length=4:=hxl
  rw[cs1,List.getElem?_eq_getElem (by omega)] at h2
  rw[c1,List.getElem?_eq_getElem (by omega)] at h0 h1 h3
  obtain⟨p0,e0,_,w0⟩:=DataW.trod_int Tryz.underlying3 h0
  obtain⟨p1,e1,_,w1⟩:=DataW.trod_int Tryz.underlying3 h1
  obtain⟨p3,e3,_,w3⟩:=DataW.trod_int Tryz.underlying3 h3
  simp at e0 e1 e3
  have hg:∃(A:Option Addr)(n k:Nat)(z:List Int),v2= .slice A n k∧IsRow .i64 w A n k z:=by
   rcases open_ints Tryz.underlying25 Tryz.underlying3 (by kernel_rfl) h2 with ⟨hcs,_⟩|⟨x,l,c,zs,hcs,_,hl,hm,hz,_,hcell,hwz⟩
   ·simp at hcs
    exact⟨none,0,0,[],hcs,.inl ⟨rfl,rfl,rfl,rfl⟩⟩
   ·simp at hcs
    exact⟨some x,l,c,zs,hcs,.inr ⟨x,rfl,hl,hm,by simpa using hz,hcell,hwz⟩⟩
  obtain⟨A,n,k,z,rfl,hrow⟩:=hg
  have hA:A=none→k=0:=by
   intro e
   rcases hrow with ⟨_,_,h,_⟩|⟨x,h,_⟩
   ·exact h
   ·rw[h] at e;cases e
  obtain⟨L,hL,hin⟩:=ints_of hrow
  refine⟨(p0,p1,L,p3),A,n,k,by rw[e0,e1,e3],⟨hL.symm,⟨wf64c w0,wf64c w1,wf64c w3⟩,hin⟩,hA⟩
theorem pace_open{r:Reach}{b0:Nat}{v:Value}{d:DataW H}{p:List MemPlace}(hv:Value.okWide Tryz.prog w r b0 27 v)(h:DataW.Trod enc Tryz.prog w base (fun _=>true) held 27 v d p):∃q:PaG,v=PaGV q∧PaAt w q.1 q.2.1 q.2.2.1 q.2.2.2∧(q.2.1=none→q.2.2.2=0):=by
 obtain⟨cs,rfl,_⟩:=okWide_struct Tryz.underlying27 hv
 obtain⟨fuel,hf⟩:=h
 obtain⟨p,A,n,k,hc,hp⟩:=pace_cells hf
 refine⟨(p,A,n,k), ?_,hp⟩
 have hc:cs.toList=_:=hc
 show Value.agg cs= .agg _
 congr 1
 exact Array.toList_inj.1 hc
end
end Go.Proofs.YtjhjdiaomnpkmaaGreatDoor
