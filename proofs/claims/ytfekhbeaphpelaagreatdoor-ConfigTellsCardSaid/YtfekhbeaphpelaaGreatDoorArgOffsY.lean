/- Offers as an argument, opened. -/
import Derived.Test.YtfekhbeaphpelaaGreatDoorArgPairsY
import Derived.ChangeArms
import Derived.Test.YtfekhbeaphpelaaGreatDoorY12
set_option maxRecDepth 100000
set_option maxHeartbeats 8000000
set_option linter.unusedVariables false
set_option linter.unusedSimpArgs false
namespace Go.Proofs.YtfekhbeaphpelaaGreatDoor
open Go.RowKit Go.ChangeShapes Go.WideShapes
open Go.Lib
set_option linter.unusedVariables false
set_option linter.unusedSimpArgs false

section
variable {H:Type} {enc:TypeId×Value→H} {w:World} {base:Nat} {held:Bool}
theorem offer_open{fuel:Nat}{cs:List Value}{x:DataW H×List MemPlace}(h:DataW.trod enc Tryz.prog w base (fun _=>true) held fuel 46 cs=some x):∃(s:ByteArray)(p:Int),cs=[.string s,yI p]∧s.size≤maxLen∧(Lit.int .i64 p).wf=true:=by
 obtain⟨xs,m,rfl,_,hl,hxl,hi⟩:=DataW.trod_struct Tryz.underlying46 h
 have c2:Tryz.prog.cellsOf 46=2:=by kernel_rfl
 have c1:Tryz.prog.cellsOf 3=1:=by kernel_rfl
 have cs1:Tryz.prog.cellsOf 9=1:=by kernel_rfl
 rw[c2] at hl
 match cs,hl with
 |[u,v],_=>
  have h0:DataW.trod enc Tryz.prog w base (fun _=>true) held m 9 (([u,v].drop 0).take (Tryz.prog.cellsOf 9))=xs[0]?:=hi 0 _ rfl
  have h1:DataW.trod enc Tryz.prog w base (fun _=>true) held m 3 (([u,v].drop 1).take (Tryz.prog.cellsOf 3))=xs[1]?:=hi 1 _ rfl
  have hx2:xs.length=2:=hxl
  rw[cs1,List.getElem?_eq_getElem (by omega)] at h0
  rw[c1,List.getElem?_eq_getElem (by omega)] at h1
  obtain⟨s,hs,_,ws⟩:=DataW.trod_string Tryz.underlying9 h0
  obtain⟨p,hp,_,wp⟩:=DataW.trod_int Tryz.underlying3 h1
  simp at hs hp
  exact⟨s,p,by rw[hs,hp],ws,wp⟩
theorem offs_open{fuel:Nat}{A:Option Addr}{len cap:Nat}{x:DataW H×List MemPlace}(h:DataW.trod enc Tryz.prog w base (fun _=>true) held fuel 27 [.slice A len cap]=some x):∃os:List Of,len=os.length∧OffArg w A cap os:=by
 rcases Go.Deep.open_slice Tryz.underlying27 h with ⟨hcs,_⟩|⟨a,l,c,m,n,D,Pl,hcs,_,hl,hm,hmm,_,hx⟩
 ·simp only[List.cons.injEq,Value.slice.injEq,and_true] at hcs
  obtain⟨rfl,rfl,rfl⟩:=hcs
  exact⟨[],rfl,offArg_nil w⟩
 ·simp only[List.cons.injEq,Value.slice.injEq,and_true] at hcs
  obtain⟨rfl,rfl,rfl⟩:=hcs
  simp only[if_true] at hmm
  have c2:Tryz.prog.cellsOf 46=2:=by kernel_rfl
  rw[c2] at hx
  obtain⟨f,hf⟩:=Go.Deep.choose_lt (α:=Of) (n:=len) (p:=fun i q=>w.cell? (a.add (i*2))=some (.string (B q.1))∧w.cell? (a.add (i*2+1))=some (yI q.2)∧q.1.length≤maxLen∧(Lit.int .i64 q.2).wf=true) (fun i hi=>by
   obtain⟨cs',h1,h2⟩:=hx i (by omega)
   obtain⟨s,p,rfl,ws,wp⟩:=offer_open h2
   obtain⟨_,_,hcell⟩:=World.cells?_some h1
   have e0:=hcell 0 (by omega)
   have e1:=hcell 1 (by omega)
   rw[Go.Deep.add_add] at e0 e1
   exact⟨(s.data.toList,p),by rw[B_of];simpa using e0,by simpa using e1,by simpa using ws,wp⟩)
  have hlen:((List.range len).map f).length=len:=by rw[List.length_map,List.length_range]
  have ha:0<len→∃g off,a=⟨g,off,none⟩:=fun h0=>by
   obtain⟨e0,_⟩:=hf 0 h0
   obtain⟨g,off,cur⟩:=a
   cases cur with
   |none=>exact⟨g,off,rfl⟩
   |some k=>
    exfalso
    rw[Nat.zero_mul] at e0
    simp only[Addr.add,World.cell?,if_true] at e0
    split at e0<;>simp at e0
  refine⟨(List.range len).map f,hlen.symm,by rw[hlen];exact hl,hm,fun o ho=> ?_,fun i hi=> ?_⟩
  ·obtain⟨r,hr,rfl⟩:=List.mem_map.1 ho
   have:=hf r (List.mem_range.1 hr)
   exact⟨by have:=this.2.2.1;unfold maxLen at this;omega,(wf64 this.2.2.2)⟩
  ·rw[hlen] at hi
   obtain⟨e0,e1,_,_⟩:=hf i hi
   have eg:((List.range len).map f)[i]'(by rw[hlen];exact hi)=f i:=by rw[List.getElem_map,List.getElem_range]
   obtain⟨g,off,rfl⟩:=ha (by omega)
   refine⟨g,off,rfl,by have:=blk_of_cell e0;rwa [block_add] at this, ?_, ?_⟩
   ·rw[eg,←Nat.add_zero off];rw[addr_at] at e0;exact e0
   ·rw[eg];rw[addr_at] at e1;rw[Nat.add_assoc];exact e1
end
end Go.Proofs.YtfekhbeaphpelaaGreatDoor
