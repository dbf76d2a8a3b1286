/- Raw pairs as an argument, opened. -/
import Derived.Deep.Slices
import Derived.OpenShut
import Derived.Test.YtjhjdiaomnpkmaaGreatDoorZ03
set_option maxRecDepth 100000
set_option maxHeartbeats 8000000
set_option linter.unusedVariables false
set_option linter.unusedSimpArgs false
namespace Go.Proofs.YtjhjdiaomnpkmaaGreatDoor
open Go.RowKit Go.ChangeShapes Go.WideShapes
open Go.Lib
set_option linter.unusedVariables false
set_option linter.unusedSimpArgs false

section
variable {H:Type} {enc:TypeId×Value→H} {w:World} {base:Nat} {held:Bool}
theorem wf64Q{a:Int}(h:(Lit.int .i64 a).wf=true): -9223372036854775808≤a∧a≤9223372036854775807:=by
 have:=bounds_i64 h;omega
theorem pair_open{fuel:Nat}{cs:List Value}{x:DataW H×List MemPlace}(h:DataW.trod enc Tryz.prog w base (fun _=>true) held fuel 34 cs=some x):∃a b:Int,cs=[.int .i64 a,.int .i64 b]∧(Lit.int .i64 a).wf=true∧(Lit.int .i64 b).wf=true:=by
 obtain⟨xs,m,rfl,_,hl,hxl,hi⟩:=DataW.trod_array Tryz.underlying34 h
 have c2:Tryz.prog.cellsOf 34=2:=by kernel_rfl
 have c1:Tryz.prog.cellsOf 3=1:=by kernel_rfl
 rw[c2] at hl
 match cs,hl with
 |[u,v],_=>
  have h0:=hi 0 (by omega)
  have h1:=hi 1 (by omega)
  rw[c1] at h0 h1
  rw[List.getElem?_eq_getElem (by omega)] at h0 h1
  obtain⟨a,ha,_,wa⟩:=DataW.trod_int Tryz.underlying3 h0
  obtain⟨b,hb,_,wb⟩:=DataW.trod_int Tryz.underlying3 h1
  simp at ha hb
  exact⟨a,b,by rw[ha,hb],wa,wb⟩
theorem pairs_open{fuel:Nat}{A:Option Addr}{len cap:Nat}{x:DataW H×List MemPlace}(h:DataW.trod enc Tryz.prog w base (fun _=>true) held fuel 36 [.slice A len cap]=some x):∃zs,PairsIn w A len zs:=by
 rcases Go.Deep.open_slice Tryz.underlying36 h with ⟨hcs,_⟩|⟨a,l,c,m,n,D,Pl,hcs,_,hl,hm,hmm,_,hx⟩
 ·simp only[List.cons.injEq,Value.slice.injEq,and_true] at hcs
  obtain⟨rfl,rfl,rfl⟩:=hcs
  exact⟨[],rfl,Nat.zero_le _,fun z hz=>(by cases hz),fun i hi=>absurd hi (by simp)⟩
 ·simp only[List.cons.injEq,Value.slice.injEq,and_true] at hcs
  obtain⟨rfl,rfl,rfl⟩:=hcs
  simp only[if_true] at hmm
  have c2:Tryz.prog.cellsOf 34=2:=by kernel_rfl
  rw[c2] at hx
  obtain⟨f,hf⟩:=Go.Deep.choose_lt (α:=Int×Int) (n:=len) (p:=fun i q=>w.cell? (a.add (i*2))=some (.int .i64 q.1)∧w.cell? (a.add (i*2+1))=some (.int .i64 q.2)∧(Lit.int .i64 q.1).wf=true∧(Lit.int .i64 q.2).wf=true) (fun i hi=>by
   obtain⟨cs',h1,h2⟩:=hx i (by omega)
   obtain⟨u,v,rfl,wu,wv⟩:=pair_open h2
   obtain⟨_,_,hcell⟩:=World.cells?_some h1
   have e0:=hcell 0 (by omega)
   have e1:=hcell 1 (by omega)
   rw[Go.Deep.add_add] at e0 e1
   exact⟨(u,v),by simpa using e0,by simpa using e1,wu,wv⟩)
  have hlen:((List.range len).map f).length=len:=by rw[List.length_map,List.length_range]
  refine⟨(List.range len).map f,hlen,by unfold maxLen at hm;omega,fun z hz=> ?_,fun i hi=> ?_⟩
  ·obtain⟨r,hr,rfl⟩:=List.mem_map.1 hz
   have:=hf r (List.mem_range.1 hr)
   exact⟨wf64Q this.2.2.1,wf64Q this.2.2.2⟩
  ·rw[hlen] at hi
   obtain⟨e0,e1,_,_⟩:=hf i hi
   have eg:((List.range len).map f)[i]'(by rw[hlen];exact hi)=f i:=by rw[List.getElem_map,List.getElem_range]
   refine⟨a,rfl,by have:=blk_of_cell e0;rwa [block_add] at this, ?_, ?_⟩
   ·rw[eg];exact e0
   ·rw[eg];exact e1
end
theorem PairsIn.len{w:World}{A:Option Addr}{n:Nat}{zs:List (Int×Int)}(h:PairsIn w A n zs):n=zs.length:=h.1.symm
end Go.Proofs.YtjhjdiaomnpkmaaGreatDoor
