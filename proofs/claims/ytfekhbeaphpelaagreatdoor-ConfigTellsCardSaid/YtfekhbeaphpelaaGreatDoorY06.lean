/- A load that may be taken first. -/

import Derived.Test.YtfekhbeaphpelaaGreatDoorY05
set_option maxRecDepth 100000
set_option maxHeartbeats 8000000
set_option linter.unusedVariables false
set_option linter.unusedSimpArgs false
namespace Go.Proofs.YtfekhbeaphpelaaGreatDoor
open Go
section
variable {P:Program} {ops:Array Oper} {Q:Exit→Act→World→Prop} {md:Region.Mode} {S:World→Prop}
def waitsB(md:Region.Mode)(ops:Array Oper)(j i:Nat):Bool:=((ops[j]?).map fun o=>o.after.any fun e=>Region.binds md e&&(e.on==i)).getD false
def wpTill(P:Program)(md:Region.Mode)(ops:Array Oper)(Q:Exit→Act→World→Prop)(S:World→Prop)(i:Nat):Nat→Array Bool→Act→World→Prop
 |0,listed,a,w=>Region.ready md ops listed=[]∧Q .normal a w
 |fuel+1,listed,a,w=>
  (Region.ready md ops listed=[]→Q .normal a w)∧
  ∀j∈Region.ready md ops listed,wpOp P ops Q j (fun a' w'=>(waitsB md ops j i=false→S w')∧wpTill P md ops Q S i fuel (listed.setIfInBounds j true) a' w') a w
theorem any_of_till{i:Nat}:∀(fuel:Nat)(listed:Array Bool)(a:Act)(w:World),wpTill P md ops Q S i fuel listed a w→wpAny P md ops Q fuel listed a w
 |0,_,_,_,h=>h
 |fuel+1,_,_,_,h=>⟨h.1,fun j hj=>wpOp_mono (fun a' w' h'=>any_of_till fuel _ a' w' h'.2) (h.2 j hj)⟩
theorem ready_iff{listed:Array Bool}{j:Nat}:j∈Region.ready md ops listed↔j<ops.size∧listed.getD j true=false∧∃o,ops[j]?=some o∧∀e∈o.after,Region.binds md e=true→listed.getD e.on false=true:=by
 unfold Region.ready
 rw[List.mem_filter,List.mem_range]
 constructor
 ·rintro⟨h1,h2⟩
  rw[Array.getElem?_eq_getElem h1] at h2⊢
  simp only[Option.map_some,Option.getD_some,Bool.and_eq_true,Bool.not_eq_true',Array.all_eq_true_iff_forall_mem,Bool.or_eq_true] at h2
  refine⟨h1,h2.1,_,rfl,fun e he hb=> ?_⟩
  rcases h2.2 e he with h|h
  ·rw[hb] at h;cases h
  ·exact h
 ·rintro⟨h1,h2,o,ho,h3⟩
  refine⟨h1, ?_⟩
  rw[ho]
  simp only[Option.map_some,Option.getD_some,Bool.and_eq_true,Bool.not_eq_true',Array.all_eq_true_iff_forall_mem,Bool.or_eq_true]
  refine⟨h2,fun e he=> ?_⟩
  cases hb:Region.binds md e
  ·exact .inl rfl
  ·exact .inr (h3 e he hb)
theorem set_get{listed:Array Bool}{i j:Nat}{d:Bool}(h:j≠i):(listed.setIfInBounds i true).getD j d=listed.getD j d:=by
 simp[Array.getD_eq_getD_getElem?,Array.getElem?_setIfInBounds,Ne.symm h]
theorem set_mono{listed:Array Bool}{i j:Nat}(h:listed.getD j false=true):(listed.setIfInBounds i true).getD j false=true:=by
 by_cases e:j=i
 ·subst e
  have hl:j<listed.size:=by
   rcases Nat.lt_or_ge j listed.size with h'|h'
   ·exact h'
   ·simp[Array.getD_eq_getD_getElem?,Array.getElem?_eq_none h'] at h
  simp[Array.getD_eq_getD_getElem?,Array.getElem?_setIfInBounds,hl]
 ·rw[set_get e];exact h
theorem ready_set{listed:Array Bool}{i j:Nat}(hj:j∈Region.ready md ops listed)(h:j≠i):j∈Region.ready md ops (listed.setIfInBounds i true):=by
 obtain⟨h1,h2,o,ho,h3⟩:=ready_iff.1 hj
 exact ready_iff.2 ⟨h1,by rw[set_get h];exact h2,o,ho,fun e he hb=>set_mono (h3 e he hb)⟩
theorem ready_waits{listed:Array Bool}{i j:Nat}(hi:i∈Region.ready md ops listed)(hj:j∈Region.ready md ops listed):waitsB md ops j i=false:=by
 obtain⟨_,h2,_⟩:=ready_iff.1 hi
 obtain⟨_,_,o,ho,h3⟩:=ready_iff.1 hj
 unfold waitsB
 rw[ho]
 simp only[Option.map_some,Option.getD_some]
 rw[Array.any_eq_false']
 intro e he hc
 simp only[Bool.and_eq_true,beq_iff_eq] at hc
 have:=h3 e he hc.1
 rw[hc.2] at this
 rcases Nat.lt_or_ge i listed.size with h'|h'
 ·simp[Array.getD_eq_getD_getElem?,Array.getElem?_eq_getElem h'] at this h2
  rw[this] at h2;cases h2
 ·simp[Array.getD_eq_getD_getElem?,Array.getElem?_eq_none h'] at this
theorem till_first{i:Nat}{oi:Oper}{v:Value}(hi:ops[i]?=some oi)(hsel:∀(j:Nat)(o:Oper) cs b,ops[j]?=some o→o.op≠ .select cs b)
  (hQ:∀c a w,Q (.panic c) (a.put oi.dst v) w→Q (.panic c) a w):
  ∀(fuel:Nat)(listed:Array Bool)(a:Act)(w:World),
   (∀j oj,ops[j]?=some oj→j≠i→listed.getD j true=false→(∀e∈oj.after,Region.binds md e=true→e.on≠i)→oi.apart ops oj=true)→
   i∈Region.ready md ops listed→YieldsIf P ops S oi v a→S w→
   wpTill P md ops Q S i fuel (listed.setIfInBounds i true) (a.put oi.dst v) w→wpAny P md ops Q (fuel+1) listed a w:=by
 intro fuel
 induction fuel with
 |zero=>
  intro listed a w hap hir hy hS h
  refine⟨(fun e=>by rw[e] at hir;cases hir),fun j hj=> ?_⟩
  by_cases hji:j=i
  ·subst hji;exact hy.wpOp hi hS (any_of_till 0 _ _ _ h)
  ·have:=ready_set hj hji
   rw[h.1] at this;cases this
 |succ f ih=>
  intro listed a w hap hir hy hS h
  refine⟨(fun e=>by rw[e] at hir;cases hir),fun j hj=> ?_⟩
  by_cases hji:j=i
  ·subst hji;exact hy.wpOp hi hS (any_of_till (f+1) _ _ _ h)
  ·have hw:=ready_waits hir hj
   obtain⟨_,hjl,oj,hoj,hjw⟩:=ready_iff.1 hj
   have hnot:∀e∈oj.after,Region.binds md e=true→e.on≠i:=by
    intro e he hb hc
    unfold waitsB at hw
    rw[hoj] at hw
    simp only[Option.map_some,Option.getD_some] at hw
    rw[Array.any_eq_false'] at hw
    exact hw e he (by simp[hb,hc])
   have h1:=wpOp_putIf hoj (hap j oj hoj hji hjl hnot) (fun cs b=>hsel i oi cs b hi) (fun cs b=>hsel j oj cs b hoj) hQ hy (h.2 j (ready_set hj hji))
   refine wpOp_mono (fun a' w' h'=> ?_) h1
   obtain⟨hy',hS',ht⟩:=h'
   refine ih (listed.setIfInBounds j true) a' w' (fun q oq hq hqi hql hqe=>hap q oq hq hqi ?_ hqe) (ready_set hir (Ne.symm hji)) hy' (hS' hw) ?_
   ·by_cases e:q=j
    ·subst e;exact hjl
    ·rw[set_get e] at hql;exact hql
   ·rw[Array.setIfInBounds_comm _ _ (Ne.symm hji)] at ht
    exact ht
theorem till_take{i:Nat}{oi:Oper}{v:Value}(d:Option Tmp){fuel:Nat}{listed:Array Bool}{a:Act}{w:World}(hi:ops[i]?=some oi)(hd:oi.dst=d)
  (hs:Region.noSelect ops=true) (hf:Region.free md ops listed i=true) (hr:(Region.ready md ops listed).contains i=true)
  (hQ:∀c a w,Q (.panic c) (a.put d v) w→Q (.panic c) a w) (hy:YieldsIf P ops S oi v a) (hS:S w)
  (h:wpTill P md ops Q S i fuel (listed.setIfInBounds i true) (a.put d v) w):wpAny P md ops Q (fuel+1) listed a w:=by
 subst hd
 exact till_first hi (Region.noSelect_spec hs) hQ fuel listed a w (Region.free_spec hi hf) (by simpa using hr) hy hS h
theorem any_take{i:Nat}{oi:Oper}{v:Value}(d:Option Tmp){fuel:Nat}{listed:Array Bool}{a:Act}{w:World}(hi:ops[i]?=some oi)(hd:oi.dst=d)
  (hs:Region.noSelect ops=true) (hf:Region.free md ops listed i=true) (hr:(Region.ready md ops listed).contains i=true)
  (hQ:∀c a w,Q (.panic c) (a.put d v) w→Q (.panic c) a w) (hy:Yields P ops oi v a)
  (h:wpAny P md ops Q fuel (listed.setIfInBounds i true) (a.put d v) w):wpAny P md ops Q (fuel+1) listed a w:=by
 subst hd
 exact wpAny_take hi hs hf hr hQ hy h
theorem till_one{i j:Nat}{o:Oper}{fuel:Nat}{listed:Array Bool}{a:Act}{w:World}(hr:Region.ready md ops listed=[j])(ho:ops[j]?=some o)
  (h:∀K':Act→World→Prop,Shut (∀a w,S w→wpTill P md ops Q S i fuel (listed.setIfInBounds j true) a w→K' a w)→if Region.wanted o (yielded ops a.tmps)=true then Oper.wp P o a w K' Q else K' (a.put o.dst undef) w):wpTill P md ops Q S i (fuel+1) listed a w:=
 ⟨(fun h0=>by rw[hr] at h0;cases h0),fun q hq=>by rw[hr,List.mem_singleton] at hq;subst hq;exact wpOp_step ho (fun K' hK=>h K' (fun a w hS hW=>hK a w ⟨fun _=>hS,hW⟩))⟩
theorem till_late{i j:Nat}{o:Oper}{fuel:Nat}{listed:Array Bool}{a:Act}{w:World}(hr:Region.ready md ops listed=[j])(ho:ops[j]?=some o)(hw:waitsB md ops j i=true)
  (h:∀K':Act→World→Prop,Shut (∀a w,wpTill P md ops Q S i fuel (listed.setIfInBounds j true) a w→K' a w)→if Region.wanted o (yielded ops a.tmps)=true then Oper.wp P o a w K' Q else K' (a.put o.dst undef) w):wpTill P md ops Q S i (fuel+1) listed a w:=
 ⟨(fun h0=>by rw[hr] at h0;cases h0),fun q hq=>by rw[hr,List.mem_singleton] at hq;subst hq;exact wpOp_step ho (fun K' hK=>h K' (fun a w hW=>hK a w ⟨(fun e=>by rw[hw] at e;cases e),hW⟩))⟩
theorem till_done{i:Nat}{listed:Array Bool}{a:Act}{w:World}(hr:Region.ready md ops listed=[])(h:Q .normal a w):∀fuel,wpTill P md ops Q S i fuel listed a w
 |0=>⟨hr,h⟩
 |_+1=>⟨fun _=>h,by rw[hr];simp⟩
end
section
variable {P:Program} {ops:Array Oper} {Q:Exit→Act→World→Prop} {md:Region.Mode} {S:World→Prop}
theorem till_two{i j k:Nat}{o o':Oper}{fuel:Nat}{listed:Array Bool}{a:Act}{w:World}(hr:Region.ready md ops listed=[j,k])(ho:ops[j]?=some o)(ho':ops[k]?=some o')
  (h:∀K':Act→World→Prop,Shut (∀a w,S w→wpTill P md ops Q S i fuel (listed.setIfInBounds j true) a w→K' a w)→if Region.wanted o (yielded ops a.tmps)=true then Oper.wp P o a w K' Q else K' (a.put o.dst undef) w)
  (h':∀K':Act→World→Prop,Shut (∀a w,S w→wpTill P md ops Q S i fuel (listed.setIfInBounds k true) a w→K' a w)→if Region.wanted o' (yielded ops a.tmps)=true then Oper.wp P o' a w K' Q else K' (a.put o'.dst undef) w):wpTill P md ops Q S i (fuel+1) listed a w:=
 ⟨(fun h0=>by rw[hr] at h0;cases h0),fun q hq=>by
   rw[hr] at hq
   rcases List.mem_cons.1 hq with rfl|hq
   ·exact wpOp_step ho (fun K' hK=>h K' (fun a w hS hW=>hK a w ⟨fun _=>hS,hW⟩))
   ·rw[List.mem_singleton] at hq;subst hq
    exact wpOp_step ho' (fun K' hK=>h' K' (fun a w hS hW=>hK a w ⟨fun _=>hS,hW⟩))⟩
theorem till_quiet{q i:Nat}{oi:Oper}{v:Value}(hi:ops[q]?=some oi)(hsel:∀(j:Nat)(o:Oper) cs b,ops[j]?=some o→o.op≠ .select cs b)
  (hQ:∀c a w,Q (.panic c) (a.put oi.dst v) w→Q (.panic c) a w) (hwq:waitsB md ops q i=true):
  ∀(fuel:Nat)(listed:Array Bool)(a:Act)(w:World),
   (∀j oj,ops[j]?=some oj→j≠q→listed.getD j true=false→(∀e∈oj.after,Region.binds md e=true→e.on≠q)→oi.apart ops oj=true)→
   q∈Region.ready md ops listed→YieldsIf P ops (fun _=>True) oi v a→
   wpTill P md ops Q S i fuel (listed.setIfInBounds q true) (a.put oi.dst v) w→wpTill P md ops Q S i (fuel+1) listed a w:=by
 intro fuel
 induction fuel with
 |zero=>
  intro listed a w hap hir hy h
  refine⟨(fun e=>by rw[e] at hir;cases hir),fun j hj=> ?_⟩
  by_cases hji:j=q
  ·subst hji;exact hy.wpOp hi trivial ⟨(fun e=>by rw[hwq] at e;cases e),h⟩
  ·have:=ready_set hj hji
   rw[h.1] at this;cases this
 |succ f ih=>
  intro listed a w hap hir hy h
  refine⟨(fun e=>by rw[e] at hir;cases hir),fun j hj=> ?_⟩
  by_cases hji:j=q
  ·subst hji;exact hy.wpOp hi trivial ⟨(fun e=>by rw[hwq] at e;cases e),h⟩
  ·have hw:=ready_waits hir hj
   obtain⟨_,hjl,oj,hoj,hjw⟩:=ready_iff.1 hj
   have hnot:∀e∈oj.after,Region.binds md e=true→e.on≠q:=by
    intro e he hb hc
    unfold waitsB at hw
    rw[hoj] at hw
    simp only[Option.map_some,Option.getD_some] at hw
    rw[Array.any_eq_false'] at hw
    exact hw e he (by simp[hb,hc])
   have h1:=wpOp_putIf hoj (hap j oj hoj hji hjl hnot) (fun cs b=>hsel q oi cs b hi) (fun cs b=>hsel j oj cs b hoj) hQ hy (h.2 j (ready_set hj hji))
   refine wpOp_mono (fun a' w' h'=> ?_) h1
   obtain⟨hy',hS',ht⟩:=h'
   refine⟨hS',ih (listed.setIfInBounds j true) a' w' (fun p oq hq hqi hql hqe=>hap p oq hq hqi ?_ hqe) (ready_set hir (Ne.symm hji)) hy' ?_⟩
   ·by_cases e:p=j
    ·subst e;exact hjl
    ·rw[set_get e] at hql;exact hql
   ·rw[Array.setIfInBounds_comm _ _ (Ne.symm hji)] at ht
    exact ht
theorem till_move{q i:Nat}{oi:Oper}{v:Value}(d:Option Tmp){fuel:Nat}{listed:Array Bool}{a:Act}{w:World}(hi:ops[q]?=some oi)(hd:oi.dst=d)(hwq:waitsB md ops q i=true)
  (hs:Region.noSelect ops=true) (hf:Region.free md ops listed q=true) (hr:(Region.ready md ops listed).contains q=true)
  (hQ:∀c a w,Q (.panic c) (a.put d v) w→Q (.panic c) a w) (hy:Yields P ops oi v a)
  (h:wpTill P md ops Q S i fuel (listed.setIfInBounds q true) (a.put d v) w):wpTill P md ops Q S i (fuel+1) listed a w:=by
 subst hd
 exact till_quiet hi (Region.noSelect_spec hs) hQ hwq fuel listed a w (Region.free_spec hi hf) (by simpa using hr) hy.yieldsIf h
theorem till_any{i:Nat}:∀(fuel:Nat)(listed:Array Bool)(a:Act)(w:World),(∀j∈List.range ops.size,listed.getD j true=false→waitsB md ops j i=true)→wpAny P md ops Q fuel listed a w→wpTill P md ops Q S i fuel listed a w
 |0,_,_,_,_,h=>h
 |fuel+1,listed,a,w,hw,h=>⟨h.1,fun j hj=>wpOp_mono (fun a' w' h'=>by
   obtain⟨h1,h2,_⟩:=ready_iff.1 hj
   refine⟨fun e=> ?_,till_any fuel _ a' w' (fun q hq hl=>hw q hq ?_) h'⟩
   ·rw[hw j (List.mem_range.2 h1) h2] at e
    cases e
   ·by_cases e:q=j
    ·subst e;exact h2
    ·rw[set_get e] at hl;exact hl) (h.2 j hj)⟩
theorem till_rest{i fuel:Nat}{listed:Array Bool}{a:Act}{w:World}(hw:((List.range ops.size).all fun j=>listed.getD j true||waitsB md ops j i)=true)(h:wpAny P md ops Q fuel listed a w):wpTill P md ops Q S i fuel listed a w:=
 till_any fuel listed a w (fun j hj hl=>by
  have:=List.all_eq_true.1 hw j hj
  rw[hl,Bool.false_or] at this
  exact this) h
theorem any_one{j:Nat}{o:Oper}{fuel:Nat}{listed:Array Bool}{a:Act}{w:World}(hr:Region.ready md ops listed=[j])(ho:ops[j]?=some o)
  (h:∀K':Act→World→Prop,Shut (∀a w,wpAny P md ops Q fuel (listed.setIfInBounds j true) a w→K' a w)→if Region.wanted o (yielded ops a.tmps)=true then Oper.wp P o a w K' Q else K' (a.put o.dst undef) w):wpAny P md ops Q (fuel+1) listed a w:=
 ⟨(fun h0=>by rw[hr] at h0;cases h0),fun q hq=>by rw[hr,List.mem_singleton] at hq;subst hq;exact wpOp_step ho (fun K' hK=>h K' (fun a w hW=>hK a w hW))⟩
theorem any_two{j k:Nat}{o o':Oper}{fuel:Nat}{listed:Array Bool}{a:Act}{w:World}(hr:Region.ready md ops listed=[j,k])(ho:ops[j]?=some o)(ho':ops[k]?=some o')
  (h:∀K':Act→World→Prop,Shut (∀a w,wpAny P md ops Q fuel (listed.setIfInBounds j true) a w→K' a w)→if Region.wanted o (yielded ops a.tmps)=true then Oper.wp P o a w K' Q else K' (a.put o.dst undef) w)
  (h':∀K':Act→World→Prop,Shut (∀a w,wpAny P md ops Q fuel (listed.setIfInBounds k true) a w→K' a w)→if Region.wanted o' (yielded ops a.tmps)=true then Oper.wp P o' a w K' Q else K' (a.put o'.dst undef) w):wpAny P md ops Q (fuel+1) listed a w:=
 ⟨(fun h0=>by rw[hr] at h0;cases h0),fun q hq=>by
   rw[hr] at hq
   rcases List.mem_cons.1 hq with rfl|hq
   ·exact wpOp_step ho (fun K' hK=>h K' (fun a w hW=>hK a w hW))
   ·rw[List.mem_singleton] at hq;subst hq
    exact wpOp_step ho' (fun K' hK=>h' K' (fun a w hW=>hK a w hW))⟩
theorem any_done{listed:Array Bool}{a:Act}{w:World}(hr:Region.ready md ops listed=[])(h:Q .normal a w):∀fuel,wpAny P md ops Q fuel listed a w
 |0=>⟨hr,h⟩
 |_+1=>⟨fun _=>h,by rw[hr];simp⟩
end
end Go.Proofs.YtfekhbeaphpelaaGreatDoor

namespace Go.Proofs.YtfekhbeaphpelaaGreatDoor
open Go.RowKit Go.Lib
def XP(gx:Nat)(w:World)(x:Ex)(A:Option Addr)(c:Nat)(es:List El):Prop:=
 Bk w gx 52 #[yI x.k,yI x.n,.string (B x.nm),.slice A es.length c]∧w.ownsRow (gx+1) 52 4 (.slice A es.length c) es.length (cellsEs es)∧es.length=x.l.length∧
  (∀i (h:i<es.length) (h':i<x.l.length),ExAt (fun q=>gx<q∧some q≠(Value.slice A es.length c).ownBlock) w es[i] x.l[i])∧i64 x.k∧i64 x.n∧x.nm.length≤100∧x.l.length≤3
theorem XP.grown{gx g:Nat}{w w':World}{x:Ex}{A:Option Addr}{c:Nat}{es:List El}(h:XP gx w x A c es)(hg:w.grownBy w' (some g))(hl:g<gx):XP gx w' x A c es:=by
 obtain⟨h1,h2,h3,h4,h5⟩:=h
 refine⟨h1.grown hg (fun e=>by injection e;omega),World.ownsRow.kept h2 hg ?_,h3,fun i hi hi'=>(h4 i hi hi').grown hg (fun q hq=>⟨hq,fun e=>by injection e;omega⟩),h5⟩
 cases hv:(Value.slice A es.length c).ownBlock with
 |none=>exact .inl rfl
 |some q=>exact .inr (fun e=>by have:=(h2.lt q hv).1;injection e;omega)
theorem XP.set{gx:Nat}{w:World}{x:Ex}{A:Option Addr}{c:Nat}{es:List El}(h:XP gx w x A c es)(o:Nat)(v:Value)(y:Ex)(hy:(#[yI x.k,yI x.n,.string (B x.nm),.slice A es.length c]:Array Value).setIfInBounds o v= #[yI y.k,yI y.n,.string (B y.nm),.slice A es.length c])
  (hl:y.l=x.l) (hk:i64 y.k) (hn:i64 y.n) (hm:y.nm.length≤100):XP gx (w.setCell ⟨gx,o,none⟩ v) y A c es:=by
 obtain⟨h1,h2,h3,h4,h5⟩:=h
 have gs:=set_grown w gx o v
 refine⟨by rw[←hy];exact h1.set_ o v,own_set h2 (fun e=>by have:=(h2.lt _ e.symm).1;simp only at this;omega) v,by rw[hl];exact h3,fun i hi hi'=> ?_,hk,hn,hm,by rw[hl];exact h5.2.2.2⟩
 simp only[hl]
 exact(h4 i hi (by rw[←hl];exact hi')).grown gs (fun q hq=>⟨hq,fun e=>by injection e;omega⟩)
theorem XP.lt{gx:Nat}{w:World}{x:Ex}{A:Option Addr}{c:Nat}{es:List El}(h:XP gx w x A c es):gx<w.heap.size:=h.1.lt
def InP(V U w:World)(g gx a:Nat)(x:Ex)(ts:List Tok):Prop:=StP V w g ts a∧g<U.heap.size∧U.heap.size≤gx∧U.grownBy w (some g)∧∃A c es,XP gx w x A c es
def PcPost(V U:World)(g gx a:Nat)(r:Told Ex)(e:Ending)(w':World):Prop:=match r with
 | .ok (y,ts)=>e= .returned (.tuple #[])∧InP V U w' g gx a y ts
 | .error E=>e=FLT E.1 E.2∧U.grownBy w' (some g)
theorem PcPost.yes{V U:World}{g gx a:Nat}{r:Told Ex}{y:Ex}{ts:List Tok}(h:r= .ok (y,ts)){e:Ending}{w':World}(he:e= .returned (.tuple #[]))(hi:InP V U w' g gx a y ts):PcPost V U g gx a r e w':=by subst h;exact⟨he,hi⟩
theorem PcPost.no{V U:World}{g gx a:Nat}{r:Told Ex}{E:Int×Int}(h:r= .error E){e:Ending}{w':World}(he:e=FLT E.1 E.2)(hi:U.grownBy w' (some g)):PcPost V U g gx a r e w':=by subst h;exact⟨he,hi⟩
theorem InP.step{V U w w':World}{g gx a a':Nat}{x:Ex}{ts ts':List Tok}(h:InP V U w g gx a x ts)(hg:w.grownBy w' (some g))(hs:StP V w' g ts' a'):InP V U w' g gx a' x ts':=by
 obtain⟨h1,h2,h3,h4,A,c,es,h5⟩:=h
 exact⟨hs,h2,h3,grown_trans h4 hg,A,c,es,h5.grown hg (by omega)⟩
theorem InP.set{V U w:World}{g gx a:Nat}{x y:Ex}{ts:List Tok}(h:InP V U w g gx a x ts)(o:Nat)(v:Value)(hy:∀A n c,(#[yI x.k,yI x.n,.string (B x.nm),.slice A n c]:Array Value).setIfInBounds o v= #[yI y.k,yI y.n,.string (B y.nm),.slice A n c])
  (hl:y.l=x.l) (hk:i64 y.k) (hn:i64 y.n) (hm:y.nm.length≤100):InP V U (w.setCell ⟨gx,o,none⟩ v) g gx a y ts:=by
 obtain⟨h1,h2,h3,h4,A,c,es,h5⟩:=h
 have gs:=set_grown w gx o v
 exact⟨h1.grown gs (fun e=>by injection e;omega) (fun k e=>by cases e;have:=h1.V.2;omega),h2,h3,grown_of h4 gs (fun k e=>by cases e;exact h3),A,c,es,h5.set o v y (hy _ _ _) hl hk hn hm⟩
theorem InP.box{V U w:World}{g gx a:Nat}{x:Ex}{ts:List Tok}(h:InP V U w g gx a x ts):∃A n c,Bk w gx 52 #[yI x.k,yI x.n,.string (B x.nm),.slice A n c]:=by
 obtain⟨h1,h2,h3,h4,A,c,es,h5⟩:=h
 exact⟨A,_,c,h5.1⟩
theorem pamount_any(V U:World)(g gx a:Nat)(x:Ex)(ts:List Tok)(f:Bool→List Tok→Told Ex)(w:World)(h:InP V U w g gx a x ts):
  Calls Tryz.prog 99 #[.pointer (some ⟨g,0,none⟩),.pointer (some ⟨gx,0,none⟩)] w (PcPost V U g gx a (stepP f .am x ts)):=by
 have hs:=h.1
 have hq:(∃N,numP 3 1000000000000 ts= .ok (N,ts.tail))∨numP 3 1000000000000 ts= .error (80,atT ts):=by
  unfold numP
  split
  ·exact .inl ⟨_,rfl⟩
  ·exact .inr rfl
 rcases hq with ⟨N,hN⟩|hN
 ·have HI:=yH h
  have HC:=yH (pnum_yes V g a ts 3 1000000000000 N w hs (by decide) hN)
  have HR:=yH (show stepP f .am x ts= .ok (x.num N,ts.tail) by unfold stepP;rw[hN])
  have HNi:Hid (i64 N):=yH (by
   unfold numP at hN
   split at hN
   ·injection hN with hN;injection hN with e _;rw[←e];exact hs.fine.head.2.2.1
   ·cases hN)
  clear h hs hN
  go_enter Tryz.func99,Tryz.ntmps99
  go_wp2_with (go_at_call 135;(with_reducible refine HC.out.mono ?_);rintro e w2 ⟨rfl,s2,g2⟩;have HI2:=yH (HI.out.step g2 s2);obtain⟨A,n,c,hb⟩:=HI2.out.box;obtain⟨⟨c0,c1,c2,c3⟩,f0,f1,f2,f3⟩:=hb.four;clear s2 g2 hb)
  go_end0
  refine PcPost.yes HR.out rfl (HI2.out.set 1 _ (fun _ _ _=>rfl) rfl ?_ HNi.out ?_)
  ·obtain⟨_,_,_,_,A,c,es,hx⟩:=HI.out;exact hx.2.2.2.2.1
  ·obtain⟨_,_,_,_,A,c,es,hx⟩:=HI.out;exact hx.2.2.2.2.2.2.1
 ·have HC:=yH (pnum_not V g a ts 3 1000000000000 w hs hN)
  have HR:=yH (show stepP f .am x ts= .error (80,atT ts) by unfold stepP;rw[hN])
  have HG:=yH h.2.2.2.1
  clear h hs hN
  go_enter Tryz.func99,Tryz.ntmps99
  go_wp2_with (go_at_call 135;(with_reducible refine HC.out.mono ?_);rintro e w2 ⟨rfl,g2⟩)
  exact⟨rfl,PcPost.no HR.out rfl (grown_trans HG.out g2)⟩
theorem ppart_any(V U:World)(g gx a:Nat)(x:Ex)(ts:List Tok)(f:Bool→List Tok→Told Ex)(w:World)(h:InP V U w g gx a x ts):
  Calls Tryz.prog 100 #[.pointer (some ⟨g,0,none⟩),.pointer (some ⟨gx,0,none⟩)] w (PcPost V U g gx a (stepP f .pa x ts)):=by
 have hs:=h.1
 have hq:(∃N,numP 2 100000 ts= .ok (N,ts.tail))∨numP 2 100000 ts= .error (80,atT ts):=by
  unfold numP
  split
  ·exact .inl ⟨_,rfl⟩
  ·exact .inr rfl
 rcases hq with ⟨N,hN⟩|hN
 ·have HI:=yH h
  have HC:=yH (pnum_yes V g a ts 2 100000 N w hs (by decide) hN)
  have HR:=yH (show stepP f .pa x ts= .ok (x.num N,ts.tail) by unfold stepP;rw[hN])
  have HNi:Hid (i64 N):=yH (by
   unfold numP at hN
   split at hN
   ·injection hN with hN;injection hN with e _;rw[←e];exact hs.fine.head.2.2.1
   ·cases hN)
  clear h hs hN
  go_enter Tryz.func100,Tryz.ntmps100
  go_wp2_with (go_at_call 135;(with_reducible refine HC.out.mono ?_);rintro e w2 ⟨rfl,s2,g2⟩;have HI2:=yH (HI.out.step g2 s2);obtain⟨A,n,c,hb⟩:=HI2.out.box;obtain⟨⟨c0,c1,c2,c3⟩,f0,f1,f2,f3⟩:=hb.four;clear s2 g2 hb)
  go_end0
  refine PcPost.yes HR.out rfl (HI2.out.set 1 _ (fun _ _ _=>rfl) rfl ?_ HNi.out ?_)
  ·obtain⟨_,_,_,_,A,c,es,hx⟩:=HI.out;exact hx.2.2.2.2.1
  ·obtain⟨_,_,_,_,A,c,es,hx⟩:=HI.out;exact hx.2.2.2.2.2.2.1
 ·have HC:=yH (pnum_not V g a ts 2 100000 w hs hN)
  have HR:=yH (show stepP f .pa x ts= .error (80,atT ts) by unfold stepP;rw[hN])
  have HG:=yH h.2.2.2.1
  clear h hs hN
  go_enter Tryz.func100,Tryz.ntmps100
  go_wp2_with (go_at_call 135;(with_reducible refine HC.out.mono ?_);rintro e w2 ⟨rfl,g2⟩)
  exact⟨rfl,PcPost.no HR.out rfl (grown_trans HG.out g2)⟩
theorem pcount_any(V U:World)(g gx a:Nat)(x:Ex)(ts:List Tok)(f:Bool→List Tok→Told Ex)(w:World)(h:InP V U w g gx a x ts):
  Calls Tryz.prog 162 #[.pointer (some ⟨g,0,none⟩),.pointer (some ⟨gx,0,none⟩)] w (PcPost V U g gx a (stepP f .co x ts)):=by
 have hs:=h.1
 have hq:(∃N,numP 2 1000 ts= .ok (N,ts.tail))∨numP 2 1000 ts= .error (80,atT ts):=by
  unfold numP
  split
  ·exact .inl ⟨_,rfl⟩
  ·exact .inr rfl
 rcases hq with ⟨N,hN⟩|hN
 ·have HI:=yH h
  have HC:=yH (pnum_yes V g a ts 2 1000 N w hs (by decide) hN)
  have HR:=yH (show stepP f .co x ts= .ok (x.num N,ts.tail) by unfold stepP;rw[hN])
  have HNi:Hid (i64 N):=yH (by
   unfold numP at hN
   split at hN
   ·injection hN with hN;injection hN with e _;rw[←e];exact hs.fine.head.2.2.1
   ·cases hN)
  clear h hs hN
  go_enter Tryz.func162,Tryz.ntmps162
  go_wp2_with (go_at_call 135;(with_reducible refine HC.out.mono ?_);rintro e w2 ⟨rfl,s2,g2⟩;have HI2:=yH (HI.out.step g2 s2);obtain⟨A,n,c,hb⟩:=HI2.out.box;obtain⟨⟨c0,c1,c2,c3⟩,f0,f1,f2,f3⟩:=hb.four;clear s2 g2 hb)
  go_end0
  refine PcPost.yes HR.out rfl (HI2.out.set 1 _ (fun _ _ _=>rfl) rfl ?_ HNi.out ?_)
  ·obtain⟨_,_,_,_,A,c,es,hx⟩:=HI.out;exact hx.2.2.2.2.1
  ·obtain⟨_,_,_,_,A,c,es,hx⟩:=HI.out;exact hx.2.2.2.2.2.2.1
 ·have HC:=yH (pnum_not V g a ts 2 1000 w hs hN)
  have HR:=yH (show stepP f .co x ts= .error (80,atT ts) by unfold stepP;rw[hN])
  have HG:=yH h.2.2.2.1
  clear h hs hN
  go_enter Tryz.func162,Tryz.ntmps162
  go_wp2_with (go_at_call 135;(with_reducible refine HC.out.mono ?_);rintro e w2 ⟨rfl,g2⟩)
  exact⟨rfl,PcPost.no HR.out rfl (grown_trans HG.out g2)⟩
theorem pname_any(V U:World)(g gx a:Nat)(x:Ex)(ts:List Tok)(f:Bool→List Tok→Told Ex)(w:World)(h:InP V U w g gx a x ts):
  Calls Tryz.prog 97 #[.pointer (some ⟨g,0,none⟩),.pointer (some ⟨gx,0,none⟩)] w (PcPost V U g gx a (stepP f .na x ts)):=by
 have hs:=h.1
 have HI:=yH h
 have HN:=yH (pnext_any V g a ts w hs)
 obtain⟨t,ht⟩:∃t,hdT ts=t:=⟨_,rfl⟩
 have hz:t.2.1.length≤100:=by rw[←ht];exact hs.fine.head.2.2.2.2
 have HA:=yH (show atT ts=t.2.2.2 by unfold atT;rw[ht])
 rw[ht] at HN
 have HV:=yH hs.V
 have HZ:=yH hz
 have hsz:(B t.2.1).size≤9223372036854775807:=by rw[B_size];omega
 cases hn:isName t.2.1
 ·have HR:=yH (show stepP f .na x ts= .error (80,atT ts) by unfold stepP nameP;rw[ht,hn];rfl)
  have HNm:=yH (show isName (B t.2.1).data.toList=false by rw[B_list];exact hn)
  clear h hs ht hn hz
  go_enter Tryz.func97,Tryz.ntmps97
  go_wp2_with (first
   |(go_at_call 103;(with_reducible refine HN.out.mono ?_);rintro e w2 ⟨rfl,s2,g2,_⟩;have G2:=yH g2;have R2:=yH (HV.out.1.grown g2 (fun k e=>by cases e;exact HV.out.2));have R3:=yH (R2.out.alloc (.cells #[yI t.1,.string (B t.2.1),yI t.2.2.1,yI t.2.2.2] 78));have HB:=yH (Bk.new w2 78 #[yI t.1,.string (B t.2.1),yI t.2.2.1,yI t.2.2.2]);clear s2 g2)
   |(go_at_call 113;(with_reducible refine(bool_at false (lname_any (B t.2.1) hsz _ _ R3.out.self) HNm).mono ?_);rintro e w4 ⟨rfl,h4⟩;have H4:=yH h4;obtain⟨⟨c0,c1,c2,c3⟩,_⟩:=(HB.out.rel h4).four;clear h4)
   |(go_at_call 102;(with_reducible refine(pwrong_any t _).mono ?_);rintro e w3 ⟨rfl,rfl⟩))
  refine⟨rfl,PcPost.no HR.out (by rw[HA.out]) (grown_trans HI.out.2.2.2.1 (grown_trans G2.out (grown_rel (some g) ?_)))⟩
  exact(((R2.out.self.alloc _).trans H4.out).alloc _).alloc _
 ·have HR:=yH (show stepP f .na x ts= .ok (x.name t.2.1,ts.tail) by unfold stepP nameP;rw[ht,hn];rfl)
  have HNm:=yH (show isName (B t.2.1).data.toList=true by rw[B_list];exact hn)
  have HT:=yH (hs.fine.last (.inr (by rw[ht];rintro e;rw[e] at hn;exact absurd hn (by decide))))
  clear h hs ht hn hz
  go_enter Tryz.func97,Tryz.ntmps97
  go_wp2_with (first
   |(go_at_call 103;(with_reducible refine HN.out.mono ?_);rintro e w2 ⟨rfl,s2,g2,_⟩;have G2:=yH g2;have R2:=yH (HV.out.1.grown g2 (fun k e=>by cases e;exact HV.out.2));have R3:=yH (R2.out.alloc (.cells #[yI t.1,.string (B t.2.1),yI t.2.2.1,yI t.2.2.2] 78));have HB:=yH (Bk.new w2 78 #[yI t.1,.string (B t.2.1),yI t.2.2.1,yI t.2.2.2]);have S2:=yH (s2 HT.out);clear s2 g2)
   |(go_at_call 113;(with_reducible refine(bool_at true (lname_any (B t.2.1) hsz _ _ R3.out.self) HNm).mono ?_);rintro e w4 ⟨rfl,h4⟩;have R4:=(R2.out.self.alloc (.cells #[yI t.1,.string (B t.2.1),yI t.2.2.1,yI t.2.2.2] 78)).trans h4;have HI4:=yH (HI.out.step (grown_trans G2.out (grown_rel (some g) R4)) (S2.out.rel R4));obtain⟨A,n,c,hb⟩:=HI4.out.box;obtain⟨⟨b0,b1,b2,b3⟩,f0,f1,f2,f3⟩:=hb.four;obtain⟨⟨c0,c1,c2,c3⟩,_⟩:=(HB.out.rel h4).four;clear h4 R4 hb))
  go_end0
  refine PcPost.yes HR.out rfl (HI4.out.set 2 _ (fun _ _ _=>rfl) rfl ?_ ?_ HZ.out)
  ·obtain⟨_,_,_,_,A,c,es,hx⟩:=HI.out;exact hx.2.2.2.2.1
  ·obtain⟨_,_,_,_,A,c,es,hx⟩:=HI.out;exact hx.2.2.2.2.2.1
def ExPost(V:World)(g a:Nat)(w:World)(r:Told Ex)(e:Ending)(w':World):Prop:=match r with
 | .ok (x,ts)=>∃v:El,e= .returned (EV v)∧ExAt (fun k=>w.heap.size≤k) w' v x∧StP V w' g ts a∧w.grownBy w' (some g)
 | .error E=>e=FLT E.1 E.2∧w.grownBy w' (some g)
theorem ExPost.yes{V:World}{g a:Nat}{w:World}{r:Told Ex}{x:Ex}{ts:List Tok}(h:r= .ok (x,ts)){e:Ending}{w':World}(hv:∃v:El,e= .returned (EV v)∧ExAt (fun k=>w.heap.size≤k) w' v x∧StP V w' g ts a∧w.grownBy w' (some g)):ExPost V g a w r e w':=by subst h;exact hv
theorem ExPost.no{V:World}{g a:Nat}{w:World}{r:Told Ex}{E:Int×Int}(h:r= .error E){e:Ending}{w':World}(he:e=FLT E.1 E.2)(hg:w.grownBy w' (some g)):ExPost V g a w r e w':=by subst h;exact⟨he,hg⟩
def ExprOk(d:Nat):Prop:=∀(V:World)(g a:Nat)(ts:List Tok)(w:World),a+d=32→StP V w g ts a→
 (Calls Tryz.prog 75 #[.pointer (some ⟨g,0,none⟩)] w (ExPost V g a w (exprT d false ts)))∧(Calls Tryz.prog 136 #[.pointer (some ⟨g,0,none⟩)] w (ExPost V g a w (exprT d true ts)))
theorem ex_yes{d:Nat}(E:ExprOk d){V:World}{g a:Nat}{ts:List Tok}{w:World}(had:a+d=32)(h:StP V w g ts a){y:Ex}{r:List Tok}(hr:exprT d false ts= .ok (y,r)):
  Calls Tryz.prog 75 #[.pointer (some ⟨g,0,none⟩)] w fun e w'=>∃v:El,e= .returned (EV v)∧ExAt (fun k=>w.heap.size≤k) w' v y∧StP V w' g r a∧w.grownBy w' (some g):=by
 have:=(E V g a ts w had h).1
 rw[hr] at this
 exact this
theorem ex_no{d:Nat}(E:ExprOk d){V:World}{g a:Nat}{ts:List Tok}{w:World}(had:a+d=32)(h:StP V w g ts a){e0:Int×Int}(hr:exprT d false ts= .error e0):
  Calls Tryz.prog 75 #[.pointer (some ⟨g,0,none⟩)] w fun e w'=>e=FLT e0.1 e0.2∧w.grownBy w' (some g):=by
 have:=(E V g a ts w had h).1
 rw[hr] at this
 exact this
theorem cond_yes{d:Nat}(E:ExprOk d){V:World}{g a:Nat}{ts:List Tok}{w:World}(had:a+d=32)(h:StP V w g ts a){y:Ex}{r:List Tok}(hr:exprT d true ts= .ok (y,r)):
  Calls Tryz.prog 136 #[.pointer (some ⟨g,0,none⟩)] w fun e w'=>∃v:El,e= .returned (EV v)∧ExAt (fun k=>w.heap.size≤k) w' v y∧StP V w' g r a∧w.grownBy w' (some g):=by
 have:=(E V g a ts w had h).2
 rw[hr] at this
 exact this
theorem cond_no{d:Nat}(E:ExprOk d){V:World}{g a:Nat}{ts:List Tok}{w:World}(had:a+d=32)(h:StP V w g ts a){e0:Int×Int}(hr:exprT d true ts= .error e0):
  Calls Tryz.prog 136 #[.pointer (some ⟨g,0,none⟩)] w fun e w'=>e=FLT e0.1 e0.2∧w.grownBy w' (some g):=by
 have:=(E V g a ts w had h).2
 rw[hr] at this
 exact this
def Mid(V U w:World)(g gx a:Nat)(x:Ex)(ts:List Tok)(A:Option Addr)(n c:Nat)(es:List El)(v:El)(y:Ex):Prop:=
 (Bk w gx 52 #[yI x.k,yI x.n,.string (B x.nm),.slice A n c]∧w.ownsRow (gx+1) 52 4 (.slice A n c) n (cellsEs es)∧es.length=x.l.length∧
  (∀i (h:i<es.length) (h':i<x.l.length),ExAt (fun q=>gx<q∧some q≠(Value.slice A n c).ownBlock) w es[i] x.l[i])∧i64 x.k∧i64 x.n∧x.nm.length≤100∧x.l.length≤3)∧
 StP V w g ts a∧g<U.heap.size∧U.heap.size≤gx∧U.grownBy w (some g)∧ExAt (fun q=>gx<q∧some q≠(Value.slice A n c).ownBlock) w v y
theorem Mid.own{V U w:World}{g gx a:Nat}{x y:Ex}{ts:List Tok}{A:Option Addr}{n c:Nat}{es:List El}{v:El}(h:Mid V U w g gx a x ts A n c es v y):w.ownsRow (gx+1) 52 4 (.slice A n c) n (cellsEs es):=h.1.2.1
theorem Mid.base{V U w:World}{g gx a:Nat}{x y:Ex}{ts:List Tok}{A:Option Addr}{n c:Nat}{es:List El}{v:El}(h:Mid V U w g gx a x ts A n c es v y):gx+1≤w.heap.size:=h.1.1.lt
theorem Mid.box{V U w w3:World}{g gx a:Nat}{x y:Ex}{ts:List Tok}{A:Option Addr}{n c:Nat}{es:List El}{v:El}(h:Mid V U w g gx a x ts A n c es v y)(hg:w.grownBy w3 (Value.slice A n c).ownBlock):Bk w3 gx 52 #[yI x.k,yI x.n,.string (B x.nm),.slice A n c]:=
 h.1.1.grown hg (fun e=>by have:=(h.own.lt _ e.symm).1;omega)
theorem Mid.apart{V U w w3:World}{g gx a:Nat}{x y:Ex}{ts:List Tok}{A:Option Addr}{n c:Nat}{es:List El}{v:El}(h:Mid V U w g gx a x ts A n c es v y){g' m cap:Nat}{xs:List Value}(ho:w3.ownsRow (gx+1) 52 4 (.slice (some ⟨g',0,none⟩) m cap) m xs): ¬g'=gx:=by
 intro e
 have:=(ho.lt g' rfl).1
 omega
abbrev App(w w3:World)(gx:Nat)(A:Option Addr)(n c g' cap:Nat)(es:List El):Prop:=
 w3.ownsRow (gx+1) 52 4 (.slice (some ⟨g',0,none⟩) (n+1) cap) (n+1) (cellsEs es++cellsE (0,0,[],none,0,0))∧w.grownBy w3 (Value.slice A n c).ownBlock∧((Value.slice A n c).ownBlock=some g'∨g'=w.heap.size)
def Pushed(w3:World)(gx g' n cap:Nat)(x:Ex)(es:List El)(v:El)(W:World):Prop:=
 Bk W gx 52 #[yI x.k,yI x.n,.string (B x.nm),.slice (some ⟨g',0,none⟩) (n+1) cap]∧W.ownsRow (gx+1) 52 4 (.slice (some ⟨g',0,none⟩) (n+1) cap) (n+1) (cellsEs (es++[v]))∧
 (∀q,q≠gx→q≠g'→W.heap[q]?=w3.heap[q]?)∧W.heap.size=w3.heap.size∧W.os=w3.os∧W.tape=w3.tape∧W.output=w3.output
theorem cellsEs_len(es:List El):(cellsEs es).length=es.length*4:=by
 induction es with
 |nil=>rfl
 |cons e t ih=>have:cellsEs (e::t)=cellsE e++cellsEs t:=rfl;rw[this,List.length_append,ih,List.length_cons];show 4+t.length*4=_;omega
theorem own_last{w:World}{base g' n cap:Nat}{es:List El}{z:El}(h:w.ownsRow base 52 4 (.slice (some ⟨g',0,none⟩) (n+1) cap) (n+1) (cellsEs es++cellsE z))(hn:es.length=n):
  (w.cell? ⟨g',n*4,none⟩=some (yI z.1)∧w.cell? ⟨g',n*4+1,none⟩=some (yI z.2.1)∧w.cell? ⟨g',n*4+2,none⟩=some (.string (B z.2.2.1))∧w.cell? ⟨g',n*4+3,none⟩=some (.slice z.2.2.2.1 z.2.2.2.2.1 z.2.2.2.2.2))∧
  (w.frozen? ⟨g',n*4,none⟩=false∧w.frozen? ⟨g',n*4+1,none⟩=false∧w.frozen? ⟨g',n*4+2,none⟩=false∧w.frozen? ⟨g',n*4+3,none⟩=false):=by
 subst hn
 have hc:=h.cells (g:=g') rfl
 have hl:=cellsEs_len es
 have at_:∀j,(cellsEs es++cellsE z)[es.length*4+j]?=(cellsE z)[j]?:=fun j=>by rw[List.getElem?_append_right (by omega),show es.length*4+j-(cellsEs es).length=j by omega]
 have q0:=hc _ _ (at_ 0)
 have q1:=hc _ _ (at_ 1)
 have q2:=hc _ _ (at_ 2)
 have q3:=hc _ _ (at_ 3)
 rw[addr_at] at q0 q1 q2 q3
 simp only[Nat.zero_add,Nat.add_zero] at q0 q1 q2 q3
 rcases h.2 with ⟨h0,h1⟩|⟨g,cap',cur,hv,hb,hh,_⟩
 ·omega
 ·have hg:g=g':=by injection hv with a b c;injection a with a;injection a with a;exact a.symm
  subst hg
  have hb:Bk w g 52 cur:=hh
  exact⟨⟨q0,q1,q2,q3⟩,hb.frozen _,hb.frozen _,hb.frozen _,hb.frozen _⟩
theorem set4_last(es:List El)(z v:El)(n:Nat)(hn:es.length=n):
  ((((cellsEs es++cellsE z).set (n*4) (yI v.1)).set (n*4+1) (yI v.2.1)).set (n*4+2) (.string (B v.2.2.1))).set (n*4+3) (.slice v.2.2.2.1 v.2.2.2.2.1 v.2.2.2.2.2)=cellsEs (es++[v]):=by
 subst hn
 have hl:=cellsEs_len es
 rw[cellsEs_snoc]
 have s:∀(m:List Value)(j:Nat)(u:Value),(cellsEs es++m).set (es.length*4+j) u=cellsEs es++m.set j u:=fun m j u=>by
  rw[List.set_append_right _ _ (by omega),show es.length*4+j-(cellsEs es).length=j by omega]
 have s0:∀(m:List Value)(u:Value),(cellsEs es++m).set (es.length*4) u=cellsEs es++m.set 0 u:=fun m u=>s m 0 u
 rw[s0,s,s,s]
 rfl
abbrev put4(w:World)(g o:Nat)(v:El):World:=(((w.setCell ⟨g,o,none⟩ (yI v.1)).setCell ⟨g,o+1,none⟩ (yI v.2.1)).setCell ⟨g,o+2,none⟩ (.string (B v.2.2.1))).setCell ⟨g,o+3,none⟩ (.slice v.2.2.2.1 v.2.2.2.2.1 v.2.2.2.2.2)
theorem put4_block(w:World)(g o:Nat)(v:El)(q:Nat)(h:q≠g):(put4 w g o v).heap[q]?=w.heap[q]?:=by
 unfold put4
 rw[Below.heap_setCell _ _ _ _ (by simpa using h),Below.heap_setCell _ _ _ _ (by simpa using h),Below.heap_setCell _ _ _ _ (by simpa using h),Below.heap_setCell _ _ _ _ (by simpa using h)]
theorem put4_gr(w:World)(g o:Nat)(v:El):w.grownBy (put4 w g o v) (some g):=grown_trans (grown_trans (grown_trans (set_grown w g o _) (set_grown _ g (o+1) _)) (set_grown _ g (o+2) _)) (set_grown _ g (o+3) _)
theorem own_put4{w:World}{base g' n cap:Nat}{es:List El}{z v:El}(h:w.ownsRow base 52 4 (.slice (some ⟨g',0,none⟩) (n+1) cap) (n+1) (cellsEs es++cellsE z))(hn:es.length=n):
  (put4 w g' (n*4) v).ownsRow base 52 4 (.slice (some ⟨g',0,none⟩) (n+1) cap) (n+1) (cellsEs (es++[v])):=by
 rw[←set4_last es z v n hn]
 exact((((h.stored (n*4) _).1.stored (n*4+1) _).1.stored (n*4+2) _).1.stored (n*4+3) _).1
theorem own_new{w:World}{gx:Nat}{x:Ex}{A:Option Addr}{c:Nat}{es:List El}(h:XP gx w x A c es){q:Nat}(hq:w.heap.size≤q):gx<q∧some q≠(Value.slice A es.length c).ownBlock:=
 ⟨by have:=h.lt;omega,fun e=>by have:=(h.2.1.lt q e.symm).2;omega⟩
theorem mid_of{V U w wb:World}{g gx a:Nat}{x y:Ex}{ts r:List Tok}{A:Option Addr}{c:Nat}{es:List El}{v:El}(h:InP V U w g gx a x ts)(hX:XP gx w x A c es)(hg:w.grownBy wb (some g))(hs:StP V wb g r a)(ex:ExAt (fun q=>w.heap.size≤q) wb v y):Mid V U wb g gx a x r A es.length c es v y:=by
 obtain⟨h1,h2,h3,h4,_⟩:=h
 exact⟨hX.grown hg (by omega),hs,h2,h3,grown_trans h4 hg,ex.weak fun q hq=>own_new hX hq⟩
theorem mid_one{V U w w' w2:World}{g gx a:Nat}{x y:Ex}{ts r:List Tok}{A:Option Addr}{c:Nat}{es:List El}{v:El}(h:InP V U w g gx a x ts)(hX:XP gx w x A c es)(hd:Rel w w')(g2:w'.grownBy w2 (some g))(s2:StP V w2 g r a)(ex:ExAt (fun q=>w'.heap.size≤q) w2 v y)(o:Obj):Mid V U (w2.alloc o) g gx a x r A es.length c es v y:=by
 have R:=s2.V.1.self.alloc o
 exact mid_of h hX (grown_trans (grown_trans (grown_rel (some g) hd) g2) (grown_rel (some g) R)) (s2.rel R) ((ex.rel R).weak fun q hq=>Nat.le_trans hd.size hq)
theorem mid_two{V U w w' w2:World}{g gx a:Nat}{x y:Ex}{ts r:List Tok}{A:Option Addr}{c:Nat}{es:List El}{v:El}(h:InP V U w g gx a x ts)(hX:XP gx w x A c es)(hd:Rel w w')(g2:w'.grownBy w2 (some g))(s2:StP V w2 g r a)(ex:ExAt (fun q=>w'.heap.size≤q) w2 v y){N:Nat}(_:w'.heap.size=N):Mid V U w2 g gx a x r A es.length c es v y:=
 mid_of h hX (grown_trans (grown_rel (some g) hd) g2) s2 (ex.weak fun q hq=>Nat.le_trans hd.size hq)
theorem Mid.pushed{V U w w3:World}{g gx a:Nat}{x y:Ex}{ts:List Tok}{A:Option Addr}{n c g' cap:Nat}{es:List El}{v:El}(h:Mid V U w g gx a x ts A n c es v y)(hp:App w w3 gx A n c g' cap es)(hn:es.length=n):
  Pushed w3 gx g' n cap x es v ((put4 w3 g' (n*4) v).setCell ⟨gx,3,none⟩ (.slice (some ⟨g',0,none⟩) (n+1) cap))∧Pushed w3 gx g' n cap x es v (put4 (w3.setCell ⟨gx,3,none⟩ (.slice (some ⟨g',0,none⟩) (n+1) cap)) g' (n*4) v):=by
 obtain⟨h1,h2,h3⟩:=hp
 have hb:=h.box h2
 have hne:=h.apart h1
 have hgo:some gx≠(Value.slice (some ⟨g',0,none⟩) (n+1) cap).ownBlock:=fun e=>hne (by have e:some gx=some g':=e;injection e with e;exact e.symm)
 have q1:Bk (put4 w3 g' (n*4) v) gx 52 #[yI x.k,yI x.n,.string (B x.nm),.slice A n c]:=(put4_block w3 g' (n*4) v gx (fun e=>hne e.symm)).trans hb
 have q2:Bk (put4 (w3.setCell ⟨gx,3,none⟩ (.slice (some ⟨g',0,none⟩) (n+1) cap)) g' (n*4) v) gx 52 #[yI x.k,yI x.n,.string (B x.nm),.slice (some ⟨g',0,none⟩) (n+1) cap]:=(put4_block _ g' (n*4) v gx (fun e=>hne e.symm)).trans (hb.set_ 3 (.slice (some ⟨g',0,none⟩) (n+1) cap))
 have ga:=put4_gr w3 g' (n*4) v
 have gb:=set_grown (put4 w3 g' (n*4) v) gx 3 (.slice (some ⟨g',0,none⟩) (n+1) cap)
 have gc:=set_grown w3 gx 3 (.slice (some ⟨g',0,none⟩) (n+1) cap)
 have gd:=put4_gr (w3.setCell ⟨gx,3,none⟩ (.slice (some ⟨g',0,none⟩) (n+1) cap)) g' (n*4) v
 have o1:=own_set (own_put4 (v:=v) h1 hn) (p:=⟨gx,3,none⟩) hgo (.slice (some ⟨g',0,none⟩) (n+1) cap)
 have o2:=own_put4 (v:=v) (own_set h1 (p:=⟨gx,3,none⟩) hgo (.slice (some ⟨g',0,none⟩) (n+1) cap)) hn
 constructor
 ·refine⟨q1.set_ 3 _,o1,fun q hq hq'=> ?_, ?_,gb.os.trans ga.os,gb.tape.trans ga.tape,gb.output.trans ga.output⟩
  ·rw[Below.heap_setCell _ _ _ _ (by simpa using hq),put4_block _ _ _ _ _ hq']
  ·simp only[World.size_setCell]
 ·refine⟨q2,o2,fun q hq hq'=> ?_, ?_,gd.os.trans gc.os,gd.tape.trans gc.tape,gd.output.trans gc.output⟩
  ·rw[put4_block _ _ _ _ _ hq',Below.heap_setCell _ _ _ _ (by simpa using hq)]
  ·simp only[World.size_setCell]
theorem Mid.push{V U w w3:World}{g gx a:Nat}{x y:Ex}{ts:List Tok}{A:Option Addr}{n c g' cap:Nat}{es:List El}{v:El}(h:Mid V U w g gx a x ts A n c es v y)(hp:App w w3 gx A n c g' cap es)(hn:es.length=n)(hx:x.l.length≤2)(W:World)(hW:Pushed w3 gx g' n cap x es v W):InP V U W g gx a (x.push y) ts:=by
 obtain⟨⟨m1,m2,m3,m4,m5,m6,m7,m8⟩,s,hg,hU,hG,ex⟩:=h
 obtain⟨h1,h2,h3⟩:=hp
 obtain⟨p1,p2,p3,p4,p5,p6,p7⟩:=hW
 have ho:=fun j (hj:(Value.slice A n c).ownBlock=some j)=>m2.lt j hj
 have hg':=h1.lt g' rfl
 have hsz:=h2.size
 have blk:∀q,q<w.heap.size→q≠gx→some q≠(Value.slice A n c).ownBlock→W.heap[q]?=w.heap[q]?:=fun q hq hne hno=>by
  rw[p3 q hne ?_]
  ·exact h2.block q hq hno
  ·rintro rfl
   rcases h3 with e|e
   ·exact hno e.symm
   ·omega
 have hgx:gx<w.heap.size:=m1.lt
 have gno:∀q,q≤gx→some q≠(Value.slice A n c).ownBlock:=fun q hq e=>by have:=(ho q e.symm).1;omega
 have exs:∀{e:El}{z:Ex},ExAt (fun q=>gx<q∧some q≠(Value.slice A n c).ownBlock) w e z→ExAt (fun q=>gx<q∧some q≠(Value.slice (some ⟨g',0,none⟩) (n+1) cap).ownBlock) W e z:=fun he=>he.mono (by omega) fun q hq hl=>by
  refine⟨⟨hq.1,fun e=> ?_⟩,blk q hl (by omega) hq.2⟩
  have e:q=g':=by injection e
  subst e
  rcases h3 with h|h
  ·exact hq.2 h.symm
  ·omega
 have hlen:(es++[v]).length=n+1:=by rw[List.length_append,hn];rfl
 have sp:StP V W g ts a:=by
  obtain⟨A0,c0,q1,q2,q3,q4,q5,q6,q7,q8⟩:=s
  refine⟨A0,c0,⟨q1.1,⟨p5.trans (h2.os.trans q1.2.os),p6.trans (h2.tape.trans q1.2.tape),p7.trans (h2.output.trans q1.2.output),by have:=q1.2.size;omega,fun k hk=> ?_⟩⟩,q2,q3,q4,q5,q6,q7,(blk g (by omega) (by omega) (gno g (by omega))).trans q8⟩
  have:=q1.2.size
  exact(blk k (by omega) (by omega) (gno k (by omega))).trans (q1.2.block k hk)
 refine⟨sp,hg,hU,⟨p5.trans (h2.os.trans hG.os),p6.trans (h2.tape.trans hG.tape),p7.trans (h2.output.trans hG.output),by have:=hG.size;omega,fun k hk hne=> ?_⟩,some ⟨g',0,none⟩,cap,es++[v], ?_⟩
 ·have:=hG.size
  exact(blk k (by omega) (by omega) (gno k (by omega))).trans (hG.block k hk hne)
 ·unfold XP
  rw[←hlen] at p1 p2
  have hpl:(x.push y).l=x.l++[y]:=rfl
  have all:∀i (hi:i<(es++[v]).length) (hi':i<(x.l++[y]).length),ExAt (fun q=>gx<q∧some q≠(Value.slice (some ⟨g',0,none⟩) (n+1) cap).ownBlock) W (es++[v])[i] (x.l++[y])[i]:=fun i hi hi'=>by
   rcases Nat.lt_or_ge i es.length with hlt|hge
   ·simp only[List.getElem_append_left hlt,List.getElem_append_left (show i<x.l.length by omega)]
    exact exs (m4 i hlt (by omega))
   ·have hie:i=es.length:=by rw[hlen] at hi;omega
    subst hie
    simp only[List.getElem_append_right (Nat.le_refl _),List.getElem_append_right (show x.l.length≤es.length by omega),Nat.sub_self,show es.length-x.l.length=0 by omega,List.getElem_cons_zero]
    exact exs ex
  refine⟨p1,p2,by rw[hlen,hpl,List.length_append,←m3,hn];rfl,fun i hi hi'=>all i hi hi',m5,m6,m7,by rw[hpl,List.length_append];simp;omega⟩
def LoopE(w w1:World)(g d:Nat)(k:Int)(L1:List Int)(j:Nat)(A:Option Addr)(c:Nat)(es:List El)(wr:World):Prop:=
 es.length=j∧Bk wr w.heap.size 52 #[yI 0,yI 0,.string ⟨#[]⟩,.slice none 0 0]∧Bk wr w1.heap.size 52 #[yI k,yI 0,.string ⟨#[]⟩,.slice A j c]∧wr.ownsRow (w1.heap.size+1) 52 4 (.slice A j c) j (cellsEs es)∧
 (∀i (h:i<es.length) (h':i<(upto (gen d) k j L1).1.length),ExAt (fun q=>w1.heap.size<q∧some q≠(Value.slice A j c).ownBlock) wr es[i] (upto (gen d) k j L1).1[i])∧SrcAt wr g (upto (gen d) k j L1).2∧w.grownBy wr (some g)∧w1.heap.size<wr.heap.size
theorem expr_at{d d':Nat}(E:ExprAt d')(hd:d=d'+1)(c:Bool)(L:List Int)(x:Ex)(L':List Int)(hx:Hid (gen d c L=(x,L')))(g:Nat)(w0 w:World)(hr:Rel w0 w)(hg:w0.heap.size≤g)(hs:SrcAt w g L):
  Calls Tryz.prog 33 #[.pointer (some ⟨g,0,none⟩),yI (d:Int),.bool c] w fun e w'=>∃v:El,e= .returned (EV v)∧ExAt (fun k=>w.heap.size≤k) w' v x∧SrcAt w' g L'∧w.grownBy w' (some g):=by
 subst hd
 exact expr_as E c L x L' hx g w0 w hr hg hs
theorem len_more{α:Type}(es:List α)(e:α):(es++[e]).length=es.length+1:=by simp
theorem loop_next{w w1 wr w2 w3:World}{g d:Nat}{k:Int}{L1 L':List Int}{A:Option Addr}{c:Nat}{es:List El}{v:El}{x:Ex}{b:Bool}{g' cap:Nat}{w0:World}(hr:Rel w0 w2)(hz:w1.heap.size=w.heap.size+1)(hgl:g<w.heap.size){j0:Nat}(h:LoopE w w1 g d k L1 j0 A c es wr)(hb:b=(decide (k=10)&&decide (j0=0)))
  (hx:gen d b (upto (gen d) k j0 L1).2=(x,L')) (wd:World) (hwd:Rel wr wd) (hwd':wd.heap.size=wr.heap.size) (ex:ExAt (fun q=>wd.heap.size≤q) w2 v x) (s2:SrcAt w2 g L') (g2:wd.grownBy w2 (some g))
  (hown:w3.ownsRow (w1.heap.size+1) 52 4 (.slice (some ⟨g',0,none⟩) (j0+1) cap) (j0+1) (cellsEs es++cellsE v)) (o:Obj) (hgrow:(w2.alloc o).grownBy w3 (Value.slice A j0 c).ownBlock)
  (hat:(Value.slice A j0 c).ownBlock=some g'∨g'=w2.heap.size+1) (W:World) (hW:w3.setCell ⟨w1.heap.size,3,none⟩ (.slice (some ⟨g',0,none⟩) (j0+1) cap)=W):LoopE w w1 g d k L1 (j0+1) (some ⟨g',0,none⟩) cap (es++[v]) W:=by
 subst hW
 obtain⟨hj,h0,h1,h2,h3,h4,h5,h6⟩:=h
 have hl:=len_more es v
 have ho:=fun j (hj:(Value.slice A j0 c).ownBlock=some j)=>h2.lt j hj
 have hz2:=g2.size
 have ga:w2.grownBy (w2.alloc o) none:=grown_rel none (hr.self.alloc o)
 have za:(w2.alloc o).heap.size=w2.heap.size+1:=World.size_alloc ..
 have hz3:=hgrow.size
 have gs:=set_grown w3 w1.heap.size 3 (.slice (some ⟨g',0,none⟩) (j0+1) cap)
 have hgw:∀j,(Value.slice A j0 c).ownBlock=some j→some g≠some j:=fun j hj e=>by have:=(ho j hj).1;injection e;omega
 unfold LoopE
 have hup:upto (gen d) k (j0+1) L1=((upto (gen d) k j0 L1).1++[x],L'):=by
  simp only[upto]
  rw[←hb,hx]
 rw[hup]
 have kb:∀{q:Nat}{t:TypeId}{cs:Array Value},q<w1.heap.size+1→q≠g→Bk wr q t cs→Bk w3 q t cs:=fun hq hn hbk=>
  (((hbk.rel hwd).grown g2 (fun e=>hn (by injection e))).grown ga (fun e=>by cases e)).grown hgrow (fun e=>by have:=(ho _ e.symm).1;omega)
 refine⟨by rw[hl,hj], ?_, ?_, ?_, ?_, ?_, ?_, ?_⟩
 ·exact(kb (by omega) (by omega) h0).far (p:=⟨w1.heap.size,3,none⟩) (by simp only;omega) _
 ·exact(kb (by omega) (by omega) h1).set_ 3 _
 ·rw[cellsEs_snoc]
  exact own_set hown (fun e=>by have:=(hown.lt _ e.symm).1;simp only at this;omega) _
 ·intro i hi hi'
  have step:∀{e:El}{y:Ex}{S:Nat→Prop},ExAt S w2 e y→(∀q,S q→q<w2.heap.size→w1.heap.size<q∧some q≠(Value.slice A j0 c).ownBlock)→ExAt (fun q=>w1.heap.size<q∧some q≠(Value.slice (some ⟨g',0,none⟩) (j0+1) cap).ownBlock) (w3.setCell ⟨w1.heap.size,3,none⟩ (.slice (some ⟨g',0,none⟩) (j0+1) cap)) e y:=by
   intro e y S he hS
   refine he.mono (by rw[World.size_setCell];omega) fun q hq hl=> ?_
   obtain⟨s1,s2⟩:=hS q hq hl
   refine⟨⟨s1,fun e=> ?_⟩, ?_⟩
   ·have e:q=g':=by injection e
    subst e
    rcases hat with h|h
    ·exact s2 h.symm
    ·omega
   ·exact(gs.block q (by omega) (fun e=>by injection e;omega)).trans ((hgrow.block q (by omega) s2).trans (ga.block q (by omega) (fun e=>by cases e)))
  have hul:(upto (gen d) k j0 L1).1.length=es.length:=by rw[hj];exact upto_len ..
  rcases Nat.lt_or_ge i es.length with hlt|hge
  ·simp only[List.getElem_append_left hlt,List.getElem_append_left (show i<(upto (gen d) k j0 L1).1.length by omega)]
   have:=(h3 i hlt (by omega)).rel hwd
   refine step (S:=fun q=>(w1.heap.size<q∧some q≠(Value.slice A j0 c).ownBlock)) (this.grown g2 (fun q hq=>⟨hq,fun e=>by injection e;omega⟩)) (fun q hq _=>hq)
  ·have hie:i=es.length:=by simp at hi;omega
   subst hie
   simp only[List.getElem_append_right (Nat.le_refl _),List.getElem_append_right (show(upto (gen d) k j0 L1).1.length≤es.length by omega),Nat.sub_self,hul,List.getElem_cons_zero]
   exact step ex (fun q hq _=>⟨by omega,fun e=>by have:=(ho q e.symm).2;omega⟩)
 ·exact((s2.grown ga (fun k e=>by cases e)).grown hgrow (fun j hj=>by have:=(ho j hj).1;omega)).grown gs (fun j hj=>by cases hj;omega)
 ·have q1:=grown_trans h5 (grown_rel (some g) hwd)
  have q2:=grown_of (grown_trans q1 g2) ga (fun j hj=>by cases hj)
  exact grown_of (grown_of q2 hgrow (fun j hj=>by have:=(ho j hj).1;omega)) gs (fun j hj=>by cases hj;omega)
 ·rw[World.size_setCell];omega
theorem loop_done{w w1 wr W:World}{g d m:Nat}{k:Int}{L1:List Int}{A:Option Addr}{c:Nat}{es:List El}(hz:w1.heap.size=w.heap.size+1)(h:LoopE w w1 g d k L1 m A c es wr)
  (hs:wr.heap.size≤W.heap.size) (hW:∀q,w1.heap.size<q→q<wr.heap.size→W.heap[q]?=wr.heap[q]?) (n:Int) (nm:List UInt8) (hk:i64 k) (hn:i64 n) (hm:nm.length≤100):
  ExAt (fun q=>w.heap.size≤q) W (k,n,nm,A,m,c) (.mk k n nm (upto (gen d) k m L1).1):=by
 obtain⟨hj,h0,h1,h2,h3,h4,h5,h6⟩:=h
 obtain⟨l,hl⟩:∃l,(upto (gen d) k m L1).1=l:=⟨_,rfl⟩
 have hlen:l.length=m:=by rw[←hl];exact upto_len ..
 rw[hl] at h3⊢
 subst hlen
 refine .mk k n nm A c l es hk hn hm hj ?_ (fun i hi hi'=> ?_)
 ·have hrow:RowE (fun q=>w1.heap.size<q) wr A es:=ElsOwn.toks (base:=w1.heap.size+1) (n:=l.length) (c:=c) (by unfold ElsOwn;rw[hj];exact h2) hj.symm (fun q hq=>by have:=(h2.lt q hq).1;omega)
  exact hrow.mono hs fun q hq hl=>⟨by omega,hW q hq hl⟩
 ·exact(h3 i hi hi').mono hs fun q hq hl=>⟨by have:=hq.1;omega,hW q hq.1 hl⟩
theorem expr_tree(d:Nat)(hd:d≤10)(H:∀d',d=d'+1→ExprAt d')(L:List Int)(g:Nat)(w0 w:World)(hr:Rel w0 w)(hg0:w0.heap.size≤g)(hs:SrcAt w g L):
  Calls Tryz.prog 33 #[.pointer (some ⟨g,0,none⟩),yI ((d:Int)+1),.bool false] w fun e w'=>
   ∃v:El,e= .returned (EV v)∧ExAt (fun k=>w.heap.size≤k) w' v (gen (d+1) false L).1∧SrcAt w' g (gen (d+1) false L).2∧w.grownBy w' (some g):=by
 obtain⟨i0,hi,hz0,hz1,hz2'⟩:=info_parts ex_info
 have hgl:=hs.lt
 have hA:=hr.self.alloc (.cells #[yI 0,yI 0,.string ⟨#[]⟩,.slice none 0 0] 52)
 have hS:=yH (hs.rel hA)
 have HB:=yH (Bk.new w 52 #[yI 0,yI 0,.string ⟨#[]⟩,.slice none 0 0])
 have HG:=yH (grown_rel (some g) hA)
 have HR:=yH (hr.alloc (.cells #[yI 0,yI 0,.string ⟨#[]⟩,.slice none 0 0] 52))
 have z0:(w.alloc (.cells #[yI 0,yI 0,.string ⟨#[]⟩,.slice none 0 0] 52)).heap.size=w.heap.size+1:=World.size_alloc ..
 have Z0:=yH z0
 obtain⟨⟨v,L1⟩,hv⟩:∃p,nx 10 L=p:=⟨_,rfl⟩
 have HV:=yH hv
 have hb:=nx_bd 10 (by omega) L
 have hkb:=kind_bd d L
 rw[hv] at hb hkb
 simp only at hb hkb
 obtain⟨k,hk⟩:∃k,kindOf d v=k:=⟨_,rfl⟩
 rw[hk] at hkb
 have hgen:gen (d+1) false L=fill k (upto (gen d) k (argsN k).toNat L1):=by rw[gen,hv,hk]
 have HGen:=yH hgen
 obtain⟨m,hm⟩:∃m:Nat,argsN k=(m:Int):=⟨(argsN k).toNat,args_nat hkb.1 (by omega)⟩
 have HM:=yH hm
 have hm3:m≤3:=by have:=args_le k;omega
 obtain⟨k1,k2,k3⟩:=hkb
 have hm0:d=0→m=0:=fun e=>by
  have:=k3 e
  have:k=1∨k=2∨k=3∨k=4:=by omega
  rcases this with rfl|rfl|rfl|rfl<;>(simp[argsN] at hm;omega)
 have HM0:=yH hm0
 clear hA hs hv hgen hm hm0 k3 z0
 have hways:(d=0∧∃r,(1+v).tmod 4=r∧1+r=k)∨(d≠0∧1+v=k):=by
  unfold kindOf at hk
  by_cases h0:d=0
  ·rw[if_pos h0] at hk
   exact .inl ⟨h0,_,rfl,by have:=tdt (1+v) 4 (by omega);omega⟩
  ·rw[if_neg h0] at hk;exact .inr ⟨h0,hk⟩
 clear hk
 rcases hways with ⟨h0,r,hr4,hkr⟩|⟨h0,hkr⟩
 all_goals
  go_enter Tryz.func33,Tryz.ntmps33
  go_upto_region 8 with (go_at_call 52;(with_reducible refine(next_as g L 10 v L1 HV (by decide) (by decide) _ hS.out).mono ?_);rintro e w1 ⟨rfl,s1,g1,z1⟩)
  have hz1:w1.heap.size=w.heap.size+1:=z1.trans Z0.out
  have HB1:=yH (HB.out.grown g1 (fun e=>by injection e;omega))
  have R1:=HR.out.grown g1 (fun k e=>by cases e;exact hg0)
  have HA1:=yH (R1.self.alloc (.cells #[yI k,yI 0,.string ⟨#[]⟩,.slice none 0 0] 52))
  have HI0:Hid (LoopE w w1 g d k L1 0 none 0 [] (w1.alloc (.cells #[yI k,yI 0,.string ⟨#[]⟩,.slice none 0 0] 52))):=
   yH ⟨rfl,HB1.out.alloc _,Bk.new w1 _ _,World.ownsRow_nil _ _ _ _,fun i h=>absurd h (by simp),s1.rel HA1.out,grown_trans (grown_trans HG.out g1) (grown_rel _ HA1.out),by rw[World.size_alloc];omega⟩
  have HRR:=yH R1
  have HZ1:=yH hz1
  have hrb:w.heap.size<w1.heap.size:=by omega
  clear R1 hz1 z1
  go_wp2_with (fail)
  go_loopw [9] (fun i wr=>∃(j:Nat)(A:Option Addr)(c:Nat)(es:List El),j≤m∧i=yI (j:Int)∧Hid (LoopE w w1 g d k L1 j A c es wr)) (fun i _=>m-(RowKit.intOf i).toNat)
  case atStart=>exact⟨0,none,0,[],by omega,rfl,HI0⟩
  case round=>
   obtain⟨j,A,c,es,hem,rfl,HE⟩:=hrel
   by_cases hlt:j<m
   ·by_cases hdz:d=0
    ·exfalso;have:=HM0.out hdz;omega
    ·try exact absurd h0 hdz
     all_goals
      obtain⟨d',hd'⟩:∃d',d=d'+1:=⟨d-1,by omega⟩
      have E:=H d' hd'
      have HD:=yH hd'
      clear hd'
      obtain⟨b,hb⟩:∃b,b=(decide (k=10)&&decide (j=0)):=⟨_,rfl⟩
      obtain⟨⟨x,L'⟩,hx⟩:∃p,gen d b (upto (gen d) k j L1).2=p:=⟨_,rfl⟩
      have HX:=yH hx
      have HBB:=yH hb
      have hbw:((k==10)=true∧((j:Int)==0)=true∧b=true)∨((k==10)=true∧((j:Int)==0)=false∧b=false)∨((k==10)=false∧b=false):=by
       by_cases e1:k=10<;>by_cases e2:j=0<;>simp[hb,e1,e2]
      obtain⟨hkj,hk0,hk1,hk2,hk3,hk4,hk5,hk6⟩:=HE.out
      obtain⟨⟨c0,c1,c2,c3⟩,f0,f1,f2,f3⟩:=hk1.four
      have HK1:=yH hk1
      have HO:=yH hk2
      have hzl:w1.heap.size<wr.heap.size:=hk6
      have Rr:Rel w0 wr:=hr.grown hk5 (fun j e=>by cases e;exact hg0)
      have HRr:=yH Rr
      have HSr:=yH hk4
      have HRd:=yH Rr.drew
      have HSd:=yH (hk4.rel Rr.self.drew)
      have hw1:IntKind.i64.wrap (d:Int)=(d:Int):=IntWalk.i64_in _ (by omega)
      have hw2:IntKind.i64.wrap ((d:Int)+1-1)=(d:Int):=by rw[show(d:Int)+1-1=d by omega];exact hw1
      have hm9:j≤3:=by omega
      have HO2:∀w2,wr.drew.grownBy w2 (some g)→w2.ownsRow (w1.heap.size+1) 52 4 (.slice A j c) j (cellsEs es):=fun w2 g2=>World.ownsRow.kept (own_rel hk2 Rr.self.drew) g2 (by
       cases hv:(Value.slice A j c).ownBlock with
       |none=>exact .inl rfl
       |some q=>exact .inr (fun e=>by have:=(hk2.lt q hv).1;injection e;omega))
      clear hb hx hkj hk0 hk1 hk2 hk3 hk4 hk5 hk6 Rr
      rcases hbw with ⟨b1,b2,rfl⟩|⟨b1,b2,rfl⟩|⟨b1,rfl⟩
      ·go_wp2_with (go_at_call 53;(with_reducible refine(args_as k (m:Int) HM _).mono ?_);rintro e w' ⟨rfl,rfl⟩)
       refine wp_region_any (by kernel_rfl) ?_
       change wpAny _ _ _ _ _ _ _ wr.drew
       refine yM [0,2,3,4,5,6,7,8,9,10] (by kernel_rfl) (fun _ _ _ _ _=>id) ?_
       iterate 10
        refine yT rfl rfl (by rfl) ?_ ?_ ?_
        rotate_left
        ·intro w';go_simp;try with_reducible rfl
        try simp only[Act.put,yA,yB,yC]
       refine yZ ?_
       refine till_take (i:=1) (v:= ?_) (S:=fun w'=>w'.cell? ⟨w1.heap.size,3,none⟩=some (.slice A j c)) (some 48) rfl rfl (by kernel_rfl) (by kernel_rfl) (by kernel_rfl) (fun _ _ _ h=>h) (Or.inl ⟨by rfl, ?_⟩) c3 ?_
       rotate_left 1
       ·intro w' hSw;go_simp;try with_reducible rfl
       try simp only[Act.put,yA,yB,yC]
       refine till_one (j:=11) (by kernel_rfl) rfl (fun K hK=> ?_)
       try simp only[yD,yE,yF]
       rw[if_pos (by rfl)]
       go_simp
       go_at_call 33
       (with_reducible refine(expr_at E HD.out _ _ x L' HX g _ _ HRd.out hg0 HSd.out).mono ?_)
       rintro e w2 ⟨vx,rfl,ex,s2,g2⟩
       have K2:=HK1.out.drew.grown g2 (fun e=>by injection e;omega)
       have hz2:=g2.size
       have d3:=K2.cell 3
       have e3:=(K2.alloc (.cells #[yI vx.1,yI vx.2.1,.string (B vx.2.2.1),.slice vx.2.2.2.1 vx.2.2.2.2.1 vx.2.2.2.2.2] 52)).cell 3
       refine hK.out _ _ d3 ?_
       clear hK K
       try simp only[Act.put,yA,yB,yC]
       refine till_one (j:=12) (by kernel_rfl) rfl (fun K hK=> ?_)
       try simp only[yD,yE,yF]
       go_simp
       refine hK.out _ _ e3 ?_
       clear hK K
       try simp only[Act.put,yA,yB,yC]
       refine till_late (j:=13) (by kernel_rfl) rfl (by kernel_rfl) (fun K hK=> ?_)
       try simp only[yD,yE,yF]
       have hOA:=(HO2 _ g2).alloc (.cells #[yI vx.1,yI vx.2.1,.string (B vx.2.2.1),.slice vx.2.2.2.1 vx.2.2.2.2.1 vx.2.2.2.2.2] 52)
       have hb4:w1.heap.size+1≤(w2.alloc (.cells #[yI vx.1,yI vx.2.1,.string (B vx.2.2.1),.slice vx.2.2.2.1 vx.2.2.2.2.1 vx.2.2.2.2.2] 52)).heap.size:=by rw[World.size_alloc];have e:wr.drew.heap.size=wr.heap.size:=rfl;omega
       rw[if_pos (by rfl)]
       refine wp_append_lies _ _ _ _ rfl (w1.heap.size+1) 52 i0 _ 4 56 Tryz.underlying50 hi hz0 hz1 hz2' rfl (by decide) (.slice A j c) j (cellsEs es) rfl hOA ⟨w2.heap.size,0,none⟩ 1 1 (cellsE vx) rfl rfl (World.news_of_block (Bk.new w2 52 #[yI vx.1,yI vx.2.1,.string (B vx.2.2.1),.slice vx.2.2.2.1 vx.2.2.2.2.1 vx.2.2.2.2.2])) (cellsE_one _) (by decide) (by unfold maxLen;omega) (by omega) hb4 (w2.heap.size+1) (by simp) ?_
       intro g' cap w3 hown3 hgrow hat hlt3
       have K3:=(K2.alloc (.cells #[yI vx.1,yI vx.2.1,.string (B vx.2.2.1),.slice vx.2.2.2.1 vx.2.2.2.2.1 vx.2.2.2.2.2] 52)).grown hgrow (fun e=>by have:=(HO.out.lt _ e.symm).1;omega)
       have y3:=K3.cell 3
       have u3:=K3.frozen 3
       simp only[List.getElem?_toArray,List.getElem?_cons_succ,List.getElem?_cons_zero] at y3
       refine hK.out _ _ ?_
       clear hK K
       try simp only[Act.put,yA,yB,yC]
       refine till_late (j:=14) (by kernel_rfl) rfl (by kernel_rfl) (fun K hK=> ?_)
       try simp only[yD,yE,yF]
       go_simp
       refine hK.out _ _ ?_
       clear hK K
       try simp only[Act.put,yA,yB,yC]
       refine till_late (j:=15) (by kernel_rfl) rfl (by kernel_rfl) (fun K hK=> ?_)
       try simp only[yD,yE,yF]
       go_simp
       refine hK.out _ _ ?_
       clear hK K
       try simp only[Act.put,yA,yB,yC]
       refine till_done (by kernel_rfl) ?_ _
       have hx1:=HX.out
       have hbb:=HBB.out
       have HNx:=yH (loop_next (w0:=w0) (wr:=wr) (w3:=w3) (g':=g') (cap:=cap) (HRd.out.grown g2 (fun q e=>by cases e;exact hg0)) HZ1.out hgl HE.out hbb hx1 wr.drew HRr.out.self.drew rfl ex s2 g2 hown3 (.cells #[yI vx.1,yI vx.2.1,.string (B vx.2.2.1),.slice vx.2.2.2.1 vx.2.2.2.2.1 vx.2.2.2.2.2] 52) hgrow hat _ rfl)
       go_wp2_with (fail)
       go_roundw
       case rel=>exact⟨j+1,some ⟨g',0,none⟩,cap,es++[vx],by omega,by go_num,HNx⟩
       case measure=>simp[RowKit.intOf];omega
      ·go_wp2_with (go_at_call 53;(with_reducible refine(args_as k (m:Int) HM _).mono ?_);rintro e w' ⟨rfl,rfl⟩)
       refine wp_region_any (by kernel_rfl) ?_
       change wpAny _ _ _ _ _ _ _ wr.drew
       refine yM [0,2,3,4,5,6,7,8,9,10] (by kernel_rfl) (fun _ _ _ _ _=>id) ?_
       iterate 10
        refine yT rfl rfl (by rfl) ?_ ?_ ?_
        rotate_left
        ·intro w';go_simp;try with_reducible rfl
        try simp only[Act.put,yA,yB,yC]
       refine yZ ?_
       refine till_take (i:=1) (v:= ?_) (S:=fun w'=>w'.cell? ⟨w1.heap.size,3,none⟩=some (.slice A j c)) (some 48) rfl rfl (by kernel_rfl) (by kernel_rfl) (by kernel_rfl) (fun _ _ _ h=>h) (Or.inl ⟨by rfl, ?_⟩) c3 ?_
       rotate_left 1
       ·intro w' hSw;go_simp;try with_reducible rfl
       try simp only[Act.put,yA,yB,yC]
       refine till_one (j:=11) (by kernel_rfl) rfl (fun K hK=> ?_)
       try simp only[yD,yE,yF]
       rw[if_pos (by rfl)]
       go_simp
       go_at_call 33
       (with_reducible refine(expr_at E HD.out _ _ x L' HX g _ _ HRd.out hg0 HSd.out).mono ?_)
       rintro e w2 ⟨vx,rfl,ex,s2,g2⟩
       have K2:=HK1.out.drew.grown g2 (fun e=>by injection e;omega)
       have hz2:=g2.size
       have d3:=K2.cell 3
       have e3:=(K2.alloc (.cells #[yI vx.1,yI vx.2.1,.string (B vx.2.2.1),.slice vx.2.2.2.1 vx.2.2.2.2.1 vx.2.2.2.2.2] 52)).cell 3
       refine hK.out _ _ d3 ?_
       clear hK K
       try simp only[Act.put,yA,yB,yC]
       refine till_one (j:=12) (by kernel_rfl) rfl (fun K hK=> ?_)
       try simp only[yD,yE,yF]
       go_simp
       refine hK.out _ _ e3 ?_
       clear hK K
       try simp only[Act.put,yA,yB,yC]
       refine till_late (j:=13) (by kernel_rfl) rfl (by kernel_rfl) (fun K hK=> ?_)
       try simp only[yD,yE,yF]
       have hOA:=(HO2 _ g2).alloc (.cells #[yI vx.1,yI vx.2.1,.string (B vx.2.2.1),.slice vx.2.2.2.1 vx.2.2.2.2.1 vx.2.2.2.2.2] 52)
       have hb4:w1.heap.size+1≤(w2.alloc (.cells #[yI vx.1,yI vx.2.1,.string (B vx.2.2.1),.slice vx.2.2.2.1 vx.2.2.2.2.1 vx.2.2.2.2.2] 52)).heap.size:=by rw[World.size_alloc];have e:wr.drew.heap.size=wr.heap.size:=rfl;omega
       rw[if_pos (by rfl)]
       refine wp_append_lies _ _ _ _ rfl (w1.heap.size+1) 52 i0 _ 4 56 Tryz.underlying50 hi hz0 hz1 hz2' rfl (by decide) (.slice A j c) j (cellsEs es) rfl hOA ⟨w2.heap.size,0,none⟩ 1 1 (cellsE vx) rfl rfl (World.news_of_block (Bk.new w2 52 #[yI vx.1,yI vx.2.1,.string (B vx.2.2.1),.slice vx.2.2.2.1 vx.2.2.2.2.1 vx.2.2.2.2.2])) (cellsE_one _) (by decide) (by unfold maxLen;omega) (by omega) hb4 (w2.heap.size+1) (by simp) ?_
       intro g' cap w3 hown3 hgrow hat hlt3
       have K3:=(K2.alloc (.cells #[yI vx.1,yI vx.2.1,.string (B vx.2.2.1),.slice vx.2.2.2.1 vx.2.2.2.2.1 vx.2.2.2.2.2] 52)).grown hgrow (fun e=>by have:=(HO.out.lt _ e.symm).1;omega)
       have y3:=K3.cell 3
       have u3:=K3.frozen 3
       simp only[List.getElem?_toArray,List.getElem?_cons_succ,List.getElem?_cons_zero] at y3
       refine hK.out _ _ ?_
       clear hK K
       try simp only[Act.put,yA,yB,yC]
       refine till_late (j:=14) (by kernel_rfl) rfl (by kernel_rfl) (fun K hK=> ?_)
       try simp only[yD,yE,yF]
       go_simp
       refine hK.out _ _ ?_
       clear hK K
       try simp only[Act.put,yA,yB,yC]
       refine till_late (j:=15) (by kernel_rfl) rfl (by kernel_rfl) (fun K hK=> ?_)
       try simp only[yD,yE,yF]
       go_simp
       refine hK.out _ _ ?_
       clear hK K
       try simp only[Act.put,yA,yB,yC]
       refine till_done (by kernel_rfl) ?_ _
       have hx1:=HX.out
       have hbb:=HBB.out
       have HNx:=yH (loop_next (w0:=w0) (wr:=wr) (w3:=w3) (g':=g') (cap:=cap) (HRd.out.grown g2 (fun q e=>by cases e;exact hg0)) HZ1.out hgl HE.out hbb hx1 wr.drew HRr.out.self.drew rfl ex s2 g2 hown3 (.cells #[yI vx.1,yI vx.2.1,.string (B vx.2.2.1),.slice vx.2.2.2.1 vx.2.2.2.2.1 vx.2.2.2.2.2] 52) hgrow hat _ rfl)
       go_wp2_with (fail)
       go_roundw
       case rel=>exact⟨j+1,some ⟨g',0,none⟩,cap,es++[vx],by omega,by go_num,HNx⟩
       case measure=>simp[RowKit.intOf];omega
      ·go_wp2_with (go_at_call 53;(with_reducible refine(args_as k (m:Int) HM _).mono ?_);rintro e w' ⟨rfl,rfl⟩)
       refine wp_region_any (by kernel_rfl) ?_
       change wpAny _ _ _ _ _ _ _ wr.drew
       refine yM [0,2,3,4,5,6,7] (by kernel_rfl) (fun _ _ _ _ _=>id) ?_
       iterate 7
        refine yT rfl rfl (by rfl) ?_ ?_ ?_
        rotate_left
        ·intro w';go_simp;try with_reducible rfl
        try simp only[Act.put,yA,yB,yC]
       refine yZ ?_
       refine any_take (i:=8) (v:=undef) (some 55) rfl rfl (by kernel_rfl) (by kernel_rfl) (by kernel_rfl) (fun _ _ _ h=>h) (Or.inr ⟨by rfl,rfl⟩) ?_
       try simp only[Act.put,yA,yB,yC]
       refine any_take (i:=9) (v:=undef) (some 56) rfl rfl (by kernel_rfl) (by kernel_rfl) (by kernel_rfl) (fun _ _ _ h=>h) (Or.inr ⟨by rfl,rfl⟩) ?_
       try simp only[Act.put,yA,yB,yC]
       refine yM [10] (by kernel_rfl) (fun _ _ _ _ _=>id) ?_
       refine yT rfl rfl (by rfl) ?_ ?_ ?_
       rotate_left
       ·intro w';go_simp;try with_reducible rfl
       try simp only[Act.put,yA,yB,yC]
       refine yZ ?_
       refine till_take (i:=1) (v:= ?_) (S:=fun w'=>w'.cell? ⟨w1.heap.size,3,none⟩=some (.slice A j c)) (some 48) rfl rfl (by kernel_rfl) (by kernel_rfl) (by kernel_rfl) (fun _ _ _ h=>h) (Or.inl ⟨by rfl, ?_⟩) c3 ?_
       rotate_left 1
       ·intro w' hSw;go_simp;try with_reducible rfl
       try simp only[Act.put,yA,yB,yC]
       refine till_one (j:=11) (by kernel_rfl) rfl (fun K hK=> ?_)
       try simp only[yD,yE,yF]
       rw[if_pos (by rfl)]
       go_simp
       go_at_call 33
       (with_reducible refine(expr_at E HD.out _ _ x L' HX g _ _ HRd.out hg0 HSd.out).mono ?_)
       rintro e w2 ⟨vx,rfl,ex,s2,g2⟩
       have K2:=HK1.out.drew.grown g2 (fun e=>by injection e;omega)
       have hz2:=g2.size
       have d3:=K2.cell 3
       have e3:=(K2.alloc (.cells #[yI vx.1,yI vx.2.1,.string (B vx.2.2.1),.slice vx.2.2.2.1 vx.2.2.2.2.1 vx.2.2.2.2.2] 52)).cell 3
       refine hK.out _ _ d3 ?_
       clear hK K
       try simp only[Act.put,yA,yB,yC]
       refine till_one (j:=12) (by kernel_rfl) rfl (fun K hK=> ?_)
       try simp only[yD,yE,yF]
       go_simp
       refine hK.out _ _ e3 ?_
       clear hK K
       try simp only[Act.put,yA,yB,yC]
       refine till_late (j:=13) (by kernel_rfl) rfl (by kernel_rfl) (fun K hK=> ?_)
       try simp only[yD,yE,yF]
       have hOA:=(HO2 _ g2).alloc (.cells #[yI vx.1,yI vx.2.1,.string (B vx.2.2.1),.slice vx.2.2.2.1 vx.2.2.2.2.1 vx.2.2.2.2.2] 52)
       have hb4:w1.heap.size+1≤(w2.alloc (.cells #[yI vx.1,yI vx.2.1,.string (B vx.2.2.1),.slice vx.2.2.2.1 vx.2.2.2.2.1 vx.2.2.2.2.2] 52)).heap.size:=by rw[World.size_alloc];have e:wr.drew.heap.size=wr.heap.size:=rfl;omega
       rw[if_pos (by rfl)]
       refine wp_append_lies _ _ _ _ rfl (w1.heap.size+1) 52 i0 _ 4 56 Tryz.underlying50 hi hz0 hz1 hz2' rfl (by decide) (.slice A j c) j (cellsEs es) rfl hOA ⟨w2.heap.size,0,none⟩ 1 1 (cellsE vx) rfl rfl (World.news_of_block (Bk.new w2 52 #[yI vx.1,yI vx.2.1,.string (B vx.2.2.1),.slice vx.2.2.2.1 vx.2.2.2.2.1 vx.2.2.2.2.2])) (cellsE_one _) (by decide) (by unfold maxLen;omega) (by omega) hb4 (w2.heap.size+1) (by simp) ?_
       intro g' cap w3 hown3 hgrow hat hlt3
       have K3:=(K2.alloc (.cells #[yI vx.1,yI vx.2.1,.string (B vx.2.2.1),.slice vx.2.2.2.1 vx.2.2.2.2.1 vx.2.2.2.2.2] 52)).grown hgrow (fun e=>by have:=(HO.out.lt _ e.symm).1;omega)
       have y3:=K3.cell 3
       have u3:=K3.frozen 3
       simp only[List.getElem?_toArray,List.getElem?_cons_succ,List.getElem?_cons_zero] at y3
       refine hK.out _ _ ?_
       clear hK K
       try simp only[Act.put,yA,yB,yC]
       refine till_late (j:=14) (by kernel_rfl) rfl (by kernel_rfl) (fun K hK=> ?_)
       try simp only[yD,yE,yF]
       go_simp
       refine hK.out _ _ ?_
       clear hK K
       try simp only[Act.put,yA,yB,yC]
       refine till_late (j:=15) (by kernel_rfl) rfl (by kernel_rfl) (fun K hK=> ?_)
       try simp only[yD,yE,yF]
       go_simp
       refine hK.out _ _ ?_
       clear hK K
       try simp only[Act.put,yA,yB,yC]
       refine till_done (by kernel_rfl) ?_ _
       have hx1:=HX.out
       have hbb:=HBB.out
       have HNx:=yH (loop_next (w0:=w0) (wr:=wr) (w3:=w3) (g':=g') (cap:=cap) (HRd.out.grown g2 (fun q e=>by cases e;exact hg0)) HZ1.out hgl HE.out hbb hx1 wr.drew HRr.out.self.drew rfl ex s2 g2 hown3 (.cells #[yI vx.1,yI vx.2.1,.string (B vx.2.2.1),.slice vx.2.2.2.1 vx.2.2.2.2.1 vx.2.2.2.2.2] 52) hgrow hat _ rfl)
       go_wp2_with (fail)
       go_roundw
       case rel=>exact⟨j+1,some ⟨g',0,none⟩,cap,es++[vx],by omega,by go_num,HNx⟩
       case measure=>simp[RowKit.intOf];omega
   ·obtain rfl:j=m:=by omega
    obtain⟨hkj,hk0,hk1,hk2,hk3,hk4,hk5,hk6⟩:=HE.out
    obtain⟨⟨c0,c1,c2,c3⟩,f0,f1,f2,f3⟩:=hk1.four
    obtain⟨⟨r0,r1,r2,r3⟩,q0,q1,q2,q3⟩:=hk0.four
    have HK0:=yH hk0
    have HK1:=yH hk1
    have HSr:=yH hk4
    have HGr:=yH hk5
    have hzl:w1.heap.size<wr.heap.size:=hk6
    have HRr:=yH (hr.grown hk5 (fun j e=>by cases e;exact hg0))
    obtain⟨⟨l,L2⟩,hl⟩:∃p,upto (gen d) k j L1=p:=⟨_,rfl⟩
    have hm':(argsN k).toNat=j:=by have:=HM.out;omega
    have HGe:=yH (show gen (d+1) false L=fill k (l,L2) by rw[HGen.out,hm',hl])
    have HL:=yH hl
    have HD1:=yH (show ∀(W:World),wr.heap.size≤W.heap.size→(∀q,w1.heap.size<q→q<wr.heap.size→W.heap[q]?=wr.heap[q]?)→∀(n:Int)(nm:List UInt8),i64 n→nm.length≤100→ExAt (fun q=>w.heap.size≤q) W (k,n,nm,A,j,c) (.mk k n nm l) from fun W hs hW n nm hn hm=>by
     have:=loop_done HZ1.out HE.out hs hW n nm ⟨by omega,by omega⟩ hn hm
     rw[hl] at this
     exact this)
    rw[hl] at HSr
    simp only at HSr
    have hways2:k=3∨(k=4∨k=5)∨k=6∨((k==3)=false∧(k==4)=false∧(k==5)=false∧(k==6)=false):=by
     by_cases e3:k=3
     ·exact .inl e3
     ·by_cases e4:k=4∨k=5
      ·exact .inr (.inl e4)
      ·by_cases e6:k=6
       ·exact .inr (.inr (.inl e6))
       ·exact .inr (.inr (.inr (by simp;omega)))
    clear hkj hk0 hk1 hk2 hk3 hk4 hk5 hk6 hm' hl
    rcases hways2 with rfl|h45|rfl|⟨n3,n4,n5,n6⟩
    ·obtain⟨⟨u,L3⟩,hu⟩:∃p,nx 60 L2=p:=⟨_,rfl⟩
     have HU:=yH hu
     have hub:=nx_bd 60 (by omega) L2
     rw[hu] at hub
     simp only at hub
     have HFF:=yH (show fill 3 (l,L2)=(.mk 3 0 (sellerL (pk u 60)) l,L3) by simp[fill,hu])
     have hnm:(sellerL (pk u 60)).length≤100:=by
      have:=(name_parts (seller_name (pk u 60) (pk_bd u 60 (by omega)).1 (pk_bd u 60 (by omega)).2)).2.2.1
      omega
     obtain⟨nm,hnme⟩:∃nm,sellerL (pk u 60)=nm:=⟨_,rfl⟩
     have HSe:=yH (fun(w0 w:World)(hr:Rel w0 w)=>seller_any u (by omega) (by omega) w0 w hr)
     rw[hnme] at HFF hnm HSe
     clear hu hnme
     go_wp2_with (first
      |(go_at_call 53;(with_reducible refine(args_as 3 (j:Int) HM _).mono ?_);rintro e w' ⟨rfl,rfl⟩)
      |(go_at_call 52;(with_reducible refine(next_as g L2 60 u L3 HU (by decide) (by decide) _ HSr.out).mono ?_);rintro e w2 ⟨rfl,s2,g2,z2⟩;have R2:=HRr.out.grown g2 (fun k e=>by cases e;exact hg0))
      |(go_at_call 26;(with_reducible refine(HSe.out _ _ R2.self).mono ?_);rintro e w3 ⟨rfl,h3⟩;have K1:=(HK1.out.grown g2 (fun e=>by injection e;omega)).rel h3;have K0:=(HK0.out.grown g2 (fun e=>by injection e;omega)).rel h3;obtain⟨⟨d0,d1,d2,d3⟩,v0,v1,v2,v3⟩:=K1.four;obtain⟨⟨x0,x1,x2,x3⟩,y0,y1,y2,y3⟩:=K0.four))
     have g3:=grown_rel none h3
     have gs:=set_grown w3 w1.heap.size 2 (.string (B nm))
     have gp:=put4_grown (w3.setCell ⟨w1.heap.size,2,none⟩ (.string (B nm))) w.heap.size (yI 3) (yI 0) (.string (B nm)) (.slice A j c)
     obtain⟨⟨t0,t1,t2,t3⟩,_⟩:=((K0.far (p:=⟨w1.heap.size,2,none⟩) (by simp only;omega) (.string (B nm))).put4 (yI 3) (yI 0) (.string (B nm)) (.slice A j c)).four
     have hz3:=h3.size
     have hz2:(w3.setCell ⟨w1.heap.size,2,none⟩ (.string (B nm))).heap.size=w3.heap.size:=World.size_setCell ..
     refine bodyPost_ret (v:=EV (3,0,nm,A,j,c)) (by simp[results,Tryz.results33,go_sem,t0,t1,t2,t3]) rfl ⟨_,rfl, ?_, ?_, ?_⟩
     ·rw[HGe.out,HFF.out]
      exact HD1.out _ (by have:=gp.size;omega) (fun q hq hl=>(gp.block q (by omega) (fun e=>by injection e;omega)).trans ((gs.block q (by omega) (fun e=>by injection e;omega)).trans ((g3.block q (by omega) (fun e=>by cases e)).trans (g2.block q hl (fun e=>by injection e;omega))))) 0 nm ⟨by omega,by omega⟩ hnm
     ·rw[HGe.out,HFF.out];exact((s2.grown g3 (fun k e=>by cases e)).grown gs (fun k e=>by cases e;omega)).grown gp (fun k e=>by cases e;exact hgl)
     ·exact grown_of (grown_of (grown_of (grown_trans HGr.out g2) g3 (fun k e=>by cases e)) gs (fun k e=>by cases e;omega)) gp (fun k e=>by cases e;exact Nat.le_refl _)
    ·rcases h45 with rfl|rfl
     ·obtain⟨⟨u,L3⟩,hu⟩:∃p,nx 3000 L2=p:=⟨_,rfl⟩
      have HU:=yH hu
      have hub:=nx_bd 3000 (by omega) L2
      rw[hu] at hub
      simp only at hub
      have HFF:=yH (show fill 4 (l,L2)=(.mk 4 u [] l,L3) by simp[fill,hu])
      clear hu
      go_wp2_with (first
       |(go_at_call 53;(with_reducible refine(args_as 4 (j:Int) HM _).mono ?_);rintro e w' ⟨rfl,rfl⟩)
       |(go_at_call 52;(with_reducible refine(next_as g L2 3000 u L3 HU (by decide) (by decide) _ HSr.out).mono ?_);rintro e w2 ⟨rfl,s2,g2,z2⟩;have K1:=HK1.out.grown g2 (fun e=>by injection e;omega);have K0:=HK0.out.grown g2 (fun e=>by injection e;omega);obtain⟨⟨d0,d1,d2,d3⟩,v0,v1,v2,v3⟩:=K1.four;obtain⟨⟨x0,x1,x2,x3⟩,y0,y1,y2,y3⟩:=K0.four))
      have gs:=set_grown w2 w1.heap.size 1 (yI u)
      have gp:=put4_grown (w2.setCell ⟨w1.heap.size,1,none⟩ (yI u)) w.heap.size (yI 4) (yI u) (.string ⟨#[]⟩) (.slice A j c)
      obtain⟨⟨t0,t1,t2,t3⟩,_⟩:=((K0.far (p:=⟨w1.heap.size,1,none⟩) (by simp only;omega) (yI u)).put4 (yI 4) (yI u) (.string ⟨#[]⟩) (.slice A j c)).four
      have hz2:(w2.setCell ⟨w1.heap.size,1,none⟩ (yI u)).heap.size=wr.heap.size:=by rw[World.size_setCell];exact z2
      refine bodyPost_ret (v:=EV (4,u,[],A,j,c)) (by simp[results,Tryz.results33,go_sem,t0,t1,t2,t3];rfl) rfl ⟨_,rfl, ?_, ?_, ?_⟩
      ·rw[HGe.out,HFF.out]
       exact HD1.out _ (by have:=gp.size;omega) (fun q hq hl=>(gp.block q (by omega) (fun e=>by injection e;omega)).trans ((gs.block q (by omega) (fun e=>by injection e;omega)).trans (g2.block q hl (fun e=>by injection e;omega)))) u [] ⟨by omega,by omega⟩ (Nat.zero_le _)
      ·rw[HGe.out,HFF.out];exact(s2.grown gs (fun k e=>by cases e;omega)).grown gp (fun k e=>by cases e;exact hgl)
      ·exact grown_of (grown_of (grown_trans HGr.out g2) gs (fun k e=>by cases e;omega)) gp (fun k e=>by cases e;exact Nat.le_refl _)
     ·obtain⟨⟨u,L3⟩,hu⟩:∃p,nx 3000 L2=p:=⟨_,rfl⟩
      have HU:=yH hu
      have hub:=nx_bd 3000 (by omega) L2
      rw[hu] at hub
      simp only at hub
      have HFF:=yH (show fill 5 (l,L2)=(.mk 5 u [] l,L3) by simp[fill,hu])
      clear hu
      go_wp2_with (first
       |(go_at_call 53;(with_reducible refine(args_as 5 (j:Int) HM _).mono ?_);rintro e w' ⟨rfl,rfl⟩)
       |(go_at_call 52;(with_reducible refine(next_as g L2 3000 u L3 HU (by decide) (by decide) _ HSr.out).mono ?_);rintro e w2 ⟨rfl,s2,g2,z2⟩;have K1:=HK1.out.grown g2 (fun e=>by injection e;omega);have K0:=HK0.out.grown g2 (fun e=>by injection e;omega);obtain⟨⟨d0,d1,d2,d3⟩,v0,v1,v2,v3⟩:=K1.four;obtain⟨⟨x0,x1,x2,x3⟩,y0,y1,y2,y3⟩:=K0.four))
      have gs:=set_grown w2 w1.heap.size 1 (yI u)
      have gp:=put4_grown (w2.setCell ⟨w1.heap.size,1,none⟩ (yI u)) w.heap.size (yI 5) (yI u) (.string ⟨#[]⟩) (.slice A j c)
      obtain⟨⟨t0,t1,t2,t3⟩,_⟩:=((K0.far (p:=⟨w1.heap.size,1,none⟩) (by simp only;omega) (yI u)).put4 (yI 5) (yI u) (.string ⟨#[]⟩) (.slice A j c)).four
      have hz2:(w2.setCell ⟨w1.heap.size,1,none⟩ (yI u)).heap.size=wr.heap.size:=by rw[World.size_setCell];exact z2
      refine bodyPost_ret (v:=EV (5,u,[],A,j,c)) (by simp[results,Tryz.results33,go_sem,t0,t1,t2,t3];rfl) rfl ⟨_,rfl, ?_, ?_, ?_⟩
      ·rw[HGe.out,HFF.out]
       exact HD1.out _ (by have:=gp.size;omega) (fun q hq hl=>(gp.block q (by omega) (fun e=>by injection e;omega)).trans ((gs.block q (by omega) (fun e=>by injection e;omega)).trans (g2.block q hl (fun e=>by injection e;omega)))) u [] ⟨by omega,by omega⟩ (Nat.zero_le _)
      ·rw[HGe.out,HFF.out];exact(s2.grown gs (fun k e=>by cases e;omega)).grown gp (fun k e=>by cases e;exact hgl)
      ·exact grown_of (grown_of (grown_trans HGr.out g2) gs (fun k e=>by cases e;omega)) gp (fun k e=>by cases e;exact Nat.le_refl _)
    ·obtain⟨⟨u,L3⟩,hu⟩:∃p,nx 12000 L2=p:=⟨_,rfl⟩
     have HU:=yH hu
     have hub:=nx_bd 12000 (by omega) L2
     rw[hu] at hub
     simp only at hub
     have HFF:=yH (show fill 6 (l,L2)=(.mk 6 u [] l,L3) by simp[fill,hu])
     clear hu
     go_wp2_with (first
      |(go_at_call 53;(with_reducible refine(args_as 6 (j:Int) HM _).mono ?_);rintro e w' ⟨rfl,rfl⟩)
      |(go_at_call 52;(with_reducible refine(next_as g L2 12000 u L3 HU (by decide) (by decide) _ HSr.out).mono ?_);rintro e w2 ⟨rfl,s2,g2,z2⟩;have K1:=HK1.out.grown g2 (fun e=>by injection e;omega);have K0:=HK0.out.grown g2 (fun e=>by injection e;omega);obtain⟨⟨d0,d1,d2,d3⟩,v0,v1,v2,v3⟩:=K1.four;obtain⟨⟨x0,x1,x2,x3⟩,y0,y1,y2,y3⟩:=K0.four))
     have gs:=set_grown w2 w1.heap.size 1 (yI u)
     have gp:=put4_grown (w2.setCell ⟨w1.heap.size,1,none⟩ (yI u)) w.heap.size (yI 6) (yI u) (.string ⟨#[]⟩) (.slice A j c)
     obtain⟨⟨t0,t1,t2,t3⟩,_⟩:=((K0.far (p:=⟨w1.heap.size,1,none⟩) (by simp only;omega) (yI u)).put4 (yI 6) (yI u) (.string ⟨#[]⟩) (.slice A j c)).four
     have hz2:(w2.setCell ⟨w1.heap.size,1,none⟩ (yI u)).heap.size=wr.heap.size:=by rw[World.size_setCell];exact z2
     refine bodyPost_ret (v:=EV (6,u,[],A,j,c)) (by simp[results,Tryz.results33,go_sem,t0,t1,t2,t3];rfl) rfl ⟨_,rfl, ?_, ?_, ?_⟩
     ·rw[HGe.out,HFF.out]
      exact HD1.out _ (by have:=gp.size;omega) (fun q hq hl=>(gp.block q (by omega) (fun e=>by injection e;omega)).trans ((gs.block q (by omega) (fun e=>by injection e;omega)).trans (g2.block q hl (fun e=>by injection e;omega)))) u [] ⟨by omega,by omega⟩ (Nat.zero_le _)
     ·rw[HGe.out,HFF.out];exact(s2.grown gs (fun k e=>by cases e;omega)).grown gp (fun k e=>by cases e;exact hgl)
     ·exact grown_of (grown_of (grown_trans HGr.out g2) gs (fun k e=>by cases e;omega)) gp (fun k e=>by cases e;exact Nat.le_refl _)
    ·have HFF:=yH (show fill k (l,L2)=(.mk k 0 [] l,L2) by
      simp only[beq_eq_false_iff_ne] at n3 n4 n5 n6
      unfold fill;rw[if_neg n3,if_neg (by omega),if_neg n6])
     go_wp2_with (go_at_call 53;(with_reducible refine(args_as k (j:Int) HM _).mono ?_);rintro e w' ⟨rfl,rfl⟩)
     have gp:=put4_grown wr w.heap.size (yI k) (yI 0) (.string ⟨#[]⟩) (.slice A j c)
     obtain⟨⟨t0,t1,t2,t3⟩,_⟩:=(HK0.out.put4 (yI k) (yI 0) (.string ⟨#[]⟩) (.slice A j c)).four
     refine bodyPost_ret (v:=EV (k,0,[],A,j,c)) (by simp[results,Tryz.results33,go_sem,t0,t1,t2,t3];rfl) rfl ⟨_,rfl, ?_, ?_, ?_⟩
     ·rw[HGe.out,HFF.out]
      exact HD1.out _ gp.size (fun q hq hl=>gp.block q hl (fun e=>by injection e;omega)) 0 [] ⟨by omega,by omega⟩ (Nat.zero_le _)
     ·rw[HGe.out,HFF.out];exact HSr.out.grown gp (fun k e=>by cases e;exact hgl)
     ·exact grown_of HGr.out gp (fun k e=>by cases e;exact Nat.le_refl _)
end Go.Proofs.YtfekhbeaphpelaaGreatDoor
