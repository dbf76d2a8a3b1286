/- A load taken first, more: two operations that may come up; what stands behind all that waits for the load; The landed parser: an expression being built; its number, its name taken; The landed parser: an argument, a condition put into the expression being built. -/

import Derived.Test.YtfekhbeaphpelaaGreatDoorZ04
set_option maxRecDepth 100000
set_option maxHeartbeats 8000000
namespace Go.Proofs.YtfekhbeaphpelaaGreatDoor
open Go
set_option linter.unusedVariables false
set_option linter.unusedSimpArgs false
section
variable {P:Program} {ops:Array Oper} {Q:Exit→Act→World→Prop} {md:Region.Mode} {S:World→Prop}
theorem till_two{i j k:Nat}{o o':Oper}{fuel:Nat}{listed:Array Bool}{a:Act}{w:World}(hr:Region.ready md ops listed=[j,k])(ho:ops[j]?=some o)(ho':ops[k]?=some o')
  (h:∀K':Act→World→Prop,Shut (∀a w,S w→wpTill P md ops Q S i fuel (listed.setIfInBounds j true) a w→K' a w)→if Region.wanted o (yielded ops a.tmps)=true then Oper.wp P o a w K' Q else K' (a.put o.dst undef) w)
  (h':∀K':Act→World→Prop,Shut (∀a w,S w→wpTill P md ops Q S i fuel (listed.setIfInBounds k true) a w→K' a w)→if Region.wanted o' (yielded ops a.tmps)=true then Oper.wp P o' a w K' Q else K' (a.put o'.dst undef) w):wpTill P md ops Q S i (fuel+1) listed a w:=
 ⟨(fun h0=>by rw[hr] at h0;cases h0),fun q hq=>by
   rw[hr] at hq
   rcases List.mem_cons.1 hq with rfl|hq
   ·exact wpOp_step ho (fun K' hK=>h K' (fun a w hS hW=>hK a w ⟨fun _=>hS,hW⟩))
   ·rw[List.mem_singleton] at hq;subst hq
    exact wpOp_step ho' (fun K' hK=>h' K' (fun a w hS hW=>hK a w ⟨fun _=>hS,hW⟩))⟩
theorem till_quiet{q i:Nat}{oi:Oper}{v:Value}(hi:ops[q]?=some oi)(hsel:∀(j:Nat) (o:Oper) cs b,ops[j]?=some o→o.op≠ .select cs b)
  (hQ:∀c a w,Q (.panic c) (a.put oi.dst v) w→Q (.panic c) a w) (hwq:waitsB md ops q i=true):
  ∀(fuel:Nat) (listed:Array Bool) (a:Act) (w:World),
   (∀j oj,ops[j]?=some oj→j≠q→listed.getD j true=false→(∀e∈oj.after,Region.binds md e=true→e.on≠q)→oi.apart ops oj=true)→
   q∈Region.ready md ops listed→YieldsIf P ops (fun _=>True) oi v a→
   wpTill P md ops Q S i fuel (listed.setIfInBounds q true) (a.put oi.dst v) w→wpTill P md ops Q S i (fuel+1) listed a w:=by
 intro fuel
 induction fuel with
 |zero=>
  intro listed a w hap hir hy h
  refine⟨(fun e=>by rw[e] at hir;cases hir),fun j hj=> ?_⟩
  by_cases hji:j=q
  ·subst hji;exact hy.wpOp hi trivial ⟨(fun e=>by rw[hwq] at e;cases e),h⟩
  ·have:=ready_set hj hji
   rw[h.1] at this;cases this
 |succ f ih=>
  intro listed a w hap hir hy h
  refine⟨(fun e=>by rw[e] at hir;cases hir),fun j hj=> ?_⟩
  by_cases hji:j=q
  ·subst hji;exact hy.wpOp hi trivial ⟨(fun e=>by rw[hwq] at e;cases e),h⟩
  ·have hw:=ready_waits hir hj
   obtain⟨_,hjl,oj,hoj,hjw⟩:=ready_iff.1 hj
   have hnot:∀e∈oj.after,Region.binds md e=true→e.on≠q:=by
    intro e he hb hc
    unfold waitsB at hw
    rw[hoj] at hw
    simp only[Option.map_some,Option.getD_some] at hw
    rw[Array.any_eq_false'] at hw
    exact hw e he (by simp[hb,hc])
   have h1:=wpOp_putIf hoj (hap j oj hoj hji hjl hnot) (fun cs b=>hsel q oi cs b hi) (fun cs b=>hsel j oj cs b hoj) hQ hy (h.2 j (ready_set hj hji))
   refine wpOp_mono (fun a' w' h'=> ?_) h1
   obtain⟨hy',hS',ht⟩:=h'
   refine⟨hS',ih (listed.setIfInBounds j true) a' w' (fun p oq hq hqi hql hqe=>hap p oq hq hqi ?_ hqe) (ready_set hir (Ne.symm hji)) hy' ?_⟩
   ·by_cases e:p=j
    ·subst e;exact hjl
    ·rw[set_get e] at hql;exact hql
   ·rw[Array.setIfInBounds_comm _ _ (Ne.symm hji)] at ht
    exact ht
theorem till_move{q i:Nat}{oi:Oper}{v:Value}(d:Option Tmp){fuel:Nat}{listed:Array Bool}{a:Act}{w:World}(hi:ops[q]?=some oi)(hd:oi.dst=d)(hwq:waitsB md ops q i=true)
  (hs:Region.noSelect ops=true) (hf:Region.free md ops listed q=true) (hr:(Region.ready md ops listed).contains q=true)
  (hQ:∀c a w,Q (.panic c) (a.put d v) w→Q (.panic c) a w) (hy:Yields P ops oi v a)
  (h:wpTill P md ops Q S i fuel (listed.setIfInBounds q true) (a.put d v) w):wpTill P md ops Q S i (fuel+1) listed a w:=by
 subst hd
 exact till_quiet hi (Region.noSelect_spec hs) hQ hwq fuel listed a w (Region.free_spec hi hf) (by simpa using hr) hy.yieldsIf h
theorem till_any{i:Nat}:∀(fuel:Nat) (listed:Array Bool) (a:Act) (w:World),(∀j∈List.range ops.size,listed.getD j true=false→waitsB md ops j i=true)→wpAny P md ops Q fuel listed a w→wpTill P md ops Q S i fuel listed a w
 |0,_,_,_,_,h=>h
 |fuel+1,listed,a,w,hw,h=>⟨h.1,fun j hj=>wpOp_mono (fun a' w' h'=>by
   obtain⟨h1,h2,_⟩:=ready_iff.1 hj
   refine⟨fun e=> ?_,till_any fuel _ a' w' (fun q hq hl=>hw q hq ?_) h'⟩
   ·rw[hw j (List.mem_range.2 h1) h2] at e
    cases e
   ·by_cases e:q=j
    ·subst e;exact h2
    ·rw[set_get e] at hl;exact hl) (h.2 j hj)⟩
theorem till_rest{i fuel:Nat}{listed:Array Bool}{a:Act}{w:World}(hw:((List.range ops.size).all fun j=>listed.getD j true||waitsB md ops j i)=true)(h:wpAny P md ops Q fuel listed a w):wpTill P md ops Q S i fuel listed a w:=
 till_any fuel listed a w (fun j hj hl=>by
  have:=List.all_eq_true.1 hw j hj
  rw[hl,Bool.false_or] at this
  exact this) h
theorem any_one{j:Nat}{o:Oper}{fuel:Nat}{listed:Array Bool}{a:Act}{w:World}(hr:Region.ready md ops listed=[j])(ho:ops[j]?=some o)
  (h:∀K':Act→World→Prop,Shut (∀a w,wpAny P md ops Q fuel (listed.setIfInBounds j true) a w→K' a w)→if Region.wanted o (yielded ops a.tmps)=true then Oper.wp P o a w K' Q else K' (a.put o.dst undef) w):wpAny P md ops Q (fuel+1) listed a w:=
 ⟨(fun h0=>by rw[hr] at h0;cases h0),fun q hq=>by rw[hr,List.mem_singleton] at hq;subst hq;exact wpOp_step ho (fun K' hK=>h K' (fun a w hW=>hK a w hW))⟩
theorem any_two{j k:Nat}{o o':Oper}{fuel:Nat}{listed:Array Bool}{a:Act}{w:World}(hr:Region.ready md ops listed=[j,k])(ho:ops[j]?=some o)(ho':ops[k]?=some o')
  (h:∀K':Act→World→Prop,Shut (∀a w,wpAny P md ops Q fuel (listed.setIfInBounds j true) a w→K' a w)→if Region.wanted o (yielded ops a.tmps)=true then Oper.wp P o a w K' Q else K' (a.put o.dst undef) w)
  (h':∀K':Act→World→Prop,Shut (∀a w,wpAny P md ops Q fuel (listed.setIfInBounds k true) a w→K' a w)→if Region.wanted o' (yielded ops a.tmps)=true then Oper.wp P o' a w K' Q else K' (a.put o'.dst undef) w):wpAny P md ops Q (fuel+1) listed a w:=
 ⟨(fun h0=>by rw[hr] at h0;cases h0),fun q hq=>by
   rw[hr] at hq
   rcases List.mem_cons.1 hq with rfl|hq
   ·exact wpOp_step ho (fun K' hK=>h K' (fun a w hW=>hK a w hW))
   ·rw[List.mem_singleton] at hq;subst hq
    exact wpOp_step ho' (fun K' hK=>h' K' (fun a w hW=>hK a w hW))⟩
theorem any_done{listed:Array Bool}{a:Act}{w:World}(hr:Region.ready md ops listed=[])(h:Q .normal a w):∀fuel,wpAny P md ops Q fuel listed a w
 |0=>⟨hr,h⟩
 |_+1=>⟨fun _=>h,by rw[hr];simp⟩
end
end Go.Proofs.YtfekhbeaphpelaaGreatDoor

namespace Go.Proofs.YtfekhbeaphpelaaGreatDoor
open Go.RowKit Go.Lib
set_option linter.unusedVariables false
set_option linter.unusedSimpArgs false
def XP(gx:Nat)(w:World)(x:Ex)(A:Option Addr)(c:Nat)(es:List El):Prop:=
 Bk w gx 52 #[.int .i64 x.k,.int .i64 x.n,.string (B x.nm),.slice A es.length c]∧w.ownsRow (gx+1) 52 4 (.slice A es.length c) es.length (cellsEs es)∧es.length=x.l.length∧
  (∀i (h:i<es.length) (h':i<x.l.length),ExAt (fun q=>gx<q∧some q≠(Value.slice A es.length c).ownBlock) w es[i] x.l[i])∧i64 x.k∧i64 x.n∧x.nm.length≤100∧x.l.length≤3
theorem XP.grown{gx g:Nat}{w w':World}{x:Ex}{A:Option Addr}{c:Nat}{es:List El}(h:XP gx w x A c es)(hg:w.grownBy w' (some g))(hl:g<gx):XP gx w' x A c es:=by
 obtain⟨h1,h2,h3,h4,h5⟩:=h
 refine⟨h1.grown hg (fun e=>by injection e;omega),World.ownsRow.kept h2 hg ?_,h3,fun i hi hi'=>(h4 i hi hi').grown hg (fun q hq=>⟨hq,fun e=>by injection e;omega⟩),h5⟩
 cases hv:(Value.slice A es.length c).ownBlock with
 |none=>exact .inl rfl
 |some q=>exact .inr (fun e=>by have:=(h2.lt q hv).1;injection e;omega)
theorem XP.set{gx:Nat}{w:World}{x:Ex}{A:Option Addr}{c:Nat}{es:List El}(h:XP gx w x A c es)(o:Nat)(v:Value)(y:Ex)(hy:(#[.int .i64 x.k,.int .i64 x.n,.string (B x.nm),.slice A es.length c]:Array Value).setIfInBounds o v= #[.int .i64 y.k,.int .i64 y.n,.string (B y.nm),.slice A es.length c])
  (hl:y.l=x.l) (hk:i64 y.k) (hn:i64 y.n) (hm:y.nm.length≤100):XP gx (w.setCell ⟨gx,o,none⟩ v) y A c es:=by
 obtain⟨h1,h2,h3,h4,h5⟩:=h
 have gs:=set_grown w gx o v
 refine⟨by rw[←hy];exact h1.set_ o v,own_set h2 (fun e=>by have:=(h2.lt _ e.symm).1;simp only at this;omega) v,by rw[hl];exact h3,fun i hi hi'=> ?_,hk,hn,hm,by rw[hl];exact h5.2.2.2⟩
 simp only[hl]
 exact(h4 i hi (by rw[←hl];exact hi')).grown gs (fun q hq=>⟨hq,fun e=>by injection e;omega⟩)
theorem XP.lt{gx:Nat}{w:World}{x:Ex}{A:Option Addr}{c:Nat}{es:List El}(h:XP gx w x A c es):gx<w.heap.size:=h.1.lt
def InP(V U w:World)(g gx a:Nat)(x:Ex)(ts:List Tok):Prop:=StP V w g ts a∧g<U.heap.size∧U.heap.size≤gx∧U.grownBy w (some g)∧∃A c es,XP gx w x A c es
def PcPost(V U:World)(g gx a:Nat)(r:Told Ex)(e:Ending)(w':World):Prop:=match r with
 | .ok (y,ts)=>e= .returned (.tuple #[])∧InP V U w' g gx a y ts
 | .error E=>e=FLT E.1 E.2∧U.grownBy w' (some g)
theorem PcPost.yes{V U:World}{g gx a:Nat}{r:Told Ex}{y:Ex}{ts:List Tok}(h:r= .ok (y,ts)){e:Ending}{w':World}(he:e= .returned (.tuple #[]))(hi:InP V U w' g gx a y ts):PcPost V U g gx a r e w':=by subst h;exact⟨he,hi⟩
theorem PcPost.no{V U:World}{g gx a:Nat}{r:Told Ex}{E:Int×Int}(h:r= .error E){e:Ending}{w':World}(he:e=FLT E.1 E.2)(hi:U.grownBy w' (some g)):PcPost V U g gx a r e w':=by subst h;exact⟨he,hi⟩
theorem InP.step{V U w w':World}{g gx a a':Nat}{x:Ex}{ts ts':List Tok}(h:InP V U w g gx a x ts)(hg:w.grownBy w' (some g))(hs:StP V w' g ts' a'):InP V U w' g gx a' x ts':=by
 obtain⟨h1,h2,h3,h4,A,c,es,h5⟩:=h
 exact⟨hs,h2,h3,grown_trans h4 hg,A,c,es,h5.grown hg (by omega)⟩
theorem InP.set{V U w:World}{g gx a:Nat}{x y:Ex}{ts:List Tok}(h:InP V U w g gx a x ts)(o:Nat)(v:Value)(hy:∀A n c,(#[.int .i64 x.k,.int .i64 x.n,.string (B x.nm),.slice A n c]:Array Value).setIfInBounds o v= #[.int .i64 y.k,.int .i64 y.n,.string (B y.nm),.slice A n c])
  (hl:y.l=x.l) (hk:i64 y.k) (hn:i64 y.n) (hm:y.nm.length≤100):InP V U (w.setCell ⟨gx,o,none⟩ v) g gx a y ts:=by
 obtain⟨h1,h2,h3,h4,A,c,es,h5⟩:=h
 have gs:=set_grown w gx o v
 exact⟨h1.grown gs (fun e=>by injection e;omega) (fun k e=>by cases e;have:=h1.V.2;omega),h2,h3,grown_of h4 gs (fun k e=>by cases e;exact h3),A,c,es,h5.set o v y (hy _ _ _) hl hk hn hm⟩
theorem InP.box{V U w:World}{g gx a:Nat}{x:Ex}{ts:List Tok}(h:InP V U w g gx a x ts):∃A n c,Bk w gx 52 #[.int .i64 x.k,.int .i64 x.n,.string (B x.nm),.slice A n c]:=by
 obtain⟨h1,h2,h3,h4,A,c,es,h5⟩:=h
 exact⟨A,_,c,h5.1⟩
theorem pamount_any(V U:World)(g gx a:Nat)(x:Ex)(ts:List Tok)(f:Bool→List Tok→Told Ex)(w:World)(h:InP V U w g gx a x ts):
  Calls Tryz.prog 99 #[.pointer (some ⟨g,0,none⟩),.pointer (some ⟨gx,0,none⟩)] w (PcPost V U g gx a (stepP f .am x ts)):=by
 have hs:=h.1
 have hq:(∃N,numP 3 1000000000000 ts= .ok (N,ts.tail))∨numP 3 1000000000000 ts= .error (80,atT ts):=by
  unfold numP
  split
  ·exact .inl ⟨_,rfl⟩
  ·exact .inr rfl
 rcases hq with ⟨N,hN⟩|hN
 ·have HI:=yH h
  have HC:=yH (pnum_yes V g a ts 3 1000000000000 N w hs (by decide) hN)
  have HR:=yH (show stepP f .am x ts= .ok (x.num N,ts.tail) by unfold stepP;rw[hN])
  have HNi:Hid (i64 N):=yH (by
   unfold numP at hN
   split at hN
   ·injection hN with hN;injection hN with e _;rw[←e];exact hs.fine.head.2.2.1
   ·cases hN)
  clear h hs hN
  go_enter Tryz.func99,Tryz.ntmps99
  go_wp2_with (go_at_call 135;(with_reducible refine HC.out.mono ?_);rintro e w2 ⟨rfl,s2,g2⟩;have HI2:=yH (HI.out.step g2 s2);obtain⟨A,n,c,hb⟩:=HI2.out.box;obtain⟨⟨c0,c1,c2,c3⟩,f0,f1,f2,f3⟩:=hb.four;clear s2 g2 hb)
  go_end0
  refine PcPost.yes HR.out rfl (HI2.out.set 1 _ (fun _ _ _=>rfl) rfl ?_ HNi.out ?_)
  ·obtain⟨_,_,_,_,A,c,es,hx⟩:=HI.out;exact hx.2.2.2.2.1
  ·obtain⟨_,_,_,_,A,c,es,hx⟩:=HI.out;exact hx.2.2.2.2.2.2.1
 ·have HC:=yH (pnum_not V g a ts 3 1000000000000 w hs hN)
  have HR:=yH (show stepP f .am x ts= .error (80,atT ts) by unfold stepP;rw[hN])
  have HG:=yH h.2.2.2.1
  clear h hs hN
  go_enter Tryz.func99,Tryz.ntmps99
  go_wp2_with (go_at_call 135;(with_reducible refine HC.out.mono ?_);rintro e w2 ⟨rfl,g2⟩)
  exact⟨rfl,PcPost.no HR.out rfl (grown_trans HG.out g2)⟩
theorem ppart_any(V U:World)(g gx a:Nat)(x:Ex)(ts:List Tok)(f:Bool→List Tok→Told Ex)(w:World)(h:InP V U w g gx a x ts):
  Calls Tryz.prog 100 #[.pointer (some ⟨g,0,none⟩),.pointer (some ⟨gx,0,none⟩)] w (PcPost V U g gx a (stepP f .pa x ts)):=by
 have hs:=h.1
 have hq:(∃N,numP 2 100000 ts= .ok (N,ts.tail))∨numP 2 100000 ts= .error (80,atT ts):=by
  unfold numP
  split
  ·exact .inl ⟨_,rfl⟩
  ·exact .inr rfl
 rcases hq with ⟨N,hN⟩|hN
 ·have HI:=yH h
  have HC:=yH (pnum_yes V g a ts 2 100000 N w hs (by decide) hN)
  have HR:=yH (show stepP f .pa x ts= .ok (x.num N,ts.tail) by unfold stepP;rw[hN])
  have HNi:Hid (i64 N):=yH (by
   unfold numP at hN
   split at hN
   ·injection hN with hN;injection hN with e _;rw[←e];exact hs.fine.head.2.2.1
   ·cases hN)
  clear h hs hN
  go_enter Tryz.func100,Tryz.ntmps100
  go_wp2_with (go_at_call 135;(with_reducible refine HC.out.mono ?_);rintro e w2 ⟨rfl,s2,g2⟩;have HI2:=yH (HI.out.step g2 s2);obtain⟨A,n,c,hb⟩:=HI2.out.box;obtain⟨⟨c0,c1,c2,c3⟩,f0,f1,f2,f3⟩:=hb.four;clear s2 g2 hb)
  go_end0
  refine PcPost.yes HR.out rfl (HI2.out.set 1 _ (fun _ _ _=>rfl) rfl ?_ HNi.out ?_)
  ·obtain⟨_,_,_,_,A,c,es,hx⟩:=HI.out;exact hx.2.2.2.2.1
  ·obtain⟨_,_,_,_,A,c,es,hx⟩:=HI.out;exact hx.2.2.2.2.2.2.1
 ·have HC:=yH (pnum_not V g a ts 2 100000 w hs hN)
  have HR:=yH (show stepP f .pa x ts= .error (80,atT ts) by unfold stepP;rw[hN])
  have HG:=yH h.2.2.2.1
  clear h hs hN
  go_enter Tryz.func100,Tryz.ntmps100
  go_wp2_with (go_at_call 135;(with_reducible refine HC.out.mono ?_);rintro e w2 ⟨rfl,g2⟩)
  exact⟨rfl,PcPost.no HR.out rfl (grown_trans HG.out g2)⟩
theorem pcount_any(V U:World)(g gx a:Nat)(x:Ex)(ts:List Tok)(f:Bool→List Tok→Told Ex)(w:World)(h:InP V U w g gx a x ts):
  Calls Tryz.prog 162 #[.pointer (some ⟨g,0,none⟩),.pointer (some ⟨gx,0,none⟩)] w (PcPost V U g gx a (stepP f .co x ts)):=by
 have hs:=h.1
 have hq:(∃N,numP 2 1000 ts= .ok (N,ts.tail))∨numP 2 1000 ts= .error (80,atT ts):=by
  unfold numP
  split
  ·exact .inl ⟨_,rfl⟩
  ·exact .inr rfl
 rcases hq with ⟨N,hN⟩|hN
 ·have HI:=yH h
  have HC:=yH (pnum_yes V g a ts 2 1000 N w hs (by decide) hN)
  have HR:=yH (show stepP f .co x ts= .ok (x.num N,ts.tail) by unfold stepP;rw[hN])
  have HNi:Hid (i64 N):=yH (by
   unfold numP at hN
   split at hN
   ·injection hN with hN;injection hN with e _;rw[←e];exact hs.fine.head.2.2.1
   ·cases hN)
  clear h hs hN
  go_enter Tryz.func162,Tryz.ntmps162
  go_wp2_with (go_at_call 135;(with_reducible refine HC.out.mono ?_);rintro e w2 ⟨rfl,s2,g2⟩;have HI2:=yH (HI.out.step g2 s2);obtain⟨A,n,c,hb⟩:=HI2.out.box;obtain⟨⟨c0,c1,c2,c3⟩,f0,f1,f2,f3⟩:=hb.four;clear s2 g2 hb)
  go_end0
  refine PcPost.yes HR.out rfl (HI2.out.set 1 _ (fun _ _ _=>rfl) rfl ?_ HNi.out ?_)
  ·obtain⟨_,_,_,_,A,c,es,hx⟩:=HI.out;exact hx.2.2.2.2.1
  ·obtain⟨_,_,_,_,A,c,es,hx⟩:=HI.out;exact hx.2.2.2.2.2.2.1
 ·have HC:=yH (pnum_not V g a ts 2 1000 w hs hN)
  have HR:=yH (show stepP f .co x ts= .error (80,atT ts) by unfold stepP;rw[hN])
  have HG:=yH h.2.2.2.1
  clear h hs hN
  go_enter Tryz.func162,Tryz.ntmps162
  go_wp2_with (go_at_call 135;(with_reducible refine HC.out.mono ?_);rintro e w2 ⟨rfl,g2⟩)
  exact⟨rfl,PcPost.no HR.out rfl (grown_trans HG.out g2)⟩
theorem pname_any(V U:World)(g gx a:Nat)(x:Ex)(ts:List Tok)(f:Bool→List Tok→Told Ex)(w:World)(h:InP V U w g gx a x ts):
  Calls Tryz.prog 97 #[.pointer (some ⟨g,0,none⟩),.pointer (some ⟨gx,0,none⟩)] w (PcPost V U g gx a (stepP f .na x ts)):=by
 have hs:=h.1
 have HI:=yH h
 have HN:=yH (pnext_any V g a ts w hs)
 obtain⟨t,ht⟩:∃t,hdT ts=t:=⟨_,rfl⟩
 have hz:t.2.1.length≤100:=by rw[←ht];exact hs.fine.head.2.2.2.2
 have HA:=yH (show atT ts=t.2.2.2 by unfold atT;rw[ht])
 rw[ht] at HN
 have HV:=yH hs.V
 have HZ:=yH hz
 have hsz:(B t.2.1).size≤9223372036854775807:=by rw[B_size];omega
 cases hn:isName t.2.1
 ·have HR:=yH (show stepP f .na x ts= .error (80,atT ts) by unfold stepP nameP;rw[ht,hn];rfl)
  have HNm:=yH (show isName (B t.2.1).data.toList=false by rw[B_list];exact hn)
  clear h hs ht hn hz
  go_enter Tryz.func97,Tryz.ntmps97
  go_wp2_with (first
   |(go_at_call 103;(with_reducible refine HN.out.mono ?_);rintro e w2 ⟨rfl,s2,g2,_⟩;have G2:=yH g2;have R2:=yH (HV.out.1.grown g2 (fun k e=>by cases e;exact HV.out.2));have R3:=yH (R2.out.alloc (.cells #[.int .i64 t.1,.string (B t.2.1),.int .i64 t.2.2.1,.int .i64 t.2.2.2] 78));have HB:=yH (Bk.new w2 78 #[.int .i64 t.1,.string (B t.2.1),.int .i64 t.2.2.1,.int .i64 t.2.2.2]);clear s2 g2)
   |(go_at_call 113;(with_reducible refine(bool_at false (lname_any (B t.2.1) hsz _ _ R3.out.self) HNm).mono ?_);rintro e w4 ⟨rfl,h4⟩;have H4:=yH h4;obtain⟨⟨c0,c1,c2,c3⟩,_⟩:=(HB.out.rel h4).four;clear h4)
   |(go_at_call 102;(with_reducible refine(pwrong_any t _).mono ?_);rintro e w3 ⟨rfl,rfl⟩))
  refine⟨rfl,PcPost.no HR.out (by rw[HA.out]) (grown_trans HI.out.2.2.2.1 (grown_trans G2.out (grown_rel (some g) ?_)))⟩
  exact(((R2.out.self.alloc _).trans H4.out).alloc _).alloc _
 ·have HR:=yH (show stepP f .na x ts= .ok (x.name t.2.1,ts.tail) by unfold stepP nameP;rw[ht,hn];rfl)
  have HNm:=yH (show isName (B t.2.1).data.toList=true by rw[B_list];exact hn)
  have HT:=yH (hs.fine.last (.inr (by rw[ht];rintro e;rw[e] at hn;exact absurd hn (by decide))))
  clear h hs ht hn hz
  go_enter Tryz.func97,Tryz.ntmps97
  go_wp2_with (first
   |(go_at_call 103;(with_reducible refine HN.out.mono ?_);rintro e w2 ⟨rfl,s2,g2,_⟩;have G2:=yH g2;have R2:=yH (HV.out.1.grown g2 (fun k e=>by cases e;exact HV.out.2));have R3:=yH (R2.out.alloc (.cells #[.int .i64 t.1,.string (B t.2.1),.int .i64 t.2.2.1,.int .i64 t.2.2.2] 78));have HB:=yH (Bk.new w2 78 #[.int .i64 t.1,.string (B t.2.1),.int .i64 t.2.2.1,.int .i64 t.2.2.2]);have S2:=yH (s2 HT.out);clear s2 g2)
   |(go_at_call 113;(with_reducible refine(bool_at true (lname_any (B t.2.1) hsz _ _ R3.out.self) HNm).mono ?_);rintro e w4 ⟨rfl,h4⟩;have R4:=(R2.out.self.alloc (.cells #[.int .i64 t.1,.string (B t.2.1),.int .i64 t.2.2.1,.int .i64 t.2.2.2] 78)).trans h4;have HI4:=yH (HI.out.step (grown_trans G2.out (grown_rel (some g) R4)) (S2.out.rel R4));obtain⟨A,n,c,hb⟩:=HI4.out.box;obtain⟨⟨b0,b1,b2,b3⟩,f0,f1,f2,f3⟩:=hb.four;obtain⟨⟨c0,c1,c2,c3⟩,_⟩:=(HB.out.rel h4).four;clear h4 R4 hb))
  go_end0
  refine PcPost.yes HR.out rfl (HI4.out.set 2 _ (fun _ _ _=>rfl) rfl ?_ ?_ HZ.out)
  ·obtain⟨_,_,_,_,A,c,es,hx⟩:=HI.out;exact hx.2.2.2.2.1
  ·obtain⟨_,_,_,_,A,c,es,hx⟩:=HI.out;exact hx.2.2.2.2.2.1
def ExPost(V:World)(g a:Nat)(w:World)(r:Told Ex)(e:Ending)(w':World):Prop:=match r with
 | .ok (x,ts)=>∃v:El,e= .returned (EV v)∧ExAt (fun k=>w.heap.size≤k) w' v x∧StP V w' g ts a∧w.grownBy w' (some g)
 | .error E=>e=FLT E.1 E.2∧w.grownBy w' (some g)
theorem ExPost.yes{V:World}{g a:Nat}{w:World}{r:Told Ex}{x:Ex}{ts:List Tok}(h:r= .ok (x,ts)){e:Ending}{w':World}(hv:∃v:El,e= .returned (EV v)∧ExAt (fun k=>w.heap.size≤k) w' v x∧StP V w' g ts a∧w.grownBy w' (some g)):ExPost V g a w r e w':=by subst h;exact hv
theorem ExPost.no{V:World}{g a:Nat}{w:World}{r:Told Ex}{E:Int×Int}(h:r= .error E){e:Ending}{w':World}(he:e=FLT E.1 E.2)(hg:w.grownBy w' (some g)):ExPost V g a w r e w':=by subst h;exact⟨he,hg⟩
def ExprOk(d:Nat):Prop:=∀(V:World) (g a:Nat) (ts:List Tok) (w:World),a+d=32→StP V w g ts a→
 (Calls Tryz.prog 75 #[.pointer (some ⟨g,0,none⟩)] w (ExPost V g a w (exprT d false ts)))∧(Calls Tryz.prog 136 #[.pointer (some ⟨g,0,none⟩)] w (ExPost V g a w (exprT d true ts)))
theorem ex_yes{d:Nat}(E:ExprOk d){V:World}{g a:Nat}{ts:List Tok}{w:World}(had:a+d=32)(h:StP V w g ts a){y:Ex}{r:List Tok}(hr:exprT d false ts= .ok (y,r)):
  Calls Tryz.prog 75 #[.pointer (some ⟨g,0,none⟩)] w fun e w'=>∃v:El,e= .returned (EV v)∧ExAt (fun k=>w.heap.size≤k) w' v y∧StP V w' g r a∧w.grownBy w' (some g):=by
 have:=(E V g a ts w had h).1
 rw[hr] at this
 exact this
theorem ex_no{d:Nat}(E:ExprOk d){V:World}{g a:Nat}{ts:List Tok}{w:World}(had:a+d=32)(h:StP V w g ts a){e0:Int×Int}(hr:exprT d false ts= .error e0):
  Calls Tryz.prog 75 #[.pointer (some ⟨g,0,none⟩)] w fun e w'=>e=FLT e0.1 e0.2∧w.grownBy w' (some g):=by
 have:=(E V g a ts w had h).1
 rw[hr] at this
 exact this
theorem cond_yes{d:Nat}(E:ExprOk d){V:World}{g a:Nat}{ts:List Tok}{w:World}(had:a+d=32)(h:StP V w g ts a){y:Ex}{r:List Tok}(hr:exprT d true ts= .ok (y,r)):
  Calls Tryz.prog 136 #[.pointer (some ⟨g,0,none⟩)] w fun e w'=>∃v:El,e= .returned (EV v)∧ExAt (fun k=>w.heap.size≤k) w' v y∧StP V w' g r a∧w.grownBy w' (some g):=by
 have:=(E V g a ts w had h).2
 rw[hr] at this
 exact this
theorem cond_no{d:Nat}(E:ExprOk d){V:World}{g a:Nat}{ts:List Tok}{w:World}(had:a+d=32)(h:StP V w g ts a){e0:Int×Int}(hr:exprT d true ts= .error e0):
  Calls Tryz.prog 136 #[.pointer (some ⟨g,0,none⟩)] w fun e w'=>e=FLT e0.1 e0.2∧w.grownBy w' (some g):=by
 have:=(E V g a ts w had h).2
 rw[hr] at this
 exact this
def Mid(V U w:World)(g gx a:Nat)(x:Ex)(ts:List Tok)(A:Option Addr)(n c:Nat)(es:List El)(v:El)(y:Ex):Prop:=
 (Bk w gx 52 #[.int .i64 x.k,.int .i64 x.n,.string (B x.nm),.slice A n c]∧w.ownsRow (gx+1) 52 4 (.slice A n c) n (cellsEs es)∧es.length=x.l.length∧
  (∀i (h:i<es.length) (h':i<x.l.length),ExAt (fun q=>gx<q∧some q≠(Value.slice A n c).ownBlock) w es[i] x.l[i])∧i64 x.k∧i64 x.n∧x.nm.length≤100∧x.l.length≤3)∧
 StP V w g ts a∧g<U.heap.size∧U.heap.size≤gx∧U.grownBy w (some g)∧ExAt (fun q=>gx<q∧some q≠(Value.slice A n c).ownBlock) w v y
theorem Mid.own{V U w:World}{g gx a:Nat}{x y:Ex}{ts:List Tok}{A:Option Addr}{n c:Nat}{es:List El}{v:El}(h:Mid V U w g gx a x ts A n c es v y):w.ownsRow (gx+1) 52 4 (.slice A n c) n (cellsEs es):=h.1.2.1
theorem Mid.base{V U w:World}{g gx a:Nat}{x y:Ex}{ts:List Tok}{A:Option Addr}{n c:Nat}{es:List El}{v:El}(h:Mid V U w g gx a x ts A n c es v y):gx+1≤w.heap.size:=h.1.1.lt
theorem Mid.box{V U w w3:World}{g gx a:Nat}{x y:Ex}{ts:List Tok}{A:Option Addr}{n c:Nat}{es:List El}{v:El}(h:Mid V U w g gx a x ts A n c es v y)(hg:w.grownBy w3 (Value.slice A n c).ownBlock):Bk w3 gx 52 #[.int .i64 x.k,.int .i64 x.n,.string (B x.nm),.slice A n c]:=
 h.1.1.grown hg (fun e=>by have:=(h.own.lt _ e.symm).1;omega)
theorem Mid.apart{V U w w3:World}{g gx a:Nat}{x y:Ex}{ts:List Tok}{A:Option Addr}{n c:Nat}{es:List El}{v:El}(h:Mid V U w g gx a x ts A n c es v y){g' m cap:Nat}{xs:List Value}(ho:w3.ownsRow (gx+1) 52 4 (.slice (some ⟨g',0,none⟩) m cap) m xs): ¬g'=gx:=by
 intro e
 have:=(ho.lt g' rfl).1
 omega
abbrev App(w w3:World)(gx:Nat)(A:Option Addr)(n c g' cap:Nat)(es:List El):Prop:=
 w3.ownsRow (gx+1) 52 4 (.slice (some ⟨g',0,none⟩) (n+1) cap) (n+1) (cellsEs es++cellsE (0,0,[],none,0,0))∧w.grownBy w3 (Value.slice A n c).ownBlock∧((Value.slice A n c).ownBlock=some g'∨g'=w.heap.size)
def Pushed(w3:World)(gx g' n cap:Nat)(x:Ex)(es:List El)(v:El)(W:World):Prop:=
 Bk W gx 52 #[.int .i64 x.k,.int .i64 x.n,.string (B x.nm),.slice (some ⟨g',0,none⟩) (n+1) cap]∧W.ownsRow (gx+1) 52 4 (.slice (some ⟨g',0,none⟩) (n+1) cap) (n+1) (cellsEs (es++[v]))∧
 (∀q,q≠gx→q≠g'→W.heap[q]?=w3.heap[q]?)∧W.heap.size=w3.heap.size∧W.os=w3.os∧W.tape=w3.tape∧W.output=w3.output
theorem cellsEs_len(es:List El):(cellsEs es).length=es.length*4:=by
 induction es with
 |nil=>rfl
 |cons e t ih=>have:cellsEs (e::t)=cellsE e++cellsEs t:=rfl;rw[this,List.length_append,ih,List.length_cons];show 4+t.length*4=_;omega
theorem own_last{w:World}{base g' n cap:Nat}{es:List El}{z:El}(h:w.ownsRow base 52 4 (.slice (some ⟨g',0,none⟩) (n+1) cap) (n+1) (cellsEs es++cellsE z))(hn:es.length=n):
  (w.cell? ⟨g',n*4,none⟩=some (.int .i64 z.1)∧w.cell? ⟨g',n*4+1,none⟩=some (.int .i64 z.2.1)∧w.cell? ⟨g',n*4+2,none⟩=some (.string (B z.2.2.1))∧w.cell? ⟨g',n*4+3,none⟩=some (.slice z.2.2.2.1 z.2.2.2.2.1 z.2.2.2.2.2))∧
  (w.frozen? ⟨g',n*4,none⟩=false∧w.frozen? ⟨g',n*4+1,none⟩=false∧w.frozen? ⟨g',n*4+2,none⟩=false∧w.frozen? ⟨g',n*4+3,none⟩=false):=by
 subst hn
 have hc:=h.cells (g:=g') rfl
 have hl:=cellsEs_len es
 have at_:∀j,(cellsEs es++cellsE z)[es.length*4+j]?=(cellsE z)[j]?:=fun j=>by rw[List.getElem?_append_right (by omega),show es.length*4+j-(cellsEs es).length=j by omega]
 have q0:=hc _ _ (at_ 0)
 have q1:=hc _ _ (at_ 1)
 have q2:=hc _ _ (at_ 2)
 have q3:=hc _ _ (at_ 3)
 rw[addr_at] at q0 q1 q2 q3
 simp only[Nat.zero_add,Nat.add_zero] at q0 q1 q2 q3
 rcases h.2 with ⟨h0,h1⟩|⟨g,cap',cur,hv,hb,hh,_⟩
 ·omega
 ·have hg:g=g':=by injection hv with a b c;injection a with a;injection a with a;exact a.symm
  subst hg
  have hb:Bk w g 52 cur:=hh
  exact⟨⟨q0,q1,q2,q3⟩,hb.frozen _,hb.frozen _,hb.frozen _,hb.frozen _⟩
theorem set4_last(es:List El)(z v:El)(n:Nat)(hn:es.length=n):
  ((((cellsEs es++cellsE z).set (n*4) (.int .i64 v.1)).set (n*4+1) (.int .i64 v.2.1)).set (n*4+2) (.string (B v.2.2.1))).set (n*4+3) (.slice v.2.2.2.1 v.2.2.2.2.1 v.2.2.2.2.2)=cellsEs (es++[v]):=by
 subst hn
 have hl:=cellsEs_len es
 rw[cellsEs_snoc]
 have s:∀(m:List Value) (j:Nat) (u:Value),(cellsEs es++m).set (es.length*4+j) u=cellsEs es++m.set j u:=fun m j u=>by
  rw[List.set_append_right _ _ (by omega),show es.length*4+j-(cellsEs es).length=j by omega]
 have s0:∀(m:List Value) (u:Value),(cellsEs es++m).set (es.length*4) u=cellsEs es++m.set 0 u:=fun m u=>s m 0 u
 rw[s0,s,s,s]
 rfl
abbrev put4(w:World)(g o:Nat)(v:El):World:=(((w.setCell ⟨g,o,none⟩ (.int .i64 v.1)).setCell ⟨g,o+1,none⟩ (.int .i64 v.2.1)).setCell ⟨g,o+2,none⟩ (.string (B v.2.2.1))).setCell ⟨g,o+3,none⟩ (.slice v.2.2.2.1 v.2.2.2.2.1 v.2.2.2.2.2)
theorem put4_block(w:World)(g o:Nat)(v:El)(q:Nat)(h:q≠g):(put4 w g o v).heap[q]?=w.heap[q]?:=by
 unfold put4
 rw[Below.heap_setCell _ _ _ _ (by simpa using h),Below.heap_setCell _ _ _ _ (by simpa using h),Below.heap_setCell _ _ _ _ (by simpa using h),Below.heap_setCell _ _ _ _ (by simpa using h)]
theorem put4_gr(w:World)(g o:Nat)(v:El):w.grownBy (put4 w g o v) (some g):=grown_trans (grown_trans (grown_trans (set_grown w g o _) (set_grown _ g (o+1) _)) (set_grown _ g (o+2) _)) (set_grown _ g (o+3) _)
theorem own_put4{w:World}{base g' n cap:Nat}{es:List El}{z v:El}(h:w.ownsRow base 52 4 (.slice (some ⟨g',0,none⟩) (n+1) cap) (n+1) (cellsEs es++cellsE z))(hn:es.length=n):
  (put4 w g' (n*4) v).ownsRow base 52 4 (.slice (some ⟨g',0,none⟩) (n+1) cap) (n+1) (cellsEs (es++[v])):=by
 rw[←set4_last es z v n hn]
 exact((((h.stored (n*4) _).1.stored (n*4+1) _).1.stored (n*4+2) _).1.stored (n*4+3) _).1
theorem own_new{w:World}{gx:Nat}{x:Ex}{A:Option Addr}{c:Nat}{es:List El}(h:XP gx w x A c es){q:Nat}(hq:w.heap.size≤q):gx<q∧some q≠(Value.slice A es.length c).ownBlock:=
 ⟨by have:=h.lt;omega,fun e=>by have:=(h.2.1.lt q e.symm).2;omega⟩
theorem mid_of{V U w wb:World}{g gx a:Nat}{x y:Ex}{ts r:List Tok}{A:Option Addr}{c:Nat}{es:List El}{v:El}(h:InP V U w g gx a x ts)(hX:XP gx w x A c es)(hg:w.grownBy wb (some g))(hs:StP V wb g r a)(ex:ExAt (fun q=>w.heap.size≤q) wb v y):Mid V U wb g gx a x r A es.length c es v y:=by
 obtain⟨h1,h2,h3,h4,_⟩:=h
 exact⟨hX.grown hg (by omega),hs,h2,h3,grown_trans h4 hg,ex.weak fun q hq=>own_new hX hq⟩
theorem mid_one{V U w w' w2:World}{g gx a:Nat}{x y:Ex}{ts r:List Tok}{A:Option Addr}{c:Nat}{es:List El}{v:El}(h:InP V U w g gx a x ts)(hX:XP gx w x A c es)(hd:Rel w w')(g2:w'.grownBy w2 (some g))(s2:StP V w2 g r a)(ex:ExAt (fun q=>w'.heap.size≤q) w2 v y)(o:Obj):Mid V U (w2.alloc o) g gx a x r A es.length c es v y:=by
 have R:=s2.V.1.self.alloc o
 exact mid_of h hX (grown_trans (grown_trans (grown_rel (some g) hd) g2) (grown_rel (some g) R)) (s2.rel R) ((ex.rel R).weak fun q hq=>Nat.le_trans hd.size hq)
theorem mid_two{V U w w' w2:World}{g gx a:Nat}{x y:Ex}{ts r:List Tok}{A:Option Addr}{c:Nat}{es:List El}{v:El}(h:InP V U w g gx a x ts)(hX:XP gx w x A c es)(hd:Rel w w')(g2:w'.grownBy w2 (some g))(s2:StP V w2 g r a)(ex:ExAt (fun q=>w'.heap.size≤q) w2 v y){N:Nat}(_:w'.heap.size=N):Mid V U w2 g gx a x r A es.length c es v y:=
 mid_of h hX (grown_trans (grown_rel (some g) hd) g2) s2 (ex.weak fun q hq=>Nat.le_trans hd.size hq)
theorem Mid.pushed{V U w w3:World}{g gx a:Nat}{x y:Ex}{ts:List Tok}{A:Option Addr}{n c g' cap:Nat}{es:List El}{v:El}(h:Mid V U w g gx a x ts A n c es v y)(hp:App w w3 gx A n c g' cap es)(hn:es.length=n):
  Pushed w3 gx g' n cap x es v ((put4 w3 g' (n*4) v).setCell ⟨gx,3,none⟩ (.slice (some ⟨g',0,none⟩) (n+1) cap))∧Pushed w3 gx g' n cap x es v (put4 (w3.setCell ⟨gx,3,none⟩ (.slice (some ⟨g',0,none⟩) (n+1) cap)) g' (n*4) v):=by
 obtain⟨h1,h2,h3⟩:=hp
 have hb:=h.box h2
 have hne:=h.apart h1
 have hgo:some gx≠(Value.slice (some ⟨g',0,none⟩) (n+1) cap).ownBlock:=fun e=>hne (by have e:some gx=some g':=e;injection e with e;exact e.symm)
 have q1:Bk (put4 w3 g' (n*4) v) gx 52 #[.int .i64 x.k,.int .i64 x.n,.string (B x.nm),.slice A n c]:=(put4_block w3 g' (n*4) v gx (fun e=>hne e.symm)).trans hb
 have q2:Bk (put4 (w3.setCell ⟨gx,3,none⟩ (.slice (some ⟨g',0,none⟩) (n+1) cap)) g' (n*4) v) gx 52 #[.int .i64 x.k,.int .i64 x.n,.string (B x.nm),.slice (some ⟨g',0,none⟩) (n+1) cap]:=(put4_block _ g' (n*4) v gx (fun e=>hne e.symm)).trans (hb.set_ 3 (.slice (some ⟨g',0,none⟩) (n+1) cap))
 have ga:=put4_gr w3 g' (n*4) v
 have gb:=set_grown (put4 w3 g' (n*4) v) gx 3 (.slice (some ⟨g',0,none⟩) (n+1) cap)
 have gc:=set_grown w3 gx 3 (.slice (some ⟨g',0,none⟩) (n+1) cap)
 have gd:=put4_gr (w3.setCell ⟨gx,3,none⟩ (.slice (some ⟨g',0,none⟩) (n+1) cap)) g' (n*4) v
 have o1:=own_set (own_put4 (v:=v) h1 hn) (p:=⟨gx,3,none⟩) hgo (.slice (some ⟨g',0,none⟩) (n+1) cap)
 have o2:=own_put4 (v:=v) (own_set h1 (p:=⟨gx,3,none⟩) hgo (.slice (some ⟨g',0,none⟩) (n+1) cap)) hn
 constructor
 ·refine⟨q1.set_ 3 _,o1,fun q hq hq'=> ?_, ?_,gb.os.trans ga.os,gb.tape.trans ga.tape,gb.output.trans ga.output⟩
  ·rw[Below.heap_setCell _ _ _ _ (by simpa using hq),put4_block _ _ _ _ _ hq']
  ·simp only[World.size_setCell]
 ·refine⟨q2,o2,fun q hq hq'=> ?_, ?_,gd.os.trans gc.os,gd.tape.trans gc.tape,gd.output.trans gc.output⟩
  ·rw[put4_block _ _ _ _ _ hq',Below.heap_setCell _ _ _ _ (by simpa using hq)]
  ·simp only[World.size_setCell]
theorem Mid.push{V U w w3:World}{g gx a:Nat}{x y:Ex}{ts:List Tok}{A:Option Addr}{n c g' cap:Nat}{es:List El}{v:El}(h:Mid V U w g gx a x ts A n c es v y)(hp:App w w3 gx A n c g' cap es)(hn:es.length=n)(hx:x.l.length≤2)(W:World)(hW:Pushed w3 gx g' n cap x es v W):InP V U W g gx a (x.push y) ts:=by
 obtain⟨⟨m1,m2,m3,m4,m5,m6,m7,m8⟩,s,hg,hU,hG,ex⟩:=h
 obtain⟨h1,h2,h3⟩:=hp
 obtain⟨p1,p2,p3,p4,p5,p6,p7⟩:=hW
 have ho:=fun j (hj:(Value.slice A n c).ownBlock=some j)=>m2.lt j hj
 have hg':=h1.lt g' rfl
 have hsz:=h2.size
 have blk:∀q,q<w.heap.size→q≠gx→some q≠(Value.slice A n c).ownBlock→W.heap[q]?=w.heap[q]?:=fun q hq hne hno=>by
  rw[p3 q hne ?_]
  ·exact h2.block q hq hno
  ·rintro rfl
   rcases h3 with e|e
   ·exact hno e.symm
   ·omega
 have hgx:gx<w.heap.size:=m1.lt
 have gno:∀q,q≤gx→some q≠(Value.slice A n c).ownBlock:=fun q hq e=>by have:=(ho q e.symm).1;omega
 have exs:∀{e:El} {z:Ex},ExAt (fun q=>gx<q∧some q≠(Value.slice A n c).ownBlock) w e z→ExAt (fun q=>gx<q∧some q≠(Value.slice (some ⟨g',0,none⟩) (n+1) cap).ownBlock) W e z:=fun he=>he.mono (by omega) fun q hq hl=>by
  refine⟨⟨hq.1,fun e=> ?_⟩,blk q hl (by omega) hq.2⟩
  have e:q=g':=by injection e
  subst e
  rcases h3 with h|h
  ·exact hq.2 h.symm
  ·omega
 have hlen:(es++[v]).length=n+1:=by rw[List.length_append,hn];rfl
 have sp:StP V W g ts a:=by
  obtain⟨A0,c0,q1,q2,q3,q4,q5,q6,q7,q8⟩:=s
  refine⟨A0,c0,⟨q1.1,⟨p5.trans (h2.os.trans q1.2.os),p6.trans (h2.tape.trans q1.2.tape),p7.trans (h2.output.trans q1.2.output),by have:=q1.2.size;omega,fun k hk=> ?_⟩⟩,q2,q3,q4,q5,q6,q7,(blk g (by omega) (by omega) (gno g (by omega))).trans q8⟩
  have:=q1.2.size
  exact(blk k (by omega) (by omega) (gno k (by omega))).trans (q1.2.block k hk)
 refine⟨sp,hg,hU,⟨p5.trans (h2.os.trans hG.os),p6.trans (h2.tape.trans hG.tape),p7.trans (h2.output.trans hG.output),by have:=hG.size;omega,fun k hk hne=> ?_⟩,some ⟨g',0,none⟩,cap,es++[v], ?_⟩
 ·have:=hG.size
  exact(blk k (by omega) (by omega) (gno k (by omega))).trans (hG.block k hk hne)
 ·unfold XP
  rw[←hlen] at p1 p2
  have hpl:(x.push y).l=x.l++[y]:=rfl
  have all:∀i (hi:i<(es++[v]).length) (hi':i<(x.l++[y]).length),ExAt (fun q=>gx<q∧some q≠(Value.slice (some ⟨g',0,none⟩) (n+1) cap).ownBlock) W (es++[v])[i] (x.l++[y])[i]:=fun i hi hi'=>by
   rcases Nat.lt_or_ge i es.length with hlt|hge
   ·simp only[List.getElem_append_left hlt,List.getElem_append_left (show i<x.l.length by omega)]
    exact exs (m4 i hlt (by omega))
   ·have hie:i=es.length:=by rw[hlen] at hi;omega
    subst hie
    simp only[List.getElem_append_right (Nat.le_refl _),List.getElem_append_right (show x.l.length≤es.length by omega),Nat.sub_self,show es.length-x.l.length=0 by omega,List.getElem_cons_zero]
    exact exs ex
  refine⟨p1,p2,by rw[hlen,hpl,List.length_append,←m3,hn];rfl,fun i hi hi'=>all i hi hi',m5,m6,m7,by rw[hpl,List.length_append];simp;omega⟩
end Go.Proofs.YtfekhbeaphpelaaGreatDoor
