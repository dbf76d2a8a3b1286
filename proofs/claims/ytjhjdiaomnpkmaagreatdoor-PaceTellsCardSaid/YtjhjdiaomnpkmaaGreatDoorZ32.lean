/- Plain mathematics of layer 2. -/

import Derived.Test.YtjhjdiaomnpkmaaGreatDoorZ03
set_option maxRecDepth 100000
set_option maxHeartbeats 8000000
set_option linter.unusedVariables false
set_option linter.unusedSimpArgs false
namespace Go.Proofs.YtjhjdiaomnpkmaaGreatDoor
open Go.Lib
theorem cnt_yes{l:List UInt8}{most:Int}(h:allD l=true)(h1:l.isEmpty=false)(h':l.length≤1∨l.head?≠some 48):cnt l most=if most<val l 0∨1000000000000<val l 0 then -1 else val l 0:=by
 rw[←cnt_prog l most h1 h',digs_eq _ _ _ (by omega),h,h1]
 simp only[Bool.true_and,Bool.false_or,decide_eq_true_eq]
 by_cases hc:most<val l 0∨1000000000000<val l 0
 ·rw[if_neg (by omega),if_pos hc]
 ·rw[if_pos (by omega),if_neg hc]
theorem ref_yes{l x:List UInt8}{c d:UInt8}(ht:body l=x++[46,c,d])(hx:0≤cnt x 10000000000)(hc:isD c=true)(hd:isD d=true):
  prs l=if txt ((if negL l then -1 else 1)*(cnt x 10000000000*100+two c d))=l then some ((if negL l then -1 else 1)*(cnt x 10000000000*100+two c d)) else none:=by
 have e:prs l=fin (negL l) (cnt x 10000000000*100+two c d):=by rw[prs_mk ht,if_pos (by simp[hx,hc,hd])]
 have hsign:∀m:Int,(if negL l then -m else m)=(if negL l then -1 else 1)*m:=by intro m;cases negL l<;>simp
 generalize hm:cnt x 10000000000*100+two c d=m at*
 generalize hA:(if negL l then -1 else 1)*m=A at*
 cases hp:prs l with
 |some a=>
  have h1:=(txt_of_prs hp).2
  rw[hp] at e
  unfold fin at e
  split at e
  ·cases e
  ·rw[hsign,hA] at e
   obtain rfl:=Option.some.inj e
   rw[if_pos h1]
 |none=>
  rw[if_neg]
  intro h
  cases hr:rt A
  ·unfold txt at h
   rw[hr] at h
   have hl:l=[]:=h.symm
   subst hl
   simp[body,negL] at ht
  ·have:=prs_txt hr
   rw[h,hp] at this
   cases this
theorem ref_dot{l:List UInt8}(h:4≤(body l).length)(h':(body l)[(body l).length-3]?≠some 46):prs l=none:=by
 cases e:last3 (body l) with
 |none=>exact prs_no e
 |some p=>
  obtain⟨x,c,d⟩:=p
  have ht:=last3_of e
  exfalso
  apply h'
  rw[ht]
  simp
theorem ref_parts{t:List UInt8}(h:4≤t.length)(h':t[t.length-3]?=some 46):∃c d,t=t.take (t.length-3)++[46,c,d]∧t[t.length-2]?=some c∧t[t.length-1]?=some d:=by
 have h2:t.length-2<t.length:=by omega
 have h1:t.length-1<t.length:=by omega
 have h3:t.length-3<t.length:=by omega
 refine⟨t[t.length-2],t[t.length-1], ?_,List.getElem?_eq_getElem h2,List.getElem?_eq_getElem h1⟩
 have e3:t[t.length-3]=46:=by rw[List.getElem?_eq_getElem h3] at h';exact Option.some.inj h'
 have d3:=List.drop_eq_getElem_cons h3
 have d2:=List.drop_eq_getElem_cons h2
 have d1:=List.drop_eq_getElem_cons h1
 rw[show t.length-3+1=t.length-2 by omega,e3,d2,show t.length-2+1=t.length-1 by omega,d1,show t.length-1+1=t.length by omega,List.drop_length] at d3
 have:=List.take_append_drop (t.length-3) t
 rw[d3] at this
 exact this.symm
def zE:Ex:= .mk 0 0 [] []
def wrongR(c:Int)(s:PS):PS:=if s.2=0 then (s.1,c) else s
def takeR(k:Int)(x:List UInt8)(s:PS):Tok×PS:=
 if s.2=0 then (if (hdT s.1).1=k∧(x=[]∨(hdT s.1).2.1=x) then (hdT s.1,(if k=5 then s.1 else s.1.tail,0)) else (zT,(s.1,80))) else (zT,s)
def betweenR(j:Nat)(s:PS):PS:=if j=0 then s else (takeR 4 [44] s).2
def uptoR(f:Bool→PS→Ex×PS)(k:Int):Nat→PS→List Ex×PS
 |0,s=>([],s)
 |j+1,s=>((uptoR f k j s).1++[(f (decide (k=10)&&decide (j=0)) (betweenR j (uptoR f k j s).2)).1],(f (decide (k=10)&&decide (j=0)) (betweenR j (uptoR f k j s).2)).2)
def restR(k:Int)(s:PS):(Int×List UInt8)×PS:=
 if k=3 then ((0,(hdT s.1).2.1),(takeR 1 [] (if isName (hdT s.1).2.1 then s else wrongR 80 s)).2)
 else if k=5 then (((takeR 3 [] (takeR 4 [44] s).2).1.2.2.1,[]),(takeR 3 [] (takeR 4 [44] s).2).2)
 else if k=6 then (((takeR 2 [] (takeR 4 [44] s).2).1.2.2.1,[]),(takeR 2 [] (takeR 4 [44] s).2).2)
 else if k=11 then (((hdT s.1).2.2.1,[]),(takeR 2 [] (if (hdT s.1).2.2.1≤1000 then s else wrongR 80 s)).2)
 else ((0,[]),s)
def callR(f:Bool→PS→Ex×PS)(k:Int)(s:PS):Ex×PS:=
 (.mk k (restR k (uptoR f k (argsN k).toNat (takeR 4 [40] s).2).2).1.1 (restR k (uptoR f k (argsN k).toNat (takeR 4 [40] s).2).2).1.2 (uptoR f k (argsN k).toNat (takeR 4 [40] s).2).1,
  (takeR 4 [41] (restR k (uptoR f k (argsN k).toNat (takeR 4 [40] s).2).2).2).2)
def exprR:Nat→Bool→PS→Ex×PS
 |0,_,s=>(zE,wrongR 81 s)
 |d+1,c,s=>
  if s.2≠0 then (zE,s)
  else if kindT c (hdT s.1)=0 then (zE,(s.1,80))
  else if kindT c (hdT s.1)=4 then (.mk 4 (hdT s.1).2.2.1 [] [],(s.1.tail,0))
  else if kindT c (hdT s.1)=1∨kindT c (hdT s.1)=2 then (.mk (kindT c (hdT s.1)) 0 [] [],(takeR 1 [] s).2)
  else callR (exprR d) (kindT c (hdT s.1)) (takeR 1 [] s).2
def SameR{α:Type}(r:Told α)(q:α×PS):Prop:=match r with
 | .ok (x,ts)=>q=(x,(ts,0))
 | .error E=>q.2.2=E.1∧E.1≠0∧atT q.2.1=E.2
theorem SameR.ok_{α:Type}{r:Told α}{q:α×PS}(h:SameR r q){x:α}{ts:List Tok}(e:r= .ok (x,ts)):q=(x,(ts,0)):=by subst e;exact h
theorem SameR.er{α:Type}{r:Told α}{q:α×PS}(h:SameR r q){E:Int×Int}(e:r= .error E):q.2.2=E.1∧E.1≠0∧atT q.2.1=E.2:=by subst e;exact h
theorem SameR.of_er{α β:Type}{r:Told α}{q:α×PS}(h:SameR r q){E:Int×Int}(e:r= .error E){q':β×PS}(hq:q'.2=q.2):SameR (.error E:Told β) q':=by
 obtain⟨a,b,c⟩:=h.er e
 exact⟨by rw[hq];exact a,b,by rw[hq];exact c⟩
theorem SameR.bad{α:Type}{r:Told α}{q:α×PS}(h:SameR r q){E:Int×Int}(e:r= .error E):q.2.2≠0:=by
 obtain⟨a,b,c⟩:=h.er e
 rw[a];exact b
theorem takeR_bad{k:Int}{x:List UInt8}{s:PS}(h:s.2≠0):takeR k x s=(zT,s):=by unfold takeR;rw[if_neg h]
theorem wrongR_bad{c:Int}{s:PS}(h:s.2≠0):wrongR c s=s:=by unfold wrongR;rw[if_neg h]
theorem betweenR_bad{j:Nat}{s:PS}(h:s.2≠0):betweenR j s=s:=by unfold betweenR;rw[takeR_bad h];split<;>rfl
theorem take_same(k:Int)(x:List UInt8)(ts:List Tok):SameR (takeT k x ts) (takeR k x (ts,0)):=by
 unfold takeT takeR
 rw[if_pos rfl]
 by_cases h:(hdT ts).1=k∧(x=[]∨(hdT ts).2.1=x)
 ·rw[if_pos h,if_pos h];rfl
 ·rw[if_neg h,if_neg h];exact⟨rfl,show(80:Int)≠0 by decide,rfl⟩
theorem restR_bad{k:Int}{s:PS}(h:s.2≠0):(restR k s).2=s:=by
 have hw:∀p:Prop,[Decidable p]→(if p then s else wrongR 80 s)=s:=fun p _=>by rw[wrongR_bad h];split<;>rfl
 unfold restR
 split
 ·simp only[hw,takeR_bad h]
 ·split
  ·simp only[takeR_bad h]
  ·split
   ·simp only[takeR_bad h]
   ·split
    ·simp only[hw,takeR_bad h]
    ·rfl
theorem uptoR_bad{f:Bool→PS→Ex×PS}{k:Int}(hf:∀b s,s.2≠0→(f b s).2=s)(j:Nat){s:PS}(h:s.2≠0):(uptoR f k j s).2=s:=by
 induction j with
 |zero=>rfl
 |succ j ih=>
  unfold uptoR
  simp only[ih,betweenR_bad h]
  rw[hf _ _ h]
theorem exprR_bad(d:Nat)(c:Bool)(s:PS)(h:s.2≠0):(exprR d c s).2=s:=by
 cases d with
 |zero=>unfold exprR;exact wrongR_bad h
 |succ d=>unfold exprR;rw[if_pos h]
def argsR(f:Bool→PS→Ex×PS)(k:Int):Nat→Nat→PS→List Ex×PS
 |_,0,s=>([],s)
 |i,m+1,s=>((f (decide (k=10)&&decide (i=0)) (betweenR i s)).1::(argsR f k (i+1) m (f (decide (k=10)&&decide (i=0)) (betweenR i s)).2).1,(argsR f k (i+1) m (f (decide (k=10)&&decide (i=0)) (betweenR i s)).2).2)
theorem argsR_snoc(f:Bool→PS→Ex×PS)(k:Int)(m:Nat):∀(i:Nat)(s:PS),argsR f k i (m+1) s=((argsR f k i m s).1++[(f (decide (k=10)&&decide (i+m=0)) (betweenR (i+m) (argsR f k i m s).2)).1],(f (decide (k=10)&&decide (i+m=0)) (betweenR (i+m) (argsR f k i m s).2)).2):=by
 induction m with
 |zero=>intro i s;rfl
 |succ m ih=>
  intro i s
  rw[argsR,ih]
  rw[show i+1+m=i+(m+1) by omega]
  conv=>rhs;rw[argsR]
  rfl
theorem uptoR_args(f:Bool→PS→Ex×PS)(k:Int)(m:Nat)(s:PS):uptoR f k m s=argsR f k 0 m s:=by
 induction m with
 |zero=>rfl
 |succ m ih=>
  rw[argsR_snoc,uptoR,ih]
  simp only[Nat.zero_add]
theorem args_same{f:Bool→List Tok→Told Ex}{g:Bool→PS→Ex×PS}(k:Int)(h:∀b ts,SameR (f b ts) (g b (ts,0)))(hg:∀b s,s.2≠0→(g b s).2=s)(m:Nat):∀(i:Nat)(ts:List Tok),SameR (argsT f k i m ts) (argsR g k i m (ts,0)):=by
 induction m with
 |zero=>intro i ts;rfl
 |succ m ih=>
  have hbad:∀(i m:Nat)(s:PS),s.2≠0→(argsR g k i m s).2=s:=by
   intro i m
   induction m generalizing i with
   |zero=>intro s _;rfl
   |succ m ih=>intro s hs;rw[argsR];simp only[betweenR_bad hs];rw[ih _ _ (by rw[hg _ _ hs];exact hs),hg _ _ hs]
  intro i ts
  have hb:SameR (if i=0 then (.ok ((5,[],0,0),ts):Told Tok) else takeT 4 [44] ts) (if i=0 then ((5,[],0,0),(ts,0)) else takeR 4 [44] (ts,0)):=by
   split
   ·rfl
   ·exact take_same 4 [44] ts
  have hbe:betweenR i (ts,0)=(if i=0 then ((5,[],0,0),(ts,0)) else takeR 4 [44] (ts,0)).2:=by unfold betweenR;split<;>rfl
  unfold argsT argsR
  rw[hbe]
  generalize (if i=0 then ((5,[],0,0),(ts,0)) else takeR 4 [44] (ts,0))=q at hb
  cases hr:(if i=0 then (.ok ((5,[],0,0),ts):Told Tok) else takeT 4 [44] ts) with
  |error E=>
   have hq:=hb.bad hr
   exact hb.of_er hr (by simp only[hg _ _ hq];rw[hbad _ _ _ hq])
  |ok p=>
   obtain⟨t,ts1⟩:=p
   obtain rfl:=hb.ok_ hr
   have hf:=h (decide (k=10)&&decide (i=0)) ts1
   simp only
   cases hx:f (decide (k=10)&&decide (i=0)) ts1 with
   |error E=>
    have hq:=hf.bad hx
    exact hf.of_er hx (hbad _ _ _ hq)
   |ok p2=>
    obtain⟨x,ts2⟩:=p2
    have e2:=hf.ok_ hx
    rw[e2]
    simp only
    have hi:=ih (i+1) ts2
    cases hy:argsT f k (i+1) m ts2 with
    |error E=>exact hi.of_er hy rfl
    |ok p3=>
     obtain⟨l,ts3⟩:=p3
     have e3:=hi.ok_ hy
     rw[e3]
     rfl
theorem rest_same(k:Int)(ts:List Tok):SameR (restT k ts) (restR k (ts,0)):=by
 have two:∀K:Int,SameR (match takeT 4 [44] ts with| .error e=>(.error e:Told (Int×List UInt8))| .ok (_,ts)=>(match takeT K [] ts with| .error e=> .error e| .ok (t,ts)=> .ok ((t.2.2.1,[]),ts))) (((takeR K [] (takeR 4 [44] (ts,0)).2).1.2.2.1,[]),(takeR K [] (takeR 4 [44] (ts,0)).2).2):=by
  intro K
  have h1:=take_same 4 [44] ts
  cases hr:takeT 4 [44] ts with
  |error E=>
   have hq:=h1.bad hr
   exact h1.of_er hr (by simp only[takeR_bad hq])
  |ok p=>
   obtain⟨t,ts1⟩:=p
   rw[h1.ok_ hr]
   simp only
   have h2:=take_same K [] ts1
   cases hr2:takeT K [] ts1 with
   |error E=>exact h2.of_er hr2 rfl
   |ok p2=>
    obtain⟨t2,ts2⟩:=p2
    rw[h2.ok_ hr2]
    rfl
 unfold restT restR
 by_cases e3:k=3
 ·rw[if_pos e3,if_pos e3]
  by_cases hn:isName (hdT ts).2.1=true
  ·rw[if_pos hn,if_pos hn]
   have h2:=take_same 1 [] ts
   cases hr2:takeT 1 [] ts with
   |error E=>exact h2.of_er hr2 rfl
   |ok p2=>
    obtain⟨t2,ts2⟩:=p2
    have e2:=h2.ok_ hr2
    rw[e2]
    have:t2=hdT ts:=by
     unfold takeT at hr2
     split at hr2
     ·injection hr2 with hr2;injection hr2 with a b;exact a.symm
     ·cases hr2
    rw[this]
    rfl
  ·rw[if_neg hn,if_neg hn]
   show SameR (.error (80,atT ts)) ((0,(hdT ts).2.1),(takeR 1 [] (ts,80)).2)
   rw[takeR_bad (show(80:Int)≠0 by decide)]
   exact⟨rfl,show(80:Int)≠0 by decide,rfl⟩
 ·rw[if_neg e3,if_neg e3]
  by_cases e5:k=5
  ·rw[if_pos e5,if_pos e5];exact two 3
  ·rw[if_neg e5,if_neg e5]
   by_cases e6:k=6
   ·rw[if_pos e6,if_pos e6];exact two 2
   ·rw[if_neg e6,if_neg e6]
    by_cases e11:k=11
    ·rw[if_pos e11,if_pos e11]
     by_cases hn:(hdT ts).2.2.1≤1000
     ·rw[if_pos hn,if_pos hn]
      have h2:=take_same 2 [] ts
      cases hr2:takeT 2 [] ts with
      |error E=>exact h2.of_er hr2 rfl
      |ok p2=>
       obtain⟨t2,ts2⟩:=p2
       have e2:=h2.ok_ hr2
       rw[e2]
       have:t2=hdT ts:=by
        unfold takeT at hr2
        split at hr2
        ·injection hr2 with hr2;injection hr2 with a b;exact a.symm
        ·cases hr2
       rw[this]
       rfl
     ·rw[if_neg hn,if_neg hn]
      show SameR (.error (80,atT ts)) (((hdT ts).2.2.1,[]),(takeR 2 [] (ts,80)).2)
      rw[takeR_bad (show(80:Int)≠0 by decide)]
      exact⟨rfl,show(80:Int)≠0 by decide,rfl⟩
    ·rw[if_neg e11,if_neg e11];rfl
theorem call_same{f:Bool→List Tok→Told Ex}{g:Bool→PS→Ex×PS}(k:Int)(h:∀b ts,SameR (f b ts) (g b (ts,0)))(hg:∀b s,s.2≠0→(g b s).2=s)(ts:List Tok):SameR (callT f k ts) (callR g k (ts,0)):=by
 unfold callT callR
 have h1:=take_same 4 [40] ts
 cases hr:takeT 4 [40] ts with
 |error E=>
  have hq:=h1.bad hr
  exact h1.of_er hr (by simp only[uptoR_bad hg _ hq,restR_bad hq,takeR_bad hq])
 |ok p=>
  obtain⟨t,ts1⟩:=p
  rw[h1.ok_ hr]
  simp only
  have h2:=args_same k h hg (argsN k).toNat 0 ts1
  rw[←uptoR_args] at h2
  cases hr2:argsT f k 0 (argsN k).toNat ts1 with
  |error E=>
   have hq:=h2.bad hr2
   exact h2.of_er hr2 (by simp only[restR_bad hq,takeR_bad hq])
  |ok p2=>
   obtain⟨l,ts2⟩:=p2
   rw[h2.ok_ hr2]
   simp only
   have h3:=rest_same k ts2
   cases hr3:restT k ts2 with
   |error E=>
    have hq:=h3.bad hr3
    exact h3.of_er hr3 (by simp only[takeR_bad hq])
   |ok p3=>
    obtain⟨⟨n,nm⟩,ts3⟩:=p3
    rw[h3.ok_ hr3]
    simp only
    have h4:=take_same 4 [41] ts3
    cases hr4:takeT 4 [41] ts3 with
    |error E=>exact h4.of_er hr4 rfl
    |ok p4=>
     obtain⟨t4,ts4⟩:=p4
     rw[h4.ok_ hr4]
     rfl
theorem kind_tok{c:Bool}{t:Tok}(h:kindT c t≠0):(kindT c t=4→t.1=3∨t.1=1)∧(kindT c t≠4→t.1=1):=by
 unfold kindT at h⊢
 split
 ·rename_i h3;exact⟨fun _=> .inl h3.1,fun h=>absurd rfl h⟩
 ·rename_i h3
  rw[if_neg h3] at h
  split
  ·rename_i h1;exact⟨fun _=> .inr h1,fun _=>h1⟩
  ·rename_i h1;rw[if_neg h1] at h;exact absurd rfl h
theorem kindW_4(c:Bool)(x:List UInt8)(hx:x≠[]):kindW c x≠4:=by
 unfold kindW
 intro h
 cases hf:(([1,2,3,4,5,6,7,8,9,10,11,12]:List Int).find? fun k=>wordK k==x&&isCond k==c) with
 |none=>rw[hf] at h;cases h
 |some k=>
  rw[hf] at h
  have hk:k=4:=h
  have:=List.find?_some hf
  simp only[Bool.and_eq_true,beq_iff_eq] at this
  rw[hk] at this
  exact hx this.1.symm
theorem takeR_ok{k:Int}{ts:List Tok}(h:(hdT ts).1=k)(h5:k≠5):takeR k [] (ts,0)=(hdT ts,(ts.tail,0)):=by
 unfold takeR
 rw[if_pos rfl,if_pos ⟨h,.inl rfl⟩,if_neg h5]
theorem expr_same(d:Nat):∀(c:Bool)(ts:List Tok),SameR (exprT d c ts) (exprR d c (ts,0)):=by
 induction d with
 |zero=>intro c ts;exact⟨rfl,show(81:Int)≠0 by decide,rfl⟩
 |succ d ih=>
  intro c ts
  unfold exprT exprR
  rw[if_neg (show ¬((0:Int)≠0) by decide)]
  by_cases k0:kindT c (hdT ts)=0
  ·rw[if_pos k0,if_pos k0];exact⟨rfl,show(80:Int)≠0 by decide,rfl⟩
  ·rw[if_neg k0,if_neg k0]
   by_cases k4:kindT c (hdT ts)=4
   ·rw[if_pos k4,if_pos k4];rfl
   ·rw[if_neg k4,if_neg k4,takeR_ok ((kind_tok k0).2 k4) (by decide)]
    by_cases k1:kindT c (hdT ts)=1∨kindT c (hdT ts)=2
    ·rw[if_pos k1,if_pos k1];rfl
    ·rw[if_neg k1,if_neg k1]
     exact call_same _ ih (exprR_bad d) ts.tail
def fl(p:Int):Int:=if p.tmod 10000<0 then p.tdiv 10000-1 else p.tdiv 10000
end Go.Proofs.YtjhjdiaomnpkmaaGreatDoor

namespace Go.Proofs.YtjhjdiaomnpkmaaGreatDoor
open Go.RowKit Go.Lib
def TokFine(all:List Tok):Prop:=(∀t∈all,i64 t.1∧i64 t.2.2.1∧t.2.1.length≤100∧(t.1=1→t.2.1≠[]))∧all.length≤100000∧∃(us:List Tok)(p:Int),all=us++[(5,[],0,p)]
def StR(V:World)(A:Option Addr)(c:Nat)(all:List Tok)(w:World)(g:Nat)(s:PS):Prop:=
 ∃j:Nat,Rel V w∧V.heap.size≤g∧ToksAt V A all∧TokFine all∧Bk w g 85 #[.slice A all.length c,.int .i64 j,.int .i64 s.2]∧s.1=all.drop j∧j<all.length
theorem StR.lt{V:World}{A:Option Addr}{c:Nat}{all:List Tok}{w:World}{g:Nat}{s:PS}(h:StR V A c all w g s):g<w.heap.size:=by
 obtain⟨j,h1,h2,h3,h4,h5,h6,h7⟩:=h;exact h5.lt
theorem StR.rel{V:World}{A:Option Addr}{c:Nat}{all:List Tok}{w w':World}{g:Nat}{s:PS}(h:StR V A c all w g s)(hr:Rel w w'):StR V A c all w' g s:=by
 obtain⟨j,h1,h2,h3,h4,h5,h6,h7⟩:=h
 exact⟨j,h1.trans hr,h2,h3,h4,h5.rel hr,h6,h7⟩
theorem StR.grown{V:World}{A:Option Addr}{c:Nat}{all:List Tok}{w w':World}{g:Nat}{s:PS}(h:StR V A c all w g s){b:Option Nat}(hg:w.grownBy w' b)(hb:some g≠b)(hV:∀k,b=some k→V.heap.size≤k):StR V A c all w' g s:=by
 obtain⟨j,h1,h2,h3,h4,h5,h6,h7⟩:=h
 exact⟨j,h1.grown hg hV,h2,h3,h4,h5.grown hg hb,h6,h7⟩
theorem Bk.three{w:World}{g:Nat}{t:TypeId}{x y z:Value}(h:Bk w g t #[x,y,z]):
  (w.cell? ⟨g,0,none⟩=some x∧w.cell? ⟨g,1,none⟩=some y∧w.cell? ⟨g,2,none⟩=some z)∧(w.frozen? ⟨g,0,none⟩=false∧w.frozen? ⟨g,1,none⟩=false∧w.frozen? ⟨g,2,none⟩=false):=
 ⟨⟨h.cell 0,h.cell 1,h.cell 2⟩,⟨h.frozen 0,h.frozen 1,h.frozen 2⟩⟩
theorem hd_drop{all:List Tok}{j:Nat}(h:j<all.length):hdT (all.drop j)=all[j]:=by
 unfold hdT
 rw[List.drop_eq_getElem_cons h]
 rfl
theorem last_five{all:List Tok}(h:TokFine all){j:Nat}(hj:j<all.length)(h5:all[j].1≠5):j+1<all.length:=by
 obtain⟨_,_,us,p,rfl⟩:=h
 simp only[List.length_append,List.length_cons,List.length_nil] at hj⊢
 rcases Nat.lt_or_ge j us.length with h|h
 ·omega
 ·obtain rfl:j=us.length:=by omega
  rw[List.getElem_append_right (Nat.le_refl _)] at h5
  exact absurd (by simp) h5
theorem rwrong_any(V:World)(A:Option Addr)(c:Nat)(all:List Tok)(g:Nat)(s:PS)(cd:Int)(w:World)(h:StR V A c all w g s):
  Calls Tryz.prog 72 #[.pointer (some ⟨g,0,none⟩),.int .i64 cd] w fun e w'=>e= .returned (.tuple #[])∧StR V A c all w' g (wrongR cd s)∧w.grownBy w' (some g)∧w'.heap.size=w.heap.size:=by
 obtain⟨j,h1,h2,h3,h4,h5,h6,h7⟩:=h
 obtain⟨⟨c0,c1,c2⟩,f0,f1,f2⟩:=h5.three
 have HG:Hid (w.grownBy w (some g)):=yH ⟨rfl,rfl,rfl,Nat.le_refl _,fun _ _ _=>rfl⟩
 obtain⟨ts,e⟩:=s
 by_cases he:e=0
 ·have he':(e==0)=true:=by simpa using he
  have HP:=yH (show ∀W,w.setCell ⟨g,2,none⟩ (.int .i64 cd)=W→StR V A c all W g (wrongR cd (ts,e))∧w.grownBy W (some g)∧W.heap.size=w.heap.size from fun W hW=>by
   subst hW
   refine⟨⟨j,h1.setCell h2 _,h2,h3,h4, ?_, ?_,h7⟩,set_grown w g 2 _,World.size_setCell ..⟩
   ·unfold wrongR;rw[if_pos he];exact h5.set_ 2 _
   ·unfold wrongR;rw[if_pos he];exact h6)
  clear h1 h3 h4 h5 h6 h7 he
  go_enter Tryz.func72,Tryz.ntmps72
  go_wp2_with (fail)
  go_end0
  exact⟨rfl,HP.out _ rfl⟩
 ·have he':(e==0)=false:=by simpa using he
  have HP:=yH (show StR V A c all w g (wrongR cd (ts,e)) from by unfold wrongR;rw[if_neg he];exact⟨j,h1,h2,h3,h4,h5,h6,h7⟩)
  clear h1 h3 h4 h5 h6 h7 he
  go_enter Tryz.func72,Tryz.ntmps72
  go_wp2_with (fail)
  go_end0
  exact⟨rfl,HP.out,HG.out,rfl⟩
theorem wrongR_80(ts:List Tok)(e:Int):∃e3,wrongR 80 (ts,e)=(ts,e3)∧(e3==0)=false:=by
 unfold wrongR
 by_cases h:e=0
 ·exact⟨80,by rw[if_pos h],rfl⟩
 ·exact⟨e,by rw[if_neg h],by simpa using h⟩
theorem takeR_wrong{k e e3:Int}{x:List UInt8}{ts:List Tok}(hm: ¬((hdT ts).1=k∧(x=[]∨(hdT ts).2.1=x)))(h:wrongR 80 (ts,e)=(ts,e3)):takeR k x (ts,e)=(zT,(ts,e3)):=by
 unfold takeR
 unfold wrongR at h
 by_cases he:e=0
 ·rw[if_pos he] at h⊢;rw[if_neg hm];cases h;rfl
 ·rw[if_neg he] at h⊢;cases h;rfl
theorem toList_nil{x:List UInt8}{X:ByteArray}(h:X=B x):(X.toList==[])=true↔x=[]:=by subst h;rw[B_toList];simp
theorem toList_eq{x y:List UInt8}{X:ByteArray}(h:X=B x):((B y).toList==X.toList)=true↔y=x:=by subst h;rw[B_toList,B_toList];simp
theorem rtake_any(V:World)(A:Option Addr)(c:Nat)(all:List Tok)(g:Nat)(s:PS)(k:Int)(x:List UInt8)(X:ByteArray)(hX:Hid (X=B x))(w:World)(h:StR V A c all w g s):
  Calls Tryz.prog 64 #[.pointer (some ⟨g,0,none⟩),.int .i64 k,.string X] w fun e w'=>e= .returned (TK (takeR k x s).1)∧StR V A c all w' g (takeR k x s).2∧w.grownBy w' (some g):=by
 have HS:=yH h
 obtain⟨j,h1,h2,h3,h4,h5,h6,h7⟩:=h
 obtain⟨ts,e⟩:=s
 have hgl:=h5.lt
 have hA:=h1.self.alloc (.cells #[.int .i64 0,.string ⟨#[]⟩,.int .i64 0,.int .i64 0] 87)
 have HN1:=yH (Bk.new w 87 #[.int .i64 0,.string ⟨#[]⟩,.int .i64 0,.int .i64 0])
 have HZ1:=yH (World.size_alloc w (.cells #[.int .i64 0,.string ⟨#[]⟩,.int .i64 0,.int .i64 0] 87))
 have HW1:=yH hA.self
 have HA:=yH hA
 have HB:=yH (h5.rel hA)
 obtain⟨gT,off,rfl,hb,_⟩:=h3 j h7
 have HD:=yH (hd_drop h7)
 obtain⟨t,ht⟩:∃t,all[j]=t:=⟨_,rfl⟩
 have HTt:=yH ht
 have HT:=yH (show ∀w',Rel (w.alloc (.cells #[.int .i64 0,.string ⟨#[]⟩,.int .i64 0,.int .i64 0] 87)) w'→w'.cell? ⟨gT,off+j*4,none⟩=some (.int .i64 t.1)∧w'.cell? ⟨gT,off+j*4+1,none⟩=some (.string (B t.2.1))∧w'.cell? ⟨gT,off+j*4+2,none⟩=some (.int .i64 t.2.2.1)∧w'.cell? ⟨gT,off+j*4+3,none⟩=some (.int .i64 t.2.2.2) from fun w' hr=>by
  obtain⟨g',off',e',_,a0,a1,a2,a3⟩:=(h3.rel ((h1.trans hA).trans hr)) j h7
  cases e'
  rw[ht] at a0 a1 a2 a3
  exact⟨a0,a1,a2,a3⟩)
 have H6:=yH h6
 obtain⟨W1,hW1⟩:∃W,w.alloc (.cells #[.int .i64 0,.string ⟨#[]⟩,.int .i64 0,.int .i64 0] 87)=W:=⟨_,rfl⟩
 rw[hW1] at HW1 HA HB HT HN1 HZ1
 have HWe:=yH hW1
 clear h1 h3 h4 h5 h6 hA ht hW1
 go_enter Tryz.func64,Tryz.ntmps64
 go_wp2_with (fail)
 rw[HWe.out]
 refine wp_region_held_drew (S:=(fun w'=>Rel W1 w')) (by kernel_rfl) HW1.out.drew (fun hH=> ?_)
 refine yL [0,1,2,3,4,5,6,7,8,9] (by kernel_rfl) hH (fun _ _ _ _ _=>id) ?_
 iterate 10
  refine yS rfl rfl (by rfl) ?_ ?_ ?_
  rotate_left
  ·intro w' (h:Rel W1 w');obtain⟨⟨x0,x1,x2⟩,_⟩:=(HB.out.rel h).three;obtain⟨y0,y1,y2,y3⟩:=HT.out w' h;go_simp;try with_reducible rfl
  try simp only[Act.put,yA,yB,yC]
 refine yZ ?_
 refine held_one (j:=10) (by kernel_rfl) rfl (fun K hK=> ?_)
 try simp only[yD,yE,yF]
 rw[if_pos (by rfl)]
 go_simp
 refine hK.out _ _ (hH.alloc _) (fun hH=> ?_)
 clear hK K
 try simp only[Act.put,yA,yB,yC]
 refine held_one (j:=11) (by kernel_rfl) rfl (fun K hK=> ?_)
 try simp only[yD,yE,yF]
 rw[if_pos (by rfl)]
 go_simp
 refine hK.out _ _ (HW1.out.alloc _).drew (fun hH=> ?_)
 clear hK K
 try simp only[Act.put,yA,yB,yC]
 refine wpAnyH_done (by kernel_rfl) ?_ _
 have HW2:=yH (HW1.out.alloc (.cells #[.int .i64 t.1,.string (B t.2.1),.int .i64 t.2.2.1,.int .i64 t.2.2.2] 87)).drew
 have HN2:=yH (Bk.new W1 87 #[.int .i64 t.1,.string (B t.2.1),.int .i64 t.2.2.1,.int .i64 t.2.2.2])
 obtain⟨W2,hW2⟩:∃W,(W1.alloc (.cells #[.int .i64 t.1,.string (B t.2.1),.int .i64 t.2.2.1,.int .i64 t.2.2.2] 87)).drew=W:=⟨_,rfl⟩
 rw[hW2] at HW2
 obtain⟨⟨b0,b1,b2,b3⟩,_⟩:=(show Bk W2 W1.heap.size 87 #[.int .i64 t.1,.string (B t.2.1),.int .i64 t.2.2.1,.int .i64 t.2.2.2] from by rw[←hW2];exact HN2.out).four
 obtain⟨⟨c0,c1,c2⟩,f0,f1,f2⟩:=(HB.out.rel HW2.out).three
 rw[hW2]
 clear hW2
 obtain⟨⟨r0,r1,r2,r3⟩,q0,q1,q2,q3⟩:=(HN1.out.rel HW2.out).four
 have HNW:=yH (HN1.out.rel HW2.out)
 have HS2:=yH (HS.out.rel (HA.out.trans HW2.out))
 have HG2:=yH (grown_rel (some g) (HA.out.trans HW2.out))
 have hVw:V.heap.size≤w.heap.size:=by obtain⟨_,a,_⟩:=HS.out;exact a.size
 have hhd:hdT ts=t:=by have:=H6.out;rw[this,HD.out,HTt.out]
 have HHD:=yH hhd
 have hz1:=HZ1.out
 have hne1: ¬g=w.heap.size:=by omega
 have hne2: ¬w.heap.size=g:=by omega
 have hne3: ¬g=W1.heap.size:=by omega
 have hne4: ¬W1.heap.size=g:=by omega
 clear hz1
 clear hhd
 cases hkb:(t.1==k)
 ·obtain⟨e3,hw3,he3⟩:=wrongR_80 ts e
  have HW3:=yH hw3
  have HF:=yH (takeR_wrong (x:=x) (show ¬((hdT ts).1=k∧(x=[]∨(hdT ts).2.1=x)) from fun hh=>by rw[HHD.out] at hh;simp[hh.1] at hkb) hw3)
  clear hw3
  go_wp2_with (go_at_call 72;(with_reducible refine(rwrong_any V (some ⟨gT,off,none⟩) c all g (ts,e) 80 _ HS2.out).mono ?_);rintro e w3 ⟨rfl,s3,g3,z3⟩;rw[HW3.out] at s3;have HS3:=yH s3;obtain⟨_,_,_,_,_,hb3,_,_⟩:=s3;obtain⟨⟨d0,d1,d2⟩,_⟩:=hb3.three;clear hb3;obtain⟨⟨p0,p1,p2,p3⟩,v0,v1,v2,v3⟩:=(HNW.out.grown g3 (fun e=>by injection e;omega)).four;have HG3:=yH g3)
  obtain⟨⟨y0,y1,y2,y3⟩,_⟩:=((HNW.out.grown HG3.out (fun e=>by injection e;omega)).put4 (.int .i64 0) (.string ⟨#[]⟩) (.int .i64 0) (.int .i64 0)).four
  have gp:=put4_grown w3 w.heap.size (.int .i64 0) (.string ⟨#[]⟩) (.int .i64 0) (.int .i64 0)
  refine bodyPost_ret (v:=TK zT) (by simp[results,Tryz.results64,go_sem,y0,y1,y2,y3,zT];rfl) rfl ⟨?_, ?_, ?_⟩
  ·rw[HF.out]
  ·rw[HF.out];exact HS3.out.grown gp (fun e=>by injection e;omega) (fun k e=>by cases e;exact hVw)
  ·exact grown_of (grown_trans HG2.out HG3.out) gp (fun k e=>by cases e;exact Nat.le_refl _)
 ·have hk:t.1=k:=by simpa using hkb
  have HK:=yH hk
  clear hk
  have ways:(X.toList==[])=true∨((X.toList==[])=false∧((B t.2.1).toList==X.toList)=true)∨((X.toList==[])=false∧((B t.2.1).toList==X.toList)=false):=by
   cases(X.toList==[])<;>cases((B t.2.1).toList==X.toList)<;>simp
  rcases ways with hx0|⟨hx0,hxt⟩|⟨hx0,hxt⟩
  ·have HM:=yH (show(hdT ts).1=k∧(x=[]∨(hdT ts).2.1=x) from⟨by rw[HHD.out];exact HK.out,.inl ((toList_nil hX.out).1 hx0)⟩)
   by_cases he:e=0
   ·subst he
    have HT0:=yH (show takeR k x (ts,0)=((k,t.2.1,t.2.2.1,t.2.2.2),(if k=5 then ts else ts.tail,0)) by unfold takeR;rw[if_pos rfl,if_pos HM.out,HHD.out,←HK.out])
    by_cases h5:k=5
    ·have h5':(k==5)=true:=by simpa using h5
     have HF:=yH (show takeR k x (ts,0)=((k,t.2.1,t.2.2.1,t.2.2.2),(ts,0)) by rw[HT0.out,if_pos h5])
     clear h5
     go_wp2_with (fail)
     obtain⟨⟨y0,y1,y2,y3⟩,_⟩:=(HNW.out.put4 (.int .i64 k) (.string (B t.2.1)) (.int .i64 t.2.2.1) (.int .i64 t.2.2.2)).four
     have gp:=put4_grown W2 w.heap.size (.int .i64 k) (.string (B t.2.1)) (.int .i64 t.2.2.1) (.int .i64 t.2.2.2)
     refine bodyPost_ret (v:=TK (k,t.2.1,t.2.2.1,t.2.2.2)) (by simp[results,Tryz.results64,go_sem,y0,y1,y2,y3]) rfl ⟨?_, ?_, ?_⟩
     ·rw[HF.out]
     ·rw[HF.out];exact HS2.out.grown gp (fun e=>by injection e;omega) (fun k e=>by cases e;exact hVw)
     ·exact grown_of HG2.out gp (fun k e=>by cases e;exact Nat.le_refl _)
    ·have h5':(k==5)=false:=by simpa using h5
     have HF:=yH (show takeR k x (ts,0)=((k,t.2.1,t.2.2.1,t.2.2.2),(ts.tail,0)) by rw[HT0.out,if_neg h5])
     have hj1:j+1<all.length:=by
      obtain⟨_,_,_,_,hf,_⟩:=HS.out
      exact last_five hf h7 (by rw[HTt.out,HK.out];exact h5)
     have hjs:all.length≤100000:=by obtain⟨_,_,_,_,hf,_⟩:=HS.out;exact hf.2.1
     have hwj:IntKind.i64.wrap ((j:Int)+1)=(j:Int)+1:=by rw[IntKind.wrap_i64];omega
     clear h5
     go_wp2_with (fail)
     have HSt:=yH (show ∀W,W2.setCell ⟨g,1,none⟩ (.int .i64 ((j:Int)+1))=W→StR V (some ⟨gT,off,none⟩) c all W g (ts.tail,0)∧W2.grownBy W (some g)∧Bk W w.heap.size 87 #[.int .i64 0,.string ⟨#[]⟩,.int .i64 0,.int .i64 0] from fun W hW=>by
      subst hW
      obtain⟨j',s1,s2,s3,s4,s5,s6,s7⟩:=HS2.out
      refine⟨⟨j+1,s1.setCell s2 _,s2,s3,s4,(HB.out.rel HW2.out).set_ 1 _, ?_,hj1⟩,set_grown W2 g 1 _,HNW.out.far (by simp only;omega) _⟩
      show ts.tail=_
      rw[H6.out,List.tail_drop])
     obtain⟨W3,hW3⟩:∃W,W2.setCell ⟨g,1,none⟩ (.int .i64 ((j:Int)+1))=W:=⟨_,rfl⟩
     obtain⟨z1,z2,z3⟩:=HSt.out W3 hW3
     rw[hW3]
     obtain⟨⟨y0,y1,y2,y3⟩,_⟩:=(z3.put4 (.int .i64 k) (.string (B t.2.1)) (.int .i64 t.2.2.1) (.int .i64 t.2.2.2)).four
     have gp:=put4_grown W3 w.heap.size (.int .i64 k) (.string (B t.2.1)) (.int .i64 t.2.2.1) (.int .i64 t.2.2.2)
     refine bodyPost_ret (v:=TK (k,t.2.1,t.2.2.1,t.2.2.2)) (by simp[results,Tryz.results64,go_sem,y0,y1,y2,y3]) rfl ⟨?_, ?_, ?_⟩
     ·rw[HF.out]
     ·rw[HF.out];exact z1.grown gp (fun e=>by injection e;omega) (fun k e=>by cases e;exact hVw)
     ·exact grown_of (grown_trans HG2.out z2) gp (fun k e=>by cases e;exact Nat.le_refl _)
   ·have he':(e==0)=false:=by simpa using he
    have HF:=yH (takeR_bad (k:=k) (x:=x) (s:=(ts,e)) he)
    clear he
    go_wp2_with (fail)
    obtain⟨⟨y0,y1,y2,y3⟩,_⟩:=(HNW.out.put4 (.int .i64 0) (.string ⟨#[]⟩) (.int .i64 0) (.int .i64 0)).four
    have gp:=put4_grown W2 w.heap.size (.int .i64 0) (.string ⟨#[]⟩) (.int .i64 0) (.int .i64 0)
    refine bodyPost_ret (v:=TK zT) (by simp[results,Tryz.results64,go_sem,y0,y1,y2,y3,zT];rfl) rfl ⟨?_, ?_, ?_⟩
    ·rw[HF.out]
    ·rw[HF.out];exact HS2.out.grown gp (fun e=>by injection e;omega) (fun k e=>by cases e;exact hVw)
    ·exact grown_of HG2.out gp (fun k e=>by cases e;exact Nat.le_refl _)
  ·have HM:=yH (show(hdT ts).1=k∧(x=[]∨(hdT ts).2.1=x) from⟨by rw[HHD.out];exact HK.out,.inr (by rw[HHD.out];exact(toList_eq hX.out).1 hxt)⟩)
   by_cases he:e=0
   ·subst he
    have HT0:=yH (show takeR k x (ts,0)=((k,t.2.1,t.2.2.1,t.2.2.2),(if k=5 then ts else ts.tail,0)) by unfold takeR;rw[if_pos rfl,if_pos HM.out,HHD.out,←HK.out])
    by_cases h5:k=5
    ·have h5':(k==5)=true:=by simpa using h5
     have HF:=yH (show takeR k x (ts,0)=((k,t.2.1,t.2.2.1,t.2.2.2),(ts,0)) by rw[HT0.out,if_pos h5])
     clear h5
     go_wp2_with (fail)
     obtain⟨⟨y0,y1,y2,y3⟩,_⟩:=(HNW.out.put4 (.int .i64 k) (.string (B t.2.1)) (.int .i64 t.2.2.1) (.int .i64 t.2.2.2)).four
     have gp:=put4_grown W2 w.heap.size (.int .i64 k) (.string (B t.2.1)) (.int .i64 t.2.2.1) (.int .i64 t.2.2.2)
     refine bodyPost_ret (v:=TK (k,t.2.1,t.2.2.1,t.2.2.2)) (by simp[results,Tryz.results64,go_sem,y0,y1,y2,y3]) rfl ⟨?_, ?_, ?_⟩
     ·rw[HF.out]
     ·rw[HF.out];exact HS2.out.grown gp (fun e=>by injection e;omega) (fun k e=>by cases e;exact hVw)
     ·exact grown_of HG2.out gp (fun k e=>by cases e;exact Nat.le_refl _)
    ·have h5':(k==5)=false:=by simpa using h5
     have HF:=yH (show takeR k x (ts,0)=((k,t.2.1,t.2.2.1,t.2.2.2),(ts.tail,0)) by rw[HT0.out,if_neg h5])
     have hj1:j+1<all.length:=by
      obtain⟨_,_,_,_,hf,_⟩:=HS.out
      exact last_five hf h7 (by rw[HTt.out,HK.out];exact h5)
     have hjs:all.length≤100000:=by obtain⟨_,_,_,_,hf,_⟩:=HS.out;exact hf.2.1
     have hwj:IntKind.i64.wrap ((j:Int)+1)=(j:Int)+1:=by rw[IntKind.wrap_i64];omega
     clear h5
     go_wp2_with (fail)
     have HSt:=yH (show ∀W,W2.setCell ⟨g,1,none⟩ (.int .i64 ((j:Int)+1))=W→StR V (some ⟨gT,off,none⟩) c all W g (ts.tail,0)∧W2.grownBy W (some g)∧Bk W w.heap.size 87 #[.int .i64 0,.string ⟨#[]⟩,.int .i64 0,.int .i64 0] from fun W hW=>by
      subst hW
      obtain⟨j',s1,s2,s3,s4,s5,s6,s7⟩:=HS2.out
      refine⟨⟨j+1,s1.setCell s2 _,s2,s3,s4,(HB.out.rel HW2.out).set_ 1 _, ?_,hj1⟩,set_grown W2 g 1 _,HNW.out.far (by simp only;omega) _⟩
      show ts.tail=_
      rw[H6.out,List.tail_drop])
     obtain⟨W3,hW3⟩:∃W,W2.setCell ⟨g,1,none⟩ (.int .i64 ((j:Int)+1))=W:=⟨_,rfl⟩
     obtain⟨z1,z2,z3⟩:=HSt.out W3 hW3
     rw[hW3]
     obtain⟨⟨y0,y1,y2,y3⟩,_⟩:=(z3.put4 (.int .i64 k) (.string (B t.2.1)) (.int .i64 t.2.2.1) (.int .i64 t.2.2.2)).four
     have gp:=put4_grown W3 w.heap.size (.int .i64 k) (.string (B t.2.1)) (.int .i64 t.2.2.1) (.int .i64 t.2.2.2)
     refine bodyPost_ret (v:=TK (k,t.2.1,t.2.2.1,t.2.2.2)) (by simp[results,Tryz.results64,go_sem,y0,y1,y2,y3]) rfl ⟨?_, ?_, ?_⟩
     ·rw[HF.out]
     ·rw[HF.out];exact z1.grown gp (fun e=>by injection e;omega) (fun k e=>by cases e;exact hVw)
     ·exact grown_of (grown_trans HG2.out z2) gp (fun k e=>by cases e;exact Nat.le_refl _)
   ·have he':(e==0)=false:=by simpa using he
    have HF:=yH (takeR_bad (k:=k) (x:=x) (s:=(ts,e)) he)
    clear he
    go_wp2_with (fail)
    obtain⟨⟨y0,y1,y2,y3⟩,_⟩:=(HNW.out.put4 (.int .i64 0) (.string ⟨#[]⟩) (.int .i64 0) (.int .i64 0)).four
    have gp:=put4_grown W2 w.heap.size (.int .i64 0) (.string ⟨#[]⟩) (.int .i64 0) (.int .i64 0)
    refine bodyPost_ret (v:=TK zT) (by simp[results,Tryz.results64,go_sem,y0,y1,y2,y3,zT];rfl) rfl ⟨?_, ?_, ?_⟩
    ·rw[HF.out]
    ·rw[HF.out];exact HS2.out.grown gp (fun e=>by injection e;omega) (fun k e=>by cases e;exact hVw)
    ·exact grown_of HG2.out gp (fun k e=>by cases e;exact Nat.le_refl _)
  ·obtain⟨e3,hw3,he3⟩:=wrongR_80 ts e
   have HW3:=yH hw3
   have HF:=yH (takeR_wrong (x:=x) (show ¬((hdT ts).1=k∧(x=[]∨(hdT ts).2.1=x)) from fun hh=>by
    rcases hh.2 with h|h
    ·rw[(toList_nil hX.out).2 h] at hx0;cases hx0
    ·rw[HHD.out] at h;rw[(toList_eq hX.out).2 h] at hxt;cases hxt) hw3)
   clear hw3
   go_wp2_with (go_at_call 72;(with_reducible refine(rwrong_any V (some ⟨gT,off,none⟩) c all g (ts,e) 80 _ HS2.out).mono ?_);rintro e w3 ⟨rfl,s3,g3,z3⟩;rw[HW3.out] at s3;have HS3:=yH s3;obtain⟨_,_,_,_,_,hb3,_,_⟩:=s3;obtain⟨⟨d0,d1,d2⟩,_⟩:=hb3.three;clear hb3;obtain⟨⟨p0,p1,p2,p3⟩,v0,v1,v2,v3⟩:=(HNW.out.grown g3 (fun e=>by injection e;omega)).four;have HG3:=yH g3)
   obtain⟨⟨y0,y1,y2,y3⟩,_⟩:=((HNW.out.grown HG3.out (fun e=>by injection e;omega)).put4 (.int .i64 0) (.string ⟨#[]⟩) (.int .i64 0) (.int .i64 0)).four
   have gp:=put4_grown w3 w.heap.size (.int .i64 0) (.string ⟨#[]⟩) (.int .i64 0) (.int .i64 0)
   refine bodyPost_ret (v:=TK zT) (by simp[results,Tryz.results64,go_sem,y0,y1,y2,y3,zT];rfl) rfl ⟨?_, ?_, ?_⟩
   ·rw[HF.out]
   ·rw[HF.out];exact HS3.out.grown gp (fun e=>by injection e;omega) (fun k e=>by cases e;exact hVw)
   ·exact grown_of (grown_trans HG2.out HG3.out) gp (fun k e=>by cases e;exact Nat.le_refl _)
end Go.Proofs.YtjhjdiaomnpkmaaGreatDoor
