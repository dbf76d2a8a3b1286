/- Plain mathematics of layer 8. -/

import Derived.Test.YtjhjdiaomnpkmaaGreatDoorZ01
set_option maxRecDepth 100000
set_option maxHeartbeats 8000000
set_option linter.unusedVariables false
set_option linter.unusedSimpArgs false
namespace Go.Proofs.YtjhjdiaomnpkmaaGreatDoor
open Go.Lib
def okP(t:Tok):Prop:=okT t∧(isWord t.2.1=true→t.1=1)∧(isName t.2.1=true→t.1=1)∧(t.2.1=[40]∨t.2.1=[41]∨t.2.1=[44]→t.1=4)∧(1≤t.1∧t.1≤5)
theorem good_okP{x:List UInt8}{k n p:Int}(h:Good x k n):okP (k,x,n,p):=by
 refine⟨good_okT h, ?_, ?_, ?_, ?_⟩
 ·intro hw
  rcases h with ⟨c,rfl,hs,_⟩|⟨_,_,ht⟩
  ·exfalso
   simp only at hw
   unfold isWord theWords at hw
   simp at hw
  ·simp only at hw⊢
   unfold tokOf at ht
   rw[hw] at ht
   simp at ht
   exact ht.1.symm
 ·intro hw
  rcases h with ⟨c,rfl,hs,_⟩|⟨_,_,ht⟩
  ·exfalso
   simp only at hw
   unfold isName at hw
   unfold isSg at hs
   unfold isL at hw
   simp only[Bool.or_eq_true,beq_iff_eq] at hs
   rcases hs with (rfl|rfl)|rfl<;>simp at hw
  ·simp only at hw⊢
   unfold tokOf at ht
   rw[hw] at ht
   simp at ht
   exact ht.1.symm
 ·intro hw
  rcases h with ⟨c,rfl,hs,hk,_⟩|⟨_,ha,_⟩
  ·exact hk
  ·exfalso
   simp only at hw
   rcases hw with rfl|rfl|rfl<;>revert ha<;>decide
 ·rcases h with ⟨c,rfl,hs,rfl,_⟩|⟨_,_,ht⟩
  ·exact⟨show(1:Int)≤4 by decide,show(4:Int)≤5 by decide⟩
  ·unfold tokOf at ht
   split at ht
   ·injection ht with ht;injection ht with a b;subst a;exact⟨show(1:Int)≤1 by decide,show(1:Int)≤5 by decide⟩
   ·split at ht
    ·injection ht with ht;injection ht with a b;subst a;exact⟨show(1:Int)≤2 by decide,show(2:Int)≤5 by decide⟩
    ·cases hp:prs x with
     |none=>rw[hp] at ht;cases ht
     |some v=>rw[hp] at ht;injection ht with ht;injection ht with a b;subst a;exact⟨show(1:Int)≤3 by decide,show(3:Int)≤5 by decide⟩
theorem end_okP(p:Int):okP (5,[],0,p):=by
 refine⟨⟨?_, ?_, ?_⟩, ?_, ?_, ?_, ?_⟩
 ·intro e;simp at e
 ·intro e;simp at e
 ·intro e;simp at e
 ·intro e;exact absurd (show isWord []=true from e) (by decide)
 ·intro e;exact absurd (show isName []=true from e) (by decide)
 ·intro e;simp at e
 ·exact⟨show(1:Int)≤5 by decide,show(5:Int)≤5 by decide⟩
theorem lx_okP{p:Nat}{s:List UInt8}{l:List Tok}(h:lx p s= .ok l):∀t∈l,okP t:=by
 obtain⟨ts,rfl,hts,_,_⟩:=lx_out _ s (Nat.le_refl _) p l h
 intro t ht
 rcases List.mem_append.1 ht with h1|h1
 ·exact good_okP (hts t h1).1
 ·obtain rfl:=List.mem_singleton.1 h1
  exact end_okP _
theorem hd_okP{ts:List Tok}(h:∀t∈ts,okP t):okP (hdT ts):=by
 cases ts with
 |nil=>exact end_okP 0
 |cons t r=>exact h t (List.mem_cons_self ..)
theorem tail_okP{ts:List Tok}(h:∀t∈ts,okP t):∀t∈ts.tail,okP t:=fun t ht=>h t (List.mem_of_mem_tail ht)
theorem suf_okP{a ts:List Tok}(h:∀t∈a++ts,okP t):∀t∈ts,okP t:=fun t ht=>h t (List.mem_append_right _ ht)
theorem sign_take{c:UInt8}(hc:c=40∨c=41∨c=44)(ts:List Tok)(h:okP (hdT ts)):takeT 4 [c] ts=if (hdT ts).2.1=[c] then .ok (hdT ts,ts.tail) else .error (80,atT ts):=by
 unfold takeT
 by_cases e:(hdT ts).2.1=[c]
 ·have h4:(hdT ts).1=4:=h.2.2.2.1 (by rw[e];rcases hc with rfl|rfl|rfl<;>simp)
  rw[if_pos ⟨h4,.inr e⟩,if_pos e,if_neg (show ¬((4:Int)=5) by decide)]
 ·rw[if_neg (fun hh=>by rcases hh.2 with h'|h'<;>simp_all),if_neg e]
def numP(k m:Int)(ts:List Tok):Told Int:=if (hdT ts).1=k∧(hdT ts).2.2.1≤m then .ok ((hdT ts).2.2.1,ts.tail) else .error (80,atT ts)
def nameP(ts:List Tok):Told (List UInt8):=if isName (hdT ts).2.1=true then .ok ((hdT ts).2.1,ts.tail) else .error (80,atT ts)
inductive Pc where
 |ar|wh|na|am|pa|co
def Ex.push(x y:Ex):Ex:= .mk x.k x.n x.nm (x.l++[y])
def Ex.num(x:Ex)(n:Int):Ex:= .mk x.k n x.nm x.l
def Ex.name(x:Ex)(m:List UInt8):Ex:= .mk x.k x.n m x.l
def stepP(f:Bool→List Tok→Told Ex)(p:Pc)(x:Ex)(ts:List Tok):Told Ex:=
 match p with
 | .ar=>(match f false ts with| .error e=> .error e| .ok (y,r)=> .ok (x.push y,r))
 | .wh=>(match f true ts with| .error e=> .error e| .ok (y,r)=> .ok (x.push y,r))
 | .na=>(match nameP ts with| .error e=> .error e| .ok (m,r)=> .ok (x.name m,r))
 | .am=>(match numP 3 1000000000000 ts with| .error e=> .error e| .ok (n,r)=> .ok (x.num n,r))
 | .pa=>(match numP 2 100000 ts with| .error e=> .error e| .ok (n,r)=> .ok (x.num n,r))
 | .co=>(match numP 2 1000 ts with| .error e=> .error e| .ok (n,r)=> .ok (x.num n,r))
def piecesP(f:Bool→List Tok→Told Ex):List Pc→UInt8→Ex→List Tok→Told Ex
 |[],_,x,ts=>(match takeT 4 [41] ts with| .error e=> .error e| .ok (_,r)=> .ok (x,r))
 |p::ps,b,x,ts=>
  match takeT 4 [b] ts with
  | .error e=> .error e
  | .ok (_,r)=>
    match stepP f p x r with
    | .error e=> .error e
    | .ok (y,r)=>piecesP f ps 44 y r
def pcsOf(k:Int):List Pc:=if k=3 then [.na] else if k=5 then [.ar,.am] else if k=6 then [.ar,.pa] else if k=10 then [.wh,.ar,.ar] else if k=11 then [.co] else [.ar,.ar]
theorem num_take{k m:Int}{ts:List Tok}(h:okP (hdT ts))(hk:k=3∧m=1000000000000∨k=2∧m=100000):numP k m ts=(match takeT k [] ts with| .error e=> .error e| .ok (t,r)=> .ok (t.2.2.1,r)):=by
 unfold numP takeT
 by_cases e:(hdT ts).1=k
 ·have hm:(hdT ts).2.2.1≤m:=by
   rcases hk with ⟨rfl,rfl⟩|⟨rfl,rfl⟩
   ·exact(h.1.1 e).2
   ·exact(h.1.2.1 e).2
  rw[if_pos ⟨e,hm⟩,if_pos ⟨e,.inl rfl⟩,if_neg (by omega)]
 ·rw[if_neg (fun hh=>e hh.1),if_neg (fun hh=>e hh.1)]
theorem num_count(ts:List Tok):numP 2 1000 ts=(if (hdT ts).2.2.1≤1000 then (match takeT 2 [] ts with| .error e=> .error e| .ok (t,r)=> .ok (t.2.2.1,r)) else .error (80,atT ts)):=by
 unfold numP takeT
 by_cases e:(hdT ts).1=2
 ·by_cases h:(hdT ts).2.2.1≤1000
  ·rw[if_pos ⟨e,h⟩,if_pos h,if_pos ⟨e,.inl rfl⟩,if_neg (by decide)]
  ·rw[if_neg (fun hh=>h hh.2),if_neg h]
 ·rw[if_neg (fun hh=>e hh.1)]
  split
  ·rw[if_neg (fun hh=>e hh.1)]
  ·rfl
theorem name_take{ts:List Tok}(h:okP (hdT ts)):nameP ts=(if isName (hdT ts).2.1=true then (match takeT 1 [] ts with| .error e=> .error e| .ok (t,r)=> .ok (t.2.1,r)) else .error (80,atT ts)):=by
 unfold nameP takeT
 by_cases e:isName (hdT ts).2.1=true
 ·rw[if_pos e,if_pos e,if_pos ⟨h.2.2.1 e,.inl rfl⟩,if_neg (by decide)]
 ·rw[if_neg e,if_neg e]
theorem take_rest{k:Int}{x:List UInt8}{ts r:List Tok}{t:Tok}(h:takeT k x ts= .ok (t,r))(hk:k≠5):r=ts.tail:=by
 unfold takeT at h
 split at h
 ·injection h with h;injection h with a b;first|exact b.symm|(rw[if_neg hk] at b;exact b.symm)
 ·cases h
theorem expr_rest{d:Nat}{c:Bool}{ts r:List Tok}{x:Ex}(ho:∀t∈ts,okP t)(h:exprT d c ts= .ok (x,r)):∀t∈r,okP t:=by
 have:=expr_spec d c ts (fun t ht=>(ho t ht).1)
 rw[h] at this
 obtain⟨_,a,rfl⟩:=this
 exact suf_okP ho
theorem call_pieces(d:Nat)(k:Int)(hk:k=3∨k=5∨k=6∨k=7∨k=8∨k=9∨k=10∨k=11∨k=12)(ts:List Tok)(ho:∀t∈ts,okP t):piecesP (exprT d) (pcsOf k) 40 (.mk k 0 [] []) ts=callT (exprT d) k ts:=by
 have hab:k=3∨k=11∨(k=5∨k=6)∨(k=7∨k=8∨k=9∨k=12)∨k=10:=by omega
 unfold callT
 cases h1:takeT 4 [40] ts with
 |error e=>rcases hk with rfl|rfl|rfl|rfl|rfl|rfl|rfl|rfl|rfl<;>(unfold pcsOf;simp only[Int.reduceEq,if_true,if_false,piecesP,h1])
 |ok p=>
  obtain⟨t0,r1⟩:=p
  have o1:∀t∈r1,okP t:=by rw[take_rest h1 (by decide)];exact tail_okP ho
  simp only
  rcases hab with rfl|rfl|hab|hab|rfl
  ·unfold pcsOf restT
   simp only[Int.reduceEq,if_true,piecesP,h1,stepP,name_take (hd_okP o1),show(argsN 3).toNat=0 from by decide,argsT]
   by_cases hh:isName (hdT r1).2.1=true
   ·simp only[hh,if_true]
    cases h2:takeT 1 [] r1 with
    |error e=>rfl
    |ok p2=>
     simp only
     cases h3:takeT 4 [41] p2.2<;>rfl
   ·simp only[hh,if_false,Bool.false_eq_true]
  ·unfold pcsOf restT
   simp only[Int.reduceEq,if_true,if_false,piecesP,h1,stepP,num_count,show(argsN 11).toNat=0 from by decide,argsT]
   by_cases hh:(hdT r1).2.2.1≤1000
   ·simp only[hh,if_true]
    cases h2:takeT 2 [] r1 with
    |error e=>rfl
    |ok p2=>
     simp only
     cases h3:takeT 4 [41] p2.2<;>rfl
   ·simp only[hh,if_false,Bool.false_eq_true]
  ·have e1:(argsN k).toNat=1:=by rcases hab with rfl|rfl<;>decide
   have e10:decide (k=10)=false:=by rcases hab with rfl|rfl<;>decide
   rw[e1]
   simp only[argsT,if_true,e10,Bool.false_and]
   cases h2:exprT d false r1 with
   |error e=>rcases hab with rfl|rfl<;>(unfold pcsOf;simp only[Int.reduceEq,if_true,if_false,piecesP,h1,stepP,h2])
   |ok p2=>
    obtain⟨y,r2⟩:=p2
    have o2:=expr_rest o1 h2
    simp only
    cases h3:takeT 4 [44] r2 with
    |error e=>rcases hab with rfl|rfl<;>(unfold pcsOf restT;simp only[Int.reduceEq,if_true,if_false,piecesP,h1,stepP,h2,h3])
    |ok p3=>
     obtain⟨t3,r3⟩:=p3
     have o3:∀t∈r3,okP t:=by rw[take_rest h3 (by decide)];exact tail_okP o2
     rcases hab with rfl|rfl
     ·unfold pcsOf restT
      simp only[Int.reduceEq,if_true,if_false,piecesP,h1,stepP,h2,h3,num_take (hd_okP o3) (.inl ⟨rfl,rfl⟩)]
      cases h4:takeT 3 [] r3 with
      |error e=>rfl
      |ok p4=>
       simp only
       cases h5:takeT 4 [41] p4.2<;>rfl
     ·unfold pcsOf restT
      simp only[Int.reduceEq,if_true,if_false,piecesP,h1,stepP,h2,h3,num_take (hd_okP o3) (.inr ⟨rfl,rfl⟩)]
      cases h4:takeT 2 [] r3 with
      |error e=>rfl
      |ok p4=>
       simp only
       cases h5:takeT 4 [41] p4.2<;>rfl
  ·have e1:(argsN k).toNat=2:=by rcases hab with rfl|rfl|rfl|rfl<;>decide
   have e10:decide (k=10)=false:=by rcases hab with rfl|rfl|rfl|rfl<;>decide
   have ep:pcsOf k=[.ar,.ar]:=by rcases hab with rfl|rfl|rfl|rfl<;>rfl
   have er:∀ts,restT k ts= .ok ((0,[]),ts):=by rcases hab with rfl|rfl|rfl|rfl<;>(intro ts;rfl)
   rw[e1,ep]
   simp only[argsT,if_true,e10,Bool.false_and,piecesP,h1,stepP,er,Nat.reduceAdd,if_neg (show ¬((0:Nat)+1=0) by decide),if_neg (show ¬((1:Nat)=0) by decide)]
   cases h2:exprT d false r1 with
   |error e=>rfl
   |ok p2=>
    simp only
    cases h3:takeT 4 [44] p2.2 with
    |error e=>rfl
    |ok p3=>
     simp only
     cases h4:exprT d false p3.2 with
     |error e=>rfl
     |ok p4=>
      simp only
      cases h5:takeT 4 [41] p4.2<;>rfl
  ·have e1:(argsN 10).toNat=3:=by decide
   have ep:pcsOf 10=[.wh,.ar,.ar]:=rfl
   have er:∀ts,restT 10 ts= .ok ((0,[]),ts):=fun ts=>rfl
   rw[e1,ep]
   simp only[argsT,if_true,piecesP,h1,stepP,er,Nat.reduceAdd,if_neg (show ¬((0:Nat)+1=0) by decide),if_neg (show ¬((1:Nat)=0) by decide),if_neg (show ¬((2:Nat)=0) by decide),decide_true,Bool.true_and,show decide ((1:Nat)=0)=false from rfl,show decide ((2:Nat)=0)=false from rfl]
   cases h2:exprT d true r1 with
   |error e=>rfl
   |ok p2=>
    simp only
    cases h3:takeT 4 [44] p2.2 with
    |error e=>rfl
    |ok p3=>
     simp only
     cases h4:exprT d false p3.2 with
     |error e=>rfl
     |ok p4=>
      simp only
      cases h5:takeT 4 [44] p4.2 with
      |error e=>rfl
      |ok p5=>
       simp only
       cases h6:exprT d false p5.2 with
       |error e=>rfl
       |ok p6=>
        simp only
        cases h7:takeT 4 [41] p6.2<;>rfl
theorem kind_text{t:Tok}(h:okP t)(c:Bool)(h3:t.1=3→c=true):kindT c t=kindW c t.2.1∨(kindT c t=0∧isWord t.2.1=false):=by
 unfold kindT
 rw[if_neg (fun hh=>by rw[h3 hh.1] at hh;cases hh.2)]
 by_cases h1:t.1=1
 ·rw[if_pos h1];exact .inl rfl
 ·rw[if_neg h1]
  right
  refine⟨rfl, ?_⟩
  cases hw:isWord t.2.1
  ·rfl
  ·exact absurd (h.2.1 hw) h1
theorem wordL_kind{k:Int}{c:Bool}{x:List UInt8}(h:kindW c x=k)(hk:k≠0):x=wordK k∧isCond k=c:=by
 unfold kindW at h
 cases hf:(([1,2,3,4,5,6,7,8,9,10,11,12]:List Int).find? fun k=>wordK k==x&&isCond k==c) with
 |none=>rw[hf] at h;exact absurd h.symm hk
 |some q=>
  rw[hf] at h
  have hq:q=k:=h
  have:=List.find?_some hf
  simp only[Bool.and_eq_true,beq_iff_eq] at this
  rw[hq] at this
  exact⟨this.1.symm,this.2⟩
theorem wordL_none{c:Bool}{x:List UInt8}(h:kindW c x=0)(k:Int)(h1:1≤k)(h2:k≤12)(hc:isCond k=c):x≠wordK k:=by
 rintro rfl
 unfold kindW at h
 cases hf:(([1,2,3,4,5,6,7,8,9,10,11,12]:List Int).find? fun q=>wordK q==wordK k&&isCond q==c) with
 |none=>
  have:=List.find?_eq_none.1 hf k (by simp only[List.mem_cons,List.not_mem_nil,or_false];omega)
  simp[hc] at this
 |some q=>
  rw[hf] at h
  have hq:q=0:=h
  have:=List.mem_of_find?_eq_some hf
  rw[hq] at this
  simp at this
theorem kind_none{t:Tok}(h:okP t)(c:Bool)(h3:t.1=3→c=true)(h0:kindT c t=0)(k:Int)(h1:1≤k)(h2:k≤12)(h4:k≠4)(hc:isCond k=c):t.2.1≠wordK k:=by
 rcases kind_text h c h3 with e|⟨_,e⟩
 ·exact wordL_none (by rw[←e];exact h0) k h1 h2 hc
 ·rintro h'
  rw[h'] at e
  have:k=1∨k=2∨k=3∨k=5∨k=6∨k=7∨k=8∨k=9∨k=10∨k=11∨k=12:=by omega
  revert e
  rcases this with rfl|rfl|rfl|rfl|rfl|rfl|rfl|rfl|rfl|rfl|rfl<;>decide
theorem kind_some{t:Tok}(h:okP t)(c:Bool){k:Int}(hk:kindT c t=k)(h0:k≠0)(h3:t.1=3→c=true):t.2.1=wordK k∧isCond k=c:=by
 rcases kind_text h c h3 with e|⟨e,_⟩
 ·exact wordL_kind (by rw[←e];exact hk) h0
 ·exact absurd (by rw[←hk,e]) h0
def Sized(ts:List Tok)(m:Told Ex):Prop:=match m with
 | .ok (x,r)=>size x+r.length≤ts.length
 | .error _=>True
theorem take_len{k:Int}{x:List UInt8}{ts r:List Tok}{t:Tok}(h:takeT k x ts= .ok (t,r)):r.length≤ts.length:=by
 unfold takeT at h
 split at h
 ·injection h with h
  injection h with _ h
  split at h<;>subst h
  ·exact Nat.le_refl _
  ·rw[List.length_tail];omega
 ·cases h
theorem args_sized(f:Bool→List Tok→Told Ex)(k:Int)(hf:∀c ts,Sized ts (f c ts)):∀(m i:Nat)(ts:List Tok),(match argsT f k i m ts with| .ok (l,r)=>sizes l+r.length≤ts.length| .error _=>True):=by
 intro m
 induction m with
 |zero=>intro i ts;unfold argsT;simp only[sizes_nil];omega
 |succ m ih=>
  intro i ts
  unfold argsT
  have hb:∀t1 ts1,(if i=0 then (.ok ((5,[],0,0),ts):Told Tok) else takeT 4 [44] ts)= .ok (t1,ts1)→ts1.length≤ts.length:=by
   intro t1 ts1 h
   split at h
   ·injection h with h;injection h with _ h;subst h;exact Nat.le_refl _
   ·exact take_len h
  cases h1:(if i=0 then (.ok ((5,[],0,0),ts):Told Tok) else takeT 4 [44] ts) with
  |error e=>trivial
  |ok p=>
   obtain⟨t1,ts1⟩:=p
   have:=hb t1 ts1 h1
   simp only
   have h2:=hf (decide (k=10)&&decide (i=0)) ts1
   cases h3:f (decide (k=10)&&decide (i=0)) ts1 with
   |error e=>trivial
   |ok q=>
    obtain⟨x,ts2⟩:=q
    rw[h3] at h2
    have h2:size x+ts2.length≤ts1.length:=h2
    simp only
    have h4:=ih (i+1) ts2
    cases h5:argsT f k (i+1) m ts2 with
    |error e=>trivial
    |ok u=>
     obtain⟨l,ts3⟩:=u
     rw[h5] at h4
     simp only[sizes_cons] at h4⊢
     omega
theorem rest_len{k:Int}{ts r:List Tok}{q:Int×List UInt8}(h:restT k ts= .ok (q,r)):r.length≤ts.length:=by
 have two:∀(K:Int)(ts r:List Tok)(g:Tok→Int×List UInt8),(match takeT K [] ts with| .error e=>(.error e:Told (Int×List UInt8))| .ok (t,ts)=> .ok (g t,ts))= .ok (q,r)→r.length≤ts.length:=by
  intro K ts r g h
  cases h1:takeT K [] ts with
  |error e=>rw[h1] at h;cases h
  |ok p=>
   obtain⟨t,ts1⟩:=p
   rw[h1] at h
   injection h with h
   injection h with _ h
   subst h
   exact take_len h1
 have comma:∀(K:Int)(g:Tok→Int×List UInt8),(match takeT 4 [44] ts with| .error e=>(.error e:Told (Int×List UInt8))| .ok (_,ts)=>(match takeT K [] ts with| .error e=> .error e| .ok (t,ts)=> .ok (g t,ts)))= .ok (q,r)→r.length≤ts.length:=by
  intro K g h
  cases h1:takeT 4 [44] ts with
  |error e=>rw[h1] at h;cases h
  |ok p=>
   obtain⟨t,ts1⟩:=p
   rw[h1] at h
   exact Nat.le_trans (two K ts1 r g h) (take_len h1)
 unfold restT at h
 split at h
 ·split at h
  ·exact two 1 ts r _ h
  ·cases h
 ·split at h
  ·exact comma 3 _ h
  ·split at h
   ·exact comma 2 _ h
   ·split at h
    ·split at h
     ·exact two 2 ts r _ h
     ·cases h
    ·injection h with h
     injection h with _ h
     subst h
     exact Nat.le_refl _
theorem kind_ne{c:Bool}{ts:List Tok}(h:kindT c (hdT ts)≠0):ts≠[]:=by
 rintro rfl
 exact h rfl
theorem expr_sized:∀(d:Nat)(c:Bool)(ts:List Tok),Sized ts (exprT d c ts):=by
 intro d
 induction d with
 |zero=>intro c ts;rw[exprT_deep];trivial
 |succ d ih=>
  intro c ts
  by_cases h0:kindT c (hdT ts)=0
  ·rw[exprT_none h0];trivial
  ·have hne:=kind_ne h0
   have hl:ts.tail.length+1=ts.length:=by
    cases ts with
    |nil=>exact absurd rfl hne
    |cons t r=>rfl
   by_cases h4:kindT c (hdT ts)=4
   ·rw[exprT_money h4];show size (.mk 4 _ [] [])+ts.tail.length≤ts.length;rw[size_mk,sizes_nil];omega
   ·by_cases h1:kindT c (hdT ts)=1∨kindT c (hdT ts)=2
    ·rw[exprT_leaf rfl h1];show size (.mk _ 0 [] [])+ts.tail.length≤ts.length;rw[size_mk,sizes_nil];omega
    ·rw[exprT_call rfl h0 h4 h1]
     unfold callT
     cases h2:takeT 4 [40] ts.tail with
     |error e=>trivial
     |ok p=>
      obtain⟨t,ts1⟩:=p
      have l1:=take_len h2
      simp only
      have h3:=args_sized (exprT d) (kindT c (hdT ts)) ih (argsN (kindT c (hdT ts))).toNat 0 ts1
      cases h5:argsT (exprT d) (kindT c (hdT ts)) 0 (argsN (kindT c (hdT ts))).toNat ts1 with
      |error e=>trivial
      |ok q=>
       obtain⟨l,ts2⟩:=q
       rw[h5] at h3
       simp only at h3⊢
       cases h6:restT (kindT c (hdT ts)) ts2 with
       |error e=>trivial
       |ok u=>
        obtain⟨⟨n,nm⟩,ts3⟩:=u
        have l3:=rest_len h6
        simp only
        cases h7:takeT 4 [41] ts3 with
        |error e=>trivial
        |ok v=>
         obtain⟨t4,ts4⟩:=v
         have l4:=take_len h7
         show size (.mk _ n nm l)+ts4.length≤ts.length
         rw[size_mk]
         omega
theorem parse_size{s:List UInt8}{x:Ex}(h:parseS s= .ok x):size x≤2001:=by
 unfold parseS at h
 split at h
 ·cases h
 ·rename_i hl
  cases hx:lx 0 s with
  |error k=>rw[hx] at h;cases h
  |ok ts=>
   rw[hx] at h
   obtain⟨us,hu,_,_,hlen⟩:=lx_out _ s (Nat.le_refl _) 0 ts hx
   have hs:=expr_sized 32 false ts
   have h:stratT ts= .ok x:=h
   unfold stratT at h
   cases h1:exprT 32 false ts with
   |error e=>rw[h1] at h;cases h
   |ok p=>
    obtain⟨y,r⟩:=p
    rw[h1] at h hs
    simp only at h
    have hs:size y+r.length≤ts.length:=hs
    have:y=x:=by
     cases h2:takeT 5 [] r with
     |error e=>rw[h2] at h;cases h
     |ok q=>rw[h2] at h;injection h
    subst this
    rw[hu,List.length_append] at hs
    simp at hs
    omega
def le(u:Int):List Int→Nat
 |[]=>0
 |a::t=>(if a≤u then 1 else 0)+le u t
abbrev Rs:=Except Int (Option Int)
def rsV:Rs→Int
 | .ok (some v)=>v
 |_=>0
def rsB:Rs→Bool
 | .ok (some _)=>true
 |_=>false
def rsE:Rs→Int
 | .error e=>e
 |_=>0
end Go.Proofs.YtjhjdiaomnpkmaaGreatDoor

namespace Go.Proofs.YtjhjdiaomnpkmaaGreatDoor
open Go.RowKit Go.Lib
def nx(n:Int):List Int→Int×List Int
 |[]=>(0,[])
 |c::t=>(pk c n,t)
theorem nx_bd(n:Int)(h:0<n)(L:List Int):0≤(nx n L).1∧(nx n L).1<n:=by
 cases L with
 |nil=>exact⟨Int.le_refl _,h⟩
 |cons c t=>exact pk_bd c n h
def upto(f:Bool→List Int→Ex×List Int)(k:Int):Nat→List Int→List Ex×List Int
 |0,L=>([],L)
 |i+1,L=>((upto f k i L).1++[(f (decide (k=10)&&decide (i=0)) (upto f k i L).2).1],(f (decide (k=10)&&decide (i=0)) (upto f k i L).2).2)
def kindOf(d:Nat)(v:Int):Int:=if d=0 then 1+(1+v)%4 else 1+v
def fill(k:Int)(a:List Ex×List Int):Ex×List Int:=
 if k=3 then (.mk k 0 (sellerL (pk (nx 60 a.2).1 60)) a.1,(nx 60 a.2).2)
 else if k=4∨k=5 then (.mk k (nx 3000 a.2).1 [] a.1,(nx 3000 a.2).2)
 else if k=6 then (.mk k (nx 12000 a.2).1 [] a.1,(nx 12000 a.2).2)
 else (.mk k 0 [] a.1,a.2)
def gen:Nat→Bool→List Int→Ex×List Int
 |0,_,L=>(.mk 0 0 [] [],L)
 |d+1,true,L=>
  if d=0 then (.mk 11 (nx 7 L).1 [] [],(nx 7 L).2)
  else if (nx 2 L).1=0 then (.mk 11 (nx 7 (nx 2 L).2).1 [] [],(nx 7 (nx 2 L).2).2)
  else (.mk 12 0 [] [(gen d false (nx 2 L).2).1,(gen d false (gen d false (nx 2 L).2).2).1],(gen d false (gen d false (nx 2 L).2).2).2)
 |d+1,false,L=>fill (kindOf d (nx 10 L).1) (upto (gen d) (kindOf d (nx 10 L).1) (argsN (kindOf d (nx 10 L).1)).toNat (nx 10 L).2)
def strat(L:List Int):Ex:=(gen 5 false (L.take 100)).1
theorem upto_len(f:Bool→List Int→Ex×List Int)(k:Int)(i:Nat)(L:List Int):(upto f k i L).1.length=i:=by
 induction i with
 |zero=>rfl
 |succ i ih=>simp only[upto,List.length_append,List.length_cons,List.length_nil];omega
theorem upto_all{P:Nat→Ex→Prop}(f:Bool→List Int→Ex×List Int)(k:Int)(i:Nat)(L:List Int)(h:∀j<i,∀L,P j (f (decide (k=10)&&decide (j=0)) L).1):∀j (hj:j<(upto f k i L).1.length),P j ((upto f k i L).1[j]):=by
 induction i with
 |zero=>intro j hj;simp[upto] at hj
 |succ i ih=>
  intro j hj
  have hl:=upto_len f k i L
  simp only[upto] at hj⊢
  rcases Nat.lt_or_ge j (upto f k i L).1.length with h1|h1
  ·rw[List.getElem_append_left h1]
   exact ih (fun j hj L=>h j (by omega) L) j h1
  ·rw[List.length_append,List.length_cons,List.length_nil] at hj
   obtain rfl:j=i:=by omega
   rw[List.getElem_append_right h1]
   simp only[hl,Nat.sub_self,List.getElem_cons_zero]
   exact h j (by omega) _
theorem kind_bd(d:Nat)(L:List Int):1≤kindOf d (nx 10 L).1∧kindOf d (nx 10 L).1≤10∧(d=0→kindOf d (nx 10 L).1≤4):=by
 have:=nx_bd 10 (by omega) L
 unfold kindOf
 split
 ·refine⟨?_, ?_,fun _=> ?_⟩<;>omega
 ·refine⟨?_, ?_,fun h=>absurd h ‹_›⟩<;>omega
theorem seller_name(u:Int)(h0:0≤u)(h1:u<60):isName (sellerL u)=true:=by
 rw[seller_eq u h0 h1]
 have:∀i:Fin 60,isName ((theNames.getD (i.val%6) [])++[UInt8.ofNat (48+i.val/6)])=true:=by decide
 exact this ⟨u.toNat,by omega⟩
theorem pk_id{u n:Int}(h0:0≤u)(h1:u<n):pk u n=u:=by
 unfold pk;rw[if_neg (by omega)];exact Int.emod_eq_of_lt h0 h1
theorem args_nat{k:Int}(h1:1≤k)(h2:k≤12):argsN k=((argsN k).toNat:Int):=by
 have:0≤argsN k:=by
  unfold argsN
  split
  ·omega
  ·split
   ·omega
   ·split
    ·omega
    ·split<;>omega
 omega
theorem gen_fine:∀(d:Nat)(c:Bool)(L:List Int),fine (d+1) (gen (d+1) c L).1=true∧isCond (gen (d+1) c L).1.k=c:=by
 intro d
 induction d with
 |zero=>
  intro c L
  cases c with
  |true=>
   have:=nx_bd 7 (by omega) L
   simp only[gen,if_pos]
   exact⟨fine_mk (by decide) ⟨by omega,by show _≤(1000:Int);omega⟩ (by simp) (by simp) (fun i hi=>absurd hi (by simp)),rfl⟩
  |false=>
   obtain⟨b1,b2,b3⟩:=kind_bd 0 L
   obtain⟨k,hk⟩:∃k,kindOf 0 (nx 10 L).1=k:=⟨_,rfl⟩
   simp only[gen]
   rw[hk] at b1 b2 b3⊢
   have b4:=b3 rfl
   have a0:argsN k=0:=by
    have:k=1∨k=2∨k=3∨k=4:=by omega
    rcases this with rfl|rfl|rfl|rfl<;>decide
   rw[a0]
   have n60:=nx_bd 60 (by omega) (nx 10 L).2
   have n3:=nx_bd 3000 (by omega) (nx 10 L).2
   have:k=1∨k=2∨k=3∨k=4:=by omega
   rcases this with rfl|rfl|rfl|rfl
   ·exact⟨fine_mk (show argsN 1=((0:Nat):Int) by decide) (by decide) (by simp) (by simp) (fun i hi=>absurd hi (by simp[upto])),rfl⟩
   ·exact⟨fine_mk (show argsN 2=((0:Nat):Int) by decide) (by decide) (by simp) (by simp) (fun i hi=>absurd hi (by simp[upto])),rfl⟩
   ·have hn:=seller_name (pk (nx 60 (nx 10 L).2).1 60) (by rw[pk_id n60.1 n60.2];omega) (by rw[pk_id n60.1 n60.2];omega)
    exact⟨fine_mk (show argsN 3=((0:Nat):Int) by decide) (by decide) (by simp only[iff_true];exact(name_parts hn).1) (fun _=>hn) (fun i hi=>absurd hi (by simp[upto])),rfl⟩
   ·exact⟨fine_mk (show argsN 4=((0:Nat):Int) by decide) ⟨n3.1,Int.le_of_lt (Int.lt_trans n3.2 (by decide))⟩ (by simp) (by simp) (fun i hi=>absurd hi (by simp[upto])),rfl⟩
 |succ d ih=>
  intro c L
  cases c with
  |true=>
   have h7:=nx_bd 7 (by omega) (nx 2 L).2
   rw[gen]
   rw[if_neg (by omega)]
   split
   ·exact⟨fine_mk (by decide) ⟨by omega,by show _≤(1000:Int);omega⟩ (by simp) (by simp) (fun i hi=>absurd hi (by simp)),rfl⟩
   ·refine⟨fine_mk (show argsN 12=((2:Nat):Int) by decide) (by decide) (by simp) (by simp) (fun i hi=> ?_),rfl⟩
    have q1:=ih false (nx 2 L).2
    have q2:=ih false (gen (d+1) false (nx 2 L).2).2
    have:i=0∨i=1:=by simp at hi;omega
    rcases this with rfl|rfl
    ·exact⟨q1.2,q1.1⟩
    ·exact⟨q2.2,q2.1⟩
  |false=>
   obtain⟨b1,b2,_⟩:=kind_bd (d+1) L
   obtain⟨k,hk⟩:∃k,kindOf (d+1) (nx 10 L).1=k:=⟨_,rfl⟩
   obtain⟨a,ha⟩:∃a,upto (gen (d+1)) k (argsN k).toNat (nx 10 L).2=a:=⟨_,rfl⟩
   rw[gen,hk]
   rw[hk] at b1 b2
   have hl:argsN k=(a.1.length:Int):=by rw[←ha,upto_len];exact args_nat b1 (by omega)
   have hall:∀i (hi:i<a.1.length),isCond a.1[i].k=(decide (k=10)&&decide (i=0))∧fine (d+1) a.1[i]=true:=by
    subst ha
    exact upto_all (P:=fun i x=>isCond x.k=(decide (k=10)&&decide (i=0))∧fine (d+1) x=true) (gen (d+1)) k (argsN k).toNat (nx 10 L).2 fun j _ L=>⟨(ih _ L).2,(ih _ L).1⟩
   rw[ha]
   have n60:=nx_bd 60 (by omega) a.2
   have n3:=nx_bd 3000 (by omega) a.2
   have n12:=nx_bd 12000 (by omega) a.2
   have hc:isCond k=false:=by unfold isCond;simp;omega
   unfold fill
   split
   ·rename_i e
    subst e
    have hn:=seller_name (pk (nx 60 a.2).1 60) (by rw[pk_id n60.1 n60.2];omega) (by rw[pk_id n60.1 n60.2];omega)
    exact⟨fine_mk hl (by decide) (by simp only[iff_true];exact(name_parts hn).1) (fun _=>hn) hall,rfl⟩
   ·rename_i e3
    split
    ·rename_i e
     refine⟨fine_mk hl ⟨n3.1, ?_⟩ (by simp[e3]) (fun h=>absurd h e3) hall,hc⟩
     rcases e with rfl|rfl<;>exact Int.le_of_lt (Int.lt_trans n3.2 (by decide))
    ·split
     ·rename_i e
      subst e
      exact⟨fine_mk hl ⟨n12.1,Int.le_of_lt (Int.lt_trans n12.2 (by decide))⟩ (by simp) (by simp) hall,hc⟩
     ·refine⟨fine_mk hl ⟨Int.le_refl _, ?_⟩ (by simp[e3]) (fun h=>absurd h e3) hall,hc⟩
      unfold mostN
      split
      ·omega
      ·split
       ·omega
       ·first|(split<;>omega)|omega
theorem fine_size:∀(d:Nat)(x:Ex),fine d x=true→size x≤4^d:=by
 intro d
 induction d with
 |zero=>intro x h;cases h
 |succ d ih=>
  intro x h
  cases x with
  |mk k n nm l=>
   obtain⟨h1,_,_,_,h5⟩:=fine_parts h
   have h3:=args_le k
   have hs:∀l:List Ex,(∀x∈l,size x≤4^d)→sizes l≤l.length*4^d:=by
    intro l
    induction l with
    |nil=>intro _;rw[sizes_nil];omega
    |cons y t ih2=>
     intro hh
     have e1:=hh y (List.mem_cons_self ..)
     have e2:=ih2 fun z hz=>hh z (List.mem_cons_of_mem _ hz)
     rw[sizes_cons,List.length_cons,Nat.add_mul,Nat.one_mul];omega
   have:=hs l fun y hy=>ih y (fine_mem h hy)
   have h4:l.length*4^d≤3*4^d:=Nat.mul_le_mul_right _ (by omega)
   have h6:1≤4^d:=Nat.one_le_pow _ _ (by omega)
   rw[size_mk,Nat.pow_succ]
   omega
theorem strat_fine(L:List Int):fine 5 (strat L)=true∧isCond (strat L).k=false:=gen_fine 4 false _
theorem strat_size(L:List Int):size (strat L)≤1024:=fine_size 5 _ (strat_fine L).1
end Go.Proofs.YtjhjdiaomnpkmaaGreatDoor

namespace Go.Proofs.YtjhjdiaomnpkmaaGreatDoor
open Go.Lib
abbrev Cf:=Int×Int×Int×Int×Int×List UInt8
abbrev flC(c:Cf):Int:=c.1
abbrev ceC(c:Cf):Int:=c.2.1
abbrev mpC(c:Cf):Int:=c.2.2.1
abbrev coC(c:Cf):Int:=c.2.2.2.1
abbrev bdC(c:Cf):Int:=c.2.2.2.2.1
abbrev txC(c:Cf):List UInt8:=c.2.2.2.2.2
def numsOk(c:Cf):Bool:=decide (1≤flC c∧flC c≤ceC c∧ceC c≤1000000000000∧0≤mpC c∧mpC c≤ceC c∧0≤coC c∧coC c≤1048576∧0≤bdC c∧bdC c≤1000000000000)
def textE(t:List UInt8):Int:=match parseS t with| .error p=>p.1| .ok x=>if rightX x then 0 else 1
def checkC(c:Cf):Int:=if numsOk c then textE (txC c) else 10
def lowC(c:Cf):Int:=max (flC c) (mpC c)
def withinC(c:Cf)(p:Int):Bool:=decide (checkC c=0∧lowC c≤p∧p≤ceC c)
theorem nums_iff{c:Cf}:numsOk c=true↔1≤flC c∧flC c≤ceC c∧ceC c≤1000000000000∧0≤mpC c∧mpC c≤ceC c∧0≤coC c∧coC c≤1048576∧0≤bdC c∧bdC c≤1000000000000:=by
 unfold numsOk;rw[decide_eq_true_eq]
theorem textE_error{t:List UInt8}{e p:Int}(h:parseS t= .error (e,p)):textE t=e:=by unfold textE;rw[h]
theorem textE_ok{t:List UInt8}{x:Ex}(h:parseS t= .ok x):textE t=if rightX x then 0 else 1:=by unfold textE;rw[h]
theorem check_zero{c:Cf}:checkC c=0↔numsOk c=true∧textE (txC c)=0:=by
 unfold checkC
 by_cases h:numsOk c=true
 ·rw[if_pos h];exact⟨fun e=>⟨h,e⟩,fun e=>e.2⟩
 ·rw[if_neg h];exact⟨fun e=>by omega,fun e=>absurd e.1 h⟩
theorem textE_zero{t:List UInt8}:textE t=0↔∃x,parseS t= .ok x∧rightX x=true:=by
 unfold textE
 cases h:parseS t with
 |error p=>
  obtain⟨e,q⟩:=p
  have:=((parse_spec t).2 e q h).1
  constructor
  ·intro h0
   have h0:e=0:=h0
   omega
  ·rintro⟨x,hx,_⟩
   cases hx
 |ok x=>
  by_cases hr:rightX x=true
  ·exact⟨fun _=>⟨x,rfl,hr⟩,fun _=>if_pos hr⟩
  ·refine⟨fun h0=> ?_, ?_⟩
   ·have h0:(if rightX x then (0:Int) else 1)=0:=h0
    rw[if_neg hr] at h0;omega
   ·rintro⟨y,hy,hyr⟩
    injection hy with hy
    subst hy
    exact absurd hyr hr
theorem text_right{x:Ex}(h:rightX x=true):textE (text x)=0:=by rw[textE_ok (parse_text h),if_pos h]
end Go.Proofs.YtjhjdiaomnpkmaaGreatDoor

namespace Go.Proofs.YtjhjdiaomnpkmaaGreatDoor
open Go.RowKit Go.Lib
theorem blk_of_cell{w:World}{a:Addr}{v:Value}(h:w.cell? a=some v):a.block<w.heap.size:=by
 rcases Nat.lt_or_ge a.block w.heap.size with hn|hn
 ·exact hn
 ·simp[World.cell?,Array.getElem?_eq_none hn] at h
theorem block_add(a:Addr)(n:Nat):(a.add n).block=a.block:=by unfold Addr.add;split<;>rfl
def Bk(w:World)(g:Nat)(t:TypeId)(cs:Array Value):Prop:=w.heap[g]?=some (.cells cs t (0,0))
theorem Bk.lt{w:World}{g:Nat}{t:TypeId}{cs:Array Value}(h:Bk w g t cs):g<w.heap.size:=by
 rcases Nat.lt_or_ge g w.heap.size with h'|h'
 ·exact h'
 ·unfold Bk at h;rw[Array.getElem?_eq_none h'] at h;cases h
theorem Bk.cell{w:World}{g:Nat}{t:TypeId}{cs:Array Value}(h:Bk w g t cs)(i:Nat):w.cell? ⟨g,i,none⟩=cs[i]?:=cell_of_row w g i cs t (0,0) h
theorem Bk.frozen{w:World}{g:Nat}{t:TypeId}{cs:Array Value}(h:Bk w g t cs)(i:Nat):w.frozen? ⟨g,i,none⟩=false:=by
 unfold Bk at h;simp[World.frozen?,h]
theorem Bk.new(w:World)(t:TypeId)(cs:Array Value):Bk (w.alloc (.cells cs t)) w.heap.size t cs:=heap_alloc_new w _
theorem Bk.alloc{w:World}{g:Nat}{t:TypeId}{cs:Array Value}(h:Bk w g t cs)(o:Obj):Bk (w.alloc o) g t cs:=(Below.heap_alloc w o g h.lt).trans h
theorem Bk.set_{w:World}{g:Nat}{t:TypeId}{cs:Array Value}(h:Bk w g t cs)(i:Nat)(u:Value):Bk (w.setCell ⟨g,i,none⟩ u) g t (cs.setIfInBounds i u):=by
 unfold Bk at h⊢
 simp[World.setCell,Array.getElem?_modify,h]
theorem Bk.far{w:World}{g:Nat}{t:TypeId}{cs:Array Value}(h:Bk w g t cs){p:Addr}(hp:g≠p.block)(u:Value):Bk (w.setCell p u) g t cs:=(Below.heap_setCell w p u g hp).trans h
theorem Bk.rel{w w':World}{g:Nat}{t:TypeId}{cs:Array Value}(h:Bk w g t cs)(hr:Rel w w'):Bk w' g t cs:=(hr.2.block g h.lt).trans h
theorem Bk.grown{w w':World}{g:Nat}{t:TypeId}{cs:Array Value}(h:Bk w g t cs){row:Option Nat}(hb:w.grownBy w' row)(hg:some g≠row):Bk w' g t cs:=(hb.block g h.lt hg).trans h
theorem Bk.drew{w:World}{g:Nat}{t:TypeId}{cs:Array Value}(h:Bk w g t cs):Bk w.drew g t cs:=h
theorem Bk.ne{w:World}{g g':Nat}{t t':TypeId}{cs cs':Array Value}(h:Bk w g t cs)(h':Bk w g' t' cs')(hne:t≠t'):g≠g':=by
 rintro rfl
 unfold Bk at h h'
 rw[h] at h'
 injection h' with h'
 injection h' with _ ht
 exact hne ht
theorem own_ne{w:World}{base:Nat}{e:TypeId}{size n:Nat}{v:Value}{xs:List Value}{g:Nat}{t:TypeId}{cs:Array Value}(h:w.ownsRow base e size v n xs)(hg:Bk w g t cs)(hne:e≠t):some g≠v.ownBlock:=by
 rcases h.2 with ⟨rfl,_⟩|⟨g',cap,cur,rfl,_,hh,_⟩
 ·simp[Value.ownBlock]
 ·intro he
  have:g=g':=by simpa [Value.ownBlock] using he
  subst this
  exact Bk.ne (t:=e) hh hg hne rfl
theorem Rel.grown{w0 w w':World}(h:Rel w0 w){row:Option Nat}(hg:w.grownBy w' row)(hr:∀k,row=some k→w0.heap.size≤k):Rel w0 w':=⟨h.1,Below.grown h.2 hg h.2.size hr⟩
theorem own_rel{w w':World}{base:Nat}{e:TypeId}{size n:Nat}{v:Value}{xs:List Value}(h:w.ownsRow base e size v n xs)(hr:Rel w w'):w'.ownsRow base e size v n xs:=
 h.kept (row:=none) ⟨hr.2.os,hr.2.tape,hr.2.output,hr.2.size,fun k hk _=>hr.2.block k hk⟩ (by cases v.ownBlock<;>simp)
theorem own_set{w:World}{base:Nat}{e:TypeId}{size n:Nat}{v:Value}{xs:List Value}(h:w.ownsRow base e size v n xs){p:Addr}(hp:some p.block≠v.ownBlock)(u:Value):(w.setCell p u).ownsRow base e size v n xs:=
 h.kept (row:=some p.block) ⟨rfl,rfl,rfl,by simp,fun k hk hne=>Below.heap_setCell w p u k (fun e=>hne (by rw[e]))⟩ (by
  cases hv:v.ownBlock with
  |none=>exact .inl rfl
  |some k=>exact .inr (by rw[hv] at hp;exact Ne.symm hp))
theorem own_slice{w:World}{base:Nat}{e:TypeId}{size n:Nat}{v:Value}{xs:List Value}(h:w.ownsRow base e size v n xs):∃A c,v= .slice A n c∧c≤maxLen:=by
 rcases h.2 with ⟨rfl,rfl⟩|⟨g,cap,cur,rfl,_,_,_,hm,_⟩
 ·exact⟨none,0,rfl,Nat.zero_le _⟩
 ·exact⟨_,cap,rfl,hm⟩
theorem addr_at(g off k:Nat):(⟨g,off,none⟩:Addr).add k=⟨g,off+k,none⟩:=by unfold Addr.add;split<;>simp_all
theorem Bk.two{w:World}{g:Nat}{t:TypeId}{x y:Value}(h:Bk w g t #[x,y]):
  (w.cell? ⟨g,0,none⟩=some x∧w.cell? ⟨g,1,none⟩=some y)∧(w.frozen? ⟨g,0,none⟩=false∧w.frozen? ⟨g,1,none⟩=false):=
 ⟨⟨h.cell 0,h.cell 1⟩,⟨h.frozen 0,h.frozen 1⟩⟩
abbrev TK(t:Tok):Value:= .agg #[.int .i64 t.1,.string (B t.2.1),.int .i64 t.2.2.1,.int .i64 t.2.2.2]
def cells4(t:Tok):List Value:=[.int .i64 t.1,.string (B t.2.1),.int .i64 t.2.2.1,.int .i64 t.2.2.2]
def cellsOf(ts:List Tok):List Value:=ts.flatMap cells4
theorem cellsOf_snoc(ts:List Tok)(t:Tok):cellsOf (ts++[t])=cellsOf ts++cells4 t:=by simp[cellsOf]
theorem cellsOf_at(ts:List Tok)(i:Nat)(h:i<ts.length):
  (cellsOf ts)[i*4]?=some (.int .i64 ts[i].1)∧(cellsOf ts)[i*4+1]?=some (.string (B ts[i].2.1))∧(cellsOf ts)[i*4+2]?=some (.int .i64 ts[i].2.2.1)∧(cellsOf ts)[i*4+3]?=some (.int .i64 ts[i].2.2.2):=by
 induction ts generalizing i with
 |nil=>simp at h
 |cons e t ih=>
  have hc:cellsOf (e::t)=cells4 e++cellsOf t:=rfl
  cases i with
  |zero=>rw[hc];exact⟨rfl,rfl,rfl,rfl⟩
  |succ i=>
   obtain⟨h1,h2,h3,h4⟩:=ih i (by simpa using h)
   have l4:(cells4 e).length=4:=rfl
   refine⟨?_, ?_, ?_, ?_⟩
   ·rw[hc,List.getElem?_append_right (by omega),show(i+1)*4-(cells4 e).length=i*4 by omega];exact h1
   ·rw[hc,List.getElem?_append_right (by omega),show(i+1)*4+1-(cells4 e).length=i*4+1 by omega];exact h2
   ·rw[hc,List.getElem?_append_right (by omega),show(i+1)*4+2-(cells4 e).length=i*4+2 by omega];exact h3
   ·rw[hc,List.getElem?_append_right (by omega),show(i+1)*4+3-(cells4 e).length=i*4+3 by omega];exact h4
def ToksAt(w:World)(A:Option Addr)(ts:List Tok):Prop:=
 ∀i (h:i<ts.length),∃(g off:Nat),A=some ⟨g,off,none⟩∧g<w.heap.size∧w.cell? ⟨g,off+i*4,none⟩=some (.int .i64 ts[i].1)∧w.cell? ⟨g,off+i*4+1,none⟩=some (.string (B ts[i].2.1))∧
  w.cell? ⟨g,off+i*4+2,none⟩=some (.int .i64 ts[i].2.2.1)∧w.cell? ⟨g,off+i*4+3,none⟩=some (.int .i64 ts[i].2.2.2)
theorem ToksAt.nil(w:World)(A:Option Addr):ToksAt w A []:=fun i h=>absurd h (by simp)
theorem ToksAt.below{w w':World}{A:Option Addr}{ts:List Tok}(h:ToksAt w A ts)(hb:Below w.heap.size w w'):ToksAt w' A ts:=by
 intro i hi
 obtain⟨g,off,e,hl,h0,h1,h2,h3⟩:=h i hi
 have hk:∀j,w'.cell? ⟨g,j,none⟩=w.cell? ⟨g,j,none⟩:=fun j=>hb.cell (p:=⟨g,j,none⟩) hl
 exact⟨g,off,e,by have:=hb.size;omega,by rw[hk];exact h0,by rw[hk];exact h1,by rw[hk];exact h2,by rw[hk];exact h3⟩
theorem ToksAt.rel{w w':World}{A:Option Addr}{ts:List Tok}(h:ToksAt w A ts)(hr:Rel w w'):ToksAt w' A ts:=h.below hr.2
def TokOwn(w:World)(base:Nat)(v:Value)(ts:List Tok):Prop:=w.ownsRow base 87 4 v ts.length (cellsOf ts)
theorem TokOwn.nil(w:World)(base:Nat):TokOwn w base (.slice none 0 0) []:=World.ownsRow_nil _ _ _ _
theorem TokOwn.rel{w w':World}{base:Nat}{v:Value}{ts:List Tok}(h:TokOwn w base v ts)(hr:Rel w w'):TokOwn w' base v ts:=own_rel h hr
theorem TokOwn.toks{w:World}{base:Nat}{A:Option Addr}{n c:Nat}{ts:List Tok}(h:TokOwn w base (.slice A n c) ts)(hn:n=ts.length):ToksAt w A ts:=by
 intro i hi
 have h:w.ownsRow base 87 4 (.slice A n c) ts.length (cellsOf ts):=h
 rcases h.2 with ⟨h0,h1⟩|⟨g,cap,cur,hv,hb,hh,_⟩
 ·omega
 ·have hA:A=some ⟨g,0,none⟩:=by injection hv
  obtain⟨c0,c1,c2,c3⟩:=cellsOf_at ts i hi
  have hc:=h.cells (g:=g) (by rw[hA];rfl)
  have q0:=hc _ _ c0
  have q1:=hc _ _ c1
  have q2:=hc _ _ c2
  have q3:=hc _ _ c3
  rw[addr_at] at q0 q1 q2 q3
  refine⟨g,0,hA,Bk.lt (t:=87) hh, ?_, ?_, ?_, ?_⟩
  ·exact q0
  ·rw[Nat.add_assoc];exact q1
  ·rw[Nat.add_assoc];exact q2
  ·rw[Nat.add_assoc];exact q3
theorem TokOwn.more{w1:World}{base g cap:Nat}{ts:List Tok}{t:Tok}
  (hown1:w1.ownsRow base 87 4 (.slice (some ⟨g,0,none⟩) (ts.length+1) cap) (ts.length+1) (cellsOf ts++cells4 t)):TokOwn w1 base (.slice (some ⟨g,0,none⟩) (ts.length+1) cap) (ts++[t]):=by
 unfold TokOwn
 rw[cellsOf_snoc,show(ts++[t]).length=ts.length+1 by simp];exact hown1
theorem tok_info:(Tryz.prog.info? 87).map (fun i=>(i.zero,i.size,i.bytes))=some (some (.agg #[.int .i64 0,.string ⟨#[]⟩,.int .i64 0,.int .i64 0]),4,40):=by kernel_rfl
theorem cells4_one(t:Tok):∀u∈cells4 t,u.oneCell'=true:=by
 intro u hu
 simp only[cells4,List.mem_cons,List.not_mem_nil,or_false] at hu
 rcases hu with rfl|rfl|rfl|rfl<;>rfl
def PairsAt(w:World)(A:Option Addr)(zs:List (Int×Int)):Prop:=
 ∀i (h:i<zs.length),∃(a:Addr),A=some a∧a.block<w.heap.size∧w.cell? (a.add (i*2))=some (.int .i64 zs[i].1)∧w.cell? (a.add (i*2+1))=some (.int .i64 zs[i].2)
def PairsIn(w:World)(A:Option Addr)(n:Nat)(zs:List (Int×Int)):Prop:=zs.length=n∧n≤9223372036854775807∧(∀z∈zs,(-9223372036854775808≤z.1∧z.1≤9223372036854775807)∧(-9223372036854775808≤z.2∧z.2≤9223372036854775807))∧PairsAt w A zs
theorem Bk.four{w:World}{g:Nat}{t:TypeId}{x y z u:Value}(h:Bk w g t #[x,y,z,u]):
  (w.cell? ⟨g,0,none⟩=some x∧w.cell? ⟨g,1,none⟩=some y∧w.cell? ⟨g,2,none⟩=some z∧w.cell? ⟨g,3,none⟩=some u)∧(w.frozen? ⟨g,0,none⟩=false∧w.frozen? ⟨g,1,none⟩=false∧w.frozen? ⟨g,2,none⟩=false∧w.frozen? ⟨g,3,none⟩=false):=
 ⟨⟨h.cell 0,h.cell 1,h.cell 2,h.cell 3⟩,⟨h.frozen 0,h.frozen 1,h.frozen 2,h.frozen 3⟩⟩
theorem Bk.put4{w:World}{g:Nat}{t:TypeId}{x y z u:Value}(h:Bk w g t #[x,y,z,u])(a b c d:Value):Bk ((((w.setCell ⟨g,0,none⟩ a).setCell ⟨g,1,none⟩ b).setCell ⟨g,2,none⟩ c).setCell ⟨g,3,none⟩ d) g t #[a,b,c,d]:=
 (((h.set_ 0 a).set_ 1 b).set_ 2 c).set_ 3 d
theorem Bk.snd(w:World)(cs cs':Array Value)(t t':TypeId):Bk ((w.alloc (.cells cs t)).alloc (.cells cs' t')) (w.heap.size+1) t' cs':=by
 have h:=Bk.new (w.alloc (.cells cs t)) t' cs'
 rw[World.size_alloc] at h
 exact h
theorem Rel.put4{w0 w:World}(h:Rel w0 w){g:Nat}(hg:w0.heap.size≤g)(a b c d:Value):Rel w0 ((((w.setCell ⟨g,0,none⟩ a).setCell ⟨g,1,none⟩ b).setCell ⟨g,2,none⟩ c).setCell ⟨g,3,none⟩ d):=
 (((h.setCell hg a).setCell hg b).setCell hg c).setCell hg d
abbrev TB(w:World)(g:Nat)(t:Tok):Prop:=Bk w g 87 #[.int .i64 t.1,.string (B t.2.1),.int .i64 t.2.2.1,.int .i64 t.2.2.2]
end Go.Proofs.YtjhjdiaomnpkmaaGreatDoor
