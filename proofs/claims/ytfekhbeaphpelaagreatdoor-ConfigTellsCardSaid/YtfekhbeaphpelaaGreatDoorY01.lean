/- Plain mathematics of layer 8. -/

import Derived.Test.YtfekhbeaphpelaaGreatDoorY00
set_option maxRecDepth 100000
set_option maxHeartbeats 8000000
set_option linter.unusedVariables false
set_option linter.unusedSimpArgs false
namespace Go.Proofs.YtfekhbeaphpelaaGreatDoor
open Go.Lib
def Spec{α:Type}(P:α→Prop)(ts:List Tok):Told α→Prop
 | .ok (x,r)=>P x∧∃a,ts=a++r
 | .error (e,p)=>(e=80∨e=81)∧(p=0∨∃t∈ts,p=t.2.2.2)
theorem Spec.mono{α:Type}{P Q:α→Prop}{ts:List Tok}{m:Told α}(h:Spec P ts m)(hq:∀x,P x→Q x):Spec Q ts m:=by
 rcases m with ⟨e,p⟩|⟨x,r⟩
 ·exact h
 ·exact⟨hq x h.1,h.2⟩
theorem Spec.up{α:Type}{P:α→Prop}{a ts:List Tok}{m:Told α}(h:Spec P ts m):Spec P (a++ts) m:=by
 rcases m with ⟨e,p⟩|⟨x,r⟩
 ·obtain⟨h1,h2⟩:=h
  refine⟨h1, ?_⟩
  rcases h2 with h|⟨t,ht,e⟩
  ·exact .inl h
  ·exact .inr ⟨t,List.mem_append_right _ ht,e⟩
 ·obtain⟨h1,b,rfl⟩:=h
  exact⟨h1,a++b,by rw[List.append_assoc]⟩
theorem at_spec{α:Type}{P:α→Prop}(ts:List Tok){e:Int}(he:e=80∨e=81):Spec P ts (.error (e,atT ts)):=by
 refine⟨he, ?_⟩
 cases ts with
 |nil=>exact .inl rfl
 |cons t r=>exact .inr ⟨t,List.mem_cons_self ..,rfl⟩
theorem take_spec(k:Int)(x:List UInt8)(ts:List Tok)(hk:k≠5):Spec (fun t=>t.1=k∧(x=[]∨t.2.1=x)∧t∈ts) ts (takeT k x ts):=by
 unfold takeT
 split
 ·rename_i h
  try rw[if_neg hk]
  cases ts with
  |nil=>exact absurd h.1.symm (by unfold hdT;exact hk)
  |cons t r=>exact⟨⟨h.1,h.2,List.mem_cons_self ..⟩,[t],rfl⟩
 ·exact at_spec ts (.inl rfl)
def okT(t:Tok):Prop:=(t.1=3→0≤t.2.2.1∧t.2.2.1≤1000000000000)∧(t.1=2→0≤t.2.2.1∧t.2.2.1≤100000)∧(t.1=1→t.2.1≠[])
theorem kind_spec{c:Bool}{t:Tok}(ho:okT t)(h:kindT c t≠0):(kindT c t=4∧t.1=3∧c=false)∨(t.1=1∧1≤kindT c t∧kindT c t≤12∧kindT c t≠4∧isCond (kindT c t)=c):=by
 by_cases h1:t.1=3∧c=false
 ·left
  refine⟨by unfold kindT;rw[if_pos h1],h1.1,h1.2⟩
 ·by_cases h2:t.1=1
  ·have e:kindT c t=kindW c t.2.1:=by unfold kindT;rw[if_neg h1,if_pos h2]
   rw[e] at h⊢
   right
   unfold kindW at h⊢
   cases hf:([1,2,3,4,5,6,7,8,9,10,11,12]:List Int).find? fun k=>wordK k==t.2.1&&isCond k==c with
   |none=>rw[hf] at h;exact absurd rfl h
   |some k=>
    have hs:=List.find?_some hf
    have hm:=List.mem_of_find?_eq_some hf
    simp only[Bool.and_eq_true,beq_iff_eq] at hs
    simp only[List.mem_cons,List.not_mem_nil,or_false] at hm
    have hw:=ho.2.2 h2
    refine⟨h2, ?_, ?_, ?_,hs.2⟩
    ·simp only[Option.getD_some];omega
    ·simp only[Option.getD_some];omega
    ·simp only[Option.getD_some]
     rintro rfl
     exact hw hs.1.symm
  ·exact absurd (by unfold kindT;rw[if_neg h1,if_neg h2]) h
theorem args_spec{d:Nat}(f:Bool→List Tok→Told Ex)(k:Int)(hf:∀c ts,(∀t∈ts,okT t)→Spec (fun x=>fine d x=true∧isCond x.k=c) ts (f c ts)):∀(m i:Nat)(ts:List Tok),(∀t∈ts,okT t)→
  Spec (fun l=>l.length=m∧∀j (h:j<l.length),isCond l[j].k=(decide (k=10)&&decide (i+j=0))∧fine d l[j]=true) ts (argsT f k i m ts):=by
 intro m
 induction m with
 |zero=>intro i ts _;unfold argsT;exact⟨⟨rfl,fun j h=>absurd h (by simp)⟩,[],rfl⟩
 |succ m ih=>
  intro i ts ho
  unfold argsT
  have h0:Spec (fun _=>True) ts (if i=0 then (.ok ((5,[],0,0),ts):Told Tok) else takeT 4 [44] ts):=by
   split
   ·exact⟨trivial,[],rfl⟩
   ·exact(take_spec 4 [44] ts (by decide)).mono fun _ _=>trivial
  rcases hm:(if i=0 then (.ok ((5,[],0,0),ts):Told Tok) else takeT 4 [44] ts) with ⟨e,p⟩|⟨t0,r0⟩
  ·rw[hm] at h0;exact h0
  ·rw[hm] at h0
   obtain⟨_,a,rfl⟩:=h0
   simp only
   have ho1:∀t∈r0,okT t:=fun t ht=>ho t (List.mem_append_right _ ht)
   have h1:=hf (decide (k=10)&&decide (i=0)) r0 ho1
   rcases hm1:f (decide (k=10)&&decide (i=0)) r0 with ⟨e,p⟩|⟨x,r1⟩
   ·rw[hm1] at h1;exact Spec.up (a:=a) (P:=_) h1
   ·rw[hm1] at h1
    obtain⟨hx,b,rfl⟩:=h1
    simp only
    have h2:=ih (i+1) r1 fun t ht=>ho1 t (List.mem_append_right _ ht)
    rcases hm2:argsT f k (i+1) m r1 with ⟨e,p⟩|⟨l,r2⟩
    ·rw[hm2] at h2;exact Spec.up (a:=a) (Spec.up (a:=b) h2)
    ·rw[hm2] at h2
     obtain⟨⟨hl,hl2⟩,c,rfl⟩:=h2
     refine⟨⟨by rw[List.length_cons,hl],fun j hj=> ?_⟩,a++(b++c),by simp⟩
     cases j with
     |zero=>exact⟨by simpa using hx.2,hx.1⟩
     |succ j=>
      have:=hl2 j (by simpa using hj)
      rw[show i+1+j=i+(j+1) by omega] at this
      exact this
theorem rest_spec{k:Int}(ts:List Tok)(ho:∀t∈ts,okT t)(h4:k≠4):Spec (fun q=>(0≤q.1∧q.1≤mostN k)∧(k=3→isName q.2=true)∧(q.2≠[]↔k=3)) ts (restT k ts):=by
 have two:∀(K:Int)(lim:Int),K≠5→k≠3→lim=mostN k→(∀t:Tok,okT t→t.1=K→0≤t.2.2.1∧t.2.2.1≤lim)→
   Spec (fun q=>(0≤q.1∧q.1≤mostN k)∧(k=3→isName q.2=true)∧(q.2≠[]↔k=3)) ts (match takeT 4 [44] ts with| .error e=> .error e| .ok (_,ts)=>(match takeT K [] ts with| .error e=> .error e| .ok (t,ts)=> .ok ((t.2.2.1,[]),ts))):=by
  intro K lim hK h3 hl hb
  have h0:=take_spec 4 [44] ts (by decide)
  rcases hm:takeT 4 [44] ts with ⟨e,p⟩|⟨t0,r0⟩
  ·rw[hm] at h0;exact h0
  ·rw[hm] at h0
   obtain⟨_,a,rfl⟩:=h0
   simp only
   have h1:=take_spec K [] r0 hK
   rcases hm1:takeT K [] r0 with ⟨e,p⟩|⟨t1,r1⟩
   ·rw[hm1] at h1;exact Spec.up (a:=a) (P:=_) h1
   ·rw[hm1] at h1
    obtain⟨⟨hk,_,hmem⟩,b,rfl⟩:=h1
    have:=hb t1 (ho t1 (List.mem_append_right _ hmem)) hk
    exact⟨⟨by rw[←hl];exact this,fun e=>absurd e h3,by simp[h3]⟩,a++b,by simp⟩
 unfold restT
 split
 ·rename_i e3
  subst e3
  split
  ·rename_i hn
   have h1:=take_spec 1 [] ts (by decide)
   rcases hm1:takeT 1 [] ts with ⟨e,p⟩|⟨t1,r1⟩
   ·rw[hm1] at h1;exact h1
   ·have e1:t1=hdT ts:=by
     unfold takeT at hm1
     split at hm1
     ·injection hm1 with hm1;injection hm1 with hm1;exact hm1.symm
     ·cases hm1
    rw[hm1] at h1
    rw[e1]
    refine⟨⟨⟨Int.le_refl _,(by decide:(0:Int)≤mostN 3)⟩,fun _=>hn,⟨fun _=>rfl,fun _=>(name_parts hn).1⟩⟩,h1.2⟩
  ·exact at_spec ts (.inl rfl)
 ·rename_i e3
  split
  ·rename_i e5;subst e5;exact two 3 _ (by decide) e3 rfl fun t ht hk=>ht.1 hk
  ·split
   ·rename_i e6;subst e6;exact two 2 _ (by decide) e3 rfl fun t ht hk=>ht.2.1 hk
   ·split
    ·rename_i e11
     subst e11
     split
     ·rename_i hle
      have h1:=take_spec 2 [] ts (by decide)
      rcases hm1:takeT 2 [] ts with ⟨e,p⟩|⟨t1,r1⟩
      ·rw[hm1] at h1;exact h1
      ·have e1:t1=hdT ts:=by
        unfold takeT at hm1
        split at hm1
        ·injection hm1 with hm1;injection hm1 with hm1;exact hm1.symm
        ·cases hm1
       rw[hm1] at h1
       obtain⟨⟨hk,_,hmem⟩,hr⟩:=h1
       have:=(ho t1 hmem).2.1 hk
       rw[←e1] at hle
       exact⟨⟨⟨this.1,hle⟩,fun e=>absurd e (by decide),by simp⟩,hr⟩
     ·exact at_spec ts (.inl rfl)
    ·rename_i e5 e6 e11
     refine⟨⟨⟨Int.le_refl _, ?_⟩,fun e=>absurd e e3,by simp[e3]⟩,[],rfl⟩
     rw[(most_le k).2.2 h4 e5 e6 e11];exact Int.le_refl _
theorem argsN_pos{k:Int}(h1:1≤k)(h2:k≤12):0≤argsN k:=by
 have:k=1∨k=2∨k=3∨k=4∨k=5∨k=6∨k=7∨k=8∨k=9∨k=10∨k=11∨k=12:=by omega
 rcases this with rfl|rfl|rfl|rfl|rfl|rfl|rfl|rfl|rfl|rfl|rfl|rfl<;>decide
theorem expr_spec:∀(d:Nat)(c:Bool)(ts:List Tok),(∀t∈ts,okT t)→Spec (fun x=>fine d x=true∧isCond x.k=c) ts (exprT d c ts):=by
 intro d
 induction d with
 |zero=>intro c ts _;rw[exprT_deep];exact at_spec ts (.inr rfl)
 |succ d ih=>
  intro c ts ho
  cases ts with
  |nil=>
   have:kindT c (hdT [])=0:=by unfold kindT hdT;simp
   rw[exprT_none this];exact at_spec [] (.inl rfl)
  |cons t r=>
   have hot:=ho t (List.mem_cons_self ..)
   by_cases h0:kindT c (hdT (t::r))=0
   ·rw[exprT_none h0];exact at_spec _ (.inl rfl)
   ·rcases kind_spec (c:=c) hot h0 with ⟨hk,ht,rfl⟩|⟨ht,k1,k2,k4,hc⟩
    ·rw[exprT_money hk]
     have:=hot.1 ht
     exact⟨⟨fine_mk (by decide) ⟨this.1,this.2⟩ (by simp) (by simp) (fun i hi=>absurd hi (by simp)),rfl⟩,[t],rfl⟩
    ·obtain⟨k,hk⟩:∃k,kindT c (hdT (t::r))=k:=⟨_,rfl⟩
     have hk':kindT c t=k:=hk
     rw[hk'] at k1 k2 k4 hc
     by_cases k12:k=1∨k=2
     ·rw[exprT_leaf hk k12]
      refine⟨⟨fine_mk ?_ ⟨Int.le_refl _, ?_⟩ ?_ ?_ (fun i hi=>absurd hi (by simp)),hc⟩,[t],rfl⟩
      ·rcases k12 with rfl|rfl<;>rfl
      ·rcases k12 with rfl|rfl<;>decide
      ·rcases k12 with rfl|rfl<;>simp
      ·rcases k12 with rfl|rfl<;>simp
     ·rw[exprT_call hk (by omega) k4 k12]
      refine Spec.up (a:=[t]) (ts:=r) ?_
      have hor:∀t∈r,okT t:=fun u hu=>ho u (List.mem_cons_of_mem _ hu)
      rw[List.tail_cons]
      unfold callT
      have h1:=take_spec 4 [40] r (by decide)
      rcases hm1:takeT 4 [40] r with ⟨e,p⟩|⟨t1,r1⟩
      ·rw[hm1] at h1;exact h1
      ·rw[hm1] at h1
       obtain⟨_,a1,rfl⟩:=h1
       refine Spec.up (a:=a1) ?_
       have ho1:∀t∈r1,okT t:=fun u hu=>hor u (List.mem_append_right _ hu)
       simp only
       have h2:=args_spec (exprT d) k (fun c ts h=>ih c ts h) (argsN k).toNat 0 r1 ho1
       rcases hm2:argsT (exprT d) k 0 (argsN k).toNat r1 with ⟨e,p⟩|⟨l,r2⟩
       ·rw[hm2] at h2;exact h2
       ·rw[hm2] at h2
        obtain⟨⟨hl,hl2⟩,a2,rfl⟩:=h2
        refine Spec.up (a:=a2) ?_
        have ho2:∀t∈r2,okT t:=fun u hu=>ho1 u (List.mem_append_right _ hu)
        simp only
        have h3:=rest_spec r2 ho2 k4
        rcases hm3:restT k r2 with ⟨e,p⟩|⟨⟨n,nm⟩,r3⟩
        ·rw[hm3] at h3;exact h3
        ·rw[hm3] at h3
         obtain⟨⟨q1,q2,q3⟩,a3,rfl⟩:=h3
         refine Spec.up (a:=a3) ?_
         simp only
         have h4:=take_spec 4 [41] r3 (by decide)
         rcases hm4:takeT 4 [41] r3 with ⟨e,p⟩|⟨t4,r4⟩
         ·rw[hm4] at h4;exact h4
         ·rw[hm4] at h4
          have:=argsN_pos k1 k2
          exact⟨⟨fine_mk (by rw[hl];omega) q1 q3 q2 fun i hi=>by have:=hl2 i hi;rw[Nat.zero_add] at this;exact this,hc⟩,h4.2⟩
theorem good_okT{x:List UInt8}{k n p:Int}(h:Good x k n):okT (k,x,n,p):=by
 obtain⟨_,_,_,h0,h2⟩:=good_kind h
 refine⟨fun e=>⟨h0, ?_⟩,fun e=>⟨h0,h2 e⟩,fun e=> ?_⟩
 ·simp only at e
  subst e
  rcases h with ⟨c,rfl,hs,hk,_⟩|⟨hx,ha,ht⟩
  ·omega
  ·unfold tokOf at ht
   split at ht
   ·cases ht
   ·split at ht
    ·cases ht
    ·cases hp:prs x with
     |none=>rw[hp] at ht;cases ht
     |some a=>
      rw[hp] at ht
      injection ht with ht
      injection ht with e1 e2
      subst e2
      have:=rt_iff.1 (txt_of_prs hp).1
      exact this.2
 ·rcases h with ⟨c,rfl,_⟩|⟨hx,_⟩
  ·simp
  ·exact hx
theorem lx_okT{p:Nat}{s:List UInt8}{l:List Tok}(h:lx p s= .ok l):(∀t∈l,okT t)∧(∀t∈l,0≤t.2.2.2∧t.2.2.2≤((p+s.length:Nat):Int))∧∃ts,l=ts++[(5,[],0,((p+s.length:Nat):Int))]:=by
 obtain⟨ts,rfl,hts,_,_⟩:=lx_out _ s (Nat.le_refl _) p l h
 refine⟨fun t ht=> ?_,fun t ht=> ?_,ts,rfl⟩
 ·rcases List.mem_append.1 ht with h1|h1
  ·exact good_okT (hts t h1).1
  ·obtain rfl:=List.mem_singleton.1 h1
   refine⟨?_, ?_, ?_⟩<;>(intro e;simp at e)
 ·rcases List.mem_append.1 ht with h1|h1
  ·have:=hts t h1;omega
  ·obtain rfl:=List.mem_singleton.1 h1
   exact⟨by simp only[];omega,Int.le_refl _⟩
theorem lx_err:∀(m:Nat)(s:List UInt8),s.length≤m→∀(p k:Nat),lx p s= .error k→k≤p+s.length:=by
 intro m
 induction m with
 |zero=>
  intro s hs p k h
  obtain rfl:s=[]:=List.length_eq_zero_iff.1 (by omega)
  rw[lx_nil] at h;cases h
 |succ m ih=>
  intro s hs p k h
  have pre_err:∀(ts:List Tok)(r:Scan),pre ts r= .error k→r= .error k:=fun ts r h=>by
   cases r with
   |ok m=>cases h
   |error q=>exact h
  cases s with
  |nil=>rw[lx_nil] at h;cases h
  |cons c t=>
   simp only[List.length_cons] at hs⊢
   cases hb:isBl c
   ·cases hg:isSg c
    ·cases hn:tokOf ((c::t).takeWhile isPt) with
     |none=>rw[lx_bad p c t hb hg hn] at h;injection h with h;omega
     |some kn=>
      obtain⟨k',n⟩:=kn
      rw[lx_tok p c t k' n hb hg hn] at h
      have h':=pre_err _ _ h
      have hx:=tokOf_ne hn
      have h2:=run_len (c::t)
      have h3:1≤((c::t).takeWhile isPt).length:=by
       rcases hx':(c::t).takeWhile isPt with _|⟨a,b⟩
       ·exact absurd hx' hx
       ·simp
      have h4:((c::t).takeWhile isPt).length≤(c::t).length:=(List.takeWhile_sublist _).length_le
      simp only[List.length_cons] at h2 h4
      have:=ih _ (by omega) _ _ h'
      omega
    ·rw[lx_sign p c t hb hg] at h
     have:=ih t (by omega) _ _ (pre_err _ _ h)
     omega
   ·rw[lx_blank p c t hb] at h
    have:=ih t (by omega) _ _ h
    omega
theorem strat_spec(ts:List Tok)(ho:∀t∈ts,okT t):(∀x,stratT ts= .ok x→fine 32 x=true∧isCond x.k=false)∧(∀e p,stratT ts= .error (e,p)→(e=80∨e=81)∧(p=0∨∃t∈ts,p=t.2.2.2)):=by
 have h:=expr_spec 32 false ts ho
 rcases hm:exprT 32 false ts with ⟨e,p⟩|⟨x,r⟩
 ·rw[hm] at h
  have e1:stratT ts= .error (e,p):=by unfold stratT;rw[hm]
  rw[e1]
  refine⟨(fun x hx=>by cases hx),fun e' p' he=> ?_⟩
  injection he with he
  injection he with h1 h2
  subst h1;subst h2
  exact h
 ·rw[hm] at h
  obtain⟨hx,a,rfl⟩:=h
  by_cases h5:(hdT r).1=5∧(([]:List UInt8)=[]∨(hdT r).2.1=[])
  ·have e1:stratT (a++r)= .ok x:=by
    have tk:takeT 5 [] r= .ok (hdT r,r):=by unfold takeT;rw[if_pos h5];rfl
    unfold stratT;rw[hm];simp only;rw[tk]
   rw[e1]
   refine⟨fun y hy=> ?_,(fun e' p' he=>by cases he)⟩
   injection hy with hy
   subst hy
   exact hx
  ·have e1:stratT (a++r)= .error (80,atT r):=by
    have tk:takeT 5 [] r= .error (80,atT r):=by unfold takeT;rw[if_neg h5]
    unfold stratT;rw[hm];simp only;rw[tk]
   rw[e1]
   refine⟨(fun x hx=>by cases hx),fun e' p' he=> ?_⟩
   injection he with he
   injection he with h1 h2
   subst h1;subst h2
   exact Spec.up (α:=Ex) (P:=fun _=>True) (a:=a) (at_spec r (.inl rfl))
theorem parse_spec(s:List UInt8):(∀x,parseS s= .ok x→fine 32 x=true∧isCond x.k=false)∧(∀e p,parseS s= .error (e,p)→(e=60∨e=61∨e=80∨e=81)∧0≤p∧p≤(s.length:Int)):=by
 by_cases hl:2000<s.length
 ·have e1:parseS s= .error (60,2000):=by unfold parseS;rw[if_pos hl]
  rw[e1]
  refine⟨(fun x hx=>by cases hx),fun e' p' he=> ?_⟩
  injection he with he
  injection he with h1 h2
  subst h1;subst h2
  exact⟨.inl rfl,by decide,by omega⟩
 ·cases hx:lx 0 s with
  |error k=>
   have e1:parseS s= .error (61,(k:Int)):=by unfold parseS;rw[if_neg hl,hx]
   rw[e1]
   have:=lx_err _ s (Nat.le_refl _) 0 k hx
   refine⟨(fun x hx=>by cases hx),fun e' p' he=> ?_⟩
   injection he with he
   injection he with h1 h2
   subst h1;subst h2
   exact⟨.inr (.inl rfl),by omega,by omega⟩
  |ok ts=>
   have e1:parseS s=stratT ts:=by unfold parseS;rw[if_neg hl,hx]
   rw[e1]
   obtain⟨h1,h2,_⟩:=lx_okT hx
   obtain⟨ha,hb⟩:=strat_spec ts h1
   refine⟨ha,fun e p he=> ?_⟩
   obtain⟨he,hp⟩:=hb e p he
   refine⟨.inr (.inr he), ?_, ?_⟩
   ·rcases hp with rfl|⟨t,ht,rfl⟩
    ·exact Int.le_refl _
    ·exact(h2 t ht).1
   ·rcases hp with rfl|⟨t,ht,rfl⟩
    ·omega
    ·have:=(h2 t ht).2;omega
def lxF:Nat→Nat→List UInt8→Scan
 |0,p,_=> .ok [(5,[],0,(p:Int))]
 |_+1,p,[]=> .ok [(5,[],0,(p:Int))]
 |f+1,p,c::t=>
  if isBl c then lxF f (p+1) t
  else if isSg c then pre [(4,[c],0,(p:Int))] (lxF f (p+1) t)
  else match tokOf ((c::t).takeWhile isPt) with
   |none=> .error p
   |some kn=>pre [(kn.1,(c::t).takeWhile isPt,kn.2,(p:Int))] (lxF f (p+((c::t).takeWhile isPt).length) ((c::t).dropWhile isPt))
theorem lxF_eq:∀(f:Nat)(p:Nat)(s:List UInt8),s.length≤f→lx p s=lxF f p s:=by
 intro f
 induction f with
 |zero=>
  intro p s hs
  obtain rfl:s=[]:=List.length_eq_zero_iff.1 (by omega)
  rw[lx_nil];rfl
 |succ f ih=>
  intro p s hs
  cases s with
  |nil=>rw[lx_nil];rfl
  |cons c t=>
   simp only[List.length_cons] at hs
   unfold lxF
   cases hb:isBl c
   ·cases hg:isSg c
    ·cases hn:tokOf ((c::t).takeWhile isPt) with
     |none=>rw[lx_bad p c t hb hg hn];simp
     |some kn=>
      have hx:=tokOf_ne hn
      have h2:=run_len (c::t)
      have h3:1≤((c::t).takeWhile isPt).length:=by
       rcases hx':(c::t).takeWhile isPt with _|⟨a,b⟩
       ·exact absurd hx' hx
       ·simp
      simp only[List.length_cons] at h2
      rw[lx_tok p c t kn.1 kn.2 hb hg hn,ih _ _ (by omega)];simp
    ·rw[lx_sign p c t hb hg,ih _ _ (by omega)];simp
   ·rw[lx_blank p c t hb,ih _ _ (by omega)];simp
abbrev PS:=List Tok×Int
def zT:Tok:=(0,[],0,0)
def zE:Ex:= .mk 0 0 [] []
def wrongR(c:Int)(s:PS):PS:=if s.2=0 then (s.1,c) else s
def takeR(k:Int)(x:List UInt8)(s:PS):Tok×PS:=
 if s.2=0 then (if (hdT s.1).1=k∧(x=[]∨(hdT s.1).2.1=x) then (hdT s.1,(if k=5 then s.1 else s.1.tail,0)) else (zT,(s.1,80))) else (zT,s)
def betweenR(j:Nat)(s:PS):PS:=if j=0 then s else (takeR 4 [44] s).2
def uptoR(f:Bool→PS→Ex×PS)(k:Int):Nat→PS→List Ex×PS
 |0,s=>([],s)
 |j+1,s=>((uptoR f k j s).1++[(f (decide (k=10)&&decide (j=0)) (betweenR j (uptoR f k j s).2)).1],(f (decide (k=10)&&decide (j=0)) (betweenR j (uptoR f k j s).2)).2)
def restR(k:Int)(s:PS):(Int×List UInt8)×PS:=
 if k=3 then ((0,(hdT s.1).2.1),(takeR 1 [] (if isName (hdT s.1).2.1 then s else wrongR 80 s)).2)
 else if k=5 then (((takeR 3 [] (takeR 4 [44] s).2).1.2.2.1,[]),(takeR 3 [] (takeR 4 [44] s).2).2)
 else if k=6 then (((takeR 2 [] (takeR 4 [44] s).2).1.2.2.1,[]),(takeR 2 [] (takeR 4 [44] s).2).2)
 else if k=11 then (((hdT s.1).2.2.1,[]),(takeR 2 [] (if (hdT s.1).2.2.1≤1000 then s else wrongR 80 s)).2)
 else ((0,[]),s)
def callR(f:Bool→PS→Ex×PS)(k:Int)(s:PS):Ex×PS:=
 (.mk k (restR k (uptoR f k (argsN k).toNat (takeR 4 [40] s).2).2).1.1 (restR k (uptoR f k (argsN k).toNat (takeR 4 [40] s).2).2).1.2 (uptoR f k (argsN k).toNat (takeR 4 [40] s).2).1,
  (takeR 4 [41] (restR k (uptoR f k (argsN k).toNat (takeR 4 [40] s).2).2).2).2)
def exprR:Nat→Bool→PS→Ex×PS
 |0,_,s=>(zE,wrongR 81 s)
 |d+1,c,s=>
  if s.2≠0 then (zE,s)
  else if kindT c (hdT s.1)=0 then (zE,(s.1,80))
  else if kindT c (hdT s.1)=4 then (.mk 4 (hdT s.1).2.2.1 [] [],(s.1.tail,0))
  else if kindT c (hdT s.1)=1∨kindT c (hdT s.1)=2 then (.mk (kindT c (hdT s.1)) 0 [] [],(takeR 1 [] s).2)
  else callR (exprR d) (kindT c (hdT s.1)) (takeR 1 [] s).2
def SameR{α:Type}(r:Told α)(q:α×PS):Prop:=match r with
 | .ok (x,ts)=>q=(x,(ts,0))
 | .error E=>q.2.2=E.1∧E.1≠0∧atT q.2.1=E.2
theorem SameR.ok_{α:Type}{r:Told α}{q:α×PS}(h:SameR r q){x:α}{ts:List Tok}(e:r= .ok (x,ts)):q=(x,(ts,0)):=by subst e;exact h
theorem SameR.er{α:Type}{r:Told α}{q:α×PS}(h:SameR r q){E:Int×Int}(e:r= .error E):q.2.2=E.1∧E.1≠0∧atT q.2.1=E.2:=by subst e;exact h
theorem SameR.of_er{α β:Type}{r:Told α}{q:α×PS}(h:SameR r q){E:Int×Int}(e:r= .error E){q':β×PS}(hq:q'.2=q.2):SameR (.error E:Told β) q':=by
 obtain⟨a,b,c⟩:=h.er e
 exact⟨by rw[hq];exact a,b,by rw[hq];exact c⟩
theorem SameR.bad{α:Type}{r:Told α}{q:α×PS}(h:SameR r q){E:Int×Int}(e:r= .error E):q.2.2≠0:=by
 obtain⟨a,b,c⟩:=h.er e
 rw[a];exact b
theorem takeR_bad{k:Int}{x:List UInt8}{s:PS}(h:s.2≠0):takeR k x s=(zT,s):=by unfold takeR;rw[if_neg h]
theorem wrongR_bad{c:Int}{s:PS}(h:s.2≠0):wrongR c s=s:=by unfold wrongR;rw[if_neg h]
theorem betweenR_bad{j:Nat}{s:PS}(h:s.2≠0):betweenR j s=s:=by unfold betweenR;rw[takeR_bad h];split<;>rfl
theorem take_same(k:Int)(x:List UInt8)(ts:List Tok):SameR (takeT k x ts) (takeR k x (ts,0)):=by
 unfold takeT takeR
 rw[if_pos rfl]
 by_cases h:(hdT ts).1=k∧(x=[]∨(hdT ts).2.1=x)
 ·rw[if_pos h,if_pos h];rfl
 ·rw[if_neg h,if_neg h];exact⟨rfl,show(80:Int)≠0 by decide,rfl⟩
theorem restR_bad{k:Int}{s:PS}(h:s.2≠0):(restR k s).2=s:=by
 have hw:∀p:Prop,[Decidable p]→(if p then s else wrongR 80 s)=s:=fun p _=>by rw[wrongR_bad h];split<;>rfl
 unfold restR
 split
 ·simp only[hw,takeR_bad h]
 ·split
  ·simp only[takeR_bad h]
  ·split
   ·simp only[takeR_bad h]
   ·split
    ·simp only[hw,takeR_bad h]
    ·rfl
theorem uptoR_bad{f:Bool→PS→Ex×PS}{k:Int}(hf:∀b s,s.2≠0→(f b s).2=s)(j:Nat){s:PS}(h:s.2≠0):(uptoR f k j s).2=s:=by
 induction j with
 |zero=>rfl
 |succ j ih=>
  unfold uptoR
  simp only[ih,betweenR_bad h]
  rw[hf _ _ h]
theorem exprR_bad(d:Nat)(c:Bool)(s:PS)(h:s.2≠0):(exprR d c s).2=s:=by
 cases d with
 |zero=>unfold exprR;exact wrongR_bad h
 |succ d=>unfold exprR;rw[if_pos h]
def argsR(f:Bool→PS→Ex×PS)(k:Int):Nat→Nat→PS→List Ex×PS
 |_,0,s=>([],s)
 |i,m+1,s=>((f (decide (k=10)&&decide (i=0)) (betweenR i s)).1::(argsR f k (i+1) m (f (decide (k=10)&&decide (i=0)) (betweenR i s)).2).1,(argsR f k (i+1) m (f (decide (k=10)&&decide (i=0)) (betweenR i s)).2).2)
theorem argsR_snoc(f:Bool→PS→Ex×PS)(k:Int)(m:Nat):∀(i:Nat)(s:PS),argsR f k i (m+1) s=((argsR f k i m s).1++[(f (decide (k=10)&&decide (i+m=0)) (betweenR (i+m) (argsR f k i m s).2)).1],(f (decide (k=10)&&decide (i+m=0)) (betweenR (i+m) (argsR f k i m s).2)).2):=by
 induction m with
 |zero=>intro i s;rfl
 |succ m ih=>
  intro i s
  rw[argsR,ih]
  rw[show i+1+m=i+(m+1) by omega]
  conv=>rhs;rw[argsR]
  rfl
theorem uptoR_args(f:Bool→PS→Ex×PS)(k:Int)(m:Nat)(s:PS):uptoR f k m s=argsR f k 0 m s:=by
 induction m with
 |zero=>rfl
 |succ m ih=>
  rw[argsR_snoc,uptoR,ih]
  simp only[Nat.zero_add]
theorem args_same{f:Bool→List Tok→Told Ex}{g:Bool→PS→Ex×PS}(k:Int)(h:∀b ts,SameR (f b ts) (g b (ts,0)))(hg:∀b s,s.2≠0→(g b s).2=s)(m:Nat):∀(i:Nat)(ts:List Tok),SameR (argsT f k i m ts) (argsR g k i m (ts,0)):=by
 induction m with
 |zero=>intro i ts;rfl
 |succ m ih=>
  have hbad:∀(i m:Nat)(s:PS),s.2≠0→(argsR g k i m s).2=s:=by
   intro i m
   induction m generalizing i with
   |zero=>intro s _;rfl
   |succ m ih=>intro s hs;rw[argsR];simp only[betweenR_bad hs];rw[ih _ _ (by rw[hg _ _ hs];exact hs),hg _ _ hs]
  intro i ts
  have hb:SameR (if i=0 then (.ok ((5,[],0,0),ts):Told Tok) else takeT 4 [44] ts) (if i=0 then ((5,[],0,0),(ts,0)) else takeR 4 [44] (ts,0)):=by
   split
   ·rfl
   ·exact take_same 4 [44] ts
  have hbe:betweenR i (ts,0)=(if i=0 then ((5,[],0,0),(ts,0)) else takeR 4 [44] (ts,0)).2:=by unfold betweenR;split<;>rfl
  unfold argsT argsR
  rw[hbe]
  generalize (if i=0 then ((5,[],0,0),(ts,0)) else takeR 4 [44] (ts,0))=q at hb
  cases hr:(if i=0 then (.ok ((5,[],0,0),ts):Told Tok) else takeT 4 [44] ts) with
  |error E=>
   have hq:=hb.bad hr
   exact hb.of_er hr (by simp only[hg _ _ hq];rw[hbad _ _ _ hq])
  |ok p=>
   obtain⟨t,ts1⟩:=p
   obtain rfl:=hb.ok_ hr
   have hf:=h (decide (k=10)&&decide (i=0)) ts1
   simp only
   cases hx:f (decide (k=10)&&decide (i=0)) ts1 with
   |error E=>
    have hq:=hf.bad hx
    exact hf.of_er hx (hbad _ _ _ hq)
   |ok p2=>
    obtain⟨x,ts2⟩:=p2
    have e2:=hf.ok_ hx
    rw[e2]
    simp only
    have hi:=ih (i+1) ts2
    cases hy:argsT f k (i+1) m ts2 with
    |error E=>exact hi.of_er hy rfl
    |ok p3=>
     obtain⟨l,ts3⟩:=p3
     have e3:=hi.ok_ hy
     rw[e3]
     rfl
theorem rest_same(k:Int)(ts:List Tok):SameR (restT k ts) (restR k (ts,0)):=by
 have two:∀K:Int,SameR (match takeT 4 [44] ts with| .error e=>(.error e:Told (Int×List UInt8))| .ok (_,ts)=>(match takeT K [] ts with| .error e=> .error e| .ok (t,ts)=> .ok ((t.2.2.1,[]),ts))) (((takeR K [] (takeR 4 [44] (ts,0)).2).1.2.2.1,[]),(takeR K [] (takeR 4 [44] (ts,0)).2).2):=by
  intro K
  have h1:=take_same 4 [44] ts
  cases hr:takeT 4 [44] ts with
  |error E=>
   have hq:=h1.bad hr
   exact h1.of_er hr (by simp only[takeR_bad hq])
  |ok p=>
   obtain⟨t,ts1⟩:=p
   rw[h1.ok_ hr]
   simp only
   have h2:=take_same K [] ts1
   cases hr2:takeT K [] ts1 with
   |error E=>exact h2.of_er hr2 rfl
   |ok p2=>
    obtain⟨t2,ts2⟩:=p2
    rw[h2.ok_ hr2]
    rfl
 unfold restT restR
 by_cases e3:k=3
 ·rw[if_pos e3,if_pos e3]
  by_cases hn:isName (hdT ts).2.1=true
  ·rw[if_pos hn,if_pos hn]
   have h2:=take_same 1 [] ts
   cases hr2:takeT 1 [] ts with
   |error E=>exact h2.of_er hr2 rfl
   |ok p2=>
    obtain⟨t2,ts2⟩:=p2
    have e2:=h2.ok_ hr2
    rw[e2]
    have:t2=hdT ts:=by
     unfold takeT at hr2
     split at hr2
     ·injection hr2 with hr2;injection hr2 with a b;exact a.symm
     ·cases hr2
    rw[this]
    rfl
  ·rw[if_neg hn,if_neg hn]
   show SameR (.error (80,atT ts)) ((0,(hdT ts).2.1),(takeR 1 [] (ts,80)).2)
   rw[takeR_bad (show(80:Int)≠0 by decide)]
   exact⟨rfl,show(80:Int)≠0 by decide,rfl⟩
 ·rw[if_neg e3,if_neg e3]
  by_cases e5:k=5
  ·rw[if_pos e5,if_pos e5];exact two 3
  ·rw[if_neg e5,if_neg e5]
   by_cases e6:k=6
   ·rw[if_pos e6,if_pos e6];exact two 2
   ·rw[if_neg e6,if_neg e6]
    by_cases e11:k=11
    ·rw[if_pos e11,if_pos e11]
     by_cases hn:(hdT ts).2.2.1≤1000
     ·rw[if_pos hn,if_pos hn]
      have h2:=take_same 2 [] ts
      cases hr2:takeT 2 [] ts with
      |error E=>exact h2.of_er hr2 rfl
      |ok p2=>
       obtain⟨t2,ts2⟩:=p2
       have e2:=h2.ok_ hr2
       rw[e2]
       have:t2=hdT ts:=by
        unfold takeT at hr2
        split at hr2
        ·injection hr2 with hr2;injection hr2 with a b;exact a.symm
        ·cases hr2
       rw[this]
       rfl
     ·rw[if_neg hn,if_neg hn]
      show SameR (.error (80,atT ts)) (((hdT ts).2.2.1,[]),(takeR 2 [] (ts,80)).2)
      rw[takeR_bad (show(80:Int)≠0 by decide)]
      exact⟨rfl,show(80:Int)≠0 by decide,rfl⟩
    ·rw[if_neg e11,if_neg e11];rfl
theorem call_same{f:Bool→List Tok→Told Ex}{g:Bool→PS→Ex×PS}(k:Int)(h:∀b ts,SameR (f b ts) (g b (ts,0)))(hg:∀b s,s.2≠0→(g b s).2=s)(ts:List Tok):SameR (callT f k ts) (callR g k (ts,0)):=by
 unfold callT callR
 have h1:=take_same 4 [40] ts
 cases hr:takeT 4 [40] ts with
 |error E=>
  have hq:=h1.bad hr
  exact h1.of_er hr (by simp only[uptoR_bad hg _ hq,restR_bad hq,takeR_bad hq])
 |ok p=>
  obtain⟨t,ts1⟩:=p
  rw[h1.ok_ hr]
  simp only
  have h2:=args_same k h hg (argsN k).toNat 0 ts1
  rw[←uptoR_args] at h2
  cases hr2:argsT f k 0 (argsN k).toNat ts1 with
  |error E=>
   have hq:=h2.bad hr2
   exact h2.of_er hr2 (by simp only[restR_bad hq,takeR_bad hq])
  |ok p2=>
   obtain⟨l,ts2⟩:=p2
   rw[h2.ok_ hr2]
   simp only
   have h3:=rest_same k ts2
   cases hr3:restT k ts2 with
   |error E=>
    have hq:=h3.bad hr3
    exact h3.of_er hr3 (by simp only[takeR_bad hq])
   |ok p3=>
    obtain⟨⟨n,nm⟩,ts3⟩:=p3
    rw[h3.ok_ hr3]
    simp only
    have h4:=take_same 4 [41] ts3
    cases hr4:takeT 4 [41] ts3 with
    |error E=>exact h4.of_er hr4 rfl
    |ok p4=>
     obtain⟨t4,ts4⟩:=p4
     rw[h4.ok_ hr4]
     rfl
theorem kind_tok{c:Bool}{t:Tok}(h:kindT c t≠0):(kindT c t=4→t.1=3∨t.1=1)∧(kindT c t≠4→t.1=1):=by
 unfold kindT at h⊢
 split
 ·rename_i h3;exact⟨fun _=> .inl h3.1,fun h=>absurd rfl h⟩
 ·rename_i h3
  rw[if_neg h3] at h
  split
  ·rename_i h1;exact⟨fun _=> .inr h1,fun _=>h1⟩
  ·rename_i h1;rw[if_neg h1] at h;exact absurd rfl h
theorem kindW_4(c:Bool)(x:List UInt8)(hx:x≠[]):kindW c x≠4:=by
 unfold kindW
 intro h
 cases hf:(([1,2,3,4,5,6,7,8,9,10,11,12]:List Int).find? fun k=>wordK k==x&&isCond k==c) with
 |none=>rw[hf] at h;cases h
 |some k=>
  rw[hf] at h
  have hk:k=4:=h
  have:=List.find?_some hf
  simp only[Bool.and_eq_true,beq_iff_eq] at this
  rw[hk] at this
  exact hx this.1.symm
theorem takeR_ok{k:Int}{ts:List Tok}(h:(hdT ts).1=k)(h5:k≠5):takeR k [] (ts,0)=(hdT ts,(ts.tail,0)):=by
 unfold takeR
 rw[if_pos rfl,if_pos ⟨h,.inl rfl⟩,if_neg h5]
theorem expr_same(d:Nat):∀(c:Bool)(ts:List Tok),SameR (exprT d c ts) (exprR d c (ts,0)):=by
 induction d with
 |zero=>intro c ts;exact⟨rfl,show(81:Int)≠0 by decide,rfl⟩
 |succ d ih=>
  intro c ts
  unfold exprT exprR
  rw[if_neg (show ¬((0:Int)≠0) by decide)]
  by_cases k0:kindT c (hdT ts)=0
  ·rw[if_pos k0,if_pos k0];exact⟨rfl,show(80:Int)≠0 by decide,rfl⟩
  ·rw[if_neg k0,if_neg k0]
   by_cases k4:kindT c (hdT ts)=4
   ·rw[if_pos k4,if_pos k4];rfl
   ·rw[if_neg k4,if_neg k4,takeR_ok ((kind_tok k0).2 k4) (by decide)]
    by_cases k1:kindT c (hdT ts)=1∨kindT c (hdT ts)=2
    ·rw[if_pos k1,if_pos k1];rfl
    ·rw[if_neg k1,if_neg k1]
     exact call_same _ ih (exprR_bad d) ts.tail
def okP(t:Tok):Prop:=okT t∧(isWord t.2.1=true→t.1=1)∧(isName t.2.1=true→t.1=1)∧(t.2.1=[40]∨t.2.1=[41]∨t.2.1=[44]→t.1=4)∧(1≤t.1∧t.1≤5)
theorem good_okP{x:List UInt8}{k n p:Int}(h:Good x k n):okP (k,x,n,p):=by
 refine⟨good_okT h, ?_, ?_, ?_, ?_⟩
 ·intro hw
  rcases h with ⟨c,rfl,hs,_⟩|⟨_,_,ht⟩
  ·exfalso
   simp only at hw
   unfold isWord theWords at hw
   simp at hw
  ·simp only at hw⊢
   unfold tokOf at ht
   rw[hw] at ht
   simp at ht
   exact ht.1.symm
 ·intro hw
  rcases h with ⟨c,rfl,hs,_⟩|⟨_,_,ht⟩
  ·exfalso
   simp only at hw
   unfold isName at hw
   unfold isSg at hs
   unfold isL at hw
   simp only[Bool.or_eq_true,beq_iff_eq] at hs
   rcases hs with (rfl|rfl)|rfl<;>simp at hw
  ·simp only at hw⊢
   unfold tokOf at ht
   rw[hw] at ht
   simp at ht
   exact ht.1.symm
 ·intro hw
  rcases h with ⟨c,rfl,hs,hk,_⟩|⟨_,ha,_⟩
  ·exact hk
  ·exfalso
   simp only at hw
   rcases hw with rfl|rfl|rfl<;>revert ha<;>decide
 ·rcases h with ⟨c,rfl,hs,rfl,_⟩|⟨_,_,ht⟩
  ·exact⟨show(1:Int)≤4 by decide,show(4:Int)≤5 by decide⟩
  ·unfold tokOf at ht
   split at ht
   ·injection ht with ht;injection ht with a b;subst a;exact⟨show(1:Int)≤1 by decide,show(1:Int)≤5 by decide⟩
   ·split at ht
    ·injection ht with ht;injection ht with a b;subst a;exact⟨show(1:Int)≤2 by decide,show(2:Int)≤5 by decide⟩
    ·cases hp:prs x with
     |none=>rw[hp] at ht;cases ht
     |some v=>rw[hp] at ht;injection ht with ht;injection ht with a b;subst a;exact⟨show(1:Int)≤3 by decide,show(3:Int)≤5 by decide⟩
theorem end_okP(p:Int):okP (5,[],0,p):=by
 refine⟨⟨?_, ?_, ?_⟩, ?_, ?_, ?_, ?_⟩
 ·intro e;simp at e
 ·intro e;simp at e
 ·intro e;simp at e
 ·intro e;exact absurd (show isWord []=true from e) (by decide)
 ·intro e;exact absurd (show isName []=true from e) (by decide)
 ·intro e;simp at e
 ·exact⟨show(1:Int)≤5 by decide,show(5:Int)≤5 by decide⟩
theorem lx_okP{p:Nat}{s:List UInt8}{l:List Tok}(h:lx p s= .ok l):∀t∈l,okP t:=by
 obtain⟨ts,rfl,hts,_,_⟩:=lx_out _ s (Nat.le_refl _) p l h
 intro t ht
 rcases List.mem_append.1 ht with h1|h1
 ·exact good_okP (hts t h1).1
 ·obtain rfl:=List.mem_singleton.1 h1
  exact end_okP _
theorem hd_okP{ts:List Tok}(h:∀t∈ts,okP t):okP (hdT ts):=by
 cases ts with
 |nil=>exact end_okP 0
 |cons t r=>exact h t (List.mem_cons_self ..)
theorem tail_okP{ts:List Tok}(h:∀t∈ts,okP t):∀t∈ts.tail,okP t:=fun t ht=>h t (List.mem_of_mem_tail ht)
theorem suf_okP{a ts:List Tok}(h:∀t∈a++ts,okP t):∀t∈ts,okP t:=fun t ht=>h t (List.mem_append_right _ ht)
theorem sign_take{c:UInt8}(hc:c=40∨c=41∨c=44)(ts:List Tok)(h:okP (hdT ts)):takeT 4 [c] ts=if (hdT ts).2.1=[c] then .ok (hdT ts,ts.tail) else .error (80,atT ts):=by
 unfold takeT
 by_cases e:(hdT ts).2.1=[c]
 ·have h4:(hdT ts).1=4:=h.2.2.2.1 (by rw[e];rcases hc with rfl|rfl|rfl<;>simp)
  rw[if_pos ⟨h4,.inr e⟩,if_pos e,if_neg (show ¬((4:Int)=5) by decide)]
 ·rw[if_neg (fun hh=>by rcases hh.2 with h'|h'<;>simp_all),if_neg e]
def numP(k m:Int)(ts:List Tok):Told Int:=if (hdT ts).1=k∧(hdT ts).2.2.1≤m then .ok ((hdT ts).2.2.1,ts.tail) else .error (80,atT ts)
def nameP(ts:List Tok):Told (List UInt8):=if isName (hdT ts).2.1=true then .ok ((hdT ts).2.1,ts.tail) else .error (80,atT ts)
inductive Pc where
 |ar|wh|na|am|pa|co
def Ex.push(x y:Ex):Ex:= .mk x.k x.n x.nm (x.l++[y])
def Ex.num(x:Ex)(n:Int):Ex:= .mk x.k n x.nm x.l
def Ex.name(x:Ex)(m:List UInt8):Ex:= .mk x.k x.n m x.l
def stepP(f:Bool→List Tok→Told Ex)(p:Pc)(x:Ex)(ts:List Tok):Told Ex:=
 match p with
 | .ar=>(match f false ts with| .error e=> .error e| .ok (y,r)=> .ok (x.push y,r))
 | .wh=>(match f true ts with| .error e=> .error e| .ok (y,r)=> .ok (x.push y,r))
 | .na=>(match nameP ts with| .error e=> .error e| .ok (m,r)=> .ok (x.name m,r))
 | .am=>(match numP 3 1000000000000 ts with| .error e=> .error e| .ok (n,r)=> .ok (x.num n,r))
 | .pa=>(match numP 2 100000 ts with| .error e=> .error e| .ok (n,r)=> .ok (x.num n,r))
 | .co=>(match numP 2 1000 ts with| .error e=> .error e| .ok (n,r)=> .ok (x.num n,r))
def piecesP(f:Bool→List Tok→Told Ex):List Pc→UInt8→Ex→List Tok→Told Ex
 |[],_,x,ts=>(match takeT 4 [41] ts with| .error e=> .error e| .ok (_,r)=> .ok (x,r))
 |p::ps,b,x,ts=>
  match takeT 4 [b] ts with
  | .error e=> .error e
  | .ok (_,r)=>
    match stepP f p x r with
    | .error e=> .error e
    | .ok (y,r)=>piecesP f ps 44 y r
def pcsOf(k:Int):List Pc:=if k=3 then [.na] else if k=5 then [.ar,.am] else if k=6 then [.ar,.pa] else if k=10 then [.wh,.ar,.ar] else if k=11 then [.co] else [.ar,.ar]
theorem num_take{k m:Int}{ts:List Tok}(h:okP (hdT ts))(hk:k=3∧m=1000000000000∨k=2∧m=100000):numP k m ts=(match takeT k [] ts with| .error e=> .error e| .ok (t,r)=> .ok (t.2.2.1,r)):=by
 unfold numP takeT
 by_cases e:(hdT ts).1=k
 ·have hm:(hdT ts).2.2.1≤m:=by
   rcases hk with ⟨rfl,rfl⟩|⟨rfl,rfl⟩
   ·exact(h.1.1 e).2
   ·exact(h.1.2.1 e).2
  rw[if_pos ⟨e,hm⟩,if_pos ⟨e,.inl rfl⟩,if_neg (by omega)]
 ·rw[if_neg (fun hh=>e hh.1),if_neg (fun hh=>e hh.1)]
theorem num_count(ts:List Tok):numP 2 1000 ts=(if (hdT ts).2.2.1≤1000 then (match takeT 2 [] ts with| .error e=> .error e| .ok (t,r)=> .ok (t.2.2.1,r)) else .error (80,atT ts)):=by
 unfold numP takeT
 by_cases e:(hdT ts).1=2
 ·by_cases h:(hdT ts).2.2.1≤1000
  ·rw[if_pos ⟨e,h⟩,if_pos h,if_pos ⟨e,.inl rfl⟩,if_neg (by decide)]
  ·rw[if_neg (fun hh=>h hh.2),if_neg h]
 ·rw[if_neg (fun hh=>e hh.1)]
  split
  ·rw[if_neg (fun hh=>e hh.1)]
  ·rfl
theorem name_take{ts:List Tok}(h:okP (hdT ts)):nameP ts=(if isName (hdT ts).2.1=true then (match takeT 1 [] ts with| .error e=> .error e| .ok (t,r)=> .ok (t.2.1,r)) else .error (80,atT ts)):=by
 unfold nameP takeT
 by_cases e:isName (hdT ts).2.1=true
 ·rw[if_pos e,if_pos e,if_pos ⟨h.2.2.1 e,.inl rfl⟩,if_neg (by decide)]
 ·rw[if_neg e,if_neg e]
theorem take_rest{k:Int}{x:List UInt8}{ts r:List Tok}{t:Tok}(h:takeT k x ts= .ok (t,r))(hk:k≠5):r=ts.tail:=by
 unfold takeT at h
 split at h
 ·injection h with h;injection h with a b;first|exact b.symm|(rw[if_neg hk] at b;exact b.symm)
 ·cases h
theorem expr_rest{d:Nat}{c:Bool}{ts r:List Tok}{x:Ex}(ho:∀t∈ts,okP t)(h:exprT d c ts= .ok (x,r)):∀t∈r,okP t:=by
 have:=expr_spec d c ts (fun t ht=>(ho t ht).1)
 rw[h] at this
 obtain⟨_,a,rfl⟩:=this
 exact suf_okP ho
theorem call_pieces(d:Nat)(k:Int)(hk:k=3∨k=5∨k=6∨k=7∨k=8∨k=9∨k=10∨k=11∨k=12)(ts:List Tok)(ho:∀t∈ts,okP t):piecesP (exprT d) (pcsOf k) 40 (.mk k 0 [] []) ts=callT (exprT d) k ts:=by
 have hab:k=3∨k=11∨(k=5∨k=6)∨(k=7∨k=8∨k=9∨k=12)∨k=10:=by omega
 unfold callT
 cases h1:takeT 4 [40] ts with
 |error e=>rcases hk with rfl|rfl|rfl|rfl|rfl|rfl|rfl|rfl|rfl<;>(unfold pcsOf;simp only[Int.reduceEq,if_true,if_false,piecesP,h1])
 |ok p=>
  obtain⟨t0,r1⟩:=p
  have o1:∀t∈r1,okP t:=by rw[take_rest h1 (by decide)];exact tail_okP ho
  simp only
  rcases hab with rfl|rfl|hab|hab|rfl
  ·unfold pcsOf restT
   simp only[Int.reduceEq,if_true,piecesP,h1,stepP,name_take (hd_okP o1),show(argsN 3).toNat=0 from by decide,argsT]
   by_cases hh:isName (hdT r1).2.1=true
   ·simp only[hh,if_true]
    cases h2:takeT 1 [] r1 with
    |error e=>rfl
    |ok p2=>
     simp only
     cases h3:takeT 4 [41] p2.2<;>rfl
   ·simp only[hh,if_false,Bool.false_eq_true]
  ·unfold pcsOf restT
   simp only[Int.reduceEq,if_true,if_false,piecesP,h1,stepP,num_count,show(argsN 11).toNat=0 from by decide,argsT]
   by_cases hh:(hdT r1).2.2.1≤1000
   ·simp only[hh,if_true]
    cases h2:takeT 2 [] r1 with
    |error e=>rfl
    |ok p2=>
     simp only
     cases h3:takeT 4 [41] p2.2<;>rfl
   ·simp only[hh,if_false,Bool.false_eq_true]
  ·have e1:(argsN k).toNat=1:=by rcases hab with rfl|rfl<;>decide
   have e10:decide (k=10)=false:=by rcases hab with rfl|rfl<;>decide
   rw[e1]
   simp only[argsT,if_true,e10,Bool.false_and]
   cases h2:exprT d false r1 with
   |error e=>rcases hab with rfl|rfl<;>(unfold pcsOf;simp only[Int.reduceEq,if_true,if_false,piecesP,h1,stepP,h2])
   |ok p2=>
    obtain⟨y,r2⟩:=p2
    have o2:=expr_rest o1 h2
    simp only
    cases h3:takeT 4 [44] r2 with
    |error e=>rcases hab with rfl|rfl<;>(unfold pcsOf restT;simp only[Int.reduceEq,if_true,if_false,piecesP,h1,stepP,h2,h3])
    |ok p3=>
     obtain⟨t3,r3⟩:=p3
     have o3:∀t∈r3,okP t:=by rw[take_rest h3 (by decide)];exact tail_okP o2
     rcases hab with rfl|rfl
     ·unfold pcsOf restT
      simp only[Int.reduceEq,if_true,if_false,piecesP,h1,stepP,h2,h3,num_take (hd_okP o3) (.inl ⟨rfl,rfl⟩)]
      cases h4:takeT 3 [] r3 with
      |error e=>rfl
      |ok p4=>
       simp only
       cases h5:takeT 4 [41] p4.2<;>rfl
     ·unfold pcsOf restT
      simp only[Int.reduceEq,if_true,if_false,piecesP,h1,stepP,h2,h3,num_take (hd_okP o3) (.inr ⟨rfl,rfl⟩)]
      cases h4:takeT 2 [] r3 with
      |error e=>rfl
      |ok p4=>
       simp only
       cases h5:takeT 4 [41] p4.2<;>rfl
  ·have e1:(argsN k).toNat=2:=by rcases hab with rfl|rfl|rfl|rfl<;>decide
   have e10:decide (k=10)=false:=by rcases hab with rfl|rfl|rfl|rfl<;>decide
   have ep:pcsOf k=[.ar,.ar]:=by rcases hab with rfl|rfl|rfl|rfl<;>rfl
   have er:∀ts,restT k ts= .ok ((0,[]),ts):=by rcases hab with rfl|rfl|rfl|rfl<;>(intro ts;rfl)
   rw[e1,ep]
   simp only[argsT,if_true,e10,Bool.false_and,piecesP,h1,stepP,er,Nat.reduceAdd,if_neg (show ¬((0:Nat)+1=0) by decide),if_neg (show ¬((1:Nat)=0) by decide)]
   cases h2:exprT d false r1 with
   |error e=>rfl
   |ok p2=>
    simp only
    cases h3:takeT 4 [44] p2.2 with
    |error e=>rfl
    |ok p3=>
     simp only
     cases h4:exprT d false p3.2 with
     |error e=>rfl
     |ok p4=>
      simp only
      cases h5:takeT 4 [41] p4.2<;>rfl
  ·have e1:(argsN 10).toNat=3:=by decide
   have ep:pcsOf 10=[.wh,.ar,.ar]:=rfl
   have er:∀ts,restT 10 ts= .ok ((0,[]),ts):=fun ts=>rfl
   rw[e1,ep]
   simp only[argsT,if_true,piecesP,h1,stepP,er,Nat.reduceAdd,if_neg (show ¬((0:Nat)+1=0) by decide),if_neg (show ¬((1:Nat)=0) by decide),if_neg (show ¬((2:Nat)=0) by decide),decide_true,Bool.true_and,show decide ((1:Nat)=0)=false from rfl,show decide ((2:Nat)=0)=false from rfl]
   cases h2:exprT d true r1 with
   |error e=>rfl
   |ok p2=>
    simp only
    cases h3:takeT 4 [44] p2.2 with
    |error e=>rfl
    |ok p3=>
     simp only
     cases h4:exprT d false p3.2 with
     |error e=>rfl
     |ok p4=>
      simp only
      cases h5:takeT 4 [44] p4.2 with
      |error e=>rfl
      |ok p5=>
       simp only
       cases h6:exprT d false p5.2 with
       |error e=>rfl
       |ok p6=>
        simp only
        cases h7:takeT 4 [41] p6.2<;>rfl
theorem kind_text{t:Tok}(h:okP t)(c:Bool)(h3:t.1=3→c=true):kindT c t=kindW c t.2.1∨(kindT c t=0∧isWord t.2.1=false):=by
 unfold kindT
 rw[if_neg (fun hh=>by rw[h3 hh.1] at hh;cases hh.2)]
 by_cases h1:t.1=1
 ·rw[if_pos h1];exact .inl rfl
 ·rw[if_neg h1]
  right
  refine⟨rfl, ?_⟩
  cases hw:isWord t.2.1
  ·rfl
  ·exact absurd (h.2.1 hw) h1
theorem wordL_kind{k:Int}{c:Bool}{x:List UInt8}(h:kindW c x=k)(hk:k≠0):x=wordK k∧isCond k=c:=by
 unfold kindW at h
 cases hf:(([1,2,3,4,5,6,7,8,9,10,11,12]:List Int).find? fun k=>wordK k==x&&isCond k==c) with
 |none=>rw[hf] at h;exact absurd h.symm hk
 |some q=>
  rw[hf] at h
  have hq:q=k:=h
  have:=List.find?_some hf
  simp only[Bool.and_eq_true,beq_iff_eq] at this
  rw[hq] at this
  exact⟨this.1.symm,this.2⟩
theorem wordL_none{c:Bool}{x:List UInt8}(h:kindW c x=0)(k:Int)(h1:1≤k)(h2:k≤12)(hc:isCond k=c):x≠wordK k:=by
 rintro rfl
 unfold kindW at h
 cases hf:(([1,2,3,4,5,6,7,8,9,10,11,12]:List Int).find? fun q=>wordK q==wordK k&&isCond q==c) with
 |none=>
  have:=List.find?_eq_none.1 hf k (by simp only[List.mem_cons,List.not_mem_nil,or_false];omega)
  simp[hc] at this
 |some q=>
  rw[hf] at h
  have hq:q=0:=h
  have:=List.mem_of_find?_eq_some hf
  rw[hq] at this
  simp at this
theorem kind_none{t:Tok}(h:okP t)(c:Bool)(h3:t.1=3→c=true)(h0:kindT c t=0)(k:Int)(h1:1≤k)(h2:k≤12)(h4:k≠4)(hc:isCond k=c):t.2.1≠wordK k:=by
 rcases kind_text h c h3 with e|⟨_,e⟩
 ·exact wordL_none (by rw[←e];exact h0) k h1 h2 hc
 ·rintro h'
  rw[h'] at e
  have:k=1∨k=2∨k=3∨k=5∨k=6∨k=7∨k=8∨k=9∨k=10∨k=11∨k=12:=by omega
  revert e
  rcases this with rfl|rfl|rfl|rfl|rfl|rfl|rfl|rfl|rfl|rfl|rfl<;>decide
theorem kind_some{t:Tok}(h:okP t)(c:Bool){k:Int}(hk:kindT c t=k)(h0:k≠0)(h3:t.1=3→c=true):t.2.1=wordK k∧isCond k=c:=by
 rcases kind_text h c h3 with e|⟨e,_⟩
 ·exact wordL_kind (by rw[←e];exact hk) h0
 ·exact absurd (by rw[←hk,e]) h0
def Sized(ts:List Tok)(m:Told Ex):Prop:=match m with
 | .ok (x,r)=>size x+r.length≤ts.length
 | .error _=>True
theorem take_len{k:Int}{x:List UInt8}{ts r:List Tok}{t:Tok}(h:takeT k x ts= .ok (t,r)):r.length≤ts.length:=by
 unfold takeT at h
 split at h
 ·injection h with h
  injection h with _ h
  split at h<;>subst h
  ·exact Nat.le_refl _
  ·rw[List.length_tail];omega
 ·cases h
theorem args_sized(f:Bool→List Tok→Told Ex)(k:Int)(hf:∀c ts,Sized ts (f c ts)):∀(m i:Nat)(ts:List Tok),(match argsT f k i m ts with| .ok (l,r)=>sizes l+r.length≤ts.length| .error _=>True):=by
 intro m
 induction m with
 |zero=>intro i ts;unfold argsT;simp only[sizes_nil];omega
 |succ m ih=>
  intro i ts
  unfold argsT
  have hb:∀t1 ts1,(if i=0 then (.ok ((5,[],0,0),ts):Told Tok) else takeT 4 [44] ts)= .ok (t1,ts1)→ts1.length≤ts.length:=by
   intro t1 ts1 h
   split at h
   ·injection h with h;injection h with _ h;subst h;exact Nat.le_refl _
   ·exact take_len h
  cases h1:(if i=0 then (.ok ((5,[],0,0),ts):Told Tok) else takeT 4 [44] ts) with
  |error e=>trivial
  |ok p=>
   obtain⟨t1,ts1⟩:=p
   have:=hb t1 ts1 h1
   simp only
   have h2:=hf (decide (k=10)&&decide (i=0)) ts1
   cases h3:f (decide (k=10)&&decide (i=0)) ts1 with
   |error e=>trivial
   |ok q=>
    obtain⟨x,ts2⟩:=q
    rw[h3] at h2
    have h2:size x+ts2.length≤ts1.length:=h2
    simp only
    have h4:=ih (i+1) ts2
    cases h5:argsT f k (i+1) m ts2 with
    |error e=>trivial
    |ok u=>
     obtain⟨l,ts3⟩:=u
     rw[h5] at h4
     simp only[sizes_cons] at h4⊢
     omega
theorem rest_len{k:Int}{ts r:List Tok}{q:Int×List UInt8}(h:restT k ts= .ok (q,r)):r.length≤ts.length:=by
 have two:∀(K:Int)(ts r:List Tok)(g:Tok→Int×List UInt8),(match takeT K [] ts with| .error e=>(.error e:Told (Int×List UInt8))| .ok (t,ts)=> .ok (g t,ts))= .ok (q,r)→r.length≤ts.length:=by
  intro K ts r g h
  cases h1:takeT K [] ts with
  |error e=>rw[h1] at h;cases h
  |ok p=>
   obtain⟨t,ts1⟩:=p
   rw[h1] at h
   injection h with h
   injection h with _ h
   subst h
   exact take_len h1
 have comma:∀(K:Int)(g:Tok→Int×List UInt8),(match takeT 4 [44] ts with| .error e=>(.error e:Told (Int×List UInt8))| .ok (_,ts)=>(match takeT K [] ts with| .error e=> .error e| .ok (t,ts)=> .ok (g t,ts)))= .ok (q,r)→r.length≤ts.length:=by
  intro K g h
  cases h1:takeT 4 [44] ts with
  |error e=>rw[h1] at h;cases h
  |ok p=>
   obtain⟨t,ts1⟩:=p
   rw[h1] at h
   exact Nat.le_trans (two K ts1 r g h) (take_len h1)
 unfold restT at h
 split at h
 ·split at h
  ·exact two 1 ts r _ h
  ·cases h
 ·split at h
  ·exact comma 3 _ h
  ·split at h
   ·exact comma 2 _ h
   ·split at h
    ·split at h
     ·exact two 2 ts r _ h
     ·cases h
    ·injection h with h
     injection h with _ h
     subst h
     exact Nat.le_refl _
theorem kind_ne{c:Bool}{ts:List Tok}(h:kindT c (hdT ts)≠0):ts≠[]:=by
 rintro rfl
 exact h rfl
theorem expr_sized:∀(d:Nat)(c:Bool)(ts:List Tok),Sized ts (exprT d c ts):=by
 intro d
 induction d with
 |zero=>intro c ts;rw[exprT_deep];trivial
 |succ d ih=>
  intro c ts
  by_cases h0:kindT c (hdT ts)=0
  ·rw[exprT_none h0];trivial
  ·have hne:=kind_ne h0
   have hl:ts.tail.length+1=ts.length:=by
    cases ts with
    |nil=>exact absurd rfl hne
    |cons t r=>rfl
   by_cases h4:kindT c (hdT ts)=4
   ·rw[exprT_money h4];show size (.mk 4 _ [] [])+ts.tail.length≤ts.length;rw[size_mk,sizes_nil];omega
   ·by_cases h1:kindT c (hdT ts)=1∨kindT c (hdT ts)=2
    ·rw[exprT_leaf rfl h1];show size (.mk _ 0 [] [])+ts.tail.length≤ts.length;rw[size_mk,sizes_nil];omega
    ·rw[exprT_call rfl h0 h4 h1]
     unfold callT
     cases h2:takeT 4 [40] ts.tail with
     |error e=>trivial
     |ok p=>
      obtain⟨t,ts1⟩:=p
      have l1:=take_len h2
      simp only
      have h3:=args_sized (exprT d) (kindT c (hdT ts)) ih (argsN (kindT c (hdT ts))).toNat 0 ts1
      cases h5:argsT (exprT d) (kindT c (hdT ts)) 0 (argsN (kindT c (hdT ts))).toNat ts1 with
      |error e=>trivial
      |ok q=>
       obtain⟨l,ts2⟩:=q
       rw[h5] at h3
       simp only at h3⊢
       cases h6:restT (kindT c (hdT ts)) ts2 with
       |error e=>trivial
       |ok u=>
        obtain⟨⟨n,nm⟩,ts3⟩:=u
        have l3:=rest_len h6
        simp only
        cases h7:takeT 4 [41] ts3 with
        |error e=>trivial
        |ok v=>
         obtain⟨t4,ts4⟩:=v
         have l4:=take_len h7
         show size (.mk _ n nm l)+ts4.length≤ts.length
         rw[size_mk]
         omega
theorem parse_size{s:List UInt8}{x:Ex}(h:parseS s= .ok x):size x≤2001:=by
 unfold parseS at h
 split at h
 ·cases h
 ·rename_i hl
  cases hx:lx 0 s with
  |error k=>rw[hx] at h;cases h
  |ok ts=>
   rw[hx] at h
   obtain⟨us,hu,_,_,hlen⟩:=lx_out _ s (Nat.le_refl _) 0 ts hx
   have hs:=expr_sized 32 false ts
   have h:stratT ts= .ok x:=h
   unfold stratT at h
   cases h1:exprT 32 false ts with
   |error e=>rw[h1] at h;cases h
   |ok p=>
    obtain⟨y,r⟩:=p
    rw[h1] at h hs
    simp only at h
    have hs:size y+r.length≤ts.length:=hs
    have:y=x:=by
     cases h2:takeT 5 [] r with
     |error e=>rw[h2] at h;cases h
     |ok q=>rw[h2] at h;injection h
    subst this
    rw[hu,List.length_append] at hs
    simp at hs
    omega
def ins(a:Int):List Int→List Int
 |[]=>[a]
 |b::t=>if a≤b then a::b::t else b::ins a t
def srt:List Int→List Int
 |[]=>[]
 |a::t=>ins a (srt t)
def le(u:Int):List Int→Nat
 |[]=>0
 |a::t=>(if a≤u then 1 else 0)+le u t
theorem ins_len(a:Int)(l:List Int):(ins a l).length=l.length+1:=by
 induction l with
 |nil=>rfl
 |cons b t ih=>unfold ins;split<;>simp[ih]
theorem srt_len(l:List Int):(srt l).length=l.length:=by
 induction l with
 |nil=>rfl
 |cons a t ih=>rw[srt,ins_len,ih];rfl
theorem ins_ins(a b:Int)(l:List Int):ins a (ins b l)=ins b (ins a l):=by
 induction l with
 |nil=>
  by_cases h:a≤b
  ·by_cases h':b≤a
   ·obtain rfl:a=b:=by omega
    rfl
   ·simp[ins,h,h']
  ·have h':b≤a:=by omega
   simp[ins,h,h']
 |cons c t ih=>
  simp only[ins]
  by_cases h1:b≤c<;>by_cases h2:a≤c<;>simp only[h1,h2,if_true,if_false,ins]
  ·by_cases h:a≤b
   ·by_cases h':b≤a
    ·obtain rfl:a=b:=by omega
     rfl
    ·simp only[h,h',if_true,if_false,h1]
   ·have h':b≤a:=by omega
    simp only[h,h',if_true,if_false,h2]
  ·rw[if_neg (show ¬a≤b by omega)]
  ·rw[if_neg (show ¬b≤a by omega)]
  ·rw[ih]
theorem srt_perm{a b:List Int}(h:a.Perm b):srt a=srt b:=by
 induction h with
 |nil=>rfl
 |cons x _ ih=>rw[srt,srt,ih]
 |swap x y l=>simp only[srt];rw[ins_ins]
 |trans _ _ h1 h2=>rw[h1,h2]
def Up:List Int→Prop
 |[]=>True
 |a::t=>(∀b∈t,a≤b)∧Up t
theorem mem_ins{a x:Int}{l:List Int}:x∈ins a l↔x=a∨x∈l:=by
 induction l with
 |nil=>simp[ins]
 |cons b t ih=>
  unfold ins
  split
  ·simp
  ·simp[ih]
   constructor
   ·rintro(h|h|h)<;>simp[h]
   ·rintro(h|h|h)<;>simp[h]
theorem ins_up{a:Int}{l:List Int}(h:Up l):Up (ins a l):=by
 induction l with
 |nil=>exact⟨fun b hb=>(by cases hb),trivial⟩
 |cons b t ih=>
  unfold ins
  split
  ·rename_i hab
   refine⟨fun c hc=> ?_,h⟩
   rcases List.mem_cons.1 hc with rfl|hc
   ·exact hab
   ·have:=h.1 c hc;omega
  ·rename_i hab
   refine⟨fun c hc=> ?_,ih h.2⟩
   rcases mem_ins.1 hc with rfl|hc
   ·omega
   ·exact h.1 c hc
theorem srt_up(l:List Int):Up (srt l):=by
 induction l with
 |nil=>trivial
 |cons a t ih=>exact ins_up ih
theorem le_ins(u a:Int)(l:List Int):le u (ins a l)=(if a≤u then 1 else 0)+le u l:=by
 induction l with
 |nil=>rfl
 |cons b t ih=>
  unfold ins
  split
  ·rfl
  ·simp only[le,ih];omega
theorem le_srt(u:Int)(l:List Int):le u (srt l)=le u l:=by
 induction l with
 |nil=>rfl
 |cons a t ih=>rw[srt,le_ins,ih];rfl
theorem le_none{u:Int}{l:List Int}(h:∀b∈l,u<b):le u l=0:=by
 induction l with
 |nil=>rfl
 |cons a t ih=>
  have:=h a (List.mem_cons_self ..)
  rw[le,if_neg (by omega),ih fun b hb=>h b (List.mem_cons_of_mem _ hb)]
theorem up_get:∀{s:List Int},Up s→∀(n:Nat)(v:Int),s[n]?=some v→∀u,v≤u↔n<le u s:=by
 intro s
 induction s with
 |nil=>intro _ n v h;simp at h
 |cons a t ih=>
  intro hs n v h u
  cases n with
  |zero=>
   obtain rfl:a=v:=by simpa using h
   rw[le]
   by_cases hu:a≤u
   ·rw[if_pos hu];omega
   ·rw[if_neg hu,le_none fun b hb=>by have:=hs.1 b hb;omega];omega
  |succ n=>
   have h':t[n]?=some v:=by simpa using h
   have hv:a≤v:=hs.1 v (List.mem_of_getElem? h')
   rw[le]
   by_cases hu:a≤u
   ·rw[if_pos hu]
    have:=ih hs.2 n v h' u
    omega
   ·rw[if_neg hu,le_none fun b hb=>by have:=hs.1 b hb;omega];omega
theorem srt_at{l:List Int}{n:Nat}{v:Int}(h:(srt l)[n]?=some v)(u:Int):v≤u↔n<le u l:=by
 rw[up_get (srt_up l) n v h u,le_srt]
theorem srt_is{l:List Int}{n:Nat}{v:Int}(h1:n<le v l)(h2:le (v-1) l≤n)(h3:n<l.length):(srt l)[n]?=some v:=by
 have hl:n<(srt l).length:=by rw[srt_len];exact h3
 have h:=List.getElem?_eq_getElem hl
 rw[h]
 have a:=(srt_at h v).2 h1
 have b:=(srt_at h (v-1))
 congr 1;omega
theorem le_append(u:Int)(a b:List Int):le u (a++b)=le u a+le u b:=by
 induction a with
 |nil=>simp[le]
 |cons x t ih=>rw[List.cons_append,le,le,ih];omega
theorem le_len(u:Int)(a:List Int):le u a≤a.length:=by
 induction a with
 |nil=>simp[le]
 |cons x t ih=>rw[le,List.length_cons];split<;>omega
def ah(l:List Int)(v:Int)(i:Nat):Nat→Nat
 |0=>0
 |j+1=>ah l v i j+(match l[j]? with|some p=>if p<v∨p=v∧j<i then 1 else 0|none=>0)
theorem le_mono{u v:Int}(h:u≤v)(l:List Int):le u l≤le v l:=by
 induction l with
 |nil=>simp[le]
 |cons a t ih=>
  rw[le,le]
  by_cases h1:a≤u
  ·rw[if_pos h1,if_pos (by omega)];omega
  ·rw[if_neg h1];omega
theorem le_take{l:List Int}{j:Nat}(h:j<l.length)(u:Int):le u (l.take (j+1))=le u (l.take j)+(if l[j]≤u then 1 else 0):=by
 rw[List.take_succ_eq_append_getElem h,le_append];rfl
theorem ah_is(l:List Int)(v:Int)(i:Nat)(hi:i≤l.length):∀j,j≤l.length→ah l v i j=le (v-1) (l.take j)+(le v (l.take (min j i))-le (v-1) (l.take (min j i))):=by
 intro j
 induction j with
 |zero=>intro _;simp[ah,le]
 |succ j ih=>
  intro hj
  have hj':j<l.length:=by omega
  rw[ah,ih (by omega),List.getElem?_eq_getElem hj',le_take hj']
  simp only
  by_cases hji:j<i
  ·rw[show min (j+1) i=j+1 by omega,show min j i=j by omega,le_take hj',le_take hj']
   have:=le_mono (show v-1≤v by omega) (l.take j)
   by_cases h1:l[j]<v
   ·rw[if_pos (.inl h1),if_pos (by omega),if_pos (by omega)];omega
   ·by_cases h2:l[j]=v
    ·rw[if_pos (.inr ⟨h2,hji⟩),if_neg (by omega),if_pos (by omega)];omega
    ·rw[if_neg (by omega),if_neg (by omega),if_neg (by omega)];omega
  ·rw[show min (j+1) i=min j i by omega]
   by_cases h1:l[j]<v
   ·rw[if_pos (.inl h1),if_pos (by omega)];omega
   ·rw[if_neg (by omega),if_neg (by omega)];omega
theorem ah_full{l:List Int}{i:Nat}(hi:i<l.length):ah l l[i] i l.length=le (l[i]-1) l+(le l[i] (l.take i)-le (l[i]-1) (l.take i)):=by
 rw[ah_is l _ i (by omega) _ (Nat.le_refl _),List.take_length,show min l.length i=i by omega]
theorem le_split(l:List Int)(i:Nat)(u:Int):le u l=le u (l.take i)+le u (l.drop i):=by
 rw[←le_append,List.take_append_drop]
theorem ah_hit{l:List Int}{i n:Nat}(hi:i<l.length)(h:ah l l[i] i l.length=n):(srt l)[n]?=some l[i]:=by
 rw[ah_full hi] at h
 have m1:=le_mono (show l[i]-1≤l[i] by omega) (l.take i)
 have m2:=le_mono (show l[i]-1≤l[i] by omega) (l.drop i)
 have s1:=le_split l i l[i]
 have s2:=le_split l i (l[i]-1)
 have hd:le l[i] (l.drop i)=1+le l[i] (l.drop (i+1))∧le (l[i]-1) (l.drop i)=le (l[i]-1) (l.drop (i+1)):=by
  rw[List.drop_eq_getElem_cons hi,le,le,if_pos (by omega),if_neg (by omega)];omega
 have m3:=le_mono (show l[i]-1≤l[i] by omega) (l.drop (i+1))
 have hn:n<le l[i] l:=by omega
 refine srt_is hn (by omega) (Nat.lt_of_lt_of_le hn (le_len _ _))
theorem eq_at:∀(l:List Int)(v:Int)(j:Nat),le (v-1) l+j<le v l→∃i,∃h:i<l.length,l[i]=v∧le v (l.take i)=le (v-1) (l.take i)+j:=by
 intro l
 induction l with
 |nil=>intro v j h;simp[le] at h
 |cons a t ih=>
  intro v j h
  simp only[le] at h
  by_cases h1:a≤v-1
  ·rw[if_pos h1,if_pos (by omega)] at h
   obtain⟨i,hi,e,hh⟩:=ih v j (by omega)
   exact⟨i+1,by simpa using hi,by simpa using e,by simp only[List.take_succ_cons,le];rw[if_pos (by omega),if_pos (by omega)];omega⟩
  ·by_cases h2:a=v
   ·subst h2
    rw[if_neg h1,if_pos (by omega)] at h
    cases j with
    |zero=>exact⟨0,by simp,rfl,by simp[le]⟩
    |succ j=>
     obtain⟨i,hi,e,hh⟩:=ih a j (by omega)
     exact⟨i+1,by simpa using hi,by simpa using e,by simp only[List.take_succ_cons,le];rw[if_neg h1,if_pos (by omega)];omega⟩
   ·rw[if_neg h1,if_neg (by omega)] at h
    obtain⟨i,hi,e,hh⟩:=ih v j (by omega)
    exact⟨i+1,by simpa using hi,by simpa using e,by simp only[List.take_succ_cons,le];rw[if_neg h1,if_neg (by omega)];omega⟩
theorem ah_miss{l:List Int}{n:Nat}(h:∀i (hi:i<l.length),ah l l[i] i l.length≠n):(srt l)[n]?=none:=by
 rw[List.getElem?_eq_none_iff,srt_len]
 refine Decidable.byContradiction fun hc=> ?_
 have hn:n<(srt l).length:=by rw[srt_len];omega
 have hv:=List.getElem?_eq_getElem hn
 obtain⟨v,e⟩:∃v,(srt l)[n]=v:=⟨_,rfl⟩
 rw[e] at hv
 have a:=(srt_at hv v).1 (by omega)
 have b:le (v-1) l≤n:=by have:=srt_at hv (v-1);omega
 obtain⟨i,hi,e2,hh⟩:=eq_at l v (n-le (v-1) l) (by omega)
 have:=ah_full hi
 rw[e2,hh] at this
 exact h i hi (by rw[e2];omega)
abbrev Of:=List UInt8×Int
def offOk(o:Of):Bool:=isName o.1&&decide (1≤o.2∧o.2≤1000000000000)
def fresh(l:List Of)(i:Nat)(s:List UInt8):Bool:=(l.take i).all fun o=>decide (o.1≠s)
def offsTo(l:List Of):Nat→Bool
 |0=>true
 |i+1=>offsTo l i&&(match l[i]? with|some o=>offOk o&&fresh l i o.1|none=>true)
def offsOk(l:List Of):Bool:=decide (l.length≤8)&&offsTo l l.length
theorem offsTo_iff{l:List Of}:∀{n:Nat},n≤l.length→(offsTo l n=true↔∀i (h:i<l.length),i<n→offOk l[i]=true∧∀k (hk:k<l.length),k<i→l[k].1≠l[i].1):=by
 intro n
 induction n with
 |zero=>intro _;exact⟨fun _ i _ h=>absurd h (by omega),fun _=>rfl⟩
 |succ n ih=>
  intro hn
  have hl:n<l.length:=by omega
  rw[offsTo,List.getElem?_eq_getElem hl,Bool.and_eq_true,ih (by omega)]
  simp only[Bool.and_eq_true,fresh,List.all_eq_true,decide_eq_true_eq]
  constructor
  ·rintro⟨h1,h2,h3⟩ i hi hin
   by_cases e:i=n
   ·subst e
    refine⟨h2,fun k hk hki=>h3 l[k] ?_⟩
    rw[List.mem_iff_getElem]
    exact⟨k,by rw[List.length_take];omega,by rw[List.getElem_take]⟩
   ·exact h1 i hi (by omega)
  ·intro h
   refine⟨fun i hi hin=>h i hi (by omega),(h n hl (by omega)).1,fun o ho=> ?_⟩
   obtain⟨k,hk,rfl⟩:=List.mem_iff_getElem.1 ho
   rw[List.length_take] at hk
   rw[List.getElem_take]
   exact(h n hl (by omega)).2 k (by omega) (by omega)
theorem offs_iff{l:List Of}:offsOk l=true↔l.length≤8∧∀i (h:i<l.length),offOk l[i]=true∧∀k (hk:k<l.length),k<i→l[k].1≠l[i].1:=by
 unfold offsOk
 rw[Bool.and_eq_true,decide_eq_true_eq,offsTo_iff (Nat.le_refl _)]
 exact⟨fun h=>⟨h.1,fun i hi=>h.2 i hi hi⟩,fun h=>⟨h.1,fun i hi _=>h.2 i hi⟩⟩
def prices(l:List Of):List Int:=l.map (·.2)
def rk(l:List Of)(n:Nat):Option Int:=(srt (prices l))[n]?
def fromO(l:List Of)(s:List UInt8):Option Int:=(l.find? fun o=>decide (o.1=s)).map (·.2)
def wtM(a l h:Int):Bool:=decide (l≤a∧a≤h)
def told1(n:Int):Int:=if rt n then n else 0
def told2(n:Int):Int:=if rt n then 0 else 10
def two1(a b n:Int):Int:=if rt a&&rt b then told1 n else 0
def two2(a b n:Int):Int:=if rt a&&rt b then told2 n else 10
def fl(p:Int):Int:=if p.tmod 10000<0 then p.tdiv 10000-1 else p.tdiv 10000
def prt(a bp:Int)(up:Bool):Int:=if up then -(fl (-(a*bp))) else fl (a*bp)
def part1(a bp:Int)(up:Bool):Int:=if rt a&&wtM bp (-100000) 100000 then told1 (prt a bp up) else 0
def part2(a bp:Int)(up:Bool):Int:=if rt a&&wtM bp (-100000) 100000 then told2 (prt a bp up) else 10
abbrev Rs:=Except Int (Option Int)
def subR(a n:Int):Rs:=if two2 a n (a-n)=0 then .ok (some (two1 a n (a-n))) else .error (two2 a n (a-n))
def cutR(a n:Int):Rs:=if part2 a n false=0 then subR a (part1 a n false) else .error (part2 a n false)
def exNone:Ex:= .mk 0 0 [] []
def arg(x:Ex)(i:Nat):Ex:=(x.l[i]?).getD exNone
def condF(f:Ex→Rs)(l:List Of)(x:Ex):Except Int Bool:=
 if x.k=11 then .ok (decide (x.n<(l.length:Int)))
 else match f (arg x 0) with
  | .error e=> .error e
  | .ok a=>match f (arg x 1) with
    | .error e=> .error e
    | .ok b=> .ok (match a,b with|some a,some b=>decide (b<a)|_,_=>false)
def bothF(k:Int)(a b:Option Int):Option Int:=match a,b with|some a,some b=>some (if k=7 then min a b else max a b)|_,_=>none
def toldG(f:Ex→Rs)(c:Except Int Bool)(r0 r1 fr:Option Int)(x:Ex):Rs:=
 if x.k=1 then .ok r0 else if x.k=2 then .ok r1 else if x.k=3 then .ok fr else if x.k=4 then .ok (some x.n)
 else if x.k=10 then match c with
  | .error e=> .error e
  | .ok true=>f (arg x 1)
  | .ok false=>f (arg x 2)
 else match f (arg x 0) with
  | .error e=> .error e
  | .ok a=>
    if x.k=9 then match a with|some v=> .ok (some v)|none=>f (arg x 1)
    else if x.k=5 then match a with|none=> .ok none|some v=>subR v x.n
    else if x.k=6 then match a with|none=> .ok none|some v=>cutR v x.n
    else match f (arg x 1) with
     | .error e=> .error e
     | .ok b=> .ok (bothF x.k a b)
def toldF(f:Ex→Rs)(l:List Of)(x:Ex):Rs:=toldG f (condF f l (arg x 0)) (rk l 0) (rk l 1) (fromO l x.nm) x
def toldN(l:List Of):Nat→Ex→Rs
 |0,_=> .ok none
 |d+1,x=>toldF (toldN l d) l x
theorem told_succ(l:List Of)(d:Nat)(x:Ex):toldN l (d+1) x=toldF (toldN l d) l x:=rfl
def condN(l:List Of)(d:Nat)(x:Ex):Except Int Bool:=condF (toldN l d) l x
def evalS(l:List Of)(x:Ex):Rs:=if offsOk l&&rightX x then toldN l 32 x else .error 1
def rsV:Rs→Int
 | .ok (some v)=>v
 |_=>0
def rsB:Rs→Bool
 | .ok (some _)=>true
 |_=>false
def rsE:Rs→Int
 | .error e=>e
 |_=>0
def cdB:Except Int Bool→Bool
 | .ok b=>b
 |_=>false
def cdE:Except Int Bool→Int
 | .error e=>e
 |_=>0
theorem sub_err(a n e:Int)(h:subR a n= .error e):e=10:=by
 unfold subR at h
 split at h
 ·cases h
 ·rename_i hn
  injection h with h
  unfold two2 told2 at*
  split at h
  ·split at h
   ·exact absurd (by rename_i h1 h2;rw[if_pos h1,if_pos h2]) hn
   ·exact h.symm
  ·exact h.symm
theorem cut_err(a n e:Int)(h:cutR a n= .error e):e=10:=by
 unfold cutR at h
 split at h
 ·exact sub_err _ _ _ h
 ·rename_i hn
  injection h with h
  unfold part2 told2 at*
  split at h
  ·split at h
   ·exact absurd (by rename_i h1 h2;rw[if_pos h1,if_pos h2]) hn
   ·exact h.symm
  ·exact h.symm
theorem told_err(l:List Of):∀(d:Nat)(x:Ex)(e:Int),toldN l d x= .error e→e=10:=by
 intro d
 induction d with
 |zero=>intro x e h;cases h
 |succ d ih=>
  have hc:∀(x:Ex)(e:Int),condF (toldN l d) l x= .error e→e=10:=by
   intro x e h
   unfold condF at h
   split at h
   ·cases h
   ·split at h
    ·rename_i e' he;injection h with h;subst h;exact ih _ _ he
    ·split at h
     ·rename_i e' he;injection h with h;subst h;exact ih _ _ he
     ·cases h
  intro x e h
  rw[told_succ] at h
  unfold toldF toldG at h
  split at h
  ·cases h
  split at h
  ·cases h
  split at h
  ·cases h
  split at h
  ·cases h
  split at h
  ·split at h
   ·rename_i e' he;injection h with h;subst h;exact hc _ _ he
   ·exact ih _ _ h
   ·exact ih _ _ h
  split at h
  ·rename_i e' he;injection h with h;subst h;exact ih _ _ he
  split at h
  ·split at h
   ·cases h
   ·exact ih _ _ h
  split at h
  ·split at h
   ·cases h
   ·exact sub_err _ _ _ h
  split at h
  ·split at h
   ·cases h
   ·exact cut_err _ _ _ h
  split at h
  ·rename_i e' he;injection h with h;subst h;exact ih _ _ he
  ·cases h
theorem cond_err(l:List Of)(d:Nat)(x:Ex)(e:Int)(h:condN l d x= .error e):e=10:=by
 unfold condN condF at h
 split at h
 ·cases h
 ·split at h
  ·rename_i e' he;injection h with h;subst h;exact told_err _ _ _ _ he
  ·split at h
   ·rename_i e' he;injection h with h;subst h;exact told_err _ _ _ _ he
   ·cases h
end Go.Proofs.YtfekhbeaphpelaaGreatDoor

namespace Go.Proofs.YtfekhbeaphpelaaGreatDoor
open Go.RowKit Go.Lib
def nx(n:Int):List Int→Int×List Int
 |[]=>(0,[])
 |c::t=>(pk c n,t)
theorem nx_bd(n:Int)(h:0<n)(L:List Int):0≤(nx n L).1∧(nx n L).1<n:=by
 cases L with
 |nil=>exact⟨Int.le_refl _,h⟩
 |cons c t=>exact pk_bd c n h
def upto(f:Bool→List Int→Ex×List Int)(k:Int):Nat→List Int→List Ex×List Int
 |0,L=>([],L)
 |i+1,L=>((upto f k i L).1++[(f (decide (k=10)&&decide (i=0)) (upto f k i L).2).1],(f (decide (k=10)&&decide (i=0)) (upto f k i L).2).2)
def kindOf(d:Nat)(v:Int):Int:=if d=0 then 1+(1+v)%4 else 1+v
def fill(k:Int)(a:List Ex×List Int):Ex×List Int:=
 if k=3 then (.mk k 0 (sellerL (pk (nx 60 a.2).1 60)) a.1,(nx 60 a.2).2)
 else if k=4∨k=5 then (.mk k (nx 3000 a.2).1 [] a.1,(nx 3000 a.2).2)
 else if k=6 then (.mk k (nx 12000 a.2).1 [] a.1,(nx 12000 a.2).2)
 else (.mk k 0 [] a.1,a.2)
def gen:Nat→Bool→List Int→Ex×List Int
 |0,_,L=>(.mk 0 0 [] [],L)
 |d+1,true,L=>
  if d=0 then (.mk 11 (nx 7 L).1 [] [],(nx 7 L).2)
  else if (nx 2 L).1=0 then (.mk 11 (nx 7 (nx 2 L).2).1 [] [],(nx 7 (nx 2 L).2).2)
  else (.mk 12 0 [] [(gen d false (nx 2 L).2).1,(gen d false (gen d false (nx 2 L).2).2).1],(gen d false (gen d false (nx 2 L).2).2).2)
 |d+1,false,L=>fill (kindOf d (nx 10 L).1) (upto (gen d) (kindOf d (nx 10 L).1) (argsN (kindOf d (nx 10 L).1)).toNat (nx 10 L).2)
def strat(L:List Int):Ex:=(gen 5 false (L.take 100)).1
theorem upto_len(f:Bool→List Int→Ex×List Int)(k:Int)(i:Nat)(L:List Int):(upto f k i L).1.length=i:=by
 induction i with
 |zero=>rfl
 |succ i ih=>simp only[upto,List.length_append,List.length_cons,List.length_nil];omega
theorem upto_all{P:Nat→Ex→Prop}(f:Bool→List Int→Ex×List Int)(k:Int)(i:Nat)(L:List Int)(h:∀j<i,∀L,P j (f (decide (k=10)&&decide (j=0)) L).1):∀j (hj:j<(upto f k i L).1.length),P j ((upto f k i L).1[j]):=by
 induction i with
 |zero=>intro j hj;simp[upto] at hj
 |succ i ih=>
  intro j hj
  have hl:=upto_len f k i L
  simp only[upto] at hj⊢
  rcases Nat.lt_or_ge j (upto f k i L).1.length with h1|h1
  ·rw[List.getElem_append_left h1]
   exact ih (fun j hj L=>h j (by omega) L) j h1
  ·rw[List.length_append,List.length_cons,List.length_nil] at hj
   obtain rfl:j=i:=by omega
   rw[List.getElem_append_right h1]
   simp only[hl,Nat.sub_self,List.getElem_cons_zero]
   exact h j (by omega) _
theorem kind_bd(d:Nat)(L:List Int):1≤kindOf d (nx 10 L).1∧kindOf d (nx 10 L).1≤10∧(d=0→kindOf d (nx 10 L).1≤4):=by
 have:=nx_bd 10 (by omega) L
 unfold kindOf
 split
 ·refine⟨?_, ?_,fun _=> ?_⟩<;>omega
 ·refine⟨?_, ?_,fun h=>absurd h ‹_›⟩<;>omega
theorem seller_name(u:Int)(h0:0≤u)(h1:u<60):isName (sellerL u)=true:=by
 rw[seller_eq u h0 h1]
 have:∀i:Fin 60,isName ((theNames.getD (i.val%6) [])++[UInt8.ofNat (48+i.val/6)])=true:=by decide
 exact this ⟨u.toNat,by omega⟩
theorem pk_id{u n:Int}(h0:0≤u)(h1:u<n):pk u n=u:=by
 unfold pk;rw[if_neg (by omega)];exact Int.emod_eq_of_lt h0 h1
theorem args_nat{k:Int}(h1:1≤k)(h2:k≤12):argsN k=((argsN k).toNat:Int):=by
 have:0≤argsN k:=by
  unfold argsN
  split
  ·omega
  ·split
   ·omega
   ·split
    ·omega
    ·split<;>omega
 omega
theorem gen_fine:∀(d:Nat)(c:Bool)(L:List Int),fine (d+1) (gen (d+1) c L).1=true∧isCond (gen (d+1) c L).1.k=c:=by
 intro d
 induction d with
 |zero=>
  intro c L
  cases c with
  |true=>
   have:=nx_bd 7 (by omega) L
   simp only[gen,if_pos]
   exact⟨fine_mk (by decide) ⟨by omega,by show _≤(1000:Int);omega⟩ (by simp) (by simp) (fun i hi=>absurd hi (by simp)),rfl⟩
  |false=>
   obtain⟨b1,b2,b3⟩:=kind_bd 0 L
   obtain⟨k,hk⟩:∃k,kindOf 0 (nx 10 L).1=k:=⟨_,rfl⟩
   simp only[gen]
   rw[hk] at b1 b2 b3⊢
   have b4:=b3 rfl
   have a0:argsN k=0:=by
    have:k=1∨k=2∨k=3∨k=4:=by omega
    rcases this with rfl|rfl|rfl|rfl<;>decide
   rw[a0]
   have n60:=nx_bd 60 (by omega) (nx 10 L).2
   have n3:=nx_bd 3000 (by omega) (nx 10 L).2
   have:k=1∨k=2∨k=3∨k=4:=by omega
   rcases this with rfl|rfl|rfl|rfl
   ·exact⟨fine_mk (show argsN 1=((0:Nat):Int) by decide) (by decide) (by simp) (by simp) (fun i hi=>absurd hi (by simp[upto])),rfl⟩
   ·exact⟨fine_mk (show argsN 2=((0:Nat):Int) by decide) (by decide) (by simp) (by simp) (fun i hi=>absurd hi (by simp[upto])),rfl⟩
   ·have hn:=seller_name (pk (nx 60 (nx 10 L).2).1 60) (by rw[pk_id n60.1 n60.2];omega) (by rw[pk_id n60.1 n60.2];omega)
    exact⟨fine_mk (show argsN 3=((0:Nat):Int) by decide) (by decide) (by simp only[iff_true];exact(name_parts hn).1) (fun _=>hn) (fun i hi=>absurd hi (by simp[upto])),rfl⟩
   ·exact⟨fine_mk (show argsN 4=((0:Nat):Int) by decide) ⟨n3.1,Int.le_of_lt (Int.lt_trans n3.2 (by decide))⟩ (by simp) (by simp) (fun i hi=>absurd hi (by simp[upto])),rfl⟩
 |succ d ih=>
  intro c L
  cases c with
  |true=>
   have h7:=nx_bd 7 (by omega) (nx 2 L).2
   rw[gen]
   rw[if_neg (by omega)]
   split
   ·exact⟨fine_mk (by decide) ⟨by omega,by show _≤(1000:Int);omega⟩ (by simp) (by simp) (fun i hi=>absurd hi (by simp)),rfl⟩
   ·refine⟨fine_mk (show argsN 12=((2:Nat):Int) by decide) (by decide) (by simp) (by simp) (fun i hi=> ?_),rfl⟩
    have q1:=ih false (nx 2 L).2
    have q2:=ih false (gen (d+1) false (nx 2 L).2).2
    have:i=0∨i=1:=by simp at hi;omega
    rcases this with rfl|rfl
    ·exact⟨q1.2,q1.1⟩
    ·exact⟨q2.2,q2.1⟩
  |false=>
   obtain⟨b1,b2,_⟩:=kind_bd (d+1) L
   obtain⟨k,hk⟩:∃k,kindOf (d+1) (nx 10 L).1=k:=⟨_,rfl⟩
   obtain⟨a,ha⟩:∃a,upto (gen (d+1)) k (argsN k).toNat (nx 10 L).2=a:=⟨_,rfl⟩
   rw[gen,hk]
   rw[hk] at b1 b2
   have hl:argsN k=(a.1.length:Int):=by rw[←ha,upto_len];exact args_nat b1 (by omega)
   have hall:∀i (hi:i<a.1.length),isCond a.1[i].k=(decide (k=10)&&decide (i=0))∧fine (d+1) a.1[i]=true:=by
    subst ha
    exact upto_all (P:=fun i x=>isCond x.k=(decide (k=10)&&decide (i=0))∧fine (d+1) x=true) (gen (d+1)) k (argsN k).toNat (nx 10 L).2 fun j _ L=>⟨(ih _ L).2,(ih _ L).1⟩
   rw[ha]
   have n60:=nx_bd 60 (by omega) a.2
   have n3:=nx_bd 3000 (by omega) a.2
   have n12:=nx_bd 12000 (by omega) a.2
   have hc:isCond k=false:=by unfold isCond;simp;omega
   unfold fill
   split
   ·rename_i e
    subst e
    have hn:=seller_name (pk (nx 60 a.2).1 60) (by rw[pk_id n60.1 n60.2];omega) (by rw[pk_id n60.1 n60.2];omega)
    exact⟨fine_mk hl (by decide) (by simp only[iff_true];exact(name_parts hn).1) (fun _=>hn) hall,rfl⟩
   ·rename_i e3
    split
    ·rename_i e
     refine⟨fine_mk hl ⟨n3.1, ?_⟩ (by simp[e3]) (fun h=>absurd h e3) hall,hc⟩
     rcases e with rfl|rfl<;>exact Int.le_of_lt (Int.lt_trans n3.2 (by decide))
    ·split
     ·rename_i e
      subst e
      exact⟨fine_mk hl ⟨n12.1,Int.le_of_lt (Int.lt_trans n12.2 (by decide))⟩ (by simp) (by simp) hall,hc⟩
     ·refine⟨fine_mk hl ⟨Int.le_refl _, ?_⟩ (by simp[e3]) (fun h=>absurd h e3) hall,hc⟩
      unfold mostN
      split
      ·omega
      ·split
       ·omega
       ·first|(split<;>omega)|omega
theorem fine_size:∀(d:Nat)(x:Ex),fine d x=true→size x≤4^d:=by
 intro d
 induction d with
 |zero=>intro x h;cases h
 |succ d ih=>
  intro x h
  cases x with
  |mk k n nm l=>
   obtain⟨h1,_,_,_,h5⟩:=fine_parts h
   have h3:=args_le k
   have hs:∀l:List Ex,(∀x∈l,size x≤4^d)→sizes l≤l.length*4^d:=by
    intro l
    induction l with
    |nil=>intro _;rw[sizes_nil];omega
    |cons y t ih2=>
     intro hh
     have e1:=hh y (List.mem_cons_self ..)
     have e2:=ih2 fun z hz=>hh z (List.mem_cons_of_mem _ hz)
     rw[sizes_cons,List.length_cons,Nat.add_mul,Nat.one_mul];omega
   have:=hs l fun y hy=>ih y (fine_mem h hy)
   have h4:l.length*4^d≤3*4^d:=Nat.mul_le_mul_right _ (by omega)
   have h6:1≤4^d:=Nat.one_le_pow _ _ (by omega)
   rw[size_mk,Nat.pow_succ]
   omega
theorem strat_fine(L:List Int):fine 5 (strat L)=true∧isCond (strat L).k=false:=gen_fine 4 false _
theorem strat_size(L:List Int):size (strat L)≤1024:=fine_size 5 _ (strat_fine L).1
end Go.Proofs.YtfekhbeaphpelaaGreatDoor

namespace Go.Proofs.YtfekhbeaphpelaaGreatDoor
open Go.Lib
theorem offs_nodup{l:List Of}:offsOk l=true↔l.length≤8∧(∀o∈l,offOk o=true)∧(l.map (·.1)).Nodup:=by
 rw[offs_iff]
 refine and_congr_right fun _=> ?_
 constructor
 ·intro h
  refine⟨fun o ho=> ?_, ?_⟩
  ·obtain⟨i,hi,rfl⟩:=List.mem_iff_getElem.1 ho
   exact(h i hi).1
  ·unfold List.Nodup
   rw[List.pairwise_iff_getElem]
   intro i j hi hj hij
   rw[List.getElem_map,List.getElem_map]
   rw[List.length_map] at hi hj
   exact(h j hj).2 i hi hij
 ·rintro⟨h1,h2⟩ i hi
  refine⟨h1 _ (List.getElem_mem hi),fun k hk hki=> ?_⟩
  unfold List.Nodup at h2
  rw[List.pairwise_iff_getElem] at h2
  have:=h2 k i (by simpa using hk) (by simpa using hi) hki
  simpa using this
theorem arg_at{k n:Int}{nm:List UInt8}{l:List Ex}{i:Nat}(h:i<l.length):arg (.mk k n nm l) i=l[i]:=by
 unfold arg
 rw[show(Ex.mk k n nm l).l=l from rfl,List.getElem?_eq_getElem h];rfl
theorem arg_fine{d:Nat}{k n:Int}{nm:List UInt8}{l:List Ex}(h:fine (d+1) (.mk k n nm l)=true){i:Nat}(hi:(i:Int)<argsN k):
  ∃hi:i<l.length,arg (.mk k n nm l) i=l[i]∧fine d l[i]=true∧isCond l[i].k=(decide (k=10)&&decide (i=0)):=by
 obtain⟨h1,_,_,_,h5⟩:=fine_parts h
 have hl:i<l.length:=by omega
 exact⟨hl,arg_at hl,(h5 i hl).2,(h5 i hl).1⟩
theorem kind_list{k:Int}(h:0≤argsN k):k=1∨k=2∨k=3∨k=4∨k=5∨k=6∨k=7∨k=8∨k=9∨k=10∨k=11∨k=12:=by
 unfold argsN at h
 repeat' split at h
 all_goals omega
theorem told_less(l:List Of):∀(d e:Nat),d≤e→∀(x:Ex),fine d x=true→(isCond x.k=false→toldN l e x=toldN l d x)∧(isCond x.k=true→condN l e x=condN l d x):=by
 intro d
 induction d with
 |zero=>intro e _ x h;cases h
 |succ d ih=>
  intro e he x hx
  cases e with
  |zero=>omega
  |succ e=>
   have he:d≤e:=by omega
   cases x with
   |mk k n nm xs=>
    have hk:=kind_list (k:=k) (by obtain⟨h1,_⟩:=fine_parts hx;omega)
    have hT:∀(i:Nat),(i:Int)<argsN k→isCond (arg (.mk k n nm xs) i).k=(decide (k=10)&&decide (i=0))∧(isCond (arg (.mk k n nm xs) i).k=false→toldN l e (arg (.mk k n nm xs) i)=toldN l d (arg (.mk k n nm xs) i))∧(isCond (arg (.mk k n nm xs) i).k=true→condN l e (arg (.mk k n nm xs) i)=condN l d (arg (.mk k n nm xs) i)):=fun i hi=>by
     obtain⟨_,e1,f,c⟩:=arg_fine hx hi
     rw[e1];exact⟨c,ih e he _ f⟩
    have hN:∀(i:Nat),(i:Int)<argsN k→(k=10→i≠0)→toldN l e (arg (.mk k n nm xs) i)=toldN l d (arg (.mk k n nm xs) i):=fun i hi h=>(hT i hi).2.1 (by
     rw[(hT i hi).1]
     by_cases h10:k=10
     ·simp[h h10]
     ·simp[h10])
    generalize hX:Ex.mk k n nm xs=X at*
    have hXk:X.k=k:=by rw[←hX];rfl
    constructor
    ·intro hc
     rw[told_succ,told_succ]
     unfold toldF toldG
     rw[hXk]
     rcases hk with rfl|rfl|rfl|rfl|rfl|rfl|rfl|rfl|rfl|rfl|rfl|rfl
     ·rfl
     ·rfl
     ·rfl
     ·rfl
     ·rw[hN 0 (by decide) (by omega)];rfl
     ·rw[hN 0 (by decide) (by omega)];rfl
     ·rw[hN 0 (by decide) (by omega),hN 1 (by decide) (by omega)];rfl
     ·rw[hN 0 (by decide) (by omega),hN 1 (by decide) (by omega)];rfl
     ·rw[hN 0 (by decide) (by omega),hN 1 (by decide) (by omega)];rfl
     ·have c:=(hT 0 (by decide)).2.2 (by rw[(hT 0 (by decide)).1];rfl)
      unfold condN at c
      rw[c,hN 1 (by decide) (by omega),hN 2 (by decide) (by omega)];rfl
     ·rw[hXk] at hc;cases hc
     ·rw[hXk] at hc;cases hc
    ·intro hc
     unfold condN condF
     rw[hXk]
     have hk':k=11∨k=12:=by
      rw[hXk] at hc
      simpa [isCond] using hc
     rcases hk' with rfl|rfl
     ·rfl
     ·have hh:∀(i:Nat),(i:Int)<2→toldN l (e+1) (arg X i)=toldN l (d+1) (arg X i):=fun i hi=>by
       obtain⟨_,e1,f,c⟩:=arg_fine (k:=12) (hX▸hx) (i:=i) hi
       rw[←hX,e1,(ih (e+1) (by omega) _ f).1 (by rw[c];rfl),(ih (d+1) (by omega) _ f).1 (by rw[c];rfl)]
      rw[hh 0 (by decide),hh 1 (by decide)]
def ofL(z:Int×Int):Of:=(sellerL (pk z.1 60),1+pk z.2 3000)
def hasS(out:List Of)(s:List UInt8):Bool:=out.any fun o=>decide (o.1=s)
def offersL:List (Int×Int)→List Of→List Of
 |[],out=>out
 |z::t,out=>if out.length<8 then (if hasS out (ofL z).1 then offersL t out else offersL t (out++[ofL z])) else out
theorem of_ok(z:Int×Int):offOk (ofL z)=true:=by
 have h1:=pk_bd z.1 60 (by omega)
 have h2:=pk_bd z.2 3000 (by omega)
 unfold offOk ofL
 simp only[Bool.and_eq_true,decide_eq_true_eq]
 exact⟨seller_name _ h1.1 h1.2,by omega,by omega⟩
theorem offers_ok:∀(zs:List (Int×Int)) (out:List Of),offsOk out=true→offsOk (offersL zs out)=true:=by
 intro zs
 induction zs with
 |nil=>intro out h;exact h
 |cons z t ih=>
  intro out h
  rw[offersL]
  split
  ·rename_i hl
   split
   ·exact ih _ h
   ·rename_i hs
    refine ih _ ?_
    rw[offs_nodup] at h⊢
    obtain⟨h1,h2,h3⟩:=h
    refine⟨by simp;omega,fun o ho=> ?_, ?_⟩
    ·rcases List.mem_append.1 ho with ho|ho
     ·exact h2 o ho
     ·obtain rfl:o=ofL z:=by simpa using ho
      exact of_ok z
    ·rw[List.map_append,List.nodup_append]
     refine⟨h3,by simp,fun a ha b hb=> ?_⟩
     obtain rfl:b=(ofL z).1:=by simpa using hb
     obtain⟨o,ho,rfl⟩:=List.mem_map.1 ha
     intro e
     apply hs
     unfold hasS
     rw[List.any_eq_true]
     exact⟨o,ho,by simpa using e⟩
  ·exact h
theorem offsOk_nil:offsOk []=true:=by decide
def offS(zs:List (Int×Int)):List Of:=offersL zs []
theorem offS_ok(zs:List (Int×Int)):offsOk (offS zs)=true:=offers_ok _ _ offsOk_nil
theorem offs_len{l:List Of}(h:offsOk l=true):l.length≤8:=(offs_nodup.1 h).1
theorem right_leaf{k n:Int}{nm:List UInt8}(hk:k=1∨k=2∨k=3∨k=4)(hn:0≤n∧n≤mostN k)(h3:nm≠[]↔k=3)(hm:k=3→isName nm=true):rightX (.mk k n nm [])=true:=by
 have hf:fine 32 (.mk k n nm [])=true:=fine_mk (by rcases hk with rfl|rfl|rfl|rfl<;>rfl) hn h3 hm fun i hi=>absurd hi (by simp)
 have hc:isCond (Ex.mk k n nm []).k=false:=by rcases hk with rfl|rfl|rfl|rfl<;>rfl
 have hs:size (.mk k n nm [])=1:=by rw[size_mk,sizes_nil]
 have ht:=text_len _ _ hf
 unfold rightX
 rw[hf,hc,hs]
 rw[hs] at ht
 simp;omega
theorem told_one(l:List Of)(d:Nat)(x:Ex)(h:x.k=1):toldN l (d+1) x= .ok (rk l 0):=by rw[told_succ];unfold toldF toldG;rw[if_pos h]
theorem told_two(l:List Of)(d:Nat)(x:Ex)(h:x.k=2):toldN l (d+1) x= .ok (rk l 1):=by rw[told_succ];unfold toldF toldG;rw[h];rfl
theorem told_from(l:List Of)(d:Nat)(x:Ex)(h:x.k=3):toldN l (d+1) x= .ok (fromO l x.nm):=by rw[told_succ];unfold toldF toldG;rw[h];rfl
theorem told_fix(l:List Of)(d:Nat)(x:Ex)(h:x.k=4):toldN l (d+1) x= .ok (some x.n):=by rw[told_succ];unfold toldF toldG;rw[h];rfl
theorem told_less5(l:List Of)(d:Nat)(n:Int)(nm:List UInt8)(y:Ex):toldN l (d+1) (.mk 5 n nm [y])=match toldN l d y with| .error e=> .error e| .ok none=> .ok none| .ok (some v)=>subR v n:=by
 rw[told_succ];unfold toldF toldG
 rw[show arg (.mk 5 n nm [y]) 0=y from rfl]
 cases toldN l d y with
 |error e=>rfl
 |ok o=>cases o<;>rfl
theorem told_cut6(l:List Of)(d:Nat)(n:Int)(nm:List UInt8)(y:Ex):toldN l (d+1) (.mk 6 n nm [y])=match toldN l d y with| .error e=> .error e| .ok none=> .ok none| .ok (some v)=>cutR v n:=by
 rw[told_succ];unfold toldF toldG
 rw[show arg (.mk 6 n nm [y]) 0=y from rfl]
 cases toldN l d y with
 |error e=>rfl
 |ok o=>cases o<;>rfl
theorem told_both(l:List Of)(d:Nat)(k n:Int)(nm:List UInt8)(x y:Ex)(hk:k=7∨k=8):toldN l (d+1) (.mk k n nm [x,y])=match toldN l d x with| .error e=> .error e| .ok a=>match toldN l d y with| .error e=> .error e| .ok b=> .ok (bothF k a b):=by
 rw[told_succ];unfold toldF toldG
 rw[show arg (.mk k n nm [x,y]) 0=x from rfl,show arg (.mk k n nm [x,y]) 1=y from rfl]
 rcases hk with rfl|rfl<;>rfl
theorem told_else(l:List Of)(d:Nat)(n:Int)(nm:List UInt8)(x y:Ex):toldN l (d+1) (.mk 9 n nm [x,y])=match toldN l d x with| .error e=> .error e| .ok (some v)=> .ok (some v)| .ok none=>toldN l d y:=by
 rw[told_succ];unfold toldF toldG
 rw[show arg (.mk 9 n nm [x,y]) 0=x from rfl,show arg (.mk 9 n nm [x,y]) 1=y from rfl]
 cases toldN l d x with
 |error e=>rfl
 |ok o=>cases o<;>rfl
theorem told_if(l:List Of)(d:Nat)(n:Int)(nm:List UInt8)(c x y:Ex):toldN l (d+1) (.mk 10 n nm [c,x,y])=match condN l d c with| .error e=> .error e| .ok true=>toldN l d x| .ok false=>toldN l d y:=by
 rw[told_succ];unfold toldF toldG
 rw[show arg (.mk 10 n nm [c,x,y]) 0=c from rfl,show arg (.mk 10 n nm [c,x,y]) 1=x from rfl,show arg (.mk 10 n nm [c,x,y]) 2=y from rfl]
 rfl
theorem cond_more(l:List Of)(d:Nat)(n:Int)(nm:List UInt8)(xs:List Ex):condN l d (.mk 11 n nm xs)= .ok (decide (n<(l.length:Int))):=rfl
theorem cond_above(l:List Of)(d:Nat)(n:Int)(nm:List UInt8)(x y:Ex):condN l d (.mk 12 n nm [x,y])=match toldN l d x with| .error e=> .error e| .ok a=>match toldN l d y with| .error e=> .error e| .ok b=> .ok (match a,b with|some a,some b=>decide (b<a)|_,_=>false):=rfl
theorem eval_yes{l:List Of}{x:Ex}(h:offsOk l=true)(h':rightX x=true):evalS l x=toldN l 32 x:=by unfold evalS;rw[h,h'];rfl
theorem prices_len(l:List Of):(prices l).length=l.length:=List.length_map ..
theorem eval_err{l:List Of}{x:Ex}{e:Int}(h:evalS l x= .error e):e=1∨e=10:=by
 unfold evalS at h
 split at h
 ·exact .inr (told_err _ _ _ _ h)
 ·injection h with h;exact .inl h.symm
theorem fl9{p:Int}:fl p*10000≤p∧p<fl p*10000+10000:=by
 have h1:=Int.mul_tdiv_add_tmod p 10000
 have h2:=Int.tmod_lt_of_pos p (show(0:Int)<10000 by omega)
 have h3: -10000<p.tmod 10000:=by
  have:=Int.tmod_lt_of_pos (-p) (show(0:Int)<10000 by omega)
  rw[Int.neg_tmod] at this;omega
 unfold fl
 split<;>omega
theorem fl9_eq{p q:Int}(h:q*10000≤p)(h':p<q*10000+10000):fl p=q:=by
 have:= @fl9 p;omega
theorem cut_price{a n:Int}(ha:0≤a)(ha':a≤1000000000000)(hn:0≤n)(hn':n≤10000):∃b,cutR a n= .ok (some b)∧0≤b∧b≤a∧(n=0→b=a)∧(n=10000→b=0):=by
 have h0:0≤a*n:=Int.mul_nonneg ha hn
 have h1:a*n≤a*10000:=Int.mul_le_mul_of_nonneg_left hn' ha
 have hf:= @fl9 (a*n)
 have hp:0≤fl (a*n)∧fl (a*n)≤a:=by omega
 have hr:rt a=true:=by simp[rt];omega
 have hw:wtM n (-100000) 100000=true:=by simp[wtM];omega
 have hr2:rt (fl (a*n))=true:=by simp[rt];omega
 have hr3:rt (a-fl (a*n))=true:=by simp[rt];omega
 refine⟨a-fl (a*n), ?_,by omega,by omega, ?_, ?_⟩
 ·unfold cutR
  rw[show part2 a n false=0 by simp[part2,hr,hw,prt,told2,hr2],if_pos rfl,show part1 a n false=fl (a*n) by simp[part1,hr,hw,prt,told1,hr2]]
  unfold subR
  rw[show two2 a (fl (a*n)) (a-fl (a*n))=0 by simp[two2,hr,hr2,told2,hr3],if_pos rfl,show two1 a (fl (a*n)) (a-fl (a*n))=a-fl (a*n) by simp[two1,hr,hr2,told1,hr3]]
 ·rintro rfl
  rw[fl9_eq (p:=a*0) (q:=0) (by omega) (by omega)];omega
 ·rintro rfl
  rw[fl9_eq (p:=a*10000) (q:=a) (by omega) (by omega)];omega
theorem sub_price{a n:Int}(ha:0≤a)(ha':a≤1000000000000)(hn:0≤n)(hn':n≤1000000000000):subR a n= .ok (some (a-n)):=by
 have hr:rt a=true:=by simp[rt];omega
 have hr2:rt n=true:=by simp[rt];omega
 have hr3:rt (a-n)=true:=by simp[rt];omega
 unfold subR
 rw[show two2 a n (a-n)=0 by simp[two2,hr,hr2,told2,hr3],if_pos rfl,show two1 a n (a-n)=a-n by simp[two1,hr,hr2,told1,hr3]]
theorem from_none{l:List Of}{s:List UInt8}(h:∀i (hi:i<l.length),l[i].1≠s):fromO l s=none:=by
 unfold fromO
 rw[Option.map_eq_none_iff,List.find?_eq_none]
 intro o ho
 obtain⟨i,hi,rfl⟩:=List.mem_iff_getElem.1 ho
 simpa using h i hi
end Go.Proofs.YtfekhbeaphpelaaGreatDoor
