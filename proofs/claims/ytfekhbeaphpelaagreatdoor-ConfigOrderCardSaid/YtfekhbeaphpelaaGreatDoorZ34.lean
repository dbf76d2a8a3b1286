/- Plain mathematics of layer 9: order makes no difference; what is reckoned within more is reckoned the same; offers of raw numbers. No program in this text; Plain mathematics of layer 14: what may be asked for. No program in this text; Offers in memory: to be read, and of the call's own; Appending a slice of offers, whatever its length, to offers of the call's own; a price of one's own changed; The law's turned: what it is given, in another order; The law on the order of offers, walked. -/

import Derived.Test.YtfekhbeaphpelaaGreatDoorZ24
import Derived.Test.YtfekhbeaphpelaaGreatDoorZ26
set_option maxRecDepth 100000
set_option maxHeartbeats 8000000
namespace Go.Proofs.YtfekhbeaphpelaaGreatDoor
open Go.Lib
set_option linter.unusedVariables false
set_option linter.unusedSimpArgs false
theorem offs_perm{l l':List Of}(h:l.Perm l'):offsOk l=offsOk l':=by
 have key:∀{a b:List Of},a.Perm b→offsOk a=true→offsOk b=true:=by
  intro a b hp ha
  rw[offs_nodup] at ha⊢
  exact⟨by rw[←hp.length_eq];exact ha.1,fun o ho=>ha.2.1 o (hp.mem_iff.2 ho),(hp.map _).nodup ha.2.2⟩
 cases h1:offsOk l
 ·cases h2:offsOk l'
  ·rfl
  ·rw[key h.symm h2] at h1;exact h1.symm
 ·rw[key h h1]
theorem from_some{l:List Of}(hn:(l.map (·.1)).Nodup){s:List UInt8}{p:Int}:fromO l s=some p↔(s,p)∈l:=by
 induction l with
 |nil=>simp[fromO]
 |cons o t ih=>
  rw[List.map_cons,List.nodup_cons] at hn
  have ih:=ih hn.2
  unfold fromO at ih⊢
  by_cases h:o.1=s
  ·rw[List.find?_cons_of_pos (by simpa using h)]
   simp only[Option.map_some,Option.some.injEq,List.mem_cons]
   constructor
   ·intro e;left;rw[←h,←e]
   ·rintro(e|e)
    ·rw[←e]
    ·exact absurd (List.mem_map.2 ⟨_,e,rfl⟩) (by rw[h] at hn;exact hn.1)
  ·rw[List.find?_cons_of_neg (by simpa using h),ih]
   constructor
   ·exact fun e=>List.mem_cons_of_mem _ e
   ·intro e
    rcases List.mem_cons.1 e with e|e
    ·rw[←e] at h;exact absurd rfl h
    ·exact e
theorem from_perm{l l':List Of}(h:l.Perm l')(hn:(l.map (·.1)).Nodup)(s:List UInt8):fromO l s=fromO l' s:=by
 have hn':(l'.map (·.1)).Nodup:=(h.map _).nodup hn
 cases e:fromO l s with
 |some p=>exact((from_some hn').2 (h.mem_iff.1 ((from_some hn).1 e))).symm
 |none=>
  cases e':fromO l' s with
  |none=>rfl
  |some p=>rw[(from_some hn).2 (h.mem_iff.2 ((from_some hn').1 e'))] at e;cases e
theorem rk_perm{l l':List Of}(h:l.Perm l')(n:Nat):rk l n=rk l' n:=by
 unfold rk prices;rw[srt_perm (h.map _)]
theorem toldF_perm{l l':List Of}(h:l.Perm l')(hn:(l.map (·.1)).Nodup)(f:Ex→Rs)(x:Ex):toldF f l x=toldF f l' x:=by
 have h0:=rk_perm h 0
 have h1:=rk_perm h 1
 have h2:=from_perm h hn x.nm
 have h3:condF f l (arg x 0)=condF f l' (arg x 0):=by unfold condF;rw[h.length_eq]
 rw[toldF,toldF,h0,h1,h2,h3]
theorem told_perm{l l':List Of}(h:l.Perm l')(hn:(l.map (·.1)).Nodup):∀(d:Nat),toldN l d=toldN l' d:=by
 intro d
 induction d with
 |zero=>funext x;rfl
 |succ d ih=>
  funext x
  rw[told_succ,told_succ,ih]
  exact toldF_perm h hn _ _
theorem eval_perm{l l':List Of}(h:l.Perm l')(x:Ex):evalS l x=evalS l' x:=by
 unfold evalS
 rw[offs_perm h]
 cases h1:offsOk l'
 ·rw[Bool.false_and,if_neg Bool.false_ne_true,if_neg Bool.false_ne_true]
 ·rw[←offs_perm h] at h1
  rw[told_perm h (offs_nodup.1 h1).2.2]
theorem tell_perm{t:List UInt8}{a b:List (List UInt8×Int)}(h:a.Perm b):tellT t a=tellT t b:=by
 unfold tellT
 cases parseS t with
 |error p=>rfl
 |ok x=>simp only[eval_perm h x]
theorem target_perm{c:Cf}{a b:List (List UInt8×Int)}(h:a.Perm b):targetC c a=targetC c b:=by
 unfold targetC;rw[tell_perm h]
end Go.Proofs.YtfekhbeaphpelaaGreatDoor

namespace Go.Proofs.YtfekhbeaphpelaaGreatDoor
open Go.RowKit Go.Lib
set_option linter.unusedVariables false
set_option linter.unusedSimpArgs false
theorem cellsO_append(a b:List Of):cellsO (a++b)=cellsO a++cellsO b:=by simp[cellsO]
theorem cellsO_len(os:List Of):(cellsO os).length=os.length*2:=by
 induction os with
 |nil=>rfl
 |cons e t ih=>rw[cellsO_cons,List.length_append,ih];simp[cells2];omega
theorem OffsAt.from{w:World}{g off:Nat}{os:List Of}(h:OffsAt w (some ⟨g,off,none⟩) os)(k:Nat):OffsAt w (some ⟨g,off+k*2,none⟩) (os.drop k):=by
 intro i hi
 rw[List.length_drop] at hi
 obtain⟨g',off',e,hl,h0,h1⟩:=h (k+i) (by omega)
 injection e with e
 injection e with e1 e2
 subst e1;subst e2
 refine⟨g,off+k*2,rfl,hl, ?_, ?_⟩
 ·rw[List.getElem_drop,show off+k*2+i*2=off+(k+i)*2 by omega];exact h0
 ·rw[List.getElem_drop,show off+k*2+i*2+1=off+(k+i)*2+1 by omega];exact h1
theorem offs_news{w:World}{g off:Nat}{l:List Of}(h:OffsAt w (some ⟨g,off,none⟩) l):∀j u,(cellsO l)[j]?=some u→w.cell? ((⟨g,off,none⟩:Addr).add j)=some u:=by
 intro j u hu
 have hj:j<(cellsO l).length:=(List.getElem?_eq_some_iff.1 hu).1
 rw[cellsO_len] at hj
 have hi:j/2<l.length:=by omega
 obtain⟨g',off',e,_,h0,h1⟩:=h (j/2) hi
 injection e with e;injection e with e1 e2;subst e1;subst e2
 obtain⟨c0,c1⟩:=cellsO_at l (j/2) hi
 rw[addr_at]
 rcases Nat.mod_two_eq_zero_or_one j with e|e
 ·have ej:j=j/2*2:=by omega
  rw[ej] at hu⊢
  rw[c0] at hu
  rw[←hu];exact h0
 ·have ej:j=j/2*2+1:=by omega
  rw[ej] at hu⊢
  rw[c1] at hu
  rw[←hu,←Nat.add_assoc];exact h1
theorem cellsO_one(l:List Of):∀u∈cellsO l,u.oneCell'=true:=by
 intro u hu
 obtain⟨o,_,h⟩:=List.mem_flatMap.1 hu
 exact cells2_one o u h
theorem app_run{w:World}{base:Nat}{v:Value}{os:List Of}(hown:OffOwn w base v os){A:Option Addr}{c:Nat}{l:List Of}(hA:A=none→c=0)(h:OffsAt w A l)(h1:l.length≤100)(h2:os.length≤100)(hb:base≤w.heap.size)(ty:TypeId):
  ∃v' w',(Builtin.append_ #[27,27] ty #[v,.slice A l.length c]).run Tryz.prog w= .ok v' w'∧OffOwn w' base v' (os++l)∧w.grownBy w' v.ownBlock∧(v'.ownBlock=v.ownBlock∨v'.ownBlock=some w.heap.size):=by
 obtain⟨i0,hi0,hz0,hz1,hz2⟩:=info_parts off_info
 cases A with
 |none=>
  obtain rfl:=hA rfl
  have hl:l=[]:=by
   cases l with
   |nil=>rfl
   |cons o t=>obtain⟨_,_,e,_⟩:=h 0 (by simp);cases e
  subst hl
  refine⟨v,w,run_append_owned_none (P:=Tryz.prog) w base _ ty 46 i0 2 Tryz.underlying27 hi0 v os.length (cellsO os) hown, ?_,⟨rfl,rfl,rfl,Nat.le_refl _,fun _ _ _=>rfl⟩,.inl rfl⟩
  rw[List.append_nil];exact hown
 |some a=>
  have hnews:∀j u,(cellsO l)[j]?=some u→w.cell? (a.add j)=some u:=by
   cases l with
   |nil=>intro j u hu;simp[cellsO] at hu
   |cons o t=>
    obtain⟨g,off,e,_⟩:=h 0 (by simp)
    injection e with e;subst e
    exact offs_news h
  obtain⟨v',w',hr,g1,g2,_,g4⟩:=run_append_own_at (P:=Tryz.prog) w base 27 ty 46 i0 (.agg #[.string ⟨#[]⟩,.int .i64 0]) 2 24 Tryz.underlying27 hi0 hz0 hz1 hz2 rfl (by decide) v os.length (cellsO os) hown a l.length c (cellsO l) (cellsO_len l) hnews (cellsO_one l) (by unfold maxLen;omega) (by omega) hb
  refine⟨v',w',hr, ?_,g2,g4⟩
  unfold OffOwn
  rw[cellsO_append,List.length_append];exact g1
theorem wp_app{w:World}{o:Oper}{a:Act}{K:Act→World→Prop}{Q:Exit→Act→World→Prop}(s x:Operand)(ho:o.op= .call {callee:= .builtin .append,args:= #[s,x],argTypes:= #[27,27]})
  {base:Nat} {v:Value} {os:List Of} (hs:a.eval s=v) (hown:OffOwn w base v os) {A:Option Addr} {c:Nat} {l:List Of} (hx:a.eval x= .slice A l.length c) (hA:A=none→c=0) (h:OffsAt w A l) (h1:l.length≤100) (h2:os.length≤100) (hb:base≤w.heap.size)
  (hk:∀v' w',OffOwn w' base v' (os++l)→w.grownBy w' v.ownBlock→(v'.ownBlock=v.ownBlock∨v'.ownBlock=some w.heap.size)→K (a.put o.dst v') w'):Oper.wp Tryz.prog o a w K Q:=by
 obtain⟨v',w',hr,g1,g2,g3⟩:=app_run hown hA h h1 h2 hb o.type
 unfold Oper.wp execOp
 simp only[ho,resolve,invoke,builtin,Sem.run_bind,Sem.run_pure,Result.andThen_ok,List.map_toArray,List.map_cons,List.map_nil,hs,hx,hr]
 exact hk v' w' g1 g2 g3
theorem wp_appn{w:World}{o:Oper}{a:Act}{K:Act→World→Prop}{Q:Exit→Act→World→Prop}(s x:Operand)(ho:o.op= .call {callee:= .builtin .append,args:= #[s,x],argTypes:= #[27,27]})
  {base:Nat} {v:Value} {os:List Of} (hs:a.eval s=v) (hown:OffOwn w base v os) {A:Option Addr} {c n:Nat} {l:List Of} (hx:a.eval x= .slice A n c) (hn:l.length=n) (hA:A=none→c=0) (h:OffsAt w A l) (h1:l.length≤100) (h2:os.length≤100) (hb:base≤w.heap.size)
  (hk:∀v' w',OffOwn w' base v' (os++l)→w.grownBy w' v.ownBlock→(v'.ownBlock=v.ownBlock∨v'.ownBlock=some w.heap.size)→K (a.put o.dst v') w'):Oper.wp Tryz.prog o a w K Q:=by
 subst hn
 exact wp_app s x ho hs hown hx hA h h1 h2 hb hk
theorem OffOwn.form{w:World}{base:Nat}{A:Option Addr}{c:Nat}{l:List Of}(h:OffOwn w base (.slice A l.length c) l):(A=none∧c=0∧l=[])∨∃g,A=some ⟨g,0,none⟩∧base≤g∧g<w.heap.size:=by
 rcases h.2 with ⟨h0,h1⟩|⟨g,cap,cur,hv,hb,hh,_⟩
 ·injection h0 with e1 e2 e3
  exact .inl ⟨e1,e3,List.length_eq_zero_iff.1 h1⟩
 ·injection hv with e1 e2 e3
  exact .inr ⟨g,e1,hb,Bk.lt (t:=46) hh⟩
theorem OffOwn.slice_of{w:World}{base:Nat}{v:Value}{l:List Of}(h:OffOwn w base v l):∃A c,v= .slice A l.length c:=by
 obtain⟨A,c,e,_⟩:=own_slice h.row9
 exact⟨A,c,e⟩
theorem OffOwn.grown_rel{w0 w w':World}{base:Nat}{v:Value}{os:List Of}(h:Rel w0 w)(ho:OffOwn w base v os)(hb:w0.heap.size≤base)(hg:w.grownBy w' v.ownBlock):Rel w0 w':=
 h.grown hg (fun k hk=>by have:=(ho.row9.lt k hk).1;omega)
theorem turn_perm(l:List Of)(k:Nat):([]++l.drop k++l.take k).Perm l:=by
 rw[List.nil_append]
 have:=List.perm_append_comm (l₁:=l.drop k) (l₂:=l.take k)
 rw[List.take_append_drop] at this
 exact this
theorem ConfigOrder_at(H:ConfOk)(r0 r1 r2 r3 r4 r5:Int)(L:List Int)(A:Option Addr)(k:Nat)(zs:List (Int×Int))(AZ:Option Addr)(kz:Nat)(at_:Int)(ha:i64 at_)(w:World)(hr:Rel w w)(hi:IntsIn w A k L)(hZ:PairsIn w AZ zs.length zs)(h0:i64 r0)(h1:i64 r1)(h2:i64 r2)(h3:i64 r3)(h4:i64 r4)(h5:i64 r5):
  Calls Tryz.prog 5 #[.agg #[.int .i64 r0,.int .i64 r1,.int .i64 r2,.int .i64 r3,.int .i64 r4,.int .i64 r5],.slice A L.length k,.slice AZ zs.length kz,.int .i64 at_] w fun e w'=>e= .returned (.bool true)∧Rel w w':=by
 have HR:=yH hr
 obtain⟨f,c,m,o,b,t,S,hS,hz,hf,⟨bf0,bf1,bc0,bc1,bm0,bm1,bo0,bo1,bb0,bb1⟩,hC⟩:=conf14_open r0 r1 r2 r3 r4 r5 L h0 h1 h2 h3 h4 h5
 have HCo:=yH (fun(w:World) (hr:Rel w w) (hi:IntsIn w A k L)=>hC A k w hr hi)
 have HAw:=yH (fun(w:World) (hr:Rel w w)=>awake14_any H w hr)
 have HI:=yH hi
 clear hC h0 h1 h2 h3 h4 h5
 have HZ:=yH hZ
 obtain⟨os,hos⟩:∃os,offS zs=os:=⟨_,rfl⟩
 have hOf:=fun(w0 w:World) (hr:Rel w0 w) (hz:PairsIn w AZ zs.length zs)=>offers_any AZ kz zs w0 w hr hz
 rw[hos] at hOf
 have HOf:=yH hOf
 have hok:offsOk os=true:=by rw[←hos];exact offS_ok zs
 have HOk:=yH hok
 have h8:=offs_len hok
 have HFit:=yH (offs_fit hok)
 clear hOf hok hos
 have hkb:=pk_bd at_ ((os.length:Int)+1) (by omega)
 obtain⟨j,hj⟩:∃j:Nat,pk at_ ((os.length:Int)+1)=(j:Int):=⟨(pk at_ ((os.length:Int)+1)).toNat,by omega⟩
 have hjl:j≤os.length:=by omega
 have HK:=yH hj
 have hw1:IntKind.i64.wrap ((os.length:Int)+1)=(os.length:Int)+1:=IntWalk.i64_in _ (by omega)
 have hp1:(0:Int)<(os.length:Int)+1:=by omega
 have hp2:(os.length:Int)+1≤9223372036854775807:=by omega
 have KP:=yH (fun w=>pick14_as at_ ((os.length:Int)+1) (j:Int) HK ha hp1 hp2 w)
 obtain⟨ms,hm⟩:∃ms,[]++os.drop j++os.take j=ms:=⟨_,rfl⟩
 have hpm:ms.Perm os:=hm▸turn_perm os j
 have HM:=yH hm
 have HMf:=yH (fun o ho=>HFit.out o (hpm.mem_iff.1 ho):OffsFit ms)
 have hpt:=target_perm (c:=(f,c,m,o,b,t)) hpm
 have KT:=yH (fun(w:World) (A:Option Addr) (q:Nat) (hr:Rel w w) (ho:OffArg w A q os)=>ctar_at H hS hf (A:=A) (q:=q) os.length rfl rfl rfl w hr ho)
 have KM:=yH (fun(w:World) (A:Option Addr) (q:Nat) (hr:Rel w w) (ho:OffArg w A q ms)=>ctar_at H hS hf (A:=A) (q:=q) ms.length rfl (show targN (f,c,m,o,b,t) ms=targN (f,c,m,o,b,t) os by unfold targN;rw[hpt]) (show targI (f,c,m,o,b,t) ms=targI (f,c,m,o,b,t) os by unfold targI;rw[hpt]) w hr ho)
 obtain⟨E,hE⟩:∃E,targN (f,c,m,o,b,t) os=E:=⟨_,rfl⟩
 obtain⟨I,hI⟩:∃E,targI (f,c,m,o,b,t) os=E:=⟨_,rfl⟩
 rw[hE,hI] at KT KM
 clear H hr hf hS hz hE hI hi hZ hm hpm hpt hj hkb ha
 go_enter Tryz.func5,Tryz.ntmps5
 go_upto_region 1 with (fail)
 have HB0:=yH (Bk.new w 22 #[.int .i64 r0,.int .i64 r1,.int .i64 r2,.int .i64 r3,.int .i64 r4,.int .i64 r5])
 have R0:=yH (HR.out.alloc (.cells #[.int .i64 r0,.int .i64 r1,.int .i64 r2,.int .i64 r3,.int .i64 r4,.int .i64 r5] 22))
 obtain⟨W0,hW0⟩:∃W,w.alloc (.cells #[.int .i64 r0,.int .i64 r1,.int .i64 r2,.int .i64 r3,.int .i64 r4,.int .i64 r5] 22)=W:=⟨_,rfl⟩
 obtain⟨gR,hgR⟩:∃g,w.heap.size=g:=⟨_,rfl⟩
 rw[hW0] at HB0 R0
 rw[hgR] at HB0
 try rw[hW0]
 try rw[hgR]
 have sR:w.heap.size≤gR:=by omega
 clear hW0 hgR
 go_upto_region 2 with (go_at_call 9;(with_reducible refine(HAw.out W0 R0.out.self).mono ?_);rintro e w1 ⟨rfl,h1⟩;have R1:=yH (R0.out.trans h1);have HB1:=yH (HB0.out.rel h1);clear h1)
 obtain⟨⟨r_0,r_1,r_2,r_3,r_4,r_5⟩,⟨r_f0,r_f1,r_f2,r_f3,r_f4,r_f5⟩⟩:=six_of HB1.out
 go_upto_region 3 with (go_at_call 10;(with_reducible refine(HCo.out w1 R1.out.self (HI.out.rel R1.out)).mono ?_);rintro e w2 ⟨rfl,h2⟩;have R2:=yH (R1.out.trans h2.out);have HB2:=yH (HB1.out.rel h2.out);clear h2)
 clear r_0 r_1 r_2 r_3 r_4 r_5 r_f0 r_f1 r_f2 r_f3 r_f4 r_f5
 have HC3:=yH (Bk.new w2 25 #[.int .i64 f,.int .i64 c,.int .i64 m,.int .i64 o,.int .i64 b,.string S])
 have HB3:=yH (HB2.out.alloc (.cells #[.int .i64 f,.int .i64 c,.int .i64 m,.int .i64 o,.int .i64 b,.string S] 25))
 have R3:=yH (R2.out.alloc (.cells #[.int .i64 f,.int .i64 c,.int .i64 m,.int .i64 o,.int .i64 b,.string S] 25))
 have sC:w.heap.size≤w2.heap.size:=R2.out.size
 obtain⟨W3,hW3⟩:∃W,w2.alloc (.cells #[.int .i64 f,.int .i64 c,.int .i64 m,.int .i64 o,.int .i64 b,.string S] 25)=W:=⟨_,rfl⟩
 obtain⟨gC,hgC⟩:∃g,w2.heap.size=g:=⟨_,rfl⟩
 rw[hW3] at HC3 HB3 R3
 rw[hgC] at HC3 sC
 try rw[hW3]
 try rw[hgC]
 clear hW3 hgC HB0 HB1 HB2 R0 R1 R2 HAw HCo
 obtain⟨⟨x0,x1,x2,x3,x4,x5⟩,⟨xf0,xf1,xf2,xf3,xf4,xf5⟩⟩:=six_of HC3.out
 clear x0 x1 x2 x3 x4 x5 xf0 xf1 xf2 xf3 xf4 xf5
 go_upto_region 4 with (go_at_call 17;(with_reducible refine(HOf.out W3 W3 R3.out.self (HZ.out.rel9 R3.out)).mono ?_);rintro e w4 ⟨A2,c2,rfl,hO,r4⟩;have R4:=yH (R3.out.trans r4);have HC4:=yH (HC3.out.rel r4);have HO:=yH hO;have HOA:=yH (hO.arg HFit.out);clear hO r4)
 go_upto_region 5 with (go_at_call 20;(with_reducible refine(KP.out _).mono ?_);rintro e w9 ⟨rfl,rfl⟩)
 obtain⟨⟨x0,x1,x2,x3,x4,x5⟩,⟨xf0,xf1,xf2,xf3,xf4,xf5⟩⟩:=six_of HC4.out
 go_upto_region 6 with (go_at_call 18;(with_reducible refine(KT.out w4 A2 c2 R4.out.self HOA.out).mono ?_);rintro e w6 ⟨rfl,r6⟩;have R6:=yH (R4.out.trans r6.out);have HC6:=yH (HC4.out.rel r6.out);have HO6:=yH (HO.out.rel r6.out);clear r6)
 clear x0 x1 x2 x3 x4 x5 xf0 xf1 xf2 xf3 xf4 xf5
 clear R3 R4 HC3 HC4 HO HOf HZ HI KT KP HB3
 have h:=HO6.out.arg HFit.out
 have HAt:=yH h.2.2.2
 have hcl:=h.1
 have hcm:c2≤9223372036854775807:=h.2.1
 have hform:=HO6.out.form
 have hjc:j≤c2:=by omega
 have hji:(j:Int)≤(os.length:Int):=by omega
 have hjci:(j:Int)≤(c2:Int):=by omega
 have hlci:(os.length:Int)≤(c2:Int):=by omega
 have hj0:(0:Int)≤(j:Int):=by omega
 clear h HOA HO6
 rcases hform with ⟨rfl,rfl,rfl⟩|⟨g,rfl,hgb,hgl⟩
 ·obtain rfl:j=0:=by simpa using hjl
  refine wp_region_held_drew (S:=(fun w'=>Rel w6 w')) (by kernel_rfl) R6.out.self.drew (fun hHeld=> ?_)
  refine yL [0,1,2,3,5,6,7] (by kernel_rfl) hHeld (fun _ _ _ _ _=>id) ?_
  iterate 7
   refine yS rfl rfl (by rfl) ?_ ?_ ?_
   rotate_left
   ·intro w' (h:Rel w6 w');obtain⟨⟨y0,y1,y2,y3,y4,y5⟩,⟨yf0,yf1,yf2,yf3,yf4,yf5⟩⟩:=six_of (HC6.out.rel h);go_simp;try with_reducible rfl
   try simp only[Act.put,yA,yB,yC]
  refine yZ ?_
  refine held_one (j:=4) (by kernel_rfl) rfl (fun K hK=> ?_)
  try simp only[yD,yE,yF]
  rw[if_pos (by rfl)]
  refine wp_appn _ _ rfl (base:=w6.heap.size) (v:= .slice none 0 0) (os:=[]) rfl (OffOwn.nil _ _) (A:=none) (l:=([]:List Of).drop 0) rfl (by first|(simp;done)|(simp;omega)) (by intro e;first|rfl|cases e) (OffsAt.nil _ _) (by first|(simp;done)|(simp;omega)) (by simp) (by simp) ?_
  intro v1 w1 hown1 hg1 hb1
  refine hK.out _ _ (hHeld.grown hg1 (fun q hq=>by cases hq)) (fun hHeld=> ?_)
  clear hK K
  try simp only[Act.put,yA,yB,yC]
  refine held_one (j:=8) (by kernel_rfl) rfl (fun K hK=> ?_)
  try simp only[yD,yE,yF]
  rw[if_pos (by rfl)]
  have HB1:=yH hHeld.size
  refine wp_appn _ _ rfl (base:=w6.heap.size) (v:=v1) (os:=[]++([]:List Of).drop 0) rfl hown1 (A:=none) (l:=([]:List Of).take 0) rfl (by first|(simp;done)|(simp;omega)) (by intro e;first|rfl|cases e) (OffsAt.nil _ _) (by first|(simp;done)|(simp;omega)) (by first|(simp;done)|(simp;omega)) HB1.out ?_
  intro v2 w2' hown2 hg2 hb2
  refine hK.out _ _ (OffOwn.grown_rel hHeld hown1 (Nat.le_refl _) hg2) (fun hHeld=> ?_)
  clear hK K
  try simp only[Act.put,yA,yB,yC]
  refine held_one (j:=9) (by kernel_rfl) rfl (fun K hK=> ?_)
  try simp only[yD,yE,yF]
  rw[if_pos (by rfl)]
  go_simp
  rw[HM.out] at hown2
  obtain⟨A6,c6,rfl⟩:=hown2.slice_of
  have hO6:=hown2.arg HMf.out
  go_at_call 18
  (with_reducible refine(KM.out _ A6 c6 hHeld.self hO6).mono ?_)
  rintro e w7 ⟨rfl,r7⟩
  refine hK.out _ _ (hHeld.trans r7.out) (fun hHeld=> ?_)
  clear hK K
  try simp only[Act.put,yA,yB,yC]
  refine yL [10,11,12,13,14] (by kernel_rfl) hHeld (fun _ _ _ _ _=>id) ?_
  iterate 5
   refine yS rfl rfl (by rfl) ?_ ?_ ?_
   rotate_left
   ·intro w' (h:Rel w6 w');obtain⟨⟨y0,y1,y2,y3,y4,y5⟩,⟨yf0,yf1,yf2,yf3,yf4,yf5⟩⟩:=six_of (HC6.out.rel h);go_simp;try with_reducible rfl
   try simp only[Act.put,yA,yB,yC]
  refine yZ ?_
  refine wpAnyH_done (by kernel_rfl) ?_ _
  have RZ:=yH (R6.out.trans hHeld)
  clear hHeld
  go_wp2_with (fail)
  go_ret
  exact⟨rfl,RZ.out⟩
 ·by_cases hck:c2=j
  ·have hd0:os.drop j=[]:=List.drop_eq_nil_of_le (by omega)
   refine wp_region_held_drew (S:=(fun w'=>Rel w6 w')) (by kernel_rfl) R6.out.self.drew (fun hHeld=> ?_)
   refine yL [0,1,2,3,5,6,7] (by kernel_rfl) hHeld (fun _ _ _ _ _=>id) ?_
   iterate 7
    refine yS rfl rfl (by rfl) ?_ ?_ ?_
    rotate_left
    ·intro w' (h:Rel w6 w');obtain⟨⟨y0,y1,y2,y3,y4,y5⟩,⟨yf0,yf1,yf2,yf3,yf4,yf5⟩⟩:=six_of (HC6.out.rel h);go_simp;try with_reducible rfl
    try simp only[Act.put,yA,yB,yC]
   refine yZ ?_
   refine held_one (j:=4) (by kernel_rfl) rfl (fun K hK=> ?_)
   try simp only[yD,yE,yF]
   rw[if_pos (by rfl)]
   refine wp_appn _ _ rfl (base:=w6.heap.size) (v:= .slice none 0 0) (os:=[]) rfl (OffOwn.nil _ _) (A:=some ⟨g,0,none⟩) (l:=(os:List Of).drop j) rfl (by first|(simp;done)|(simp;omega)) (by intro e;first|rfl|cases e) (by rw[hd0];exact OffsAt.nil _ _) (by first|(simp;done)|(simp;omega)) (by simp) (by simp) ?_
   intro v1 w1 hown1 hg1 hb1
   refine hK.out _ _ (hHeld.grown hg1 (fun q hq=>by cases hq)) (fun hHeld=> ?_)
   clear hK K
   try simp only[Act.put,yA,yB,yC]
   refine held_one (j:=8) (by kernel_rfl) rfl (fun K hK=> ?_)
   try simp only[yD,yE,yF]
   rw[if_pos (by rfl)]
   have HB1:=yH hHeld.size
   refine wp_appn _ _ rfl (base:=w6.heap.size) (v:=v1) (os:=[]++(os:List Of).drop j) rfl hown1 (A:=some ⟨g,0,none⟩) (l:=(os:List Of).take j) rfl (by first|(simp;done)|(simp;omega)) (by intro e;first|rfl|cases e) ((HAt.out.rel hHeld).take j) (by first|(simp;done)|(simp;omega)) (by first|(simp;done)|(simp;omega)) HB1.out ?_
   intro v2 w2' hown2 hg2 hb2
   refine hK.out _ _ (OffOwn.grown_rel hHeld hown1 (Nat.le_refl _) hg2) (fun hHeld=> ?_)
   clear hK K
   try simp only[Act.put,yA,yB,yC]
   refine held_one (j:=9) (by kernel_rfl) rfl (fun K hK=> ?_)
   try simp only[yD,yE,yF]
   rw[if_pos (by rfl)]
   go_simp
   rw[HM.out] at hown2
   obtain⟨A6,c6,rfl⟩:=hown2.slice_of
   have hO6:=hown2.arg HMf.out
   go_at_call 18
   (with_reducible refine(KM.out _ A6 c6 hHeld.self hO6).mono ?_)
   rintro e w7 ⟨rfl,r7⟩
   refine hK.out _ _ (hHeld.trans r7.out) (fun hHeld=> ?_)
   clear hK K
   try simp only[Act.put,yA,yB,yC]
   refine yL [10,11,12,13,14] (by kernel_rfl) hHeld (fun _ _ _ _ _=>id) ?_
   iterate 5
    refine yS rfl rfl (by rfl) ?_ ?_ ?_
    rotate_left
    ·intro w' (h:Rel w6 w');obtain⟨⟨y0,y1,y2,y3,y4,y5⟩,⟨yf0,yf1,yf2,yf3,yf4,yf5⟩⟩:=six_of (HC6.out.rel h);go_simp;try with_reducible rfl
    try simp only[Act.put,yA,yB,yC]
   refine yZ ?_
   refine wpAnyH_done (by kernel_rfl) ?_ _
   have RZ:=yH (R6.out.trans hHeld)
   clear hHeld
   go_wp2_with (fail)
   go_ret
   exact⟨rfl,RZ.out⟩
  ·have hd0: ¬j=c2:=fun e=>hck e.symm
   refine wp_region_held_drew (S:=(fun w'=>Rel w6 w')) (by kernel_rfl) R6.out.self.drew (fun hHeld=> ?_)
   refine yL [0,1,2,3,5,6,7] (by kernel_rfl) hHeld (fun _ _ _ _ _=>id) ?_
   iterate 7
    refine yS rfl rfl (by rfl) ?_ ?_ ?_
    rotate_left
    ·intro w' (h:Rel w6 w');obtain⟨⟨y0,y1,y2,y3,y4,y5⟩,⟨yf0,yf1,yf2,yf3,yf4,yf5⟩⟩:=six_of (HC6.out.rel h);go_simp;try with_reducible rfl
    try simp only[Act.put,yA,yB,yC]
   refine yZ ?_
   refine held_one (j:=4) (by kernel_rfl) rfl (fun K hK=> ?_)
   try simp only[yD,yE,yF]
   rw[if_pos (by rfl)]
   refine wp_appn _ _ rfl (base:=w6.heap.size) (v:= .slice none 0 0) (os:=[]) rfl (OffOwn.nil _ _) (A:=some ⟨g,j*2,none⟩) (l:=(os:List Of).drop j) rfl (by first|(simp;done)|(simp;omega)) (by intro e;first|rfl|cases e) (by have h:=(HAt.out.rel hHeld).from j;rwa [Nat.zero_add] at h) (by first|(simp;done)|(simp;omega)) (by simp) (by simp) ?_
   intro v1 w1 hown1 hg1 hb1
   refine hK.out _ _ (hHeld.grown hg1 (fun q hq=>by cases hq)) (fun hHeld=> ?_)
   clear hK K
   try simp only[Act.put,yA,yB,yC]
   refine held_one (j:=8) (by kernel_rfl) rfl (fun K hK=> ?_)
   try simp only[yD,yE,yF]
   rw[if_pos (by rfl)]
   have HB1:=yH hHeld.size
   refine wp_appn _ _ rfl (base:=w6.heap.size) (v:=v1) (os:=[]++(os:List Of).drop j) rfl hown1 (A:=some ⟨g,0,none⟩) (l:=(os:List Of).take j) rfl (by first|(simp;done)|(simp;omega)) (by intro e;first|rfl|cases e) ((HAt.out.rel hHeld).take j) (by first|(simp;done)|(simp;omega)) (by first|(simp;done)|(simp;omega)) HB1.out ?_
   intro v2 w2' hown2 hg2 hb2
   refine hK.out _ _ (OffOwn.grown_rel hHeld hown1 (Nat.le_refl _) hg2) (fun hHeld=> ?_)
   clear hK K
   try simp only[Act.put,yA,yB,yC]
   refine held_one (j:=9) (by kernel_rfl) rfl (fun K hK=> ?_)
   try simp only[yD,yE,yF]
   rw[if_pos (by rfl)]
   go_simp
   rw[HM.out] at hown2
   obtain⟨A6,c6,rfl⟩:=hown2.slice_of
   have hO6:=hown2.arg HMf.out
   go_at_call 18
   (with_reducible refine(KM.out _ A6 c6 hHeld.self hO6).mono ?_)
   rintro e w7 ⟨rfl,r7⟩
   refine hK.out _ _ (hHeld.trans r7.out) (fun hHeld=> ?_)
   clear hK K
   try simp only[Act.put,yA,yB,yC]
   refine yL [10,11,12,13,14] (by kernel_rfl) hHeld (fun _ _ _ _ _=>id) ?_
   iterate 5
    refine yS rfl rfl (by rfl) ?_ ?_ ?_
    rotate_left
    ·intro w' (h:Rel w6 w');obtain⟨⟨y0,y1,y2,y3,y4,y5⟩,⟨yf0,yf1,yf2,yf3,yf4,yf5⟩⟩:=six_of (HC6.out.rel h);go_simp;try with_reducible rfl
    try simp only[Act.put,yA,yB,yC]
   refine yZ ?_
   refine wpAnyH_done (by kernel_rfl) ?_ _
   have RZ:=yH (R6.out.trans hHeld)
   clear hHeld
   go_wp2_with (fail)
   go_ret
   exact⟨rfl,RZ.out⟩
end Go.Proofs.YtfekhbeaphpelaaGreatDoor
