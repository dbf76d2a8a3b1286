/- Plain mathematics of layer 15. -/

import Derived.Test.YtjhjdiaomnpkmaaGreatDoorZ25
set_option maxRecDepth 100000
set_option maxHeartbeats 8000000
set_option linter.unusedVariables false
set_option linter.unusedSimpArgs false
namespace Go.Proofs.YtjhjdiaomnpkmaaGreatDoor
open Go.Lib
theorem later_up{a b:Int}(ha:0≤a)(hb:0≤b):laterF a b≤a+b:=by
 unfold laterF tickF
 split<;>split<;>(try split)<;>(try split)<;>omega
theorem by_up{cool:Int}(h:0≤cool)(k:Nat):byP cool k≤cool*2^k:=by
 induction k with
 |zero=>
  have:=later_up h (Int.le_refl 0)
  show laterF cool 0≤cool*2^0
  omega
 |succ k ih=>
  have hb:=(by_bd cool k).1
  have:=later_up hb hb
  have e:cool*2^(k+1)=cool*2^k+cool*2^k:=by rw[Int.pow_succ];rw[←Int.mul_assoc];omega
  show laterF (byP cool k) (byP cool k)≤_
  omega
theorem ready_up{c:Cf}{p:Pa15}(hc:0≤coC c)(hc':coC c≤2000)(ha:0≤atP p):0≤readyP c p∧readyP c p≤atP p+128000:=by
 unfold readyP
 split
 ·omega
 ·have hb:=by_bd (coC c) (swK (swP p))
  have hu:=by_up hc (swK (swP p))
  have hk:=swK_le (swP p)
  have h6:coC c*2^swK (swP p)≤128000:=by
   have:swK (swP p)=0∨swK (swP p)=1∨swK (swP p)=2∨swK (swP p)=3∨swK (swP p)=4∨swK (swP p)=5∨swK (swP p)=6:=by omega
   rcases this with e|e|e|e|e|e|e<;>rw[e]<;>omega
  have hl:=later_up ha hb.1
  have h0:=later_bd (atP p) (byP (coC c) (swK (swP p)))
  omega
theorem zero_not{c:Cf}:withinC c 0=false:=by
 cases h:withinC c 0 with
 |false=>rfl
 |true=>have:=(within_bd h).1;omega
theorem go_near{c:Cf}{p:Pa15}{t k:Int}(ht:withinC c t=true)(hr:rightP p=true)(hl:laP p≠0→withinC c (laP p)=true)(hk0:0≤k)(hk:k≤1099511627776)(hkr:readyP c p≤k):goP c p t k= !decide (laP p≠0∧max (t-laP p) (laP p-t)≤bdC c):=by
 have hb:=within_bd ht
 have hn:=nums_iff.1 (check_zero.1 hb.2.2.1).1
 unfold goP
 rw[ht,hr,decide_eq_true (show 0≤k∧k≤1099511627776∧readyP c p≤k from⟨hk0,hk,hkr⟩)]
 simp only[Bool.true_and]
 by_cases h0:laP p=0
 ·rw[h0,zero_not,decide_eq_false (show ¬((0:Int)≠0∧max (t-0) (0-t)≤bdC c) from fun e=>e.1 rfl),decide_eq_true (show t≠0 by omega)]
  rfl
 ·rw[hl h0]
  unfold nearP
  by_cases hnr:t-laP p≤bdC c∧laP p-t≤bdC c
  ·rw[decide_eq_true hnr,decide_eq_true (show laP p≠0∧max (t-laP p) (laP p-t)≤bdC c from⟨h0,by omega⟩)]
   rfl
  ·rw[decide_eq_false hnr,decide_eq_false (show ¬(laP p≠0∧max (t-laP p) (laP p-t)≤bdC c) from fun e=>hnr (by omega)),decide_eq_true (show t≠laP p from fun e=>hnr (by omega))]
   rfl
theorem go_same{c:Cf}{p:Pa15}{t k:Int}(h:t=laP p):goP c p t k=false:=by
 unfold goP
 rw[decide_eq_false (show ¬t≠laP p from fun e=>e h),Bool.and_false]
theorem go_again{c:Cf}{p:Pa15}{t k k':Int}(ht:withinC c t=true)(hr:rightP p=true)(hl:laP p≠0→withinC c (laP p)=true)(hk0:0≤k)(hk:k≤1099511627776)(hkr:readyP c p≤k):goP c (decP c p t k) t k'=false:=by
 unfold decP
 by_cases hg:goP c p t k=true
 ·rw[if_pos hg];exact go_same rfl
 ·rw[if_neg hg]
  rw[go_near ht hr hl hk0 hk hkr] at hg
  cases hg':goP c p t k' with
  |false=>rfl
  |true=>
   obtain⟨h1,h2,h3,h4,h5,_,_⟩:=go_parts hg'
   rw[go_near ht hr hl h3 h4 h5] at hg'
   exact absurd hg' hg
end Go.Proofs.YtjhjdiaomnpkmaaGreatDoor

namespace Go.Proofs.YtjhjdiaomnpkmaaGreatDoor
open Go.RowKit Go.Lib
theorem once15{c:Cf}{raw:List (Int×Int)}(hc:checkC c=0){nv:Int}{p:Pa15}{l:List (Int×Int)}(h:playP c raw=(nv,p,l))(ho:coC c≤2000){t j:Int}(ht:withinC c t=true)(hj:0≤j)(hj2:j≤1000):
  (0≤readyP c p∧readyP c p≤200000)∧(0≤readyP c (decP c p t (readyP c p+j))∧readyP c (decP c p t (readyP c p+j))≤400000)∧goP c p t (readyP c p+j)= !(decide (0<laP p)&&decide (max (t-laP p) (laP p-t)≤bdC c))∧(∀k',goP c (decP c p t (readyP c p+j)) t k'=false)∧goP c p t (readyP c p-1)=false∧0≤laP p∧laP p≤1000000000000:=by
 have hi:=pinv_all hc raw
 rw[h] at hi
 have hn:=nums_iff.1 (check_zero.1 hc).1
 have hr:rightP p=true:=hi.right
 have hw:laP p≠0→withinC c (laP p)=true:=fun e=>pinv_within hi e
 have ha:0≤atP p∧0≤laP p∧laP p≤1000000000000:=by
  by_cases e:laP p=0
  ·unfold rightP at hr
   rw[if_pos e] at hr
   have:=of_decide_eq_true hr
   omega
  ·unfold rightP at hr
   rw[if_neg e,Bool.and_eq_true] at hr
   have h1:=of_decide_eq_true hr.2
   have h2:=within_bd (hw e)
   omega
 have hb:atP p≤nv:=hi.before
 have hb2:nv≤8*((min raw.length 40:Nat):Int):=hi.now1
 have hru:=ready_up (c:=c) (p:=p) (by omega) (by omega) ha.1
 have hrd:=readyP c p
 have h0:0≤readyP c p+j:=by omega
 have h1:readyP c p+j≤1099511627776:=by omega
 have h2:readyP c p≤readyP c p+j:=by omega
 have hq:0≤atP (decP c p t (readyP c p+j))∧atP (decP c p t (readyP c p+j))≤200000:=by
  unfold decP
  split
  ·show 0≤readyP c p+j∧readyP c p+j≤200000;omega
  ·omega
 have hru2:=ready_up (c:=c) (p:=decP c p t (readyP c p+j)) (by omega) (by omega) hq.1
 refine⟨by omega,by omega, ?_,fun k'=>go_again ht hr hw h0 h1 h2,go_early (by omega),ha.2⟩
 rw[go_near ht hr hw h0 h1 h2]
 congr 1
 rw[Bool.eq_iff_iff,Bool.and_eq_true,decide_eq_true_eq,decide_eq_true_eq,decide_eq_true_eq]
 constructor
 ·rintro⟨a,b⟩;exact⟨by omega,b⟩
 ·rintro⟨a,b⟩;exact⟨by omega,b⟩
theorem PaceOnce_at(H3:ConfOk3)(H:PaceOk)(r0 r1 r2 r3 r4 r5:Int)(zs:List (Int×Int))(AZ:Option Addr)(kz:Nat)(x y:Int)(hx:i64 x)(hy:i64 y)(w:World)(hr:Rel w w)(hZ:PairsIn w AZ zs.length zs)(h0:i64 r0)(h1:i64 r1)(h2:i64 r2)(h3:i64 r3)(h4:i64 r4)(h5:i64 r5):
  Calls Tryz.prog 5 #[.agg #[.int .i64 r0,.int .i64 r1,.int .i64 r2,.int .i64 r3,.int .i64 r4,.int .i64 r5],.slice AZ zs.length kz,.int .i64 x,.int .i64 y] w fun e w'=>e= .returned (.bool true)∧Rel w w':=by
 have HR:=yH hr
 obtain⟨f,c,m,o,b,t,S,hS,hz,hf,⟨bf0,bf1,bc0,bc1,bm0,bm1,bo0,bo1,bb0,bb1⟩,hC⟩:=conf15_open r0 r1 r2 r3 r4 r5 h0 h1 h2 h3 h4 h5
 have HCo:=yH hC
 have HAw:=yH (fun(w:World)(hr:Rel w w)=>awake15_any H w hr)
 have HZ:=yH hZ
 obtain⟨⟨nv,⟨la,at_,L,sw⟩,l⟩,hpl⟩:∃s,playP (f,c,m,o,b,t) zs=s:=⟨_,rfl⟩
 have HInv0:=pinv_all hz zs
 rw[hpl] at HInv0
 have HI:=yH HInv0
 have HPlay:=yH (fun(w:World)(hr:Rel w w)(hZ:PairsIn w AZ zs.length zs)=>play15_any H3 H f c m o b t S hS hf hz (by omega) zs AZ kz la at_ sw L l (by rw[hpl]) w hr hZ)
 have HCk:=yH hz
 obtain⟨low,hlow⟩:∃l,max f m=l:=⟨_,rfl⟩
 have hlb:1≤low∧low≤c:=by omega
 obtain⟨hl0,hlc⟩:=hlb
 obtain⟨M,hM⟩:∃q,c-low+1=q:=⟨_,rfl⟩
 have hM1:max M 1=M:=by omega
 have hMb0:1≤M:=by omega
 have hMb1:M≤100000:=by omega
 obtain⟨q,hq⟩:∃q,pk x M=q:=⟨_,rfl⟩
 have hqb:=pk_bd x M (by omega)
 rw[hq] at hqb
 obtain⟨hq0,hq1⟩:=hqb
 have HQk:=yH hq
 obtain⟨tg,htg⟩:∃z,low+q=z:=⟨_,rfl⟩
 have htw:withinC (f,c,m,o,b,t) tg=true:=by
  have h1:=tar_within hz x
  have h2:tarP (f,c,m,o,b,t) x=tg:=by
   unfold tarP
   rw[show lowC (f,c,m,o,b,t)=low from hlow,show max (ceC (f,c,m,o,b,t)-low+1) 1=M from by show max (c-low+1) 1=M;omega,hq,htg]
  rw[h2] at h1;exact h1
 have htb0:1≤tg:=by omega
 have htb1:tg≤100000:=by omega
 obtain⟨j1,hj1⟩:∃q,pk y 100=q:=⟨_,rfl⟩
 have hjb1:=pk_bd y 100 (by omega)
 rw[hj1] at hjb1
 obtain⟨hj10,hj11⟩:=hjb1
 have HJ1:=yH hj1
 obtain⟨j2,hj2⟩:∃q,pk y 1000=q:=⟨_,rfl⟩
 have hjb2:=pk_bd y 1000 (by omega)
 rw[hj2] at hjb2
 obtain⟨hj20,hj21⟩:=hjb2
 have HJ2:=yH hj2
 obtain⟨o1,o2,o3,o4,o5,o6,o7⟩:=once15 (j:=j1) hz hpl (by show o≤2000;omega) htw hj10 (by omega)
 replace o3:goP (f,c,m,o,b,t) (la,at_,L,sw) tg (readyP (f,c,m,o,b,t) (la,at_,L,sw)+j1)= !(decide (0<la)&&decide (max (tg-la) (la-tg)≤b)):=o3
 replace o6:0≤la:=o6
 replace o7:la≤1000000000000:=o7
 obtain⟨re,hre⟩:∃r,readyP (f,c,m,o,b,t) (la,at_,L,sw)=r:=⟨_,rfl⟩
 rw[hre] at o1 o2 o3 o4 o5
 obtain⟨k,hk⟩:∃r,re+j1=r:=⟨_,rfl⟩
 rw[hk] at o2 o3 o4
 obtain⟨⟨la2,at2,L2,sw2⟩,hd⟩:∃z,decP (f,c,m,o,b,t) (la,at_,L,sw) tg k=z:=⟨_,rfl⟩
 rw[hd] at o2 o4
 obtain⟨re2,hre2⟩:∃r,readyP (f,c,m,o,b,t) (la2,at2,L2,sw2)=r:=⟨_,rfl⟩
 rw[hre2] at o2
 obtain⟨k2,hk2⟩:∃r,re2+j2=r:=⟨_,rfl⟩
 obtain⟨k3,hk3⟩:∃r,re-1=r:=⟨_,rfl⟩
 rw[hk3] at o5
 obtain⟨o10,o11⟩:=o1
 obtain⟨o20,o21⟩:=o2
 obtain⟨mm,hmm⟩:∃q,max (tg-la) (la-tg)=q:=⟨_,rfl⟩
 rw[hmm] at o3
 obtain⟨d0,hd0⟩:∃q,decide (0<la)=q:=⟨_,rfl⟩
 obtain⟨d1,hd1⟩:∃q,decide (mm≤b)=q:=⟨_,rfl⟩
 rw[hd0,hd1] at o3
 obtain⟨g,hg⟩:∃q,(!(d0&&d1))=q:=⟨_,rfl⟩
 rw[hg] at o3
 obtain⟨⟨la3,at3,L3,sw3⟩,hd3⟩:∃z,decP (f,c,m,o,b,t) (la2,at2,L2,sw2) tg k2=z:=⟨_,rfl⟩
 obtain⟨⟨la4,at4,L4,sw4⟩,hd4⟩:∃z,decP (f,c,m,o,b,t) (la,at_,L,sw) tg k3=z:=⟨_,rfl⟩
 have KL:=yH (fun(w:World)(hr:Rel w w)=>clow15 H3 hS hf hlow w hr)
 have KR1:=yH (fun(w:World)(A:Option Addr)(n kk:Nat)(hr:Rel w w)(hp:PaAt w (la,at_,L,sw) A n kk)=>pready15 H hS hf hre w hr hp)
 have KR2:=yH (fun(w:World)(A:Option Addr)(n kk:Nat)(hr:Rel w w)(hp:PaAt w (la2,at2,L2,sw2) A n kk)=>pready15 H hS hf hre2 w hr hp)
 have KD1:=yH (fun(w:World)(A:Option Addr)(n kk:Nat)(hr:Rel w w)(hp:PaAt w (la,at_,L,sw) A n kk)=>pdec15 H hS hf ⟨by omega,by omega⟩ ⟨by omega,by omega⟩ hd o3 w hr hp)
 have KD2:=yH (fun(w:World)(A:Option Addr)(n kk:Nat)(hr:Rel w w)(hp:PaAt w (la2,at2,L2,sw2) A n kk)=>pdec15 H hS hf ⟨by omega,by omega⟩ ⟨by omega,by omega⟩ hd3 (o4 k2) w hr hp)
 have KD3:=yH (fun(w:World)(A:Option Addr)(n kk:Nat)(hr:Rel w w)(hp:PaAt w (la,at_,L,sw) A n kk)=>pdec15 H hS hf ⟨by omega,by omega⟩ ⟨by omega,by omega⟩ hd4 o5 w hr hp)
 have v1:IntKind.i64.wrap (c-low)=c-low:=by rw[IntKind.wrap_i64];omega
 have v2:IntKind.i64.wrap (c-low+1)=M:=by rw[IntKind.wrap_i64];omega
 have v3:IntKind.i64.wrap M=M:=by rw[IntKind.wrap_i64];omega
 have v4:IntKind.i64.wrap (low+q)=tg:=by rw[IntKind.wrap_i64];omega
 have v5:IntKind.i64.wrap tg=tg:=by rw[IntKind.wrap_i64];omega
 have v6:IntKind.i64.wrap (re+j1)=k:=by rw[IntKind.wrap_i64];omega
 have v7:IntKind.i64.wrap k=k:=by rw[IntKind.wrap_i64];omega
 have v8:IntKind.i64.wrap (re2+j2)=k2:=by rw[IntKind.wrap_i64];omega
 have v9:IntKind.i64.wrap k2=k2:=by rw[IntKind.wrap_i64];omega
 have v10:IntKind.i64.wrap (re-1)=k3:=by rw[IntKind.wrap_i64];omega
 have v11:IntKind.i64.wrap k3=k3:=by rw[IntKind.wrap_i64];omega
 have HG:=yH hg
 clear H3 H hr hf hS hz hlow hq hj1 hj2 hre hre2 hd hd3 hd4 o3 o4 o5 htw hg hC h0 h1 h2 h3 h4 h5 hZ HInv0 hpl
 go_enter Tryz.func5,Tryz.ntmps5
 go_upto_region 1 with (fail)
 have HB0:=yH (Bk.new w 22 #[.int .i64 r0,.int .i64 r1,.int .i64 r2,.int .i64 r3,.int .i64 r4,.int .i64 r5])
 have R0:=yH (HR.out.alloc (.cells #[.int .i64 r0,.int .i64 r1,.int .i64 r2,.int .i64 r3,.int .i64 r4,.int .i64 r5] 22))
 obtain⟨W0,hW0⟩:∃W,w.alloc (.cells #[.int .i64 r0,.int .i64 r1,.int .i64 r2,.int .i64 r3,.int .i64 r4,.int .i64 r5] 22)=W:=⟨_,rfl⟩
 obtain⟨gR,hgR⟩:∃g,w.heap.size=g:=⟨_,rfl⟩
 rw[hW0] at HB0 R0
 rw[hgR] at HB0
 try rw[hW0]
 try rw[hgR]
 clear hW0 hgR
 go_upto_region 2 with (go_at_call 8;(with_reducible refine(HAw.out W0 R0.out.self).mono ?_);rintro e w1 ⟨rfl,h1⟩;have R1:=yH (R0.out.trans h1);have HB1:=yH (HB0.out.rel h1);clear h1)
 obtain⟨⟨r_0,r_1,r_2,r_3,r_4,r_5⟩,_⟩:=six_of HB1.out
 go_upto_region 3 with (go_at_call 9;(with_reducible refine(HCo.out w1 R1.out.self).mono ?_);rintro e w2 ⟨rfl,h2⟩;have R2:=yH (R1.out.trans h2.out);clear h2)
 clear HB0 HB1 R0 R1 HAw HCo r_0 r_1 r_2 r_3 r_4 r_5
 have ALW3:=yH (R2.out.self.alloc (.cells #[.int .i64 f,.int .i64 c,.int .i64 m,.int .i64 o,.int .i64 b,.string S] 24))
 have HC:=yH (Bk.new w2 24 #[.int .i64 f,.int .i64 c,.int .i64 m,.int .i64 o,.int .i64 b,.string S])
 have R3:=yH (R2.out.trans ALW3.out)
 obtain⟨W3,hW3⟩:∃W,w2.alloc (.cells #[.int .i64 f,.int .i64 c,.int .i64 m,.int .i64 o,.int .i64 b,.string S] 24)=W:=⟨_,rfl⟩
 obtain⟨gC,hgC⟩:∃g,w2.heap.size=g:=⟨_,rfl⟩
 rw[hW3] at HC R3
 rw[hgC] at HC
 try rw[hW3]
 try rw[hgC]
 clear hW3 hgC ALW3
 obtain⟨⟨x0,x1,x2,x3,x4,x5⟩,_⟩:=six_of HC.out
 go_upto_region 4 with (go_at_call 18;(with_reducible refine(HPlay.out W3 R3.out.self (HZ.out.rel15 R3.out)).mono ?_);rintro e w4 ⟨A,n,kk,D,kd,rfl,hPA,_,kl,kh,h4⟩;have R4:=yH (R3.out.trans h4);have HC4:=yH (HC.out.rel h4);have PA4:=yH hPA;clear h4 hPA)
 clear x0 x1 x2 x3 x4 x5
 have ALW5:=yH (R4.out.self.alloc (.cells #[.int .i64 la,.int .i64 at_,.slice A n kk,.int .i64 sw] 27))
 have HP:=yH (Bk.new w4 27 #[.int .i64 la,.int .i64 at_,.slice A n kk,.int .i64 sw])
 have R5:=yH (R4.out.trans ALW5.out)
 have HC5:=yH (HC4.out.rel ALW5.out)
 have PA5:=yH (PA4.out.rel ALW5.out)
 obtain⟨W5,hW5⟩:∃W,w4.alloc (.cells #[.int .i64 la,.int .i64 at_,.slice A n kk,.int .i64 sw] 27)=W:=⟨_,rfl⟩
 obtain⟨gP,hgP⟩:∃g,w4.heap.size=g:=⟨_,rfl⟩
 rw[hW5] at HP R5 HC5 PA5
 rw[hgP] at HP
 try rw[hW5]
 try rw[hgP]
 clear hW5 hgP ALW5
 obtain⟨⟨x0,x1,x2,x3,x4,x5⟩,_⟩:=six_of HC5.out
 go_upto_region 5 with (go_at_call 20;(with_reducible refine(KL.out W5 R5.out.self).mono ?_);rintro e w6 ⟨rfl,h6⟩;have R6:=yH (R5.out.trans h6.out);have HC6:=yH (HC5.out.rel h6.out);have HP6:=yH (HP.out.rel h6.out);have PA6:=yH (PA5.out.rel h6.out);clear h6)
 clear HC HC4 HC5 HP PA4 PA5 R2 R3 R4 R5
 clear x0 x1 x2 x3 x4 x5
 obtain⟨⟨x0,x1,x2,x3,x4,x5⟩,_⟩:=six_of HC6.out
 obtain⟨⟨p_0,p_1,p_2,p_3⟩,_⟩:=four_of HP6.out
 go_upto_region 7 with (first
  |(go_at_call 14;(with_reducible refine(pk15_as x M q HQk hx (by omega) (by omega) _).mono ?_);rintro e w' ⟨rfl,rfl⟩)
  |(go_at_call 12;(with_reducible refine(KR1.out w6 A n kk R6.out.self PA6.out).mono ?_);rintro e w7 ⟨rfl,h7⟩;have R7:=yH (R6.out.trans h7.out);have HC7:=yH (HC6.out.rel h7.out);have HP7:=yH (HP6.out.rel h7.out);have PA7:=yH (PA6.out.rel h7.out);clear h7))
 clear x0 x1 x2 x3 x4 x5
 clear p_0 p_1 p_2 p_3
 clear HC6 HP6 PA6 R6
 obtain⟨⟨x0,x1,x2,x3,x4,x5⟩,_⟩:=six_of HC7.out
 obtain⟨⟨p_0,p_1,p_2,p_3⟩,_⟩:=four_of HP7.out
 go_upto_region 9 with (first
  |(go_at_call 14;(with_reducible refine(pk15_as y 100 j1 HJ1 hy (by omega) (by omega) _).mono ?_);rintro e w' ⟨rfl,rfl⟩)
  |(go_at_call 15;(with_reducible refine(KD1.out w7 A n kk R7.out.self PA7.out).mono ?_);rintro e w8 ⟨A2,n2,kk2,rfl,hQA,h8⟩;have R8:=yH (R7.out.trans h8.out);have HC8:=yH (HC7.out.rel h8.out);have HP8:=yH (HP7.out.rel h8.out);have PA8:=yH (PA7.out.rel h8.out);clear h8))
 clear x0 x1 x2 x3 x4 x5
 clear p_0 p_1 p_2 p_3
 clear HC7 HP7 PA7 R7
 have ALW9:=yH (R8.out.self.alloc (.cells #[.int .i64 la2,.int .i64 at2,.slice A2 n2 kk2,.int .i64 sw2] 27))
 have HQ:=yH (Bk.new w8 27 #[.int .i64 la2,.int .i64 at2,.slice A2 n2 kk2,.int .i64 sw2])
 have R9:=yH (R8.out.trans ALW9.out)
 have HC9:=yH (HC8.out.rel ALW9.out)
 have HP9:=yH (HP8.out.rel ALW9.out)
 have PA9:=yH (PA8.out.rel ALW9.out)
 have QA9:=yH (hQA.out.rel ALW9.out)
 obtain⟨W9,hW9⟩:∃W,w8.alloc (.cells #[.int .i64 la2,.int .i64 at2,.slice A2 n2 kk2,.int .i64 sw2] 27)=W:=⟨_,rfl⟩
 obtain⟨gQ,hgQ⟩:∃g,w8.heap.size=g:=⟨_,rfl⟩
 rw[hW9] at HQ R9 HC9 HP9 PA9 QA9
 rw[hgQ] at HQ
 try rw[hW9]
 try rw[hgQ]
 clear hW9 hgQ ALW9
 clear HC8 HP8 PA8 hQA R8
 obtain⟨⟨x0,x1,x2,x3,x4,x5⟩,_⟩:=six_of HC9.out
 obtain⟨⟨p_0,p_1,p_2,p_3⟩,_⟩:=four_of HP9.out
 have u1:IntKind.i64.wrap (tg-la)=tg-la:=by rw[IntKind.wrap_i64];omega
 have u2:IntKind.i64.wrap (la-tg)=la-tg:=by rw[IntKind.wrap_i64];omega
 have u3:(if tg-la<la-tg then la-tg else tg-la)=mm:=by rw[←hmm];split<;>omega
 go_cut [19] (fun v wx=>v= .bool (d0&&d1)∧W9=wx)
 case first=>
  cases d0<;>cases d1
  all_goals
   go_wp2_with (fail)
   go_meet
   exact⟨rfl,rfl⟩
 obtain⟨rfl,rfl⟩:=hcut
 clear x0 x1 x2 x3 x4 x5
 clear p_0 p_1 p_2 p_3
 go_upto_region 10 with (fail)
 go_cut [21] (fun v wx=>v= .bool false∧Hid (Rel W9 wx))
 case first=>
  refine wp_region_held_drew (S:=(fun w'=>Rel W9 w')) (by kernel_rfl) R9.out.self.drew (fun hH=> ?_)
  refine yL [0,1,2,3,4,6] (by kernel_rfl) hH (fun _ _ _ _ _=>id) ?_
  iterate 6
   refine yS rfl rfl (by rfl) ?_ ?_ ?_
   rotate_left
   ·rintro w' hr';obtain⟨x0,x1,x2,x3,x4,x5⟩:=(six_of (HC9.out.rel hr')).1;obtain⟨q0,q1,q2,q3⟩:=(four_of (HQ.out.rel hr')).1;go_simp;try with_reducible rfl
   try simp only[Act.put,yA,yB,yC]
  refine yZ ?_
  refine held_two (j:=5) (k:=13) (by kernel_rfl) rfl rfl (fun K hK=> ?_) (fun K hK=> ?_)
  ·skip
   try simp only[yD,yE,yF]
   rw[if_pos (by rfl)]
   go_simp
   have HH:=yH hH
   go_at_call 12;(with_reducible refine(KR2.out _ A2 n2 kk2 HH.out.self (QA9.out.rel HH.out)).mono ?_);rintro e w2' ⟨rfl,r2⟩
   try have BQ:=yH (BQ.out.rel r2.out)
   refine hK.out _ _ (HH.out.trans r2.out) (fun hH=> ?_)
   clear hK K
   try simp only[Act.put,yA,yB,yC]
   refine held_two (j:=7) (k:=13) (by kernel_rfl) rfl rfl (fun K hK=> ?_) (fun K hK=> ?_)
   ·skip
    try simp only[yD,yE,yF]
    rw[if_pos (by rfl)]
    go_simp
    go_at_call 14;(with_reducible refine(pk15_as y 1000 j2 HJ2 hy (by omega) (by omega) _).mono ?_);rintro e w' ⟨rfl,rfl⟩
    refine hK.out _ _ hH (fun hH=> ?_)
    clear hK K
    try simp only[Act.put,yA,yB,yC]
    refine yW 8 86 rfl rfl (by kernel_rfl) (by rfl) hH ?_ (fun _ _ _=>id) ?_ ?_
    rotate_left
    ·rintro w' hr';obtain⟨x0,x1,x2,x3,x4,x5⟩:=(six_of (HC9.out.rel hr')).1;obtain⟨q0,q1,q2,q3⟩:=(four_of (HQ.out.rel hr')).1;go_simp;try with_reducible rfl
    try simp only[Act.put,yA,yB,yC]
    refine held_two (j:=9) (k:=13) (by kernel_rfl) rfl rfl (fun K hK=> ?_) (fun K hK=> ?_)
    ·skip
     try simp only[yD,yE,yF]
     rw[if_pos (by rfl)]
     go_simp
     have HH:=yH hH
     go_at_call 15;(with_reducible refine(KD2.out _ A2 n2 kk2 HH.out.self (QA9.out.rel HH.out)).mono ?_);rintro e w2' ⟨A3,n3,kk3,rfl,_,r2⟩
     try have BQ:=yH (BQ.out.rel r2.out)
     refine hK.out _ _ (HH.out.trans r2.out) (fun hH=> ?_)
     clear hK K
     try simp only[Act.put,yA,yB,yC]
     refine yL [10,11,12] (by kernel_rfl) hH (fun _ _ _ _ _=>id) ?_
     iterate 3
      refine yS rfl rfl (by rfl) ?_ ?_ ?_
      rotate_left
      ·rintro w' hr';obtain⟨x0,x1,x2,x3,x4,x5⟩:=(six_of (HC9.out.rel hr')).1;obtain⟨q0,q1,q2,q3⟩:=(four_of (HQ.out.rel hr')).1;go_simp;try with_reducible rfl
      try simp only[Act.put,yA,yB,yC]
     refine yZ ?_
     refine held_one (j:=13) (by kernel_rfl) rfl (fun K hK=> ?_)
     try simp only[yD,yE,yF]
     rw[if_pos (by rfl)]
     go_simp
     have H1:=yH hH
     obtain⟨gq,W1,hgq,hW1,BQ,RQ,GQ,GLT⟩:=alloc15 H1.out
     first|rw[hW1]|rw[show(W9.alloc (.cells #[.int .i64 0,.int .i64 0,.slice none 0 0,.int .i64 0] 27)).drew=W1 from hW1]
     first|rw[show W9.heap.size=gq from hgq]|rw[hgq]
     clear hgq hW1
     refine hK.out _ _ (H1.out.trans RQ.out) (fun hH=> ?_)
     clear hK K
     try simp only[Act.put,yA,yB,yC]
     refine held_one (j:=14) (by kernel_rfl) rfl (fun K hK=> ?_)
     try simp only[yD,yE,yF]
     rw[if_pos (by rfl)]
     have H2:=yH hH
     obtain⟨⟨z0,z1,z2,z3⟩,⟨zf0,zf1,zf2,zf3⟩⟩:=four_of BQ.out
     go_simp
     have RX:=yH (H2.out.put4 GQ.out (.int .i64 la3) (.int .i64 at3) (.slice A3 n3 kk3) (.int .i64 sw3))
     refine hK.out _ _ RX.out (fun hH=> ?_)
     clear hK K
     try simp only[Act.put,yA,yB,yC]
     refine yW 15 21 rfl rfl (by kernel_rfl) (by rfl) hH ?_ (fun _ _ _=>id) ?_ ?_
     rotate_left
     ·rintro w' hr';obtain⟨x0,x1,x2,x3,x4,x5⟩:=(six_of (HC9.out.rel hr')).1;obtain⟨q0,q1,q2,q3⟩:=(four_of (HQ.out.rel hr')).1;go_simp;try with_reducible rfl
     try simp only[Act.put,yA,yB,yC]
     refine wpAnyH_done (by kernel_rfl) ?_ _
     go_wp2_with (fail)
     go_meet
     exact⟨rfl,RX⟩
    ·skip
     try simp only[yD,yE,yF]
     rw[if_pos (by rfl)]
     go_simp
     have H1:=yH hH
     obtain⟨gq,W1,hgq,hW1,BQ,RQ,GQ,GLT⟩:=alloc15 H1.out
     first|rw[hW1]|rw[show(W9.alloc (.cells #[.int .i64 0,.int .i64 0,.slice none 0 0,.int .i64 0] 27)).drew=W1 from hW1]
     first|rw[show W9.heap.size=gq from hgq]|rw[hgq]
     clear hgq hW1
     refine hK.out _ _ (H1.out.trans RQ.out) (fun hH=> ?_)
     clear hK K
     try simp only[Act.put,yA,yB,yC]
     refine held_one (j:=9) (by kernel_rfl) rfl (fun K hK=> ?_)
     try simp only[yD,yE,yF]
     rw[if_pos (by rfl)]
     go_simp
     have HH:=yH hH
     go_at_call 15;(with_reducible refine(KD2.out _ A2 n2 kk2 HH.out.self (QA9.out.rel HH.out)).mono ?_);rintro e w2' ⟨A3,n3,kk3,rfl,_,r2⟩
     try have BQ:=yH (BQ.out.rel r2.out)
     refine hK.out _ _ (HH.out.trans r2.out) (fun hH=> ?_)
     clear hK K
     try simp only[Act.put,yA,yB,yC]
     refine yL [10,11,12] (by kernel_rfl) hH (fun _ _ _ _ _=>id) ?_
     iterate 3
      refine yS rfl rfl (by rfl) ?_ ?_ ?_
      rotate_left
      ·rintro w' hr';obtain⟨x0,x1,x2,x3,x4,x5⟩:=(six_of (HC9.out.rel hr')).1;obtain⟨q0,q1,q2,q3⟩:=(four_of (HQ.out.rel hr')).1;go_simp;try with_reducible rfl
      try simp only[Act.put,yA,yB,yC]
     refine yZ ?_
     refine held_one (j:=14) (by kernel_rfl) rfl (fun K hK=> ?_)
     try simp only[yD,yE,yF]
     rw[if_pos (by rfl)]
     have H2:=yH hH
     obtain⟨⟨z0,z1,z2,z3⟩,⟨zf0,zf1,zf2,zf3⟩⟩:=four_of BQ.out
     go_simp
     have RX:=yH (H2.out.put4 GQ.out (.int .i64 la3) (.int .i64 at3) (.slice A3 n3 kk3) (.int .i64 sw3))
     refine hK.out _ _ RX.out (fun hH=> ?_)
     clear hK K
     try simp only[Act.put,yA,yB,yC]
     refine yW 15 21 rfl rfl (by kernel_rfl) (by rfl) hH ?_ (fun _ _ _=>id) ?_ ?_
     rotate_left
     ·rintro w' hr';obtain⟨x0,x1,x2,x3,x4,x5⟩:=(six_of (HC9.out.rel hr')).1;obtain⟨q0,q1,q2,q3⟩:=(four_of (HQ.out.rel hr')).1;go_simp;try with_reducible rfl
     try simp only[Act.put,yA,yB,yC]
     refine wpAnyH_done (by kernel_rfl) ?_ _
     go_wp2_with (fail)
     go_meet
     exact⟨rfl,RX⟩
   ·skip
    try simp only[yD,yE,yF]
    rw[if_pos (by rfl)]
    go_simp
    have H1:=yH hH
    obtain⟨gq,W1,hgq,hW1,BQ,RQ,GQ,GLT⟩:=alloc15 H1.out
    first|rw[hW1]|rw[show(W9.alloc (.cells #[.int .i64 0,.int .i64 0,.slice none 0 0,.int .i64 0] 27)).drew=W1 from hW1]
    first|rw[show W9.heap.size=gq from hgq]|rw[hgq]
    clear hgq hW1
    refine hK.out _ _ (H1.out.trans RQ.out) (fun hH=> ?_)
    clear hK K
    try simp only[Act.put,yA,yB,yC]
    refine held_one (j:=7) (by kernel_rfl) rfl (fun K hK=> ?_)
    try simp only[yD,yE,yF]
    rw[if_pos (by rfl)]
    go_simp
    go_at_call 14;(with_reducible refine(pk15_as y 1000 j2 HJ2 hy (by omega) (by omega) _).mono ?_);rintro e w' ⟨rfl,rfl⟩
    refine hK.out _ _ hH (fun hH=> ?_)
    clear hK K
    try simp only[Act.put,yA,yB,yC]
    refine yW 8 86 rfl rfl (by kernel_rfl) (by rfl) hH ?_ (fun _ _ _=>id) ?_ ?_
    rotate_left
    ·rintro w' hr';obtain⟨x0,x1,x2,x3,x4,x5⟩:=(six_of (HC9.out.rel hr')).1;obtain⟨q0,q1,q2,q3⟩:=(four_of (HQ.out.rel hr')).1;go_simp;try with_reducible rfl
    try simp only[Act.put,yA,yB,yC]
    refine held_one (j:=9) (by kernel_rfl) rfl (fun K hK=> ?_)
    try simp only[yD,yE,yF]
    rw[if_pos (by rfl)]
    go_simp
    have HH:=yH hH
    go_at_call 15;(with_reducible refine(KD2.out _ A2 n2 kk2 HH.out.self (QA9.out.rel HH.out)).mono ?_);rintro e w2' ⟨A3,n3,kk3,rfl,_,r2⟩
    try have BQ:=yH (BQ.out.rel r2.out)
    refine hK.out _ _ (HH.out.trans r2.out) (fun hH=> ?_)
    clear hK K
    try simp only[Act.put,yA,yB,yC]
    refine yL [10,11,12] (by kernel_rfl) hH (fun _ _ _ _ _=>id) ?_
    iterate 3
     refine yS rfl rfl (by rfl) ?_ ?_ ?_
     rotate_left
     ·rintro w' hr';obtain⟨x0,x1,x2,x3,x4,x5⟩:=(six_of (HC9.out.rel hr')).1;obtain⟨q0,q1,q2,q3⟩:=(four_of (HQ.out.rel hr')).1;go_simp;try with_reducible rfl
     try simp only[Act.put,yA,yB,yC]
    refine yZ ?_
    refine held_one (j:=14) (by kernel_rfl) rfl (fun K hK=> ?_)
    try simp only[yD,yE,yF]
    rw[if_pos (by rfl)]
    have H2:=yH hH
    obtain⟨⟨z0,z1,z2,z3⟩,⟨zf0,zf1,zf2,zf3⟩⟩:=four_of BQ.out
    go_simp
    have RX:=yH (H2.out.put4 GQ.out (.int .i64 la3) (.int .i64 at3) (.slice A3 n3 kk3) (.int .i64 sw3))
    refine hK.out _ _ RX.out (fun hH=> ?_)
    clear hK K
    try simp only[Act.put,yA,yB,yC]
    refine yW 15 21 rfl rfl (by kernel_rfl) (by rfl) hH ?_ (fun _ _ _=>id) ?_ ?_
    rotate_left
    ·rintro w' hr';obtain⟨x0,x1,x2,x3,x4,x5⟩:=(six_of (HC9.out.rel hr')).1;obtain⟨q0,q1,q2,q3⟩:=(four_of (HQ.out.rel hr')).1;go_simp;try with_reducible rfl
    try simp only[Act.put,yA,yB,yC]
    refine wpAnyH_done (by kernel_rfl) ?_ _
    go_wp2_with (fail)
    go_meet
    exact⟨rfl,RX⟩
  ·skip
   try simp only[yD,yE,yF]
   rw[if_pos (by rfl)]
   go_simp
   have H1:=yH hH
   obtain⟨gq,W1,hgq,hW1,BQ,RQ,GQ,GLT⟩:=alloc15 H1.out
   first|rw[hW1]|rw[show(W9.alloc (.cells #[.int .i64 0,.int .i64 0,.slice none 0 0,.int .i64 0] 27)).drew=W1 from hW1]
   first|rw[show W9.heap.size=gq from hgq]|rw[hgq]
   clear hgq hW1
   refine hK.out _ _ (H1.out.trans RQ.out) (fun hH=> ?_)
   clear hK K
   try simp only[Act.put,yA,yB,yC]
   refine held_one (j:=5) (by kernel_rfl) rfl (fun K hK=> ?_)
   try simp only[yD,yE,yF]
   rw[if_pos (by rfl)]
   go_simp
   have HH:=yH hH
   go_at_call 12;(with_reducible refine(KR2.out _ A2 n2 kk2 HH.out.self (QA9.out.rel HH.out)).mono ?_);rintro e w2' ⟨rfl,r2⟩
   try have BQ:=yH (BQ.out.rel r2.out)
   refine hK.out _ _ (HH.out.trans r2.out) (fun hH=> ?_)
   clear hK K
   try simp only[Act.put,yA,yB,yC]
   refine held_one (j:=7) (by kernel_rfl) rfl (fun K hK=> ?_)
   try simp only[yD,yE,yF]
   rw[if_pos (by rfl)]
   go_simp
   go_at_call 14;(with_reducible refine(pk15_as y 1000 j2 HJ2 hy (by omega) (by omega) _).mono ?_);rintro e w' ⟨rfl,rfl⟩
   refine hK.out _ _ hH (fun hH=> ?_)
   clear hK K
   try simp only[Act.put,yA,yB,yC]
   refine yW 8 86 rfl rfl (by kernel_rfl) (by rfl) hH ?_ (fun _ _ _=>id) ?_ ?_
   rotate_left
   ·rintro w' hr';obtain⟨x0,x1,x2,x3,x4,x5⟩:=(six_of (HC9.out.rel hr')).1;obtain⟨q0,q1,q2,q3⟩:=(four_of (HQ.out.rel hr')).1;go_simp;try with_reducible rfl
   try simp only[Act.put,yA,yB,yC]
   refine held_one (j:=9) (by kernel_rfl) rfl (fun K hK=> ?_)
   try simp only[yD,yE,yF]
   rw[if_pos (by rfl)]
   go_simp
   have HH:=yH hH
   go_at_call 15;(with_reducible refine(KD2.out _ A2 n2 kk2 HH.out.self (QA9.out.rel HH.out)).mono ?_);rintro e w2' ⟨A3,n3,kk3,rfl,_,r2⟩
   try have BQ:=yH (BQ.out.rel r2.out)
   refine hK.out _ _ (HH.out.trans r2.out) (fun hH=> ?_)
   clear hK K
   try simp only[Act.put,yA,yB,yC]
   refine yL [10,11,12] (by kernel_rfl) hH (fun _ _ _ _ _=>id) ?_
   iterate 3
    refine yS rfl rfl (by rfl) ?_ ?_ ?_
    rotate_left
    ·rintro w' hr';obtain⟨x0,x1,x2,x3,x4,x5⟩:=(six_of (HC9.out.rel hr')).1;obtain⟨q0,q1,q2,q3⟩:=(four_of (HQ.out.rel hr')).1;go_simp;try with_reducible rfl
    try simp only[Act.put,yA,yB,yC]
   refine yZ ?_
   refine held_one (j:=14) (by kernel_rfl) rfl (fun K hK=> ?_)
   try simp only[yD,yE,yF]
   rw[if_pos (by rfl)]
   have H2:=yH hH
   obtain⟨⟨z0,z1,z2,z3⟩,⟨zf0,zf1,zf2,zf3⟩⟩:=four_of BQ.out
   go_simp
   have RX:=yH (H2.out.put4 GQ.out (.int .i64 la3) (.int .i64 at3) (.slice A3 n3 kk3) (.int .i64 sw3))
   refine hK.out _ _ RX.out (fun hH=> ?_)
   clear hK K
   try simp only[Act.put,yA,yB,yC]
   refine yW 15 21 rfl rfl (by kernel_rfl) (by rfl) hH ?_ (fun _ _ _=>id) ?_ ?_
   rotate_left
   ·rintro w' hr';obtain⟨x0,x1,x2,x3,x4,x5⟩:=(six_of (HC9.out.rel hr')).1;obtain⟨q0,q1,q2,q3⟩:=(four_of (HQ.out.rel hr')).1;go_simp;try with_reducible rfl
   try simp only[Act.put,yA,yB,yC]
   refine wpAnyH_done (by kernel_rfl) ?_ _
   go_wp2_with (fail)
   go_meet
   exact⟨rfl,RX⟩
 obtain⟨rfl,HV⟩:=hcut
 obtain⟨⟨x0,x1,x2,x3,x4,x5⟩,_⟩:=six_of (HC9.out.rel HV.out)
 obtain⟨⟨p_0,p_1,p_2,p_3⟩,_⟩:=four_of (HP9.out.rel HV.out)
 go_upto_region 12 with (go_at_call 15;(with_reducible refine(KD3.out _ A n kk (R9.out.trans HV.out).self (PA9.out.rel HV.out)).mono ?_);rintro e w11 ⟨A4,n4,kk4,rfl,_,h11⟩;have R11:=yH ((R9.out.trans HV.out).trans h11.out);clear h11)
 have R12:=yH (R11.out.alloc (.cells #[.int .i64 la4,.int .i64 at4,.slice A4 n4 kk4,.int .i64 sw4] 27))
 obtain⟨nb,hnb⟩:∃z,(d0&&d1)=z:=⟨_,rfl⟩
 have hgn:(!nb)=g:=by rw[←hnb];exact HG.out
 try rw[hnb]
 clear HG hd0 hd1 hnb
 cases nb
 all_goals
  obtain rfl:=hgn
  go_wp2_with (fail)
  go_ret
  exact⟨rfl,R12.out⟩
end Go.Proofs.YtjhjdiaomnpkmaaGreatDoor
