/- Plain mathematics of layer 15. -/

import Derived.Test.YtjhjdiaomnpkmaaGreatDoorZ26
set_option maxRecDepth 100000
set_option maxHeartbeats 8000000
set_option linter.unusedVariables false
set_option linter.unusedSimpArgs false
namespace Go.Proofs.YtjhjdiaomnpkmaaGreatDoor
open Go.Lib
theorem ring_len{c:Cf}{n:Nat}{s:PlS}(h:PInv c n s):(riP s.2.1).length=min s.2.2.length 3:=by rw[h.ring,lastR_len,List.length_map]
theorem ring_at{c:Cf}{n:Nat}{s:PlS}(h:PInv c n s)(i:Nat)(hi:i<(riP s.2.1).length):(riP s.2.1)[i]=(s.2.2[s.2.2.length-(riP s.2.1).length+i]'(by have:=ring_len h;omega)).1:=by
 have hl:=ring_len h
 have e:(riP s.2.1)[i]=(lastR (s.2.2.map (·.1)))[i]'(by rw[←h.ring];exact hi):=by congr 1;exact h.ring
 rw[e]
 unfold lastR
 rw[List.getElem_drop,List.getElem_map]
 congr 2
 rw[List.length_map]
 omega
end Go.Proofs.YtjhjdiaomnpkmaaGreatDoor

namespace Go.Proofs.YtjhjdiaomnpkmaaGreatDoor
open Go.RowKit Go.Lib
theorem PaceRing_at(H3:ConfOk3)(H:PaceOk)(r0 r1 r2 r3 r4 r5:Int)(zs:List (Int×Int))(AZ:Option Addr)(kz:Nat)(w:World)(hr:Rel w w)(hZ:PairsIn w AZ zs.length zs)(h0:i64 r0)(h1:i64 r1)(h2:i64 r2)(h3:i64 r3)(h4:i64 r4)(h5:i64 r5):
  Calls Tryz.prog 7 #[.agg #[.int .i64 r0,.int .i64 r1,.int .i64 r2,.int .i64 r3,.int .i64 r4,.int .i64 r5],.slice AZ zs.length kz] w fun e w'=>e= .returned (.bool true)∧Rel w w':=by
 have HR:=yH hr
 obtain⟨f,c,m,o,b,t,S,hS,hz,hf,⟨bf0,bf1,bc0,bc1,bm0,bm1,bo0,bo1,bb0,bb1⟩,hC⟩:=conf15_open r0 r1 r2 r3 r4 r5 h0 h1 h2 h3 h4 h5
 have HCo:=yH hC
 have HAw:=yH (fun(w:World)(hr:Rel w w)=>awake15_any H w hr)
 have HZ:=yH hZ
 obtain⟨⟨nv,⟨la,at_,L,sw⟩,l⟩,hpl⟩:∃s,playP (f,c,m,o,b,t) zs=s:=⟨_,rfl⟩
 have HInv0:=pinv_all hz zs
 rw[hpl] at HInv0
 have HI:=yH HInv0
 have HPlay:=yH (fun(w:World)(hr:Rel w w)(hZ:PairsIn w AZ zs.length zs)=>play15_any H3 H f c m o b t S hS hf hz (by omega) zs AZ kz la at_ sw L l (by rw[hpl]) w hr hZ)
 have HCk:=yH hz
 have hn:=ring_len HI.out
 have hri:=ring_at HI.out
 have hsw:=HI.out.swing
 have hfit:=HI.out.few
 obtain⟨n,hnL⟩:∃q,L.length=q:=⟨_,rfl⟩
 obtain⟨ll,hll⟩:∃q,l.length=q:=⟨_,rfl⟩
 replace hn:L.length=min l.length 3:=hn
 replace hsw:0≤sw∧sw≤max ((l.length:Int)-3) 0:=hsw
 replace hfit:l.length≤min zs.length 40:=hfit
 rw[hll] at hn hsw hfit
 rw[hnL] at hn
 have HRi:=yH (fun(i:Nat)(hi:i<n)=>show ∃(h1:i<L.length)(h2:ll-n+i<l.length),L[i]=(l[ll-n+i]).1 from⟨by omega,by omega,by
  have h1:i<L.length:=by omega
  have:=hri i h1
  have e:l.length-L.length+i=ll-n+i:=by omega
  rw[show L[i]=_ from this]
  show(l[l.length-L.length+i]).1=_
  congr 2⟩)
 have hmin:min (ll:Int) 3=(n:Int):=by omega
 have hmi2:(if (ll:Int)<3 then (ll:Int) else 3)=(n:Int):=by split<;>omega
 obtain⟨mx,hmx⟩:∃q,max ((ll:Int)-3) 0=q:=⟨_,rfl⟩
 rw[hmx] at hsw
 obtain⟨hs0,hs1⟩:=hsw
 have d1:decide (0≤sw)=true:=decide_eq_true hs0
 have d2:decide (sw≤mx)=true:=decide_eq_true hs1
 have hl40:ll≤40:=by omega
 have hn3:n≤3:=by omega
 have hnl:n≤ll:=by omega
 have HLL:=yH hll
 have HNL:=yH hnL
 clear H3 H hr hf hS hz hri hn hfit hll hnL hC h0 h1 h2 h3 h4 h5 hZ HInv0 hpl
 go_enter Tryz.func7,Tryz.ntmps7
 go_upto_region 1 with (fail)
 have HB0:=yH (Bk.new w 22 #[.int .i64 r0,.int .i64 r1,.int .i64 r2,.int .i64 r3,.int .i64 r4,.int .i64 r5])
 have R0:=yH (HR.out.alloc (.cells #[.int .i64 r0,.int .i64 r1,.int .i64 r2,.int .i64 r3,.int .i64 r4,.int .i64 r5] 22))
 obtain⟨W0,hW0⟩:∃W,w.alloc (.cells #[.int .i64 r0,.int .i64 r1,.int .i64 r2,.int .i64 r3,.int .i64 r4,.int .i64 r5] 22)=W:=⟨_,rfl⟩
 obtain⟨gR,hgR⟩:∃g,w.heap.size=g:=⟨_,rfl⟩
 rw[hW0] at HB0 R0
 rw[hgR] at HB0
 try rw[hW0]
 try rw[hgR]
 clear hW0 hgR
 go_upto_region 2 with (go_at_call 8;(with_reducible refine(HAw.out W0 R0.out.self).mono ?_);rintro e w1 ⟨rfl,h1⟩;have R1:=yH (R0.out.trans h1);have HB1:=yH (HB0.out.rel h1);clear h1)
 obtain⟨⟨r_0,r_1,r_2,r_3,r_4,r_5⟩,_⟩:=six_of HB1.out
 go_upto_region 3 with (first
  |(go_at_call 9;(with_reducible refine(HCo.out w1 R1.out.self).mono ?_);rintro e w2 ⟨rfl,h2⟩;have R2:=yH (R1.out.trans h2.out);clear h2)
  |(go_at_call 18;(with_reducible refine(HPlay.out w2 R2.out.self (HZ.out.rel15 R2.out)).mono ?_);rintro e w3 ⟨A,n0,k,D,kd,rfl,hPA,hRow,hkd0,hkd1,h3⟩;have R3:=yH (R2.out.trans h3);clear h3))
 obtain rfl:n=n0:=HNL.out.symm.trans hPA.1
 rw[HLL.out]
 have PA:=yH (hPA.rel (R3.out.self.alloc (.cells #[.int .i64 la,.int .i64 at_,.slice A n k,.int .i64 sw] 27)))
 have RowD:=yH (hRow.rel (R3.out.self.alloc (.cells #[.int .i64 la,.int .i64 at_,.slice A n k,.int .i64 sw] 27)))
 have HQ:=yH (Bk.new w3 27 #[.int .i64 la,.int .i64 at_,.slice A n k,.int .i64 sw])
 have R4:=yH (R3.out.alloc (.cells #[.int .i64 la,.int .i64 at_,.slice A n k,.int .i64 sw] 27))
 have hkk:n≤k∧k≤maxLen:=by have:=hPA.2.2;exact⟨by have h1:=this.1;have h2:=hPA.1;omega,this.2.1⟩
 obtain⟨hk0,hk1⟩:=hkk
 rw[HLL.out] at hkd0
 unfold maxLen at hk1 hkd1
 obtain⟨V,hV⟩:∃V,w3.alloc (.cells #[.int .i64 la,.int .i64 at_,.slice A n k,.int .i64 sw] 27)=V:=⟨_,rfl⟩
 obtain⟨gq,hgq⟩:∃g,w3.heap.size=g:=⟨_,rfl⟩
 rw[hV] at PA RowD HQ R4
 rw[hgq] at HQ
 try rw[hV]
 try rw[hgq]
 clear hV hgq hPA hRow HB0 HB1 R0 R1 R2 R3 HAw HCo HPlay r_0 r_1 r_2 r_3 r_4 r_5
 obtain⟨⟨q0,q1,q2,q3⟩,_⟩:=four_of HQ.out
 go_upto_block 0 with (fail)
 go_wp2_with (fail)
 go_loopw [9] (fun i wr=>∃j:Nat,i= .int .i64 (j:Int)∧j≤n∧Hid (Rel V wr)) (fun i _=>n-(RowKit.intOf i).toNat)
 case atStart=>exact⟨0,rfl,by omega,yH R4.out.self⟩
 case round=>
  obtain⟨j,rfl,hj,HW⟩:=hrel
  clear q0 q1 q2 q3
  obtain⟨⟨q0,q1,q2,q3⟩,_⟩:=four_of (HQ.out.rel HW.out)
  by_cases hlt:j<n
  ·obtain⟨h1,h2,he⟩:=HRi.out j hlt
   obtain⟨g,off,rfl,hc⟩:=ints_row ((PA.out.rel HW.out).2.2) (show 0<L.length by omega)
   obtain⟨g',off',rfl,hc'⟩:=row15_at (RowD.out.rel HW.out) (by omega)
   have px:wr.cell? ⟨g,off+j,none⟩=some (.int .i64 L[j]):=hc j h1
   have py:=(hc' (ll-n+j) h2).1
   obtain⟨x,hx⟩:∃x,L[j]=x:=⟨_,rfl⟩
   rw[←he,hx] at py
   rw[hx] at px
   obtain⟨q,hq⟩:∃q,ll-n+j=q:=⟨_,rfl⟩
   rw[hq] at py
   have hqi:(ll:Int)-(n:Int)+(j:Int)=(q:Int):=by omega
   have hq0:(0:Int)≤(q:Int):=by omega
   have hq1:(q:Int)<(ll:Int):=by omega
   have hij:(j:Int)<(n:Int):=by omega
   have hij0:(0:Int)≤(j:Int):=by omega
   have k5:(x !=x)=false:=by simp
   clear hc hc' hx he h1 h2 hq
   go_upto_region 9 with (fail)
   go_quiet (fail)
   all_goals
    go_wp2_with (fail)
    go_roundw
    case rel=>exact⟨j+1,by go_num,by omega,yH (HW.out.drewN _)⟩
    case measure=>simp[RowKit.intOf];omega
  ·obtain rfl:j=n:=by omega
   go_wp2_with (fail)
   go_ret
   exact⟨rfl,R4.out.trans HW.out⟩
end Go.Proofs.YtjhjdiaomnpkmaaGreatDoor
