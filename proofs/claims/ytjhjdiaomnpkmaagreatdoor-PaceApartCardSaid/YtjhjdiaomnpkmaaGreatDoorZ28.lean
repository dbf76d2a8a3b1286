/- The law on prices that are apart. -/

import Derived.Test.YtjhjdiaomnpkmaaGreatDoorZ26
import Derived.Test.YtjhjdiaomnpkmaaGreatDoorZ27
set_option maxRecDepth 100000
set_option maxHeartbeats 8000000
set_option linter.unusedVariables false
set_option linter.unusedSimpArgs false
namespace Go.Proofs.YtjhjdiaomnpkmaaGreatDoor
open Go.RowKit Go.Lib
theorem PaceApart_at(H3:ConfOk3)(H:PaceOk)(r0 r1 r2 r3 r4 r5:Int)(zs:List (Int×Int))(AZ:Option Addr)(kz:Nat)(w:World)(hr:Rel w w)(hZ:PairsIn w AZ zs.length zs)(h0:i64 r0)(h1:i64 r1)(h2:i64 r2)(h3:i64 r3)(h4:i64 r4)(h5:i64 r5):
  Calls Tryz.prog 4 #[.agg #[.int .i64 r0,.int .i64 r1,.int .i64 r2,.int .i64 r3,.int .i64 r4,.int .i64 r5],.slice AZ zs.length kz] w fun e w'=>e= .returned (.bool true)∧Rel w w':=by
 have HR:=yH hr
 obtain⟨f,c,m,o,b,t,S,hS,hz,hf,⟨bf0,bf1,bc0,bc1,bm0,bm1,bo0,bo1,bb0,bb1⟩,hC⟩:=conf15_open r0 r1 r2 r3 r4 r5 h0 h1 h2 h3 h4 h5
 have HCo:=yH hC
 have HAw:=yH (fun(w:World)(hr:Rel w w)=>awake15_any H w hr)
 have HZ:=yH hZ
 obtain⟨⟨nv,⟨la,at_,L,sw⟩,l⟩,hpl⟩:∃s,playP (f,c,m,o,b,t) zs=s:=⟨_,rfl⟩
 have HInv0:=pinv_all hz zs
 rw[hpl] at HInv0
 have HI:=yH HInv0
 have HPlay:=yH (fun(w:World)(hr:Rel w w)(hZ:PairsIn w AZ zs.length zs)=>play15_any H3 H f c m o b t S hS hf hz (by omega) zs AZ kz la at_ sw L l (by rw[hpl]) w hr hZ)
 have HCk:=yH hz
 have hti:=playP_ticks (f,c,m,o,b,t) zs
 rw[hpl] at hti
 have HTi:=yH (show ∀x∈l,0≤x.2∧x.2≤320 from hti)
 obtain⟨ll,hll⟩:∃q,l.length=q:=⟨_,rfl⟩
 have hfit:l.length≤min zs.length 40:=HI.out.few
 rw[hll] at hfit
 have hl40:ll≤40:=by omega
 have HLL:=yH hll
 have KW:=yH (fun(p:Int)(hp:i64 p)(E:Bool)(hE:withinC (f,c,m,o,b,t) p=E) (w:World) (hr:Rel w w)=>cwit15 H3 hS hf hp hE w hr)
 have KR:=yH (fun(n k:Nat)(A:Option Addr)(w:World)(hr:Rel w w)(hp:PaAt w (la,at_,L,sw) A n k)=>pright15 H (show rightP (la,at_,L,sw)=true from HI.out.right) w hr hp)
 clear H3 H hr hf hS hz hfit hll hti hC h0 h1 h2 h3 h4 h5 hZ HInv0 hpl
 go_enter Tryz.func4,Tryz.ntmps4
 go_upto_region 1 with (fail)
 have HB0:=yH (Bk.new w 22 #[.int .i64 r0,.int .i64 r1,.int .i64 r2,.int .i64 r3,.int .i64 r4,.int .i64 r5])
 have R0:=yH (HR.out.alloc (.cells #[.int .i64 r0,.int .i64 r1,.int .i64 r2,.int .i64 r3,.int .i64 r4,.int .i64 r5] 22))
 obtain⟨W0,hW0⟩:∃W,w.alloc (.cells #[.int .i64 r0,.int .i64 r1,.int .i64 r2,.int .i64 r3,.int .i64 r4,.int .i64 r5] 22)=W:=⟨_,rfl⟩
 obtain⟨gR,hgR⟩:∃g,w.heap.size=g:=⟨_,rfl⟩
 rw[hW0] at HB0 R0
 rw[hgR] at HB0
 try rw[hW0]
 try rw[hgR]
 clear hW0 hgR
 go_upto_region 2 with (go_at_call 8;(with_reducible refine(HAw.out W0 R0.out.self).mono ?_);rintro e w1 ⟨rfl,h1⟩;have R1:=yH (R0.out.trans h1);have HB1:=yH (HB0.out.rel h1);clear h1)
 obtain⟨⟨r_0,r_1,r_2,r_3,r_4,r_5⟩,_⟩:=six_of HB1.out
 go_upto_region 3 with (go_at_call 9;(with_reducible refine(HCo.out w1 R1.out.self).mono ?_);rintro e w2 ⟨rfl,h2⟩;have R2:=yH (R1.out.trans h2.out);clear h2)
 have HC3:=yH (Bk.new w2 24 #[.int .i64 f,.int .i64 c,.int .i64 m,.int .i64 o,.int .i64 b,.string S])
 have R3:=yH (R2.out.alloc (.cells #[.int .i64 f,.int .i64 c,.int .i64 m,.int .i64 o,.int .i64 b,.string S] 24))
 obtain⟨W3,hW3⟩:∃W,w2.alloc (.cells #[.int .i64 f,.int .i64 c,.int .i64 m,.int .i64 o,.int .i64 b,.string S] 24)=W:=⟨_,rfl⟩
 obtain⟨gC,hgC⟩:∃g,w2.heap.size=g:=⟨_,rfl⟩
 rw[hW3] at HC3 R3
 rw[hgC] at HC3
 try rw[hW3]
 try rw[hgC]
 clear hW3 hgC HB0 HB1 R0 R1 R2 HAw HCo r_0 r_1 r_2 r_3 r_4 r_5
 obtain⟨⟨x0,x1,x2,x3,x4,x5⟩,_⟩:=six_of HC3.out
 go_upto_region 4 with (go_at_call 18;(with_reducible refine(HPlay.out W3 R3.out.self (HZ.out.rel15 R3.out)).mono ?_);rintro e w4 ⟨A,n,k,D,kd,rfl,hPA,hRow,hkd0,hkd1,h4⟩;have R4:=yH (R3.out.trans h4);have HC4:=yH (HC3.out.rel h4);clear h4)
 clear x0 x1 x2 x3 x4 x5
 have AL:=yH (R4.out.self.alloc (.cells #[.int .i64 la,.int .i64 at_,.slice A n k,.int .i64 sw] 27))
 have PA:=yH (hPA.rel AL.out)
 have RowD:=yH (hRow.rel AL.out)
 have HC:=yH (HC4.out.rel AL.out)
 have HQ:=yH (Bk.new w4 27 #[.int .i64 la,.int .i64 at_,.slice A n k,.int .i64 sw])
 have R5:=yH (R4.out.trans AL.out)
 rw[HLL.out] at hkd0
 rw[HLL.out]
 unfold maxLen at hkd1
 obtain⟨V,hV⟩:∃V,w4.alloc (.cells #[.int .i64 la,.int .i64 at_,.slice A n k,.int .i64 sw] 27)=V:=⟨_,rfl⟩
 obtain⟨gq,hgq⟩:∃g,w4.heap.size=g:=⟨_,rfl⟩
 rw[hV] at PA RowD HQ HC R5
 rw[hgq] at HQ
 try rw[hV]
 try rw[hgq]
 clear hV hgq hPA hRow HC3 HC4 R3 R4 AL HPlay
 go_upto_block 0 with (fail)
 go_cut [] (fun wx=>Hid (Rel V wx))
 case first=>
  go_wp2_with (fail)
  go_loopw [9] (fun i wr=>∃j:Nat,i= .int .i64 (j:Int)∧j≤ll∧Hid (Rel V wr)) (fun i _=>ll-(RowKit.intOf i).toNat)
  case atStart=>exact⟨0,rfl,by omega,yH R5.out.self⟩
  case round=>
   obtain⟨j,rfl,hj,HW⟩:=hrel
   by_cases hlt:j<ll
   ·have hjl:j<l.length:=by rw[HLL.out];exact hlt
    obtain⟨g,off,rfl,hc⟩:=row15_at RowD.out (show 0<l.length by omega)
    obtain⟨px,tx⟩:=hc j hjl
    obtain⟨x,hx⟩:∃x,l[j].1=x:=⟨_,rfl⟩
    obtain⟨y,hy⟩:∃x,l[j].2=x:=⟨_,rfl⟩
    have hwi:=HI.out.within _ (List.getElem_mem hjl)
    have hyb:=HTi.out _ (List.getElem_mem hjl)
    replace hwi:withinC (f,c,m,o,b,t) x=true:=by rw[←hx];exact hwi
    rw[hy] at hyb
    rw[hx] at px
    rw[hy] at tx
    have hxb:=within_bd hwi
    have hx0:1≤x:=hxb.1
    have hx1:x≤1000000000000:=hxb.2.1
    obtain⟨y0,y1⟩:=hyb
    have KWj:=yH (fun(w:World)(hr:Rel w w)=>KW.out x ⟨by omega,by omega⟩ true hwi w hr)
    have PX:=yH px
    have TX:=yH tx
    have hij:(j:Int)<(ll:Int):=by omega
    have hij0:(0:Int)≤(j:Int):=by omega
    have HLTg:=yH (blk_of_cell px)
    clear hwi hxb px tx
    go_upto_region 7 with (fail)
    refine wp_region_held_drew (S:=(fun w'=>Rel wr w')) (by kernel_rfl) HW.out.self.drew (fun hH=> ?_)
    refine yL [0,1,2,3,4,5] (by kernel_rfl) hH (fun _ _ _ _ _=>id) ?_
    iterate 6
     refine yS rfl rfl (by rfl) ?_ ?_ ?_
     rotate_left
     ·rintro w' hr';obtain⟨x0,x1,x2,x3,x4,x5⟩:=(six_of (HC.out.rel (HW.out.trans hr'))).1;have px':=((HW.out.trans hr').2.cell (p:=⟨g,off+j*2,none⟩) HLTg.out).trans PX.out;go_simp;try with_reducible rfl
     try simp only[Act.put,yA,yB,yC]
    refine yZ ?_
    refine held_one (j:=6) (by kernel_rfl) rfl (fun K hK=> ?_)
    try simp only[yD,yE,yF]
    rw[if_pos (by rfl)]
    go_simp
    have HH:=yH hH
    go_at_call 19;(with_reducible refine(KWj.out _ HH.out.self).mono ?_);rintro e w6 ⟨rfl,r6⟩
    refine hK.out _ _ (HH.out.trans r6.out) (fun hH=> ?_)
    clear hK K
    try simp only[Act.put,yA,yB,yC]
    refine yW 7 32 rfl rfl (by kernel_rfl) (by rfl) hH ?_ (fun _ _ _=>id) ?_ ?_
    rotate_left
    ·rintro w' hr';obtain⟨x0,x1,x2,x3,x4,x5⟩:=(six_of (HC.out.rel (HW.out.trans hr'))).1;have px':=((HW.out.trans hr').2.cell (p:=⟨g,off+j*2,none⟩) HLTg.out).trans PX.out;go_simp;try with_reducible rfl
    try simp only[Act.put,yA,yB,yC]
    refine wpAnyH_done (by kernel_rfl) ?_ _
    have HW7:=yH hH
    clear hH
    by_cases hj0:j=0
    ·subst hj0
     go_upto_region 9 with (fail)
     refine wp_region_held_drew (S:=(fun w'=>Rel V w')) (by kernel_rfl) (HW.out.trans HW7.out).drew (fun hH=> ?_)
     refine yL [0,1,2,3,4,5,6,7,8,9,10,11,12,13,14,15,16,17,18,19,20,21,22,23,24,25,26,27,28,29,30,31,32,33,34,35,36,37,38,39,40,41,42,43,44,45,46,47,48,49,50,51,52,53,54,55,56,57,58,59,60,61,62] (by kernel_rfl) hH (fun _ _ _ _ _=>id) ?_
     iterate 3
      refine yS rfl rfl (by rfl) ?_ ?_ ?_
      rotate_left
      ·rintro w' hr';have h0:=hr';go_simp;try with_reducible rfl
      try simp only[Act.put,yA,yB,yC]
     iterate 59
      refine yV rfl rfl (by rfl) ?_
      try simp only[Act.put,yA,yB,yC]
     refine yS rfl rfl (by rfl) ?_ ?_ ?_
     rotate_left
     ·rintro w' hr';have h0:=hr';go_simp;try with_reducible rfl
     try simp only[Act.put,yA,yB,yC]
     refine yZ ?_
     refine wpAnyH_done (by kernel_rfl) ?_ _
     go_wp2_with (fail)
     go_roundw
     case rel=>exact⟨0+1,by go_num,by omega,yH hH⟩
     case measure=>simp[RowKit.intOf];omega
    ·obtain⟨e,he⟩:∃e,j=e+1:=⟨j-1,by omega⟩
     have hel:e<l.length:=by omega
     obtain⟨pu,tu⟩:=hc e hel
     obtain⟨u,hu⟩:∃x,l[e].1=x:=⟨_,rfl⟩
     obtain⟨v,hv⟩:∃x,l[e].2=x:=⟨_,rfl⟩
     have hwu:=HI.out.within _ (List.getElem_mem hel)
     have hvb:=HTi.out _ (List.getElem_mem hel)
     replace hwu:withinC (f,c,m,o,b,t) u=true:=by rw[←hu];exact hwu
     rw[hv] at hvb
     rw[hu] at pu
     rw[hv] at tu
     have hub:=within_bd hwu
     have hu0:1≤u:=hub.1
     have hu1:u≤1000000000000:=hub.2.1
     obtain⟨v0,v1⟩:=hvb
     have hap:o≤y-v∧x≠u∧b<max (x-u) (u-x):=by
      have h1:=HI.out.apart e (by show e+1<l.length;omega)
      have h2:o≤(l[e+1]'(by omega)).2-l[e].2∧(l[e+1]'(by omega)).1≠l[e].1∧b<max ((l[e+1]'(by omega)).1-l[e].1) (l[e].1-(l[e+1]'(by omega)).1):=h1
      have h3:l[e+1]'(by omega)=l[j]:=by congr 1;exact he.symm
      rw[h3,hx,hy,hu,hv] at h2
      exact h2
     obtain⟨ha1,ha2,ha3⟩:=hap
     have PU:=yH pu
     have TU:=yH tu
     have i1:(j:Int)-1=(e:Int):=by omega
     have i2:(0:Int)≤(e:Int):=by omega
     have i3:(e:Int)<(ll:Int):=by omega
     have i4:decide ((0:Int)<(j:Int))=true:=decide_eq_true (by omega)
     have i5:decide (0<j)=true:=decide_eq_true (by omega)
     have w1:IntKind.i64.wrap (y-v)=y-v:=by rw[IntKind.wrap_i64];omega
     have w2:IntKind.i64.wrap (x-u)=x-u:=by rw[IntKind.wrap_i64];omega
     have w3:IntKind.i64.wrap (u-x)=u-x:=by rw[IntKind.wrap_i64];omega
     have w4:IntKind.i64.wrap (j:Int)=(j:Int):=by rw[IntKind.wrap_i64];omega
     have w5:IntKind.i64.wrap (e:Int)=(e:Int):=by rw[IntKind.wrap_i64];omega
     obtain⟨mm,hmm⟩:∃q,max (x-u) (u-x)=q:=⟨_,rfl⟩
     rw[hmm] at ha3
     have c1:decide (y-v<o)=false:=decide_eq_false (by omega)
     have c2:(x==u)=false:=by simpa using ha2
     have c3:decide (mm≤b)=false:=decide_eq_false (by omega)
     clear hwu hub pu tu he ha1 ha2 ha3 hu hv
     go_upto_region 9 with (fail)
     refine wp_region_held_drew (S:=(fun w'=>Rel V w')) (by kernel_rfl) (HW.out.trans HW7.out).drew (fun hH=> ?_)
     refine yL [0,1,2,3,4,5,6,7,8,9,10,11,12,13,14,15,16,17,18,19,20,21,22,23,24,25,26,27,28,29,30,31,32,33,34,35,36,37,38,39,40,41,42,43,44,45,46,47,48,49,50,51,52,53,54,55,56,57,58,59,60,61,62] (by kernel_rfl) hH (fun _ _ _ _ _=>id) ?_
     iterate 63
      refine yS rfl rfl (by rfl) ?_ ?_ ?_
      rotate_left
      ·rintro w' hr';obtain⟨x0,x1,x2,x3,x4,x5⟩:=(six_of (HC.out.rel (hr'))).1;have px':=(hr'.2.cell (p:=⟨g,off+j*2,none⟩) HLTg.out).trans PX.out;have tx':=(hr'.2.cell (p:=⟨g,off+j*2+1,none⟩) HLTg.out).trans TX.out;have pu':=(hr'.2.cell (p:=⟨g,off+e*2,none⟩) HLTg.out).trans PU.out;have tu':=(hr'.2.cell (p:=⟨g,off+e*2+1,none⟩) HLTg.out).trans TU.out;go_simp;try with_reducible rfl
      try simp only[Act.put,yA,yB,yC]
     refine yZ ?_
     refine wpAnyH_done (by kernel_rfl) ?_ _
     go_wp2_with (fail)
     go_roundw
     case rel=>exact⟨j+1,by go_num,by omega,yH hH⟩
     case measure=>simp[RowKit.intOf];omega
   ·obtain rfl:j=ll:=by omega
    go_wp2_with (fail)
    go_meet
    exact HW
 have HV:=hcut
 clear hcut
 have PAc:=yH (PA.out.rel HV.out)
 have RV:=yH (R5.out.trans HV.out)
 by_cases hl0:ll=0
 ·subst hl0
  have hle:l=[]:=List.length_eq_zero_iff.1 HLL.out
  have hno:(la,at_,L,sw)=noP:=HI.out.none hle
  have hla:la=0:=congrArg Prod.fst hno
  subst hla
  clear hle hno
  obtain⟨⟨q0,q1,q2,q3⟩,_⟩:=four_of (HQ.out.rel HV.out)
  go_wp2_with (go_at_call 10;(with_reducible refine(KR.out n k A wc RV.out.self PAc.out).mono ?_);rintro e w7 ⟨rfl,r7⟩)
  go_ret
  exact⟨rfl,RV.out.trans r7.out⟩
 ·obtain⟨e,he⟩:∃e,ll=e+1:=⟨ll-1,by omega⟩
  have hne:l≠[]:=fun h=>by rw[h] at HLL;exact hl0 HLL.out.symm
  have hlast:=HI.out.some hne
  have hlen:=HLL.out
  have hel:e<l.length:=by omega
  have hlast2:l[e]=(la,at_):=by
   have h1:l.getLast hne=(la,at_):=hlast.1
   rw[List.getLast_eq_getElem] at h1
   rw[←h1]
   congr 1
   omega
  obtain⟨g,off,rfl,hc⟩:=row15_at RowD.out (show 0<l.length by omega)
  obtain⟨pu,tu⟩:=hc e hel
  rw[hlast2] at pu tu
  have HLTg:=yH (blk_of_cell pu)
  have PU:=yH (show V.cell? ⟨g,off+e*2,none⟩=some (.int .i64 la) from pu)
  have TU:=yH (show V.cell? ⟨g,off+e*2+1,none⟩=some (.int .i64 at_) from tu)
  have i1:(ll:Int)-1=(e:Int):=by omega
  have i2:(0:Int)≤(e:Int):=by omega
  have i3:(e:Int)<(ll:Int):=by omega
  have i4:((ll:Int)==0)=false:=by rw[Bool.eq_false_iff];simp;omega
  have i5:(ll==0)=false:=by rw[Bool.eq_false_iff];simp;omega
  have w5:IntKind.i64.wrap (e:Int)=(e:Int):=by rw[IntKind.wrap_i64];omega
  have c1:(la==la)=true:=by simp
  have c2:(at_==at_)=true:=by simp
  clear hlast hlast2 hlen hel hc pu tu he hl0
  go_upto_region 13 with (fail)
  refine wp_region_held_drew (S:=(fun w'=>Rel wc w')) (by kernel_rfl) HV.out.self.drew (fun hH=> ?_)
  refine yL [0,1,2] (by kernel_rfl) hH (fun _ _ _ _ _=>id) ?_
  iterate 3
   refine yS rfl rfl (by rfl) ?_ ?_ ?_
   rotate_left
   ·rintro w' hr';obtain⟨q0,q1,q2,q3⟩:=(four_of (HQ.out.rel (HV.out.trans (hr')))).1;have pu':=((HV.out.trans hr').2.cell (p:=⟨g,off+e*2,none⟩) HLTg.out).trans PU.out;have tu':=((HV.out.trans hr').2.cell (p:=⟨g,off+e*2+1,none⟩) HLTg.out).trans TU.out;go_simp;try with_reducible rfl
   try simp only[Act.put,yA,yB,yC]
  refine yZ ?_
  refine held_one (j:=3) (by kernel_rfl) rfl (fun K hK=> ?_)
  try simp only[yD,yE,yF]
  rw[if_pos (by rfl)]
  go_simp
  have HH:=yH hH
  go_at_call 10;(with_reducible refine(KR.out n k A _ HH.out.self (PAc.out.rel HH.out)).mono ?_);rintro e7 w7 ⟨rfl,r7⟩
  refine hK.out _ _ (HH.out.trans r7.out) (fun hH=> ?_)
  clear hK K
  try simp only[Act.put,yA,yB,yC]
  refine yL [4,5,6,7,8,9,10,11,12,13,14,15,16,17,18,19,20,21,22,23,24,25,26,27,28,29] (by kernel_rfl) hH (fun _ _ _ _ _=>id) ?_
  iterate 26
   refine yS rfl rfl (by rfl) ?_ ?_ ?_
   rotate_left
   ·rintro w' hr';obtain⟨q0,q1,q2,q3⟩:=(four_of (HQ.out.rel (HV.out.trans (hr')))).1;have pu':=((HV.out.trans hr').2.cell (p:=⟨g,off+e*2,none⟩) HLTg.out).trans PU.out;have tu':=((HV.out.trans hr').2.cell (p:=⟨g,off+e*2+1,none⟩) HLTg.out).trans TU.out;go_simp;try with_reducible rfl
   try simp only[Act.put,yA,yB,yC]
  refine yZ ?_
  refine wpAnyH_done (by kernel_rfl) ?_ _
  go_wp2_with (fail)
  go_ret
  exact⟨rfl,RV.out.trans hH⟩
end Go.Proofs.YtjhjdiaomnpkmaaGreatDoor
