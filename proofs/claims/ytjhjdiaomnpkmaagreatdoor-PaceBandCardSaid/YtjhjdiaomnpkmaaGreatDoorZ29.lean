/- Plain mathematics of layer 15. -/

import Derived.Test.YtjhjdiaomnpkmaaGreatDoorZ25
set_option maxRecDepth 100000
set_option maxHeartbeats 8000000
set_option linter.unusedVariables false
set_option linter.unusedSimpArgs false
namespace Go.Proofs.YtjhjdiaomnpkmaaGreatDoor
open Go.Lib
theorem band_once{c:Cf}{n:Nat}{s:PlS}(h:PInv c n s)(hb:bdC c=ceC c):s.2.2.length≤1:=by
 rcases Nat.lt_or_ge 1 s.2.2.length with hl|hl
 ·have ha:=(h.apart 0 hl).2.2
  have w0:=within_bd (h.within _ (List.getElem_mem (show 0<s.2.2.length by omega)))
  have w1:=within_bd (h.within _ (List.getElem_mem (show 0+1<s.2.2.length by omega)))
  omega
 ·exact hl
end Go.Proofs.YtjhjdiaomnpkmaaGreatDoor

namespace Go.Proofs.YtjhjdiaomnpkmaaGreatDoor
open Go.RowKit Go.Lib
theorem check_band15{f c m o b:Int}{t:List UInt8}(h:checkC (f,c,m,o,b,t)=0):checkC (f,c,m,o,c,t)=0:=by
 have h1:=check_zero.1 h
 have hn:1≤f∧f≤c∧c≤1000000000000∧0≤m∧m≤c∧0≤o∧o≤1048576∧0≤b∧b≤1000000000000:=nums_iff.1 h1.1
 exact check_zero.2 ⟨nums_iff.2 (show 1≤f∧f≤c∧c≤1000000000000∧0≤m∧m≤c∧0≤o∧o≤1048576∧0≤c∧c≤1000000000000 by omega),h1.2⟩
theorem check_cool15{f c m o b q:Int}{t:List UInt8}(h:checkC (f,c,m,o,b,t)=0)(h0:0≤q)(h1':q≤1048576):checkC (f,c,m,q,b,t)=0:=by
 have h1:=check_zero.1 h
 have hn:1≤f∧f≤c∧c≤1000000000000∧0≤m∧m≤c∧0≤o∧o≤1048576∧0≤b∧b≤1000000000000:=nums_iff.1 h1.1
 exact check_zero.2 ⟨nums_iff.2 (show 1≤f∧f≤c∧c≤1000000000000∧0≤m∧m≤c∧0≤q∧q≤1048576∧0≤b∧b≤1000000000000 by omega),h1.2⟩
theorem some_any15{c:Cf}{zs:List (Int×Int)}(hc:checkC c=0){nv:Int}{p:Pa15}{l:List (Int×Int)}(h:playP c zs=(nv,p,l)){N:Nat}(hN:zs.length=N):(0<N→0<l.length)∧l.length≤N:=by
 have hi:=pinv_all hc zs
 rw[h] at hi
 have h1:l.length≤min zs.length 40:=hi.few
 refine⟨fun h0=> ?_,by omega⟩
 have h2:l≠[]:=hi.any (by omega)
 exact List.length_pos_iff.2 h2
theorem PaceBand_at(H3:ConfOk3)(H:PaceOk)(r0 r1 r2 r3 r4 r5:Int)(zs:List (Int×Int))(AZ:Option Addr)(kz:Nat)(x:Int)(hx:i64 x)(w:World)(hr:Rel w w)(hZ:PairsIn w AZ zs.length zs)(h0:i64 r0)(h1:i64 r1)(h2:i64 r2)(h3:i64 r3)(h4:i64 r4)(h5:i64 r5):
  Calls Tryz.prog 6 #[.agg #[.int .i64 r0,.int .i64 r1,.int .i64 r2,.int .i64 r3,.int .i64 r4,.int .i64 r5],.slice AZ zs.length kz,.int .i64 x] w fun e w'=>e= .returned (.bool true)∧Rel w w':=by
 have HR:=yH hr
 obtain⟨f,c,m,o,b,t,S,hS,hz,hf,⟨bf0,bf1,bc0,bc1,bm0,bm1,bo0,bo1,bb0,bb1⟩,hC⟩:=conf15_open r0 r1 r2 r3 r4 r5 h0 h1 h2 h3 h4 h5
 have HCo:=yH hC
 have HAw:=yH (fun(w:World)(hr:Rel w w)=>awake15_any H w hr)
 have HZ:=yH hZ
 obtain⟨p,hp⟩:∃p,pk x 1000=p:=⟨_,rfl⟩
 have hpb:=pk_bd x 1000 (by omega)
 rw[hp] at hpb
 obtain⟨hp0,hp1⟩:=hpb
 have HPk:=yH hp
 obtain⟨q,hq⟩:∃q,o+p=q:=⟨_,rfl⟩
 have hqb:0≤q∧q≤2000:=by omega
 obtain⟨hq0,hq1⟩:=hqb
 have hz2:=check_band15 hz
 have hz3:=check_cool15 (q:=q) hz (by omega) (by omega)
 have hf2:CfFit (f,c,m,o,c,t):=⟨⟨hf.1.1,hf.1.2.1,hf.1.2.2.1,hf.1.2.2.2.1,hf.1.2.1⟩,hf.2⟩
 have hf3:CfFit (f,c,m,q,b,t):=⟨⟨hf.1.1,hf.1.2.1,hf.1.2.2.1,⟨by show(_:Int)≤q;omega,by show q≤(_:Int);omega⟩,hf.1.2.2.2.2⟩,hf.2⟩
 obtain⟨N,hN⟩:∃N,zs.length=N:=⟨_,rfl⟩
 obtain⟨⟨nv1,⟨la1,at1,L1,sw1⟩,l1⟩,hpl1⟩:∃s,playP (f,c,m,o,b,t) zs=s:=⟨_,rfl⟩
 have HP1:=yH (fun(w:World)(hr:Rel w w)(hZ:PairsIn w AZ zs.length zs)=>play15_any H3 H f c m o b t S hS hf hz (by omega) zs AZ kz la1 at1 sw1 L1 l1 (by rw[hpl1]) w hr hZ)
 have A1:=some_any15 hz hpl1 hN
 obtain⟨⟨nv2,⟨la2,at2,L2,sw2⟩,l2⟩,hpl2⟩:∃s,playP (f,c,m,o,c,t) zs=s:=⟨_,rfl⟩
 have HP2:=yH (fun(w:World)(hr:Rel w w)(hZ:PairsIn w AZ zs.length zs)=>play15_any H3 H f c m o c t S hS hf2 hz2 (by omega) zs AZ kz la2 at2 sw2 L2 l2 (by rw[hpl2]) w hr hZ)
 have A2:=some_any15 hz2 hpl2 hN
 obtain⟨⟨nv3,⟨la3,at3,L3,sw3⟩,l3⟩,hpl3⟩:∃s,playP (f,c,m,q,b,t) zs=s:=⟨_,rfl⟩
 have HP3:=yH (fun(w:World)(hr:Rel w w)(hZ:PairsIn w AZ zs.length zs)=>play15_any H3 H f c m q b t S hS hf3 hz3 (by omega) zs AZ kz la3 at3 sw3 L3 l3 (by rw[hpl3]) w hr hZ)
 have A3:=some_any15 hz3 hpl3 hN
 have hI3:=pinv_all hz3 zs
 have hI2:=pinv_all hz2 zs
 rw[hpl3] at hI3
 rw[hpl2] at hI2
 have hon:l2.length≤1:=band_once hI2 rfl
 have KR:=yH (fun(n k:Nat)(A:Option Addr)(w:World)(hr:Rel w w)(hp:PaAt w (la3,at3,L3,sw3) A n k)=>pright15 H (show rightP (la3,at3,L3,sw3)=true from hI3.right) w hr hp)
 obtain⟨n1,hn1⟩:∃n,l1.length=n:=⟨_,rfl⟩
 obtain⟨n2,hn2⟩:∃n,l2.length=n:=⟨_,rfl⟩
 obtain⟨n3,hn3⟩:∃n,l3.length=n:=⟨_,rfl⟩
 rw[hn1] at A1 HP1
 rw[hn2] at A2 HP2 hon
 rw[hn3] at A3 HP3
 rw[hN] at HP1 HP2 HP3 HZ
 obtain⟨mi,hmi⟩:∃q,min (n1:Int) 1=q:=⟨_,rfl⟩
 have hmi2:(if (n1:Int)<1 then (n1:Int) else 1)=mi:=by rw[←hmi];split<;>omega
 have e1:decide ((n2:Int)≤mi)=true:=decide_eq_true (by omega)
 have e2:decide ((n1:Int)≤(N:Int))=true:=decide_eq_true (by omega)
 obtain⟨g,hg⟩:∃g,decide (0<N)=g:=⟨_,rfl⟩
 have g1:decide ((0:Int)<(n1:Int))=g:=by rw[←hg,Bool.eq_iff_iff,decide_eq_true_eq,decide_eq_true_eq];omega
 have g2:decide ((0:Int)<(n2:Int))=g:=by rw[←hg,Bool.eq_iff_iff,decide_eq_true_eq,decide_eq_true_eq];omega
 have g3:decide ((0:Int)<(n3:Int))=g:=by rw[←hg,Bool.eq_iff_iff,decide_eq_true_eq,decide_eq_true_eq];omega
 have g1':decide (0<n1)=g:=by rw[←hg,Bool.eq_iff_iff,decide_eq_true_eq,decide_eq_true_eq];omega
 have g2':decide (0<n2)=g:=by rw[←hg,Bool.eq_iff_iff,decide_eq_true_eq,decide_eq_true_eq];omega
 have g3':decide (0<n3)=g:=by rw[←hg,Bool.eq_iff_iff,decide_eq_true_eq,decide_eq_true_eq];omega
 have e1':n1≤N:=A1.2
 have g4:(g==g)=true:=by simp
 have hN9:N≤9223372036854775807:=by rw[←hN];exact hZ.2.1
 rw[hN]
 clear H3 H hr hf hf2 hf3 hS hz hz2 hz3 hC h0 h1 h2 h3 h4 h5 hZ hp hpl1 hpl2 hpl3 hI2 hI3 A1 A2 A3 hn1 hn2 hn3 hg hon
 go_enter Tryz.func6,Tryz.ntmps6
 go_upto_region 1 with (fail)
 have HB0:=yH (Bk.new w 22 #[.int .i64 r0,.int .i64 r1,.int .i64 r2,.int .i64 r3,.int .i64 r4,.int .i64 r5])
 have R0:=yH (HR.out.alloc (.cells #[.int .i64 r0,.int .i64 r1,.int .i64 r2,.int .i64 r3,.int .i64 r4,.int .i64 r5] 22))
 obtain⟨W0,hW0⟩:∃W,w.alloc (.cells #[.int .i64 r0,.int .i64 r1,.int .i64 r2,.int .i64 r3,.int .i64 r4,.int .i64 r5] 22)=W:=⟨_,rfl⟩
 obtain⟨gR,hgR⟩:∃g,w.heap.size=g:=⟨_,rfl⟩
 rw[hW0] at HB0 R0
 rw[hgR] at HB0
 try rw[hW0]
 try rw[hgR]
 clear hW0 hgR
 go_upto_region 2 with (go_at_call 8;(with_reducible refine(HAw.out W0 R0.out.self).mono ?_);rintro e w1 ⟨rfl,h1⟩;have R1:=yH (R0.out.trans h1);have HB1:=yH (HB0.out.rel h1);clear h1)
 obtain⟨⟨r_0,r_1,r_2,r_3,r_4,r_5⟩,_⟩:=six_of HB1.out
 go_upto_region 3 with (go_at_call 9;(with_reducible refine(HCo.out w1 R1.out.self).mono ?_);rintro e w2 ⟨rfl,h2⟩;have R2:=yH (R1.out.trans h2.out);clear h2)
 clear HB0 HB1 R0 R1 HAw HCo r_0 r_1 r_2 r_3 r_4 r_5
 have HC3:=yH (Bk.new w2 24 #[.int .i64 f,.int .i64 c,.int .i64 m,.int .i64 o,.int .i64 b,.string S])
 have R3:=yH (R2.out.alloc (.cells #[.int .i64 f,.int .i64 c,.int .i64 m,.int .i64 o,.int .i64 b,.string S] 24))
 obtain⟨W3,hW3⟩:∃W,w2.alloc (.cells #[.int .i64 f,.int .i64 c,.int .i64 m,.int .i64 o,.int .i64 b,.string S] 24)=W:=⟨_,rfl⟩
 obtain⟨gC,hgC⟩:∃g,w2.heap.size=g:=⟨_,rfl⟩
 rw[hW3] at HC3 R3
 rw[hgC] at HC3
 have sgC:w.heap.size≤gC:=by rw[←hgC];exact R2.out.size
 try rw[hW3]
 try rw[hgC]
 clear hW3 hgC
 obtain⟨⟨x0,x1,x2,x3,x4,x5⟩,⟨xf0,xf1,xf2,xf3,xf4,xf5⟩⟩:=six_of HC3.out
 go_upto_region 4 with (fail)
 clear x0 x1 x2 x3 x4 x5 xf0 xf1 xf2 xf3 xf4 xf5
 have HD4:=yH (Bk.new W3 24 #[.int .i64 f,.int .i64 c,.int .i64 m,.int .i64 o,.int .i64 b,.string S])
 have HC4:=yH (HC3.out.alloc (.cells #[.int .i64 f,.int .i64 c,.int .i64 m,.int .i64 o,.int .i64 b,.string S] 24))
 have R4:=yH (R3.out.alloc (.cells #[.int .i64 f,.int .i64 c,.int .i64 m,.int .i64 o,.int .i64 b,.string S] 24))
 have nHC4:=Nat.ne_of_lt HC3.out.lt
 obtain⟨W4,hW4⟩:∃W,W3.alloc (.cells #[.int .i64 f,.int .i64 c,.int .i64 m,.int .i64 o,.int .i64 b,.string S] 24)=W:=⟨_,rfl⟩
 obtain⟨gD,hgD⟩:∃g,W3.heap.size=g:=⟨_,rfl⟩
 rw[hW4] at HD4 R4 HC4
 rw[hgD] at HD4 nHC4
 have sgD:w.heap.size≤gD:=by rw[←hgD];exact R3.out.size
 try rw[hW4]
 try rw[hgD]
 clear hW4 hgD
 obtain⟨⟨x0,x1,x2,x3,x4,x5⟩,⟨xf0,xf1,xf2,xf3,xf4,xf5⟩⟩:=six_of HC4.out
 obtain⟨⟨d_0,d_1,d_2,d_3,d_4,d_5⟩,⟨d_f0,d_f1,d_f2,d_f3,d_f4,d_f5⟩⟩:=six_of HD4.out
 go_upto_region 5 with (fail)
 clear x0 x1 x2 x3 x4 x5 xf0 xf1 xf2 xf3 xf4 xf5
 clear d_0 d_1 d_2 d_3 d_4 d_5 d_f0 d_f1 d_f2 d_f3 d_f4 d_f5
 have HD5:=yH (show Bk (W4.setCell ⟨gD,4,none⟩ (.int .i64 c)) gD 24 #[.int .i64 f,.int .i64 c,.int .i64 m,.int .i64 o,.int .i64 c,.string S] from HD4.out.set_ 4 (.int .i64 c))
 have HC5:=yH (HC4.out.far (p:=⟨gD,4,none⟩) nHC4 (.int .i64 c))
 have R5:=yH (R4.out.setCell (p:=⟨gD,4,none⟩) sgD (.int .i64 c))
 obtain⟨W5,hW5⟩:∃W,W4.setCell ⟨gD,4,none⟩ (.int .i64 c)=W:=⟨_,rfl⟩
 rw[hW5] at HD5 HC5 R5
 try rw[hW5]
 clear hW5
 obtain⟨⟨x0,x1,x2,x3,x4,x5⟩,⟨xf0,xf1,xf2,xf3,xf4,xf5⟩⟩:=six_of HC5.out
 go_upto_region 6 with (fail)
 clear x0 x1 x2 x3 x4 x5 xf0 xf1 xf2 xf3 xf4 xf5
 have HF6:=yH (Bk.new W5 24 #[.int .i64 f,.int .i64 c,.int .i64 m,.int .i64 o,.int .i64 b,.string S])
 have HC6:=yH (HC5.out.alloc (.cells #[.int .i64 f,.int .i64 c,.int .i64 m,.int .i64 o,.int .i64 b,.string S] 24))
 have HD6:=yH (HD5.out.alloc (.cells #[.int .i64 f,.int .i64 c,.int .i64 m,.int .i64 o,.int .i64 b,.string S] 24))
 have R6:=yH (R5.out.alloc (.cells #[.int .i64 f,.int .i64 c,.int .i64 m,.int .i64 o,.int .i64 b,.string S] 24))
 have nHC6:=Nat.ne_of_lt HC5.out.lt
 have nHD6:=Nat.ne_of_lt HD5.out.lt
 obtain⟨W6,hW6⟩:∃W,W5.alloc (.cells #[.int .i64 f,.int .i64 c,.int .i64 m,.int .i64 o,.int .i64 b,.string S] 24)=W:=⟨_,rfl⟩
 obtain⟨gF,hgF⟩:∃g,W5.heap.size=g:=⟨_,rfl⟩
 rw[hW6] at HF6 R6 HC6 HD6
 rw[hgF] at HF6 nHC6 nHD6
 have sgF:w.heap.size≤gF:=by rw[←hgF];exact R5.out.size
 try rw[hW6]
 try rw[hgF]
 clear hW6 hgF
 obtain⟨⟨x0,x1,x2,x3,x4,x5⟩,⟨xf0,xf1,xf2,xf3,xf4,xf5⟩⟩:=six_of HC6.out
 obtain⟨⟨f_0,f_1,f_2,f_3,f_4,f_5⟩,⟨f_f0,f_f1,f_f2,f_f3,f_f4,f_f5⟩⟩:=six_of HF6.out
 go_upto_region 6 with (fail)
 have w1:IntKind.i64.wrap (o+p)=q:=by rw[IntKind.wrap_i64];omega
 have w2':IntKind.i64.wrap q=q:=by rw[IntKind.wrap_i64];omega
 go_region_held3 (fun w'=>w'.cell? ⟨gC,3,none⟩=some (.int .i64 o))
  (first|exact x3|exact(HC6.out.far (p:=⟨gF,3,none⟩) nHC6 (.int .i64 q)).drew.cell 3)
  ((go_at_call 14;(with_reducible refine(pk15_as x 1000 p HPk hx (by omega) (by omega) _).mono ?_);rintro e w' ⟨rfl,rfl⟩))
 clear x0 x1 x2 x3 x4 x5 xf0 xf1 xf2 xf3 xf4 xf5
 clear f_0 f_1 f_2 f_3 f_4 f_5 f_f0 f_f1 f_f2 f_f3 f_f4 f_f5
 have nDF:=nHD6
 have HF7:=yH ((show Bk (W6.setCell ⟨gF,3,none⟩ (.int .i64 q)) gF 24 #[.int .i64 f,.int .i64 c,.int .i64 m,.int .i64 q,.int .i64 b,.string S] from HF6.out.set_ 3 (.int .i64 q)).drew)
 have HC7:=yH ((HC6.out.far (p:=⟨gF,3,none⟩) nHC6 (.int .i64 q)).drew)
 have HD7:=yH ((HD6.out.far (p:=⟨gF,3,none⟩) nHD6 (.int .i64 q)).drew)
 have R7:=yH ((R6.out.setCell (p:=⟨gF,3,none⟩) sgF (.int .i64 q)).drew)
 obtain⟨W7,hW7⟩:∃W,(W6.setCell ⟨gF,3,none⟩ (.int .i64 q)).drew=W:=⟨_,rfl⟩
 rw[hW7] at HF7 HC7 HD7 R7
 try rw[hW7]
 clear hW7
 clear HC3 HC4 HC5 HC6 HD4 HD5 HD6 HF6 R2 R3 R4 R5 R6
 obtain⟨⟨x0,x1,x2,x3,x4,x5⟩,⟨xf0,xf1,xf2,xf3,xf4,xf5⟩⟩:=six_of HC7.out
 go_upto_region 8 with (go_at_call 18;(with_reducible refine(HP1.out W7 R7.out.self (HZ.out.rel15 R7.out)).mono ?_);rintro e w8 ⟨A1,m1,k1,D1,kd1,rfl,_,_,kl1,kh1,h8⟩;have R8:=yH (R7.out.trans h8);have HD8:=yH (HD7.out.rel h8);have HF8:=yH (HF7.out.rel h8);clear h8)
 clear x0 x1 x2 x3 x4 x5 xf0 xf1 xf2 xf3 xf4 xf5
 have HQ1:=yH (Bk.new w8 27 #[.int .i64 la1,.int .i64 at1,.slice A1 m1 k1,.int .i64 sw1])
 have HD9:=yH (HD8.out.alloc (.cells #[.int .i64 la1,.int .i64 at1,.slice A1 m1 k1,.int .i64 sw1] 27))
 have HF9:=yH (HF8.out.alloc (.cells #[.int .i64 la1,.int .i64 at1,.slice A1 m1 k1,.int .i64 sw1] 27))
 have R9:=yH (R8.out.alloc (.cells #[.int .i64 la1,.int .i64 at1,.slice A1 m1 k1,.int .i64 sw1] 27))
 have nHD9:=Nat.ne_of_lt HD8.out.lt
 have nHF9:=Nat.ne_of_lt HF8.out.lt
 obtain⟨W9,hW9⟩:∃W,w8.alloc (.cells #[.int .i64 la1,.int .i64 at1,.slice A1 m1 k1,.int .i64 sw1] 27)=W:=⟨_,rfl⟩
 obtain⟨gQ1,hgQ1⟩:∃g,w8.heap.size=g:=⟨_,rfl⟩
 rw[hW9] at HQ1 R9 HD9 HF9
 rw[hgQ1] at HQ1 nHD9 nHF9
 have sgQ1:w.heap.size≤gQ1:=by rw[←hgQ1];exact R8.out.size
 try rw[hW9]
 try rw[hgQ1]
 clear hW9 hgQ1
 obtain⟨⟨x0,x1,x2,x3,x4,x5⟩,⟨xf0,xf1,xf2,xf3,xf4,xf5⟩⟩:=six_of HD9.out
 go_upto_region 9 with (go_at_call 18;(with_reducible refine(HP2.out W9 R9.out.self (HZ.out.rel15 R9.out)).mono ?_);rintro e w10 ⟨A2,m2,k2,D2,kd2,rfl,_,_,kl2,kh2,h10⟩;have R10:=yH (R9.out.trans h10);have HF10:=yH (HF9.out.rel h10);clear h10)
 clear x0 x1 x2 x3 x4 x5 xf0 xf1 xf2 xf3 xf4 xf5
 have HQ2:=yH (Bk.new w10 27 #[.int .i64 la2,.int .i64 at2,.slice A2 m2 k2,.int .i64 sw2])
 have HF11:=yH (HF10.out.alloc (.cells #[.int .i64 la2,.int .i64 at2,.slice A2 m2 k2,.int .i64 sw2] 27))
 have R11:=yH (R10.out.alloc (.cells #[.int .i64 la2,.int .i64 at2,.slice A2 m2 k2,.int .i64 sw2] 27))
 have nHF11:=Nat.ne_of_lt HF10.out.lt
 obtain⟨W11,hW11⟩:∃W,w10.alloc (.cells #[.int .i64 la2,.int .i64 at2,.slice A2 m2 k2,.int .i64 sw2] 27)=W:=⟨_,rfl⟩
 obtain⟨gQ2,hgQ2⟩:∃g,w10.heap.size=g:=⟨_,rfl⟩
 rw[hW11] at HQ2 R11 HF11
 rw[hgQ2] at HQ2 nHF11
 have sgQ2:w.heap.size≤gQ2:=by rw[←hgQ2];exact R10.out.size
 try rw[hW11]
 try rw[hgQ2]
 clear hW11 hgQ2
 obtain⟨⟨x0,x1,x2,x3,x4,x5⟩,⟨xf0,xf1,xf2,xf3,xf4,xf5⟩⟩:=six_of HF11.out
 go_upto_region 10 with (go_at_call 18;(with_reducible refine(HP3.out W11 R11.out.self (HZ.out.rel15 R11.out)).mono ?_);rintro e w12 ⟨A3,m3,k3,D3,kd3,rfl,hPA3,_,kl3,kh3,h12⟩;have R12:=yH (R11.out.trans h12);have PA3:=yH hPA3;clear h12 hPA3)
 clear x0 x1 x2 x3 x4 x5 xf0 xf1 xf2 xf3 xf4 xf5
 have HQ3:=yH (Bk.new w12 27 #[.int .i64 la3,.int .i64 at3,.slice A3 m3 k3,.int .i64 sw3])
 have R13:=yH (R12.out.alloc (.cells #[.int .i64 la3,.int .i64 at3,.slice A3 m3 k3,.int .i64 sw3] 27))
 obtain⟨W13,hW13⟩:∃W,w12.alloc (.cells #[.int .i64 la3,.int .i64 at3,.slice A3 m3 k3,.int .i64 sw3] 27)=W:=⟨_,rfl⟩
 obtain⟨gQ3,hgQ3⟩:∃g,w12.heap.size=g:=⟨_,rfl⟩
 rw[hW13] at HQ3 R13
 rw[hgQ3] at HQ3
 have sgQ3:w.heap.size≤gQ3:=by rw[←hgQ3];exact R12.out.size
 try rw[hW13]
 try rw[hgQ3]
 have PA4:=yH (PA3.out.rel (R12.out.self.alloc (.cells #[.int .i64 la3,.int .i64 at3,.slice A3 m3 k3,.int .i64 sw3] 27)))
 rw[show w12.alloc (.cells #[.int .i64 la3,.int .i64 at3,.slice A3 m3 k3,.int .i64 sw3] 27)=W13 from hW13] at PA4
 clear hW13 hgQ3
 unfold maxLen at kh1 kh2 kh3
 obtain⟨⟨q_0,q_1,q_2,q_3⟩,_⟩:=four_of HQ3.out
 go_wp2_with (go_at_call 10;(with_reducible refine(KR.out m3 k3 A3 W13 R13.out.self PA4.out).mono ?_);rintro e w14 ⟨rfl,r14⟩;have R14:=yH (R13.out.trans r14.out);clear r14)
 go_ret
 exact⟨rfl,R14.out⟩
end Go.Proofs.YtjhjdiaomnpkmaaGreatDoor
