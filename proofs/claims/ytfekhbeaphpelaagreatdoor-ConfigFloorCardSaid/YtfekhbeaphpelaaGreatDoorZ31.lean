/- The law on floors and ceilings, walked. -/

import Derived.Test.YtfekhbeaphpelaaGreatDoorZ12
import Derived.Test.YtfekhbeaphpelaaGreatDoorZ26
import Derived.Test.YtfekhbeaphpelaaGreatDoorZ27
import Derived.Test.YtfekhbeaphpelaaGreatDoorZ28
set_option maxRecDepth 100000
set_option maxHeartbeats 8000000
namespace Go.Proofs.YtfekhbeaphpelaaGreatDoor
open Go.RowKit Go.Lib
set_option linter.unusedVariables false
set_option linter.unusedSimpArgs false
theorem floor_math{f c o b FD CD:Int}{t:List UInt8}(ht:textE t=0)(h1:1≤f)(h2:f≤FD)(h3:FD≤c)(h4:f≤CD)(h5:CD≤c)(h6:c≤3500)(o0:0≤o)(o1:o≤12)(b0:0≤b)(b1:b≤60)(os:List Of):∃(x y z:Int) (I:Bool),
  targN (f,c,0,o,b,t) os=x∧targI (f,c,0,o,b,t) os=I∧targN (FD,c,0,o,b,t) os=y∧targI (FD,c,0,o,b,t) os=I∧targN (f,CD,0,o,b,t) os=z∧targI (f,CD,0,o,b,t) os=I∧((I=false∧x=0∧y=0∧z=0)∨(I=true∧x≤y∧z≤x∧y=max x FD∧z=min x CD∧(x<FD∨y=x)∧(CD<x∨z=x))):=by
 unfold targN targI
 rw[targ_of2 (f:=f) (c:=c) (by omega) ht,targ_of2 (f:=FD) (c:=c) (by omega) ht,targ_of2 (f:=f) (c:=CD) (by omega) ht]
 cases tellT t os with
 |none=>exact⟨0,0,0,false,rfl,rfl,rfl,rfl,rfl,rfl,.inl ⟨rfl,rfl,rfl,rfl⟩⟩
 |some n=>
  refine⟨max (max f 0) (min n c),max (max FD 0) (min n c),max (max f 0) (min n CD),true,rfl,rfl,rfl,rfl,rfl,rfl,.inr ⟨rfl, ?_⟩⟩
  omega
theorem ConfigFloor_at(H:ConfOk)(r0 r1 r2 r3 r4 r5:Int)(L:List Int)(A:Option Addr)(k:Nat)(zs:List (Int×Int))(AZ:Option Addr)(kz:Nat)(up down:Int)(hup:i64 up)(hdn:i64 down)(w:World)(hr:Rel w w)(hi:IntsIn w A k L)(hZ:PairsIn w AZ zs.length zs)(h0:i64 r0)(h1:i64 r1)(h2:i64 r2)(h3:i64 r3)(h4:i64 r4)(h5:i64 r5):
  Calls Tryz.prog 6 #[.agg #[.int .i64 r0,.int .i64 r1,.int .i64 r2,.int .i64 r3,.int .i64 r4,.int .i64 r5],.slice A L.length k,.slice AZ zs.length kz,.int .i64 up,.int .i64 down] w fun e w'=>e= .returned (.bool true)∧Rel w w':=by
 have HR:=yH hr
 obtain⟨f,c,m,o,b,t,S,hS,hz,hf,⟨bf0,bf1,bc0,bc1,bm0,bm1,bo0,bo1,bb0,bb1⟩,hC⟩:=conf14_open r0 r1 r2 r3 r4 r5 L h0 h1 h2 h3 h4 h5
 have HCo:=yH (fun(w:World) (hr:Rel w w) (hi:IntsIn w A k L)=>hC A k w hr hi)
 have HAw:=yH (fun(w:World) (hr:Rel w w)=>awake14_any H w hr)
 have HI:=yH hi
 clear hC h0 h1 h2 h3 h4 h5
 have HZ:=yH hZ
 obtain⟨os,hos⟩:∃os,offS zs=os:=⟨_,rfl⟩
 have hOf:=fun(w0 w:World) (hr:Rel w0 w) (hz:PairsIn w AZ zs.length zs)=>offers_any AZ kz zs w0 w hr hz
 rw[hos] at hOf
 have HOf:=yH hOf
 have hok:offsOk os=true:=by rw[←hos];exact offS_ok zs
 have HOk:=yH hok
 have h8:=offs_len hok
 have HFit:=yH (offs_fit hok)
 clear hOf hok hos
 have u0:=pk_bd up (c-f+1) (by omega)
 have v0:=pk_bd down (c-f+1) (by omega)
 obtain⟨U,hU⟩:∃U,pk up (c-f+1)=U:=⟨_,rfl⟩
 obtain⟨V,hV⟩:∃U,pk down (c-f+1)=U:=⟨_,rfl⟩
 rw[hU] at u0
 rw[hV] at v0
 obtain⟨u0,u1⟩:=u0
 obtain⟨v0,v1⟩:=v0
 have KU:=yH (fun w=>pick14_as up (c-f+1) U (yH hU) hup (by omega) (by omega) w)
 have KV:=yH (fun w=>pick14_as down (c-f+1) V (yH hV) hdn (by omega) (by omega) w)
 clear hU hV hup hdn
 have hw1:IntKind.i64.wrap (c-f)=c-f:=IntWalk.i64_in _ (by omega)
 have hw2:IntKind.i64.wrap (c-f+1)=c-f+1:=IntWalk.i64_in _ (by omega)
 obtain⟨FD,hFD⟩:∃F,f+U=F:=⟨_,rfl⟩
 obtain⟨CD,hCD⟩:∃F,c-V=F:=⟨_,rfl⟩
 have hw3:IntKind.i64.wrap FD=FD:=IntWalk.i64_in _ (by omega)
 have hw4:IntKind.i64.wrap CD=CD:=IntWalk.i64_in _ (by omega)
 have fd0:f≤FD:=by omega
 have fd1:FD≤c:=by omega
 have cd0:f≤CD:=by omega
 have cd1:CD≤c:=by omega
 obtain⟨x,y,z,I,e1,e2,e3,e4,e5,e6,hM⟩:=floor_math (check_zero.1 hz).2 bf0 fd0 fd1 cd0 cd1 bc1 bo0 bo1 bb0 bb1 os
 have HM:=yH hM
 have K1:=yH (fun(w:World) (A:Option Addr) (q:Nat) (hr:Rel w w) (ho:OffArg w A q os)=>ctar_at H hS (fit_of hf (f':=f) (c':=c) (m':=0) (o':=o) (b':=b) (i64_of (by omega) (by omega)) (i64_of (by omega) (by omega)) (i64_of (by omega) (by omega)) (i64_of (by omega) (by omega)) (i64_of (by omega) (by omega))) (A:=A) (q:=q) os.length rfl e1 e2 w hr ho)
 have K2:=yH (fun(w:World) (A:Option Addr) (q:Nat) (hr:Rel w w) (ho:OffArg w A q os)=>ctar_at H hS (fit_of hf (f':=FD) (c':=c) (m':=0) (o':=o) (b':=b) (i64_of (by omega) (by omega)) (i64_of (by omega) (by omega)) (i64_of (by omega) (by omega)) (i64_of (by omega) (by omega)) (i64_of (by omega) (by omega))) (A:=A) (q:=q) os.length rfl e3 e4 w hr ho)
 have K3:=yH (fun(w:World) (A:Option Addr) (q:Nat) (hr:Rel w w) (ho:OffArg w A q os)=>ctar_at H hS (fit_of hf (f':=f) (c':=CD) (m':=0) (o':=o) (b':=b) (i64_of (by omega) (by omega)) (i64_of (by omega) (by omega)) (i64_of (by omega) (by omega)) (i64_of (by omega) (by omega)) (i64_of (by omega) (by omega))) (A:=A) (q:=q) os.length rfl e5 e6 w hr ho)
 clear H hr hf hS hz hi hZ e1 e2 e3 e4 e5 e6 hM
 have HFD:=yH hFD
 have HCD:=yH hCD
 go_enter Tryz.func6,Tryz.ntmps6
 go_upto_region 1 with (fail)
 have HB0:=yH (Bk.new w 22 #[.int .i64 r0,.int .i64 r1,.int .i64 r2,.int .i64 r3,.int .i64 r4,.int .i64 r5])
 have R0:=yH (HR.out.alloc (.cells #[.int .i64 r0,.int .i64 r1,.int .i64 r2,.int .i64 r3,.int .i64 r4,.int .i64 r5] 22))
 obtain⟨W0,hW0⟩:∃W,w.alloc (.cells #[.int .i64 r0,.int .i64 r1,.int .i64 r2,.int .i64 r3,.int .i64 r4,.int .i64 r5] 22)=W:=⟨_,rfl⟩
 obtain⟨gR,hgR⟩:∃g,w.heap.size=g:=⟨_,rfl⟩
 rw[hW0] at HB0 R0
 rw[hgR] at HB0
 try rw[hW0]
 try rw[hgR]
 have sR:w.heap.size≤gR:=by omega
 clear hW0 hgR
 go_upto_region 2 with (go_at_call 9;(with_reducible refine(HAw.out W0 R0.out.self).mono ?_);rintro e w1 ⟨rfl,h1⟩;have R1:=yH (R0.out.trans h1);have HB1:=yH (HB0.out.rel h1);clear h1)
 obtain⟨⟨r_0,r_1,r_2,r_3,r_4,r_5⟩,⟨r_f0,r_f1,r_f2,r_f3,r_f4,r_f5⟩⟩:=six_of HB1.out
 go_upto_region 3 with (go_at_call 10;(with_reducible refine(HCo.out w1 R1.out.self (HI.out.rel R1.out)).mono ?_);rintro e w2 ⟨rfl,h2⟩;have R2:=yH (R1.out.trans h2.out);have HB2:=yH (HB1.out.rel h2.out);clear h2)
 clear r_0 r_1 r_2 r_3 r_4 r_5 r_f0 r_f1 r_f2 r_f3 r_f4 r_f5
 have HC3:=yH (Bk.new w2 25 #[.int .i64 f,.int .i64 c,.int .i64 m,.int .i64 o,.int .i64 b,.string S])
 have HB3:=yH (HB2.out.alloc (.cells #[.int .i64 f,.int .i64 c,.int .i64 m,.int .i64 o,.int .i64 b,.string S] 25))
 have R3:=yH (R2.out.alloc (.cells #[.int .i64 f,.int .i64 c,.int .i64 m,.int .i64 o,.int .i64 b,.string S] 25))
 have sC:w.heap.size≤w2.heap.size:=R2.out.size
 obtain⟨W3,hW3⟩:∃W,w2.alloc (.cells #[.int .i64 f,.int .i64 c,.int .i64 m,.int .i64 o,.int .i64 b,.string S] 25)=W:=⟨_,rfl⟩
 obtain⟨gC,hgC⟩:∃g,w2.heap.size=g:=⟨_,rfl⟩
 rw[hW3] at HC3 HB3 R3
 rw[hgC] at HC3 sC
 try rw[hW3]
 try rw[hgC]
 clear hW3 hgC HB0 HB1 HB2 R0 R1 R2 HAw HCo
 obtain⟨⟨x0,x1,x2,x3,x4,x5⟩,⟨xf0,xf1,xf2,xf3,xf4,xf5⟩⟩:=six_of HC3.out
 go_upto_region 4 with (fail)
 have HC4:=yH (show Bk (W3.setCell ⟨gC,2,none⟩ (.int .i64 0)) gC 25 #[.int .i64 f,.int .i64 c,.int .i64 0,.int .i64 o,.int .i64 b,.string S] from HC3.out.set_ 2 (.int .i64 0))
 have R4:=yH (R3.out.setCell (p:=⟨gC,2,none⟩) sC (.int .i64 0))
 obtain⟨W4,hW4⟩:∃W,W3.setCell ⟨gC,2,none⟩ (.int .i64 0)=W:=⟨_,rfl⟩
 rw[hW4] at HC4 R4
 try rw[hW4]
 clear hW4 HC3 R3 HB3
 clear x0 x1 x2 x3 x4 x5 xf0 xf1 xf2 xf3 xf4 xf5
 go_upto_region 5 with (go_at_call 17;(with_reducible refine(HOf.out W4 W4 R4.out.self (HZ.out.rel9 R4.out)).mono ?_);rintro e w5 ⟨A2,c2,rfl,hO,r4⟩;have Q5:=yH (R4.out.trans r4);have HC5:=yH (HC4.out.rel r4);have HO:=yH (hO.arg HFit.out);clear hO r4)
 have R5:=yH Q5.out.self
 clear HC4 R4 HOf HZ HI
 obtain⟨⟨x0,x1,x2,x3,x4,x5⟩,⟨xf0,xf1,xf2,xf3,xf4,xf5⟩⟩:=six_of HC5.out
 go_upto_region 6 with (fail)
 have HD6:=yH (Bk.new w5 25 #[.int .i64 f,.int .i64 c,.int .i64 0,.int .i64 o,.int .i64 b,.string S])
 have HC6:=yH (HC5.out.alloc (.cells #[.int .i64 f,.int .i64 c,.int .i64 0,.int .i64 o,.int .i64 b,.string S] 25))
 have R6:=yH (R5.out.alloc (.cells #[.int .i64 f,.int .i64 c,.int .i64 0,.int .i64 o,.int .i64 b,.string S] 25))
 have nHC6:=Nat.ne_of_lt HC5.out.lt
 obtain⟨W6,hW6⟩:∃W,w5.alloc (.cells #[.int .i64 f,.int .i64 c,.int .i64 0,.int .i64 o,.int .i64 b,.string S] 25)=W:=⟨_,rfl⟩
 obtain⟨gD,hgD⟩:∃g,w5.heap.size=g:=⟨_,rfl⟩
 rw[hW6] at HD6 R6 HC6
 rw[hgD] at HD6 nHC6
 have sgD:w5.heap.size≤gD:=by rw[←hgD];exact R5.out.size
 try rw[hW6]
 try rw[hgD]
 clear hW6 hgD
 clear x0 x1 x2 x3 x4 x5 xf0 xf1 xf2 xf3 xf4 xf5
 obtain⟨⟨x0,x1,x2,x3,x4,x5⟩,⟨xf0,xf1,xf2,xf3,xf4,xf5⟩⟩:=six_of HC6.out
 obtain⟨⟨d0,d1,d2,d3,d4,d5⟩,⟨df0,df1,df2,df3,df4,df5⟩⟩:=six_of HD6.out
 go_region_held3 (fun w'=>w'.cell? ⟨gC,0,none⟩=some (.int .i64 f)∧w'.cell? ⟨gC,1,none⟩=some (.int .i64 c))
  (first|exact⟨x0,x1⟩|exact⟨(six_of (HC6.out.far (p:=⟨gD,0,none⟩) nHC6 (.int .i64 FD))).1.1,(six_of (HC6.out.far (p:=⟨gD,0,none⟩) nHC6 (.int .i64 FD))).1.2.1⟩)
  ((go_at_call 20;(with_reducible refine(KU.out _).mono ?_);rintro e w9 ⟨rfl,rfl⟩))
 try rw[hFD]
 have HD7:=yH (show Bk (W6.setCell ⟨gD,0,none⟩ (.int .i64 FD)).drew gD 25 #[.int .i64 FD,.int .i64 c,.int .i64 0,.int .i64 o,.int .i64 b,.string S] from(HD6.out.set_ 0 (.int .i64 FD)).drew)
 have HC7:=yH (HC6.out.far (p:=⟨gD,0,none⟩) nHC6 (.int .i64 FD)).drew
 have R7:=yH (R6.out.setCell (p:=⟨gD,0,none⟩) sgD (.int .i64 FD)).drew
 clear x0 x1 x2 x3 x4 x5 xf0 xf1 xf2 xf3 xf4 xf5
 clear d0 d1 d2 d3 d4 d5 df0 df1 df2 df3 df4 df5
 obtain⟨W7,hW7⟩:∃W,(W6.setCell ⟨gD,0,none⟩ (.int .i64 FD)).drew=W:=⟨_,rfl⟩
 rw[hW7] at HD7 HC7 R7
 try rw[hW7]
 clear hW7
 clear HD6 HC6 R6 hFD
 obtain⟨⟨x0,x1,x2,x3,x4,x5⟩,⟨xf0,xf1,xf2,xf3,xf4,xf5⟩⟩:=six_of HC7.out
 go_upto_region 8 with (fail)
 have HF8:=yH (Bk.new W7 25 #[.int .i64 f,.int .i64 c,.int .i64 0,.int .i64 o,.int .i64 b,.string S])
 have HC8:=yH (HC7.out.alloc (.cells #[.int .i64 f,.int .i64 c,.int .i64 0,.int .i64 o,.int .i64 b,.string S] 25))
 have HD8:=yH (HD7.out.alloc (.cells #[.int .i64 f,.int .i64 c,.int .i64 0,.int .i64 o,.int .i64 b,.string S] 25))
 have R8:=yH (R7.out.alloc (.cells #[.int .i64 f,.int .i64 c,.int .i64 0,.int .i64 o,.int .i64 b,.string S] 25))
 have nHC8:=Nat.ne_of_lt HC7.out.lt
 have nHD8:=Nat.ne_of_lt HD7.out.lt
 obtain⟨W8,hW8⟩:∃W,W7.alloc (.cells #[.int .i64 f,.int .i64 c,.int .i64 0,.int .i64 o,.int .i64 b,.string S] 25)=W:=⟨_,rfl⟩
 obtain⟨gF,hgF⟩:∃g,W7.heap.size=g:=⟨_,rfl⟩
 rw[hW8] at HF8 R8 HC8 HD8
 rw[hgF] at HF8 nHC8 nHD8
 have sgF:w5.heap.size≤gF:=by rw[←hgF];exact R7.out.size
 try rw[hW8]
 try rw[hgF]
 clear hW8 hgF
 clear x0 x1 x2 x3 x4 x5 xf0 xf1 xf2 xf3 xf4 xf5
 obtain⟨⟨x0,x1,x2,x3,x4,x5⟩,⟨xf0,xf1,xf2,xf3,xf4,xf5⟩⟩:=six_of HC8.out
 obtain⟨⟨d0,d1,d2,d3,d4,d5⟩,⟨df0,df1,df2,df3,df4,df5⟩⟩:=six_of HF8.out
 go_region_held3 (fun w'=>w'.cell? ⟨gC,0,none⟩=some (.int .i64 f)∧w'.cell? ⟨gC,1,none⟩=some (.int .i64 c))
  (first|exact⟨x0,x1⟩|exact⟨(six_of (HC8.out.far (p:=⟨gF,1,none⟩) nHC8 (.int .i64 CD))).1.1,(six_of (HC8.out.far (p:=⟨gF,1,none⟩) nHC8 (.int .i64 CD))).1.2.1⟩)
  ((go_at_call 20;(with_reducible refine(KV.out _).mono ?_);rintro e w9 ⟨rfl,rfl⟩))
 try rw[hCD]
 have HF9:=yH (show Bk (W8.setCell ⟨gF,1,none⟩ (.int .i64 CD)).drew gF 25 #[.int .i64 f,.int .i64 CD,.int .i64 0,.int .i64 o,.int .i64 b,.string S] from(HF8.out.set_ 1 (.int .i64 CD)).drew)
 have HC9:=yH (HC8.out.far (p:=⟨gF,1,none⟩) nHC8 (.int .i64 CD)).drew
 have HD9:=yH (HD8.out.far (p:=⟨gF,1,none⟩) nHD8 (.int .i64 CD)).drew
 have R9:=yH (R8.out.setCell (p:=⟨gF,1,none⟩) sgF (.int .i64 CD)).drew
 clear x0 x1 x2 x3 x4 x5 xf0 xf1 xf2 xf3 xf4 xf5
 clear d0 d1 d2 d3 d4 d5 df0 df1 df2 df3 df4 df5
 obtain⟨W9,hW9⟩:∃W,(W8.setCell ⟨gF,1,none⟩ (.int .i64 CD)).drew=W:=⟨_,rfl⟩
 rw[hW9] at HF9 HC9 HD9 R9
 try rw[hW9]
 clear hW9
 clear HF8 HC8 HD8 R8 HC7 HD7 R7 hCD KU KV
 obtain⟨⟨x0,x1,x2,x3,x4,x5⟩,⟨xf0,xf1,xf2,xf3,xf4,xf5⟩⟩:=six_of HC9.out
 go_upto_region 10 with (go_at_call 18;(with_reducible refine(K1.out W9 A2 c2 R9.out.self (HO.out.rel R9.out)).mono ?_);rintro e w10 ⟨rfl,r⟩;have R10:=yH (R9.out.trans r.out);have HC10:=yH (HC9.out.rel r.out);have HD10:=yH (HD9.out.rel r.out);have HF10:=yH (HF9.out.rel r.out);clear r)
 clear x0 x1 x2 x3 x4 x5 xf0 xf1 xf2 xf3 xf4 xf5
 obtain⟨⟨x0,x1,x2,x3,x4,x5⟩,⟨xf0,xf1,xf2,xf3,xf4,xf5⟩⟩:=six_of HD10.out
 go_upto_region 11 with (go_at_call 18;(with_reducible refine(K2.out w10 A2 c2 R10.out.self (HO.out.rel R10.out)).mono ?_);rintro e w11 ⟨rfl,r⟩;have R11:=yH (R10.out.trans r.out);have HD11:=yH (HD10.out.rel r.out);have HF11:=yH (HF10.out.rel r.out);clear r)
 clear x0 x1 x2 x3 x4 x5 xf0 xf1 xf2 xf3 xf4 xf5
 obtain⟨⟨x0,x1,x2,x3,x4,x5⟩,⟨xf0,xf1,xf2,xf3,xf4,xf5⟩⟩:=six_of HF11.out
 go_upto_region 12 with (go_at_call 18;(with_reducible refine(K3.out w11 A2 c2 R11.out.self (HO.out.rel R11.out)).mono ?_);rintro e w12 ⟨rfl,r⟩;have R12:=yH (R11.out.trans r.out);have HD12:=yH (HD11.out.rel r.out);have HF12:=yH (HF11.out.rel r.out);clear r)
 clear x0 x1 x2 x3 x4 x5 xf0 xf1 xf2 xf3 xf4 xf5
 have RZ:=yH (Q5.out.trans R12.out)
 clear K1 K2 K3 HC5 HC9 HC10 HD9 HD10 HD11 HF9 HF10 HF11 R9 R10 R11 R12 HO R5 Q5 HFit
 obtain⟨⟨x0,x1,x2,x3,x4,x5⟩,⟨xf0,xf1,xf2,xf3,xf4,xf5⟩⟩:=six_of HD12.out
 obtain⟨⟨y_0,y_1,y_2,y_3,y_4,y_5⟩,⟨y_f0,y_f1,y_f2,y_f3,y_f4,y_f5⟩⟩:=six_of HF12.out
 rcases HM.out with ⟨rfl,rfl,rfl,rfl⟩|⟨rfl,m1,m2,m3,m4,m5,m6⟩
 ·clear HM
  go_wp2_with (fail)
  go_ret
  exact⟨rfl,RZ.out⟩
 ·have k1:decide (x≤y)=true:=decide_eq_true m1
  have k2:decide (z≤x)=true:=decide_eq_true m2
  have k3:(y==max x FD)=true:=by simpa using m3
  have k4:(z==min x CD)=true:=by simpa using m4
  clear HM
  by_cases n5:x<FD<;>by_cases n6:CD<x
  ·have k5:decide (x<FD)=true:=decide_eq_true n5
   have k6:decide (CD<x)=true:=decide_eq_true n6
   clear m1 m2 m3 m4 m5 m6 n5 n6
   go_wp2_with (fail)
   go_ret
   exact⟨ret_bool (by first|rfl|assumption),RZ.out⟩
  ·have k5:decide (x<FD)=true:=decide_eq_true n5
   have k6:decide (CD<x)=false:=decide_eq_false n6
   have k8:(z==x)=true:=by simpa using m6.resolve_left n6
   clear m1 m2 m3 m4 m5 m6 n5 n6
   go_wp2_with (fail)
   go_ret
   exact⟨ret_bool (by first|rfl|assumption),RZ.out⟩
  ·have k5:decide (x<FD)=false:=decide_eq_false n5
   have k7:(y==x)=true:=by simpa using m5.resolve_left n5
   have k6:decide (CD<x)=true:=decide_eq_true n6
   clear m1 m2 m3 m4 m5 m6 n5 n6
   go_wp2_with (fail)
   go_ret
   exact⟨ret_bool (by first|rfl|assumption),RZ.out⟩
  ·have k5:decide (x<FD)=false:=decide_eq_false n5
   have k7:(y==x)=true:=by simpa using m5.resolve_left n5
   have k6:decide (CD<x)=false:=decide_eq_false n6
   have k8:(z==x)=true:=by simpa using m6.resolve_left n6
   clear m1 m2 m3 m4 m5 m6 n5 n6
   go_wp2_with (fail)
   go_ret
   exact⟨ret_bool (by first|rfl|assumption),RZ.out⟩
end Go.Proofs.YtfekhbeaphpelaaGreatDoor
