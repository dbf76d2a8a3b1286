/- The law on maps, walked. -/

import Derived.Test.YtfekhbeaphpelaaGreatDoorZ24
import Derived.Test.YtfekhbeaphpelaaGreatDoorZ26
import Derived.Test.YtfekhbeaphpelaaGreatDoorZ27
import Derived.Test.YtfekhbeaphpelaaGreatDoorZ28
import Derived.Test.YtfekhbeaphpelaaGreatDoorZ32
set_option maxRecDepth 100000
set_option maxHeartbeats 8000000
namespace Go.Proofs.YtfekhbeaphpelaaGreatDoor
open Go.RowKit Go.Lib
set_option linter.unusedVariables false
set_option linter.unusedSimpArgs false
theorem map_math{f c o b M o' b':Int}{t:List UInt8}(ht:textE t=0)(h1:1≤f)(h2:f≤c)(h3:0≤M)(h4:M≤c)(h6:c≤3500)(o0:0≤o)(o1:o≤12)(b0:0≤b)(b1:b≤60)(o2:0≤o')(o3:o'≤1000)(b2:0≤b')(b3:b'≤5000)(os:List Of):∃(x y:Int) (I:Bool),
  targN (f,c,0,o,b,t) os=x∧targI (f,c,0,o,b,t) os=I∧targN (f,c,M,o',b',t) os=y∧targI (f,c,M,o',b',t) os=I∧((I=false∧x=0∧y=0)∨(I=true∧y=max x M)):=by
 unfold targN targI
 rw[targ_of2 (f:=f) (c:=c) (m:=0) (by omega) ht,targ_of2 (f:=f) (c:=c) (m:=M) (by omega) ht]
 cases tellT t os with
 |none=>exact⟨0,0,false,rfl,rfl,rfl,rfl,.inl ⟨rfl,rfl,rfl⟩⟩
 |some n=>
  refine⟨max (max f 0) (min n c),max (max f M) (min n c),true,rfl,rfl,rfl,rfl,.inr ⟨rfl, ?_⟩⟩
  omega
theorem ConfigMap_at(H:ConfOk)(r0 r1 r2 r3 r4 r5:Int)(L:List Int)(A:Option Addr)(k:Nat)(zs:List (Int×Int))(AZ:Option Addr)(kz:Nat)(mm other:Int)(hmm:i64 mm)(hot:i64 other)(w:World)(hr:Rel w w)(hi:IntsIn w A k L)(hZ:PairsIn w AZ zs.length zs)(h0:i64 r0)(h1:i64 r1)(h2:i64 r2)(h3:i64 r3)(h4:i64 r4)(h5:i64 r5):
  Calls Tryz.prog 7 #[.agg #[.int .i64 r0,.int .i64 r1,.int .i64 r2,.int .i64 r3,.int .i64 r4,.int .i64 r5],.slice A L.length k,.slice AZ zs.length kz,.int .i64 mm,.int .i64 other] w fun e w'=>e= .returned (.bool true)∧Rel w w':=by
 have HR:=yH hr
 obtain⟨f,c,m,o,b,t,S,hS,hz,hf,⟨bf0,bf1,bc0,bc1,bm0,bm1,bo0,bo1,bb0,bb1⟩,hC⟩:=conf14_open r0 r1 r2 r3 r4 r5 L h0 h1 h2 h3 h4 h5
 have HCo:=yH (fun(w:World) (hr:Rel w w) (hi:IntsIn w A k L)=>hC A k w hr hi)
 have HAw:=yH (fun(w:World) (hr:Rel w w)=>awake14_any H w hr)
 have HI:=yH hi
 clear hC h0 h1 h2 h3 h4 h5
 have HZ:=yH hZ
 obtain⟨os,hos⟩:∃os,offS zs=os:=⟨_,rfl⟩
 have hOf:=fun(w0 w:World) (hr:Rel w0 w) (hz:PairsIn w AZ zs.length zs)=>offers_any AZ kz zs w0 w hr hz
 rw[hos] at hOf
 have HOf:=yH hOf
 have hok:offsOk os=true:=by rw[←hos];exact offS_ok zs
 have HOk:=yH hok
 have h8:=offs_len hok
 have HFit:=yH (offs_fit hok)
 clear hOf hok hos
 have m0:=pk_bd mm (c+1) (by omega)
 have q0:=pk_bd other 1000 (by omega)
 have p0:=pk_bd other 5000 (by omega)
 obtain⟨M,hM⟩:∃U,pk mm (c+1)=U:=⟨_,rfl⟩
 obtain⟨Q,hQ⟩:∃U,pk other 1000=U:=⟨_,rfl⟩
 obtain⟨P,hP⟩:∃U,pk other 5000=U:=⟨_,rfl⟩
 rw[hM] at m0
 rw[hQ] at q0
 rw[hP] at p0
 obtain⟨m0,m1⟩:=m0
 obtain⟨q0,q1⟩:=q0
 obtain⟨p0,p1⟩:=p0
 have K6:=yH (fun w=>pick14_as mm (c+1) M (yH hM) hmm (by omega) (by omega) w)
 have K7:=yH (fun w=>pick14_as other 1000 Q (yH hQ) hot (by omega) (by omega) w)
 have K8:=yH (fun w=>pick14_as other 5000 P (yH hP) hot (by omega) (by omega) w)
 have hw1:IntKind.i64.wrap (c+1)=c+1:=IntWalk.i64_in _ (by omega)
 clear hM hQ hP hmm hot
 obtain⟨x,y,I,e1,e2,e3,e4,hM⟩:=map_math (check_zero.1 hz).2 bf0 bc0 m0 (show M≤c by omega) bc1 bo0 bo1 bb0 bb1 q0 (show Q≤1000 by omega) p0 (show P≤5000 by omega) os
 have HM:=yH hM
 have K1:=yH (fun(w:World) (A:Option Addr) (q:Nat) (hr:Rel w w) (ho:OffArg w A q os)=>ctar_at H hS (fit_of hf (f':=f) (c':=c) (m':=0) (o':=o) (b':=b) (i64_of (by omega) (by omega)) (i64_of (by omega) (by omega)) (i64_of (by omega) (by omega)) (i64_of (by omega) (by omega)) (i64_of (by omega) (by omega))) (A:=A) (q:=q) os.length rfl e1 e2 w hr ho)
 have K2:=yH (fun(w:World) (A:Option Addr) (q:Nat) (hr:Rel w w) (ho:OffArg w A q os)=>ctar_at H hS (fit_of hf (f':=f) (c':=c) (m':=M) (o':=Q) (b':=P) (i64_of (by omega) (by omega)) (i64_of (by omega) (by omega)) (i64_of (by omega) (by omega)) (i64_of (by omega) (by omega)) (i64_of (by omega) (by omega))) (A:=A) (q:=q) os.length rfl e3 e4 w hr ho)
 have KL:=yH (fun(w:World) (hr:Rel w w)=>clow_at H hS (fit_of hf (f':=f) (c':=c) (m':=M) (o':=Q) (b':=P) (i64_of (by omega) (by omega)) (i64_of (by omega) (by omega)) (i64_of (by omega) (by omega)) (i64_of (by omega) (by omega)) (i64_of (by omega) (by omega))) (rfl:max f M=max f M) w hr)
 have KC:=yH (fun(w:World) (hr:Rel w w)=>cchk_at H hS (fit_of hf (f':=f) (c':=c) (m':=M) (o':=Q) (b':=P) (i64_of (by omega) (by omega)) (i64_of (by omega) (by omega)) (i64_of (by omega) (by omega)) (i64_of (by omega) (by omega)) (i64_of (by omega) (by omega))) (check_map hz (show 1≤f∧f≤c∧c≤1000000000000∧0≤M∧M≤c∧0≤Q∧Q≤1048576∧0≤P∧P≤1000000000000 by omega)) w hr)
 clear H hr hf hS hz hi hZ e1 e2 e3 e4 hM
 go_enter Tryz.func7,Tryz.ntmps7
 go_upto_region 1 with (fail)
 have HB0:=yH (Bk.new w 22 #[.int .i64 r0,.int .i64 r1,.int .i64 r2,.int .i64 r3,.int .i64 r4,.int .i64 r5])
 have R0:=yH (HR.out.alloc (.cells #[.int .i64 r0,.int .i64 r1,.int .i64 r2,.int .i64 r3,.int .i64 r4,.int .i64 r5] 22))
 obtain⟨W0,hW0⟩:∃W,w.alloc (.cells #[.int .i64 r0,.int .i64 r1,.int .i64 r2,.int .i64 r3,.int .i64 r4,.int .i64 r5] 22)=W:=⟨_,rfl⟩
 obtain⟨gR,hgR⟩:∃g,w.heap.size=g:=⟨_,rfl⟩
 rw[hW0] at HB0 R0
 rw[hgR] at HB0
 try rw[hW0]
 try rw[hgR]
 have sR:w.heap.size≤gR:=by omega
 clear hW0 hgR
 go_upto_region 2 with (go_at_call 9;(with_reducible refine(HAw.out W0 R0.out.self).mono ?_);rintro e w1 ⟨rfl,h1⟩;have R1:=yH (R0.out.trans h1);have HB1:=yH (HB0.out.rel h1);clear h1)
 obtain⟨⟨r_0,r_1,r_2,r_3,r_4,r_5⟩,⟨r_f0,r_f1,r_f2,r_f3,r_f4,r_f5⟩⟩:=six_of HB1.out
 go_upto_region 3 with (go_at_call 10;(with_reducible refine(HCo.out w1 R1.out.self (HI.out.rel R1.out)).mono ?_);rintro e w2 ⟨rfl,h2⟩;have R2:=yH (R1.out.trans h2.out);have HB2:=yH (HB1.out.rel h2.out);clear h2)
 clear r_0 r_1 r_2 r_3 r_4 r_5 r_f0 r_f1 r_f2 r_f3 r_f4 r_f5
 have HC3:=yH (Bk.new w2 25 #[.int .i64 f,.int .i64 c,.int .i64 m,.int .i64 o,.int .i64 b,.string S])
 have HB3:=yH (HB2.out.alloc (.cells #[.int .i64 f,.int .i64 c,.int .i64 m,.int .i64 o,.int .i64 b,.string S] 25))
 have R3:=yH (R2.out.alloc (.cells #[.int .i64 f,.int .i64 c,.int .i64 m,.int .i64 o,.int .i64 b,.string S] 25))
 have sC:w.heap.size≤w2.heap.size:=R2.out.size
 obtain⟨W3,hW3⟩:∃W,w2.alloc (.cells #[.int .i64 f,.int .i64 c,.int .i64 m,.int .i64 o,.int .i64 b,.string S] 25)=W:=⟨_,rfl⟩
 obtain⟨gC,hgC⟩:∃g,w2.heap.size=g:=⟨_,rfl⟩
 rw[hW3] at HC3 HB3 R3
 rw[hgC] at HC3 sC
 try rw[hW3]
 try rw[hgC]
 clear hW3 hgC HB0 HB1 HB2 R0 R1 R2 HAw HCo
 obtain⟨⟨x0,x1,x2,x3,x4,x5⟩,⟨xf0,xf1,xf2,xf3,xf4,xf5⟩⟩:=six_of HC3.out
 go_upto_region 4 with (fail)
 have HC4:=yH (show Bk (W3.setCell ⟨gC,2,none⟩ (.int .i64 0)) gC 25 #[.int .i64 f,.int .i64 c,.int .i64 0,.int .i64 o,.int .i64 b,.string S] from HC3.out.set_ 2 (.int .i64 0))
 have R4:=yH (R3.out.setCell (p:=⟨gC,2,none⟩) sC (.int .i64 0))
 clear x0 x1 x2 x3 x4 x5 xf0 xf1 xf2 xf3 xf4 xf5
 obtain⟨W4,hW4⟩:∃W,W3.setCell ⟨gC,2,none⟩ (.int .i64 0)=W:=⟨_,rfl⟩
 rw[hW4] at HC4 R4
 try rw[hW4]
 clear hW4
 clear HC3 R3 HB3
 go_upto_region 5 with (go_at_call 17;(with_reducible refine(HOf.out W4 W4 R4.out.self (HZ.out.rel9 R4.out)).mono ?_);rintro e w5 ⟨A2,c2,rfl,hO,r4⟩;have Q5:=yH (R4.out.trans r4);have HC5:=yH (HC4.out.rel r4);have HO:=yH (hO.arg HFit.out);clear hO r4)
 have R5:=yH Q5.out.self
 clear HC4 R4 HOf HZ HI
 obtain⟨⟨x0,x1,x2,x3,x4,x5⟩,⟨xf0,xf1,xf2,xf3,xf4,xf5⟩⟩:=six_of HC5.out
 go_upto_region 6 with (fail)
 have HD6:=yH (Bk.new w5 25 #[.int .i64 f,.int .i64 c,.int .i64 0,.int .i64 o,.int .i64 b,.string S])
 have HC6:=yH (HC5.out.alloc (.cells #[.int .i64 f,.int .i64 c,.int .i64 0,.int .i64 o,.int .i64 b,.string S] 25))
 have R6:=yH (R5.out.alloc (.cells #[.int .i64 f,.int .i64 c,.int .i64 0,.int .i64 o,.int .i64 b,.string S] 25))
 have nHC6:=Nat.ne_of_lt HC5.out.lt
 obtain⟨W6,hW6⟩:∃W,w5.alloc (.cells #[.int .i64 f,.int .i64 c,.int .i64 0,.int .i64 o,.int .i64 b,.string S] 25)=W:=⟨_,rfl⟩
 obtain⟨gD,hgD⟩:∃g,w5.heap.size=g:=⟨_,rfl⟩
 rw[hW6] at HD6 R6 HC6
 rw[hgD] at HD6 nHC6
 have sgD:w5.heap.size≤gD:=by rw[←hgD];exact R5.out.size
 try rw[hW6]
 try rw[hgD]
 clear hW6 hgD
 clear x0 x1 x2 x3 x4 x5 xf0 xf1 xf2 xf3 xf4 xf5
 obtain⟨⟨x0,x1,x2,x3,x4,x5⟩,⟨xf0,xf1,xf2,xf3,xf4,xf5⟩⟩:=six_of HC6.out
 obtain⟨⟨d0,d1,d2,d3,d4,d5⟩,⟨df0,df1,df2,df3,df4,df5⟩⟩:=six_of HD6.out
 go_upto_region 7 with (go_at_call 20;(with_reducible refine(K6.out _).mono ?_);rintro e w9 ⟨rfl,rfl⟩)
 have HD7:=yH (show Bk (W6.setCell ⟨gD,2,none⟩ (.int .i64 M)) gD 25 #[.int .i64 f,.int .i64 c,.int .i64 M,.int .i64 o,.int .i64 b,.string S] from HD6.out.set_ 2 (.int .i64 M))
 have HC7:=yH (HC6.out.far (p:=⟨gD,2,none⟩) nHC6 (.int .i64 M))
 have R7:=yH (R6.out.setCell (p:=⟨gD,2,none⟩) sgD (.int .i64 M))
 clear x0 x1 x2 x3 x4 x5 xf0 xf1 xf2 xf3 xf4 xf5
 clear d0 d1 d2 d3 d4 d5 df0 df1 df2 df3 df4 df5
 obtain⟨W7,hW7⟩:∃W,W6.setCell ⟨gD,2,none⟩ (.int .i64 M)=W:=⟨_,rfl⟩
 rw[hW7] at HD7 HC7 R7
 try rw[hW7]
 clear hW7
 clear HD6 HC6 R6
 obtain⟨⟨x0,x1,x2,x3,x4,x5⟩,⟨xf0,xf1,xf2,xf3,xf4,xf5⟩⟩:=six_of HC7.out
 obtain⟨⟨d0,d1,d2,d3,d4,d5⟩,⟨df0,df1,df2,df3,df4,df5⟩⟩:=six_of HD7.out
 go_upto_region 8 with (go_at_call 20;(with_reducible refine(K7.out _).mono ?_);rintro e w9 ⟨rfl,rfl⟩)
 have HD8:=yH (show Bk (W7.setCell ⟨gD,3,none⟩ (.int .i64 Q)) gD 25 #[.int .i64 f,.int .i64 c,.int .i64 M,.int .i64 Q,.int .i64 b,.string S] from HD7.out.set_ 3 (.int .i64 Q))
 have HC8:=yH (HC7.out.far (p:=⟨gD,3,none⟩) nHC6 (.int .i64 Q))
 have R8:=yH (R7.out.setCell (p:=⟨gD,3,none⟩) sgD (.int .i64 Q))
 clear x0 x1 x2 x3 x4 x5 xf0 xf1 xf2 xf3 xf4 xf5
 clear d0 d1 d2 d3 d4 d5 df0 df1 df2 df3 df4 df5
 obtain⟨W8,hW8⟩:∃W,W7.setCell ⟨gD,3,none⟩ (.int .i64 Q)=W:=⟨_,rfl⟩
 rw[hW8] at HD8 HC8 R8
 try rw[hW8]
 clear hW8
 clear HD7 HC7 R7
 obtain⟨⟨x0,x1,x2,x3,x4,x5⟩,⟨xf0,xf1,xf2,xf3,xf4,xf5⟩⟩:=six_of HC8.out
 obtain⟨⟨d0,d1,d2,d3,d4,d5⟩,⟨df0,df1,df2,df3,df4,df5⟩⟩:=six_of HD8.out
 go_upto_region 9 with (go_at_call 20;(with_reducible refine(K8.out _).mono ?_);rintro e w9 ⟨rfl,rfl⟩)
 have HD9:=yH (show Bk (W8.setCell ⟨gD,4,none⟩ (.int .i64 P)) gD 25 #[.int .i64 f,.int .i64 c,.int .i64 M,.int .i64 Q,.int .i64 P,.string S] from HD8.out.set_ 4 (.int .i64 P))
 have HC9:=yH (HC8.out.far (p:=⟨gD,4,none⟩) nHC6 (.int .i64 P))
 have R9:=yH (R8.out.setCell (p:=⟨gD,4,none⟩) sgD (.int .i64 P))
 clear x0 x1 x2 x3 x4 x5 xf0 xf1 xf2 xf3 xf4 xf5
 clear d0 d1 d2 d3 d4 d5 df0 df1 df2 df3 df4 df5
 obtain⟨W9,hW9⟩:∃W,W8.setCell ⟨gD,4,none⟩ (.int .i64 P)=W:=⟨_,rfl⟩
 rw[hW9] at HD9 HC9 R9
 try rw[hW9]
 clear hW9
 clear HD8 HC8 R8
 obtain⟨⟨x0,x1,x2,x3,x4,x5⟩,⟨xf0,xf1,xf2,xf3,xf4,xf5⟩⟩:=six_of HC9.out
 obtain⟨⟨d0,d1,d2,d3,d4,d5⟩,⟨df0,df1,df2,df3,df4,df5⟩⟩:=six_of HD9.out
 go_upto_region 10 with (go_at_call 18;(with_reducible refine(K1.out W9 A2 c2 R9.out.self (HO.out.rel R9.out)).mono ?_);rintro e w10 ⟨rfl,r⟩;have R10:=yH (R9.out.trans r.out);have HD10:=yH (HD9.out.rel r.out);clear r)
 clear x0 x1 x2 x3 x4 x5 xf0 xf1 xf2 xf3 xf4 xf5
 clear d0 d1 d2 d3 d4 d5 df0 df1 df2 df3 df4 df5
 obtain⟨⟨x0,x1,x2,x3,x4,x5⟩,⟨xf0,xf1,xf2,xf3,xf4,xf5⟩⟩:=six_of HD10.out
 go_upto_region 11 with (go_at_call 18;(with_reducible refine(K2.out w10 A2 c2 R10.out.self (HO.out.rel R10.out)).mono ?_);rintro e w11 ⟨rfl,r⟩;have R11:=yH (R10.out.trans r.out);have HD11:=yH (HD10.out.rel r.out);clear r)
 clear x0 x1 x2 x3 x4 x5 xf0 xf1 xf2 xf3 xf4 xf5
 have RZ:=yH (Q5.out.trans R11.out)
 clear K1 K2 K6 K7 K8 HC5 HC9 HD9 HD10 R9 R10 R11 HO R5 Q5 HFit
 obtain⟨⟨x0,x1,x2,x3,x4,x5⟩,⟨xf0,xf1,xf2,xf3,xf4,xf5⟩⟩:=six_of HD11.out
 have hS11:=(six_of HD11.out.drew).1
 rcases HM.out with ⟨rfl,rfl,rfl⟩|⟨rfl,mx⟩
 ·clear HM hS11
  clear x0 x1 x2 x3 x4 x5 xf0 xf1 xf2 xf3 xf4 xf5
  refine wp_region_held_drew (S:=(fun w'=>Rel w11 w')) (by kernel_rfl) RZ.out.self.drew (fun hHeld=> ?_)
  refine yL [0,1,2,3,4,5,6,7,8,9,10,11,12,13,14,15,16,17,18,19,21,22,23,24,25] (by kernel_rfl) hHeld (fun _ _ _ _ _=>id) ?_
  iterate 10
   refine yS rfl rfl (by rfl) ?_ ?_ ?_
   rotate_left
   ·intro w' (h:Rel w11 w');obtain⟨⟨y0,y1,y2,y3,y4,y5⟩,⟨yf0,yf1,yf2,yf3,yf4,yf5⟩⟩:=six_of (HD11.out.rel h);go_simp;try with_reducible rfl
   try simp only[Act.put,yA,yB,yC]
  iterate 6
   refine yV rfl rfl (by rfl) ?_
   try simp only[Act.put,yA,yB,yC]
  iterate 9
   refine yS rfl rfl (by rfl) ?_ ?_ ?_
   rotate_left
   ·intro w' (h:Rel w11 w');obtain⟨⟨y0,y1,y2,y3,y4,y5⟩,⟨yf0,yf1,yf2,yf3,yf4,yf5⟩⟩:=six_of (HD11.out.rel h);go_simp;try with_reducible rfl
   try simp only[Act.put,yA,yB,yC]
  refine yZ ?_
  refine held_one (j:=20) (by kernel_rfl) rfl (fun K hK=> ?_)
  try simp only[yD,yE,yF]
  rw[if_pos (by rfl)]
  go_simp
  go_at_call 13
  (with_reducible refine(KL.out _ hHeld.self).mono ?_)
  rintro e w12 ⟨rfl,r12⟩
  refine hK.out _ _ (hHeld.trans r12.out) (fun hHeld=> ?_)
  clear hK K
  try simp only[Act.put,yA,yB,yC]
  refine yL [26,27,28,29] (by kernel_rfl) hHeld (fun _ _ _ _ _=>id) ?_
  iterate 4
   refine yS rfl rfl (by rfl) ?_ ?_ ?_
   rotate_left
   ·intro w' (h:Rel w11 w');obtain⟨⟨y0,y1,y2,y3,y4,y5⟩,⟨yf0,yf1,yf2,yf3,yf4,yf5⟩⟩:=six_of (HD11.out.rel h);go_simp;try with_reducible rfl
   try simp only[Act.put,yA,yB,yC]
  refine yZ ?_
  refine held_one (j:=30) (by kernel_rfl) rfl (fun K hK=> ?_)
  try simp only[yD,yE,yF]
  rw[if_pos (by rfl)]
  go_simp
  go_at_call 11
  (with_reducible refine(KC.out _ hHeld.self).mono ?_)
  rintro e w13 ⟨rfl,r13⟩
  refine hK.out _ _ (hHeld.trans r13.out) (fun hHeld=> ?_)
  clear hK K
  try simp only[Act.put,yA,yB,yC]
  refine yL [31,32,33] (by kernel_rfl) hHeld (fun _ _ _ _ _=>id) ?_
  iterate 3
   refine yS rfl rfl (by rfl) ?_ ?_ ?_
   rotate_left
   ·intro w' (h:Rel w11 w');obtain⟨⟨y0,y1,y2,y3,y4,y5⟩,⟨yf0,yf1,yf2,yf3,yf4,yf5⟩⟩:=six_of (HD11.out.rel h);go_simp;try with_reducible rfl
   try simp only[Act.put,yA,yB,yC]
  refine yZ ?_
  refine wpAnyH_done (by kernel_rfl) ?_ _
  have RY:=yH (RZ.out.trans hHeld)
  clear hHeld
  go_wp2_with (fail)
  go_ret
  exact⟨rfl,RY.out⟩
 ·have k1:(y==max x M)=true:=by simpa using mx
  clear HM mx hS11
  clear x0 x1 x2 x3 x4 x5 xf0 xf1 xf2 xf3 xf4 xf5
  refine wp_region_held_drew (S:=(fun w'=>Rel w11 w')) (by kernel_rfl) RZ.out.self.drew (fun hHeld=> ?_)
  refine yL [0,1,2,3,4,5,6,7,8,9,10,11,12,13,14,15,16,17,18,19,21,22,23,24,25] (by kernel_rfl) hHeld (fun _ _ _ _ _=>id) ?_
  iterate 25
   refine yS rfl rfl (by rfl) ?_ ?_ ?_
   rotate_left
   ·intro w' (h:Rel w11 w');obtain⟨⟨y0,y1,y2,y3,y4,y5⟩,⟨yf0,yf1,yf2,yf3,yf4,yf5⟩⟩:=six_of (HD11.out.rel h);go_simp;try with_reducible rfl
   try simp only[Act.put,yA,yB,yC]
  refine yZ ?_
  refine held_one (j:=20) (by kernel_rfl) rfl (fun K hK=> ?_)
  try simp only[yD,yE,yF]
  rw[if_pos (by rfl)]
  go_simp
  go_at_call 13
  (with_reducible refine(KL.out _ hHeld.self).mono ?_)
  rintro e w12 ⟨rfl,r12⟩
  refine hK.out _ _ (hHeld.trans r12.out) (fun hHeld=> ?_)
  clear hK K
  try simp only[Act.put,yA,yB,yC]
  refine yL [26,27,28,29] (by kernel_rfl) hHeld (fun _ _ _ _ _=>id) ?_
  iterate 4
   refine yS rfl rfl (by rfl) ?_ ?_ ?_
   rotate_left
   ·intro w' (h:Rel w11 w');obtain⟨⟨y0,y1,y2,y3,y4,y5⟩,⟨yf0,yf1,yf2,yf3,yf4,yf5⟩⟩:=six_of (HD11.out.rel h);go_simp;try with_reducible rfl
   try simp only[Act.put,yA,yB,yC]
  refine yZ ?_
  refine held_one (j:=30) (by kernel_rfl) rfl (fun K hK=> ?_)
  try simp only[yD,yE,yF]
  rw[if_pos (by rfl)]
  go_simp
  go_at_call 11
  (with_reducible refine(KC.out _ hHeld.self).mono ?_)
  rintro e w13 ⟨rfl,r13⟩
  refine hK.out _ _ (hHeld.trans r13.out) (fun hHeld=> ?_)
  clear hK K
  try simp only[Act.put,yA,yB,yC]
  refine yL [31,32,33] (by kernel_rfl) hHeld (fun _ _ _ _ _=>id) ?_
  iterate 3
   refine yS rfl rfl (by rfl) ?_ ?_ ?_
   rotate_left
   ·intro w' (h:Rel w11 w');obtain⟨⟨y0,y1,y2,y3,y4,y5⟩,⟨yf0,yf1,yf2,yf3,yf4,yf5⟩⟩:=six_of (HD11.out.rel h);go_simp;try with_reducible rfl
   try simp only[Act.put,yA,yB,yC]
  refine yZ ?_
  refine wpAnyH_done (by kernel_rfl) ?_ _
  have RY:=yH (RZ.out.trans hHeld)
  clear hHeld
  go_wp2_with (fail)
  go_ret
  exact⟨ret_bool (by first|rfl|assumption),RY.out⟩
end Go.Proofs.YtfekhbeaphpelaaGreatDoor
