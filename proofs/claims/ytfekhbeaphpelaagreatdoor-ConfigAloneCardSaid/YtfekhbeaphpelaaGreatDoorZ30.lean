/- Plain mathematics of layer 14: what may be asked for. No program in this text; The law on texts and numbers alone, walked. -/

import Derived.Test.YtfekhbeaphpelaaGreatDoorZ12
import Derived.Test.YtfekhbeaphpelaaGreatDoorZ27
set_option maxRecDepth 100000
set_option maxHeartbeats 8000000
namespace Go.Proofs.YtfekhbeaphpelaaGreatDoor
open Go.Lib
set_option linter.unusedVariables false
set_option linter.unusedSimpArgs false
theorem textE_cases(t:List UInt8):textE t=0∨textE t=1∨textE t=60∨textE t=61∨textE t=80∨textE t=81:=by
 unfold textE
 cases h:parseS t with
 |error p=>
  obtain⟨e,q⟩:=p
  have:=((parse_spec t).2 e q h).1
  show e=0∨e=1∨e=60∨e=61∨e=80∨e=81
  omega
 |ok x=>
  show(if rightX x then (0:Int) else 1)=0∨(if rightX x then (0:Int) else 1)=1∨_
  cases rightX x
  ·exact .inr (.inl rfl)
  ·exact .inl rfl
theorem textE_ten(t:List UInt8):textE t≠10:=by have:=textE_cases t;omega
end Go.Proofs.YtfekhbeaphpelaaGreatDoor

namespace Go.Proofs.YtfekhbeaphpelaaGreatDoor
open Go.RowKit Go.Lib
set_option linter.unusedVariables false
set_option linter.unusedSimpArgs false
theorem ints_none(w:World):IntsIn w none 0 []:=by
 unfold IntsIn
 refine⟨Nat.le_refl _,Nat.zero_le _, ?_, ?_⟩
 ·intro z h;cases h
 ·intro i h;exact absurd h (Nat.not_lt_zero _)
theorem check_bad{f c m o b:Int}{t:List UInt8}(h: ¬(1≤f∧f≤c∧c≤1000000000000∧0≤m∧m≤c∧0≤o∧o≤1048576∧0≤b∧b≤1000000000000)):checkC (f,c,m,o,b,t)=10:=by
 unfold checkC
 rw[if_neg (fun e=>h (nums_iff.1 e))]
theorem check_txt{f c m o b:Int}{t:List UInt8}(h:1≤f∧f≤c∧c≤1000000000000∧0≤m∧m≤c∧0≤o∧o≤1048576∧0≤b∧b≤1000000000000):checkC (f,c,m,o,b,t)=textE t:=by
 unfold checkC
 rw[if_pos (nums_iff.2 h)]
theorem within_top{f c m o b:Int}{t:List UInt8}(h:1≤f∧f≤c∧c≤1000000000000∧0≤m∧m≤c∧0≤o∧o≤1048576∧0≤b∧b≤1000000000000):withinC (f,c,m,o,b,t) c=(textE t==0):=by
 unfold withinC
 rw[check_txt h,Bool.eq_iff_iff,decide_eq_true_eq,beq_iff_eq]
 refine⟨fun e=>e.1,fun e=>⟨e, ?_,Int.le_refl _⟩⟩
 show max f m≤c
 omega
theorem ConfigAlone_at(H:ConfOk)(r0 r1 r2 r3 r4 r5:Int)(s:ByteArray)(hs:s.size≤9223372036854775807)(which:Int)(hwh:i64 which)(w:World)(hr:Rel w w)(h0:i64 r0)(h1:i64 r1)(h2:i64 r2)(h3:i64 r3)(h4:i64 r4)(h5:i64 r5):
  Calls Tryz.prog 8 #[.agg #[.int .i64 r0,.int .i64 r1,.int .i64 r2,.int .i64 r3,.int .i64 r4,.int .i64 r5],.string s,.int .i64 which] w fun e w'=>e= .returned (.bool true)∧Rel w w':=by
 have HR:=yH hr
 obtain⟨f,c,m,o,b,t,S,hS,hz,hf,⟨bf0,bf1,bc0,bc1,bm0,bm1,bo0,bo1,bb0,bb1⟩,hC⟩:=conf14_open r0 r1 r2 r3 r4 r5 [] h0 h1 h2 h3 h4 h5
 have HCo:=yH (show ∀w:World,Rel w w→Calls Tryz.prog 10 #[.agg #[.int .i64 r0,.int .i64 r1,.int .i64 r2,.int .i64 r3,.int .i64 r4,.int .i64 r5],.slice none 0 0] w fun e w'=>e= .returned (.agg #[.int .i64 f,.int .i64 c,.int .i64 m,.int .i64 o,.int .i64 b,.string S])∧Hid (Rel w w') from fun w hr=>hC none 0 w hr (ints_none w))
 have HAw:=yH (fun(w:World) (hr:Rel w w)=>awake14_any H w hr)
 clear hC h0 h1 h2 h3 h4 h5
 have hn:1≤f∧f≤c∧c≤1000000000000∧0≤m∧m≤c∧0≤o∧o≤1048576∧0≤b∧b≤1000000000000:=by omega
 obtain⟨u,hu⟩:∃u,s.data.toList=u:=⟨_,rfl⟩
 have hSs:B u=s:=by rw[←hu];exact B_of s
 have hul:u.length≤9223372036854775807:=by
  have:=congrArg ByteArray.size hSs
  rw[B_size] at this
  omega
 have hfs:CfFit (f,c,m,o,b,u):=⟨hf.1,hul⟩
 obtain⟨E,hE⟩:∃E,textE u=E:=⟨_,rfl⟩
 have hE10:=textE_ten u
 rw[hE] at hE10
 have ecs:checkC (f,c,m,o,b,u)=E:=by rw[check_txt hn];exact hE
 have ews:withinC (f,c,m,o,b,u) c=(E==0):=by rw[within_top hn,hE]
 obtain⟨G,hG⟩:∃G:Bool,(E==0)=G:=⟨_,rfl⟩
 rw[hG] at ews
 have k1:(E !=10)=true:=by simpa using hE10
 have KE:=yH (fun(w:World) (hr:Rel w w)=>cchk_at H hSs hfs ecs w hr)
 have KW:=yH (fun(w:World) (hr:Rel w w)=>cwit_at H hSs hfs (i64_of (by omega) (by omega)) ews w hr)
 have KD:=yH (fun(w:World) (hr:Rel w w)=>cchk_at H hS hf hz w hr)
 have j0:=pk_bd which 5 (by omega)
 obtain⟨J,hJ⟩:∃J,pk which 5=J:=⟨_,rfl⟩
 rw[hJ] at j0
 obtain⟨j0,j1⟩:=j0
 have KP:=yH (fun w=>pick14_as which 5 J (yH hJ) hwh (by omega) (by omega) w)
 have hw1:IntKind.i64.wrap (f-1)=f-1:=IntWalk.i64_in _ (by omega)
 have hw2:IntKind.i64.wrap (c+1)=c+1:=IntWalk.i64_in _ (by omega)
 have KF0:=yH (fun(w:World) (hr:Rel w w)=>cchk_at H hSs (fit_of hfs (f':=0) (c':=c) (m':=m) (o':=o) (b':=b) (i64_of (by omega) (by omega)) (i64_of (by omega) (by omega)) (i64_of (by omega) (by omega)) (i64_of (by omega) (by omega)) (i64_of (by omega) (by omega))) (check_bad (by omega)) w hr)
 have KF1:=yH (fun(w:World) (hr:Rel w w)=>cchk_at H hSs (fit_of hfs (f':=f) (c':=(f-1)) (m':=m) (o':=o) (b':=b) (i64_of (by omega) (by omega)) (i64_of (by omega) (by omega)) (i64_of (by omega) (by omega)) (i64_of (by omega) (by omega)) (i64_of (by omega) (by omega))) (check_bad (by omega)) w hr)
 have KF2:=yH (fun(w:World) (hr:Rel w w)=>cchk_at H hSs (fit_of hfs (f':=f) (c':=c) (m':=(c+1)) (o':=o) (b':=b) (i64_of (by omega) (by omega)) (i64_of (by omega) (by omega)) (i64_of (by omega) (by omega)) (i64_of (by omega) (by omega)) (i64_of (by omega) (by omega))) (check_bad (by omega)) w hr)
 have KF3:=yH (fun(w:World) (hr:Rel w w)=>cchk_at H hSs (fit_of hfs (f':=f) (c':=c) (m':=m) (o':=(-1)) (b':=b) (i64_of (by omega) (by omega)) (i64_of (by omega) (by omega)) (i64_of (by omega) (by omega)) (i64_of (by omega) (by omega)) (i64_of (by omega) (by omega))) (check_bad (by omega)) w hr)
 have KF4:=yH (fun(w:World) (hr:Rel w w)=>cchk_at H hSs (fit_of hfs (f':=f) (c':=c) (m':=m) (o':=o) (b':=(-1)) (i64_of (by omega) (by omega)) (i64_of (by omega) (by omega)) (i64_of (by omega) (by omega)) (i64_of (by omega) (by omega)) (i64_of (by omega) (by omega))) (check_bad (by omega)) w hr)
 clear H hr hf hS hz hu hSs hul hfs hE hE10 ecs ews hn hJ hwh
 go_enter Tryz.func8,Tryz.ntmps8
 go_upto_region 1 with (fail)
 have HB0:=yH (Bk.new w 22 #[.int .i64 r0,.int .i64 r1,.int .i64 r2,.int .i64 r3,.int .i64 r4,.int .i64 r5])
 have R0:=yH (HR.out.alloc (.cells #[.int .i64 r0,.int .i64 r1,.int .i64 r2,.int .i64 r3,.int .i64 r4,.int .i64 r5] 22))
 obtain⟨W0,hW0⟩:∃W,w.alloc (.cells #[.int .i64 r0,.int .i64 r1,.int .i64 r2,.int .i64 r3,.int .i64 r4,.int .i64 r5] 22)=W:=⟨_,rfl⟩
 obtain⟨gR,hgR⟩:∃g,w.heap.size=g:=⟨_,rfl⟩
 rw[hW0] at HB0 R0
 rw[hgR] at HB0
 try rw[hW0]
 try rw[hgR]
 have sR:w.heap.size≤gR:=by omega
 clear hW0 hgR
 go_upto_region 2 with (go_at_call 9;(with_reducible refine(HAw.out W0 R0.out.self).mono ?_);rintro e w1 ⟨rfl,h1⟩;have R1:=yH (R0.out.trans h1);have HB1:=yH (HB0.out.rel h1);clear h1)
 obtain⟨⟨r_0,r_1,r_2,r_3,r_4,r_5⟩,⟨r_f0,r_f1,r_f2,r_f3,r_f4,r_f5⟩⟩:=six_of HB1.out
 go_upto_region 3 with (go_at_call 10;(with_reducible refine(HCo.out w1 R1.out.self).mono ?_);rintro e w2 ⟨rfl,h2⟩;have R2:=yH (R1.out.trans h2.out);have HB2:=yH (HB1.out.rel h2.out);clear h2)
 clear r_0 r_1 r_2 r_3 r_4 r_5 r_f0 r_f1 r_f2 r_f3 r_f4 r_f5
 have HC3:=yH (Bk.new w2 25 #[.int .i64 f,.int .i64 c,.int .i64 m,.int .i64 o,.int .i64 b,.string S])
 have HB3:=yH (HB2.out.alloc (.cells #[.int .i64 f,.int .i64 c,.int .i64 m,.int .i64 o,.int .i64 b,.string S] 25))
 have R3:=yH (R2.out.alloc (.cells #[.int .i64 f,.int .i64 c,.int .i64 m,.int .i64 o,.int .i64 b,.string S] 25))
 have sC:w.heap.size≤w2.heap.size:=R2.out.size
 obtain⟨W3,hW3⟩:∃W,w2.alloc (.cells #[.int .i64 f,.int .i64 c,.int .i64 m,.int .i64 o,.int .i64 b,.string S] 25)=W:=⟨_,rfl⟩
 obtain⟨gC,hgC⟩:∃g,w2.heap.size=g:=⟨_,rfl⟩
 rw[hW3] at HC3 HB3 R3
 rw[hgC] at HC3 sC
 try rw[hW3]
 try rw[hgC]
 clear hW3 hgC HB0 HB1 HB2 R0 R1 R2 HAw
 obtain⟨⟨x0,x1,x2,x3,x4,x5⟩,⟨xf0,xf1,xf2,xf3,xf4,xf5⟩⟩:=six_of HC3.out
 go_upto_region 4 with (fail)
 have HC4:=yH (show Bk (W3.setCell ⟨gC,5,none⟩ (.string s)) gC 25 #[.int .i64 f,.int .i64 c,.int .i64 m,.int .i64 o,.int .i64 b,.string s] from HC3.out.set_ 5 (.string s))
 have hRC:gR≠gC:=Bk.ne HB3.out HC3.out r6_ne
 have HB4:=yH (HB3.out.far (p:=⟨gC,5,none⟩) hRC (.string s))
 have R4:=yH (R3.out.setCell (p:=⟨gC,5,none⟩) sC (.string s))
 clear x0 x1 x2 x3 x4 x5 xf0 xf1 xf2 xf3 xf4 xf5
 obtain⟨W4,hW4⟩:∃W,W3.setCell ⟨gC,5,none⟩ (.string s)=W:=⟨_,rfl⟩
 rw[hW4] at HC4 HB4 R4
 try rw[hW4]
 clear hW4
 clear HC3 R3 HB3 hRC
 obtain⟨⟨r_0,r_1,r_2,r_3,r_4,r_5⟩,⟨r_f0,r_f1,r_f2,r_f3,r_f4,r_f5⟩⟩:=six_of HB4.out
 go_upto_region 5 with (go_at_call 10;(with_reducible refine(HCo.out W4 R4.out.self).mono ?_);rintro e w5 ⟨rfl,h5⟩;have Q5:=yH (R4.out.trans h5.out);have HC5:=yH (HC4.out.rel h5.out);clear h5)
 clear r_0 r_1 r_2 r_3 r_4 r_5 r_f0 r_f1 r_f2 r_f3 r_f4 r_f5
 have R5:=yH Q5.out.self
 clear HC4 R4 HB4
 have HD6:=yH (Bk.new w5 25 #[.int .i64 f,.int .i64 c,.int .i64 m,.int .i64 o,.int .i64 b,.string S])
 have HC6:=yH (HC5.out.alloc (.cells #[.int .i64 f,.int .i64 c,.int .i64 m,.int .i64 o,.int .i64 b,.string S] 25))
 have R6:=yH (R5.out.alloc (.cells #[.int .i64 f,.int .i64 c,.int .i64 m,.int .i64 o,.int .i64 b,.string S] 25))
 have nHC6:=Nat.ne_of_lt HC5.out.lt
 obtain⟨W6,hW6⟩:∃W,w5.alloc (.cells #[.int .i64 f,.int .i64 c,.int .i64 m,.int .i64 o,.int .i64 b,.string S] 25)=W:=⟨_,rfl⟩
 obtain⟨gD,hgD⟩:∃g,w5.heap.size=g:=⟨_,rfl⟩
 rw[hW6] at HD6 R6 HC6
 rw[hgD] at HD6 nHC6
 have sgD:w5.heap.size≤gD:=by rw[←hgD];exact R5.out.size
 try rw[hW6]
 try rw[hgD]
 clear hW6 hgD
 obtain⟨⟨x0,x1,x2,x3,x4,x5⟩,⟨xf0,xf1,xf2,xf3,xf4,xf5⟩⟩:=six_of HC6.out
 go_upto_region 6 with (fail)
 have HF7:=yH (Bk.new W6 25 #[.int .i64 f,.int .i64 c,.int .i64 m,.int .i64 o,.int .i64 b,.string s])
 have HC7:=yH (HC6.out.alloc (.cells #[.int .i64 f,.int .i64 c,.int .i64 m,.int .i64 o,.int .i64 b,.string s] 25))
 have HD7:=yH (HD6.out.alloc (.cells #[.int .i64 f,.int .i64 c,.int .i64 m,.int .i64 o,.int .i64 b,.string s] 25))
 have R7:=yH (R6.out.alloc (.cells #[.int .i64 f,.int .i64 c,.int .i64 m,.int .i64 o,.int .i64 b,.string s] 25))
 have nHC7:=Nat.ne_of_lt HC6.out.lt
 have nHD7:=Nat.ne_of_lt HD6.out.lt
 obtain⟨W7,hW7⟩:∃W,W6.alloc (.cells #[.int .i64 f,.int .i64 c,.int .i64 m,.int .i64 o,.int .i64 b,.string s] 25)=W:=⟨_,rfl⟩
 obtain⟨gF,hgF⟩:∃g,W6.heap.size=g:=⟨_,rfl⟩
 rw[hW7] at HF7 R7 HC7 HD7
 rw[hgF] at HF7 nHC7 nHD7
 have sgF:w5.heap.size≤gF:=by rw[←hgF];exact R6.out.size
 try rw[hW7]
 try rw[hgF]
 clear hW7 hgF
 clear x0 x1 x2 x3 x4 x5 xf0 xf1 xf2 xf3 xf4 xf5
 obtain⟨⟨x0,x1,x2,x3,x4,x5⟩,⟨xf0,xf1,xf2,xf3,xf4,xf5⟩⟩:=six_of HC7.out
 obtain⟨⟨y_0,y_1,y_2,y_3,y_4,y_5⟩,⟨y_f0,y_f1,y_f2,y_f3,y_f4,y_f5⟩⟩:=six_of HF7.out
 clear HC5 HC6 HD6 R6 HCo nHC6
 have hJ:J=0∨J=1∨J=2∨J=3∨J=4:=by omega
 rcases hJ with rfl|rfl|rfl|rfl|rfl
 ·go_upto_region 16 with (go_at_call 20;(with_reducible refine(KP.out _).mono ?_);rintro e w9 ⟨rfl,rfl⟩)
  have HF8:=yH (show Bk (W7.setCell ⟨gF,0,none⟩ (.int .i64 0)) gF 25 #[.int .i64 0,.int .i64 c,.int .i64 m,.int .i64 o,.int .i64 b,.string s] from HF7.out.set_ 0 (.int .i64 0))
  have HC8:=yH (HC7.out.far (p:=⟨gF,0,none⟩) nHC7 (.int .i64 0))
  have HD8:=yH (HD7.out.far (p:=⟨gF,0,none⟩) nHD7 (.int .i64 0))
  have R8:=yH (R7.out.setCell (p:=⟨gF,0,none⟩) sgF (.int .i64 0))
  clear x0 x1 x2 x3 x4 x5 xf0 xf1 xf2 xf3 xf4 xf5
  clear y_0 y_1 y_2 y_3 y_4 y_5 y_f0 y_f1 y_f2 y_f3 y_f4 y_f5
  obtain⟨W8,hW8⟩:∃W,W7.setCell ⟨gF,0,none⟩ (.int .i64 0)=W:=⟨_,rfl⟩
  rw[hW8] at HF8 HC8 HD8 R8
  try rw[hW8]
  clear hW8
  have RZ:=yH (Q5.out.trans R8.out)
  clear HF7 HC7 HD7 R7 R8 Q5 KP
  obtain⟨⟨x0,x1,x2,x3,x4,x5⟩,_⟩:=six_of HC8.out
  go_upto_region 17 with (go_at_call 11;(with_reducible refine(KE.out W8 RZ.out.self).mono ?_);rintro e w9 ⟨rfl,r9⟩;have R9:=yH (RZ.out.trans r9.out);have HC9:=yH (HC8.out.rel r9.out);have HD9:=yH (HD8.out.rel r9.out);have HF9:=yH (HF8.out.rel r9.out);clear r9)
  clear x0 x1 x2 x3 x4 x5 HC8 HD8 HF8 RZ
  obtain⟨⟨x0,x1,x2,x3,x4,x5⟩,_⟩:=six_of HC9.out
  obtain⟨⟨y_0,y_1,y_2,y_3,y_4,y_5⟩,_⟩:=six_of HF9.out
  obtain⟨⟨z0,z1,z2,z3,z4,z5⟩,_⟩:=six_of HD9.out
  go_wp2_with (first
   |(go_at_call 11;(with_reducible refine(KF0.out w9 R9.out.self).mono ?_);rintro e w10 ⟨rfl,r10⟩;have R10:=yH (R9.out.trans r10.out);obtain⟨⟨x0,x1,x2,x3,x4,x5⟩,_⟩:=six_of (HC9.out.rel r10.out);obtain⟨⟨y_0,y_1,y_2,y_3,y_4,y_5⟩,_⟩:=six_of (HF9.out.rel r10.out);obtain⟨⟨z0,z1,z2,z3,z4,z5⟩,_⟩:=six_of (HD9.out.rel r10.out);have HC10:=yH (HC9.out.rel r10.out);clear r10)
   |(go_at_call 11;(with_reducible refine(KD.out w10 R10.out.self).mono ?_);rintro e w11 ⟨rfl,r11⟩;have R11:=yH (R10.out.trans r11.out);obtain⟨⟨x0,x1,x2,x3,x4,x5⟩,_⟩:=six_of (HC10.out.rel r11.out);clear r11)
   |(go_at_call 15;(with_reducible refine(KW.out w11 R11.out.self).mono ?_);rintro e w12 ⟨rfl,r12⟩;have R12:=yH (R11.out.trans r12.out);clear r12))
  go_ret
  exact⟨ret_bool (by first|rfl|(rw[hG];simp)|simp[hG]),R12.out⟩
 ·go_upto_region 16 with (go_at_call 20;(with_reducible refine(KP.out _).mono ?_);rintro e w9 ⟨rfl,rfl⟩)
  have HF8:=yH (show Bk (W7.setCell ⟨gF,1,none⟩ (.int .i64 (f-1))) gF 25 #[.int .i64 f,.int .i64 (f-1),.int .i64 m,.int .i64 o,.int .i64 b,.string s] from HF7.out.set_ 1 (.int .i64 (f-1)))
  have HC8:=yH (HC7.out.far (p:=⟨gF,1,none⟩) nHC7 (.int .i64 (f-1)))
  have HD8:=yH (HD7.out.far (p:=⟨gF,1,none⟩) nHD7 (.int .i64 (f-1)))
  have R8:=yH (R7.out.setCell (p:=⟨gF,1,none⟩) sgF (.int .i64 (f-1)))
  clear x0 x1 x2 x3 x4 x5 xf0 xf1 xf2 xf3 xf4 xf5
  clear y_0 y_1 y_2 y_3 y_4 y_5 y_f0 y_f1 y_f2 y_f3 y_f4 y_f5
  obtain⟨W8,hW8⟩:∃W,W7.setCell ⟨gF,1,none⟩ (.int .i64 (f-1))=W:=⟨_,rfl⟩
  rw[hW8] at HF8 HC8 HD8 R8
  try rw[hW8]
  clear hW8
  have RZ:=yH (Q5.out.trans R8.out)
  clear HF7 HC7 HD7 R7 R8 Q5 KP
  obtain⟨⟨x0,x1,x2,x3,x4,x5⟩,_⟩:=six_of HC8.out
  go_upto_region 17 with (go_at_call 11;(with_reducible refine(KE.out W8 RZ.out.self).mono ?_);rintro e w9 ⟨rfl,r9⟩;have R9:=yH (RZ.out.trans r9.out);have HC9:=yH (HC8.out.rel r9.out);have HD9:=yH (HD8.out.rel r9.out);have HF9:=yH (HF8.out.rel r9.out);clear r9)
  clear x0 x1 x2 x3 x4 x5 HC8 HD8 HF8 RZ
  obtain⟨⟨x0,x1,x2,x3,x4,x5⟩,_⟩:=six_of HC9.out
  obtain⟨⟨y_0,y_1,y_2,y_3,y_4,y_5⟩,_⟩:=six_of HF9.out
  obtain⟨⟨z0,z1,z2,z3,z4,z5⟩,_⟩:=six_of HD9.out
  go_wp2_with (first
   |(go_at_call 11;(with_reducible refine(KF1.out w9 R9.out.self).mono ?_);rintro e w10 ⟨rfl,r10⟩;have R10:=yH (R9.out.trans r10.out);obtain⟨⟨x0,x1,x2,x3,x4,x5⟩,_⟩:=six_of (HC9.out.rel r10.out);obtain⟨⟨y_0,y_1,y_2,y_3,y_4,y_5⟩,_⟩:=six_of (HF9.out.rel r10.out);obtain⟨⟨z0,z1,z2,z3,z4,z5⟩,_⟩:=six_of (HD9.out.rel r10.out);have HC10:=yH (HC9.out.rel r10.out);clear r10)
   |(go_at_call 11;(with_reducible refine(KD.out w10 R10.out.self).mono ?_);rintro e w11 ⟨rfl,r11⟩;have R11:=yH (R10.out.trans r11.out);obtain⟨⟨x0,x1,x2,x3,x4,x5⟩,_⟩:=six_of (HC10.out.rel r11.out);clear r11)
   |(go_at_call 15;(with_reducible refine(KW.out w11 R11.out.self).mono ?_);rintro e w12 ⟨rfl,r12⟩;have R12:=yH (R11.out.trans r12.out);clear r12))
  go_ret
  exact⟨ret_bool (by first|rfl|(rw[hG];simp)|simp[hG]),R12.out⟩
 ·go_upto_region 16 with (go_at_call 20;(with_reducible refine(KP.out _).mono ?_);rintro e w9 ⟨rfl,rfl⟩)
  have HF8:=yH (show Bk (W7.setCell ⟨gF,2,none⟩ (.int .i64 (c+1))) gF 25 #[.int .i64 f,.int .i64 c,.int .i64 (c+1),.int .i64 o,.int .i64 b,.string s] from HF7.out.set_ 2 (.int .i64 (c+1)))
  have HC8:=yH (HC7.out.far (p:=⟨gF,2,none⟩) nHC7 (.int .i64 (c+1)))
  have HD8:=yH (HD7.out.far (p:=⟨gF,2,none⟩) nHD7 (.int .i64 (c+1)))
  have R8:=yH (R7.out.setCell (p:=⟨gF,2,none⟩) sgF (.int .i64 (c+1)))
  clear x0 x1 x2 x3 x4 x5 xf0 xf1 xf2 xf3 xf4 xf5
  clear y_0 y_1 y_2 y_3 y_4 y_5 y_f0 y_f1 y_f2 y_f3 y_f4 y_f5
  obtain⟨W8,hW8⟩:∃W,W7.setCell ⟨gF,2,none⟩ (.int .i64 (c+1))=W:=⟨_,rfl⟩
  rw[hW8] at HF8 HC8 HD8 R8
  try rw[hW8]
  clear hW8
  have RZ:=yH (Q5.out.trans R8.out)
  clear HF7 HC7 HD7 R7 R8 Q5 KP
  obtain⟨⟨x0,x1,x2,x3,x4,x5⟩,_⟩:=six_of HC8.out
  go_upto_region 17 with (go_at_call 11;(with_reducible refine(KE.out W8 RZ.out.self).mono ?_);rintro e w9 ⟨rfl,r9⟩;have R9:=yH (RZ.out.trans r9.out);have HC9:=yH (HC8.out.rel r9.out);have HD9:=yH (HD8.out.rel r9.out);have HF9:=yH (HF8.out.rel r9.out);clear r9)
  clear x0 x1 x2 x3 x4 x5 HC8 HD8 HF8 RZ
  obtain⟨⟨x0,x1,x2,x3,x4,x5⟩,_⟩:=six_of HC9.out
  obtain⟨⟨y_0,y_1,y_2,y_3,y_4,y_5⟩,_⟩:=six_of HF9.out
  obtain⟨⟨z0,z1,z2,z3,z4,z5⟩,_⟩:=six_of HD9.out
  go_wp2_with (first
   |(go_at_call 11;(with_reducible refine(KF2.out w9 R9.out.self).mono ?_);rintro e w10 ⟨rfl,r10⟩;have R10:=yH (R9.out.trans r10.out);obtain⟨⟨x0,x1,x2,x3,x4,x5⟩,_⟩:=six_of (HC9.out.rel r10.out);obtain⟨⟨y_0,y_1,y_2,y_3,y_4,y_5⟩,_⟩:=six_of (HF9.out.rel r10.out);obtain⟨⟨z0,z1,z2,z3,z4,z5⟩,_⟩:=six_of (HD9.out.rel r10.out);have HC10:=yH (HC9.out.rel r10.out);clear r10)
   |(go_at_call 11;(with_reducible refine(KD.out w10 R10.out.self).mono ?_);rintro e w11 ⟨rfl,r11⟩;have R11:=yH (R10.out.trans r11.out);obtain⟨⟨x0,x1,x2,x3,x4,x5⟩,_⟩:=six_of (HC10.out.rel r11.out);clear r11)
   |(go_at_call 15;(with_reducible refine(KW.out w11 R11.out.self).mono ?_);rintro e w12 ⟨rfl,r12⟩;have R12:=yH (R11.out.trans r12.out);clear r12))
  go_ret
  exact⟨ret_bool (by first|rfl|(rw[hG];simp)|simp[hG]),R12.out⟩
 ·go_upto_region 16 with (go_at_call 20;(with_reducible refine(KP.out _).mono ?_);rintro e w9 ⟨rfl,rfl⟩)
  have HF8:=yH (show Bk (W7.setCell ⟨gF,3,none⟩ (.int .i64 (-1))) gF 25 #[.int .i64 f,.int .i64 c,.int .i64 m,.int .i64 (-1),.int .i64 b,.string s] from HF7.out.set_ 3 (.int .i64 (-1)))
  have HC8:=yH (HC7.out.far (p:=⟨gF,3,none⟩) nHC7 (.int .i64 (-1)))
  have HD8:=yH (HD7.out.far (p:=⟨gF,3,none⟩) nHD7 (.int .i64 (-1)))
  have R8:=yH (R7.out.setCell (p:=⟨gF,3,none⟩) sgF (.int .i64 (-1)))
  clear x0 x1 x2 x3 x4 x5 xf0 xf1 xf2 xf3 xf4 xf5
  clear y_0 y_1 y_2 y_3 y_4 y_5 y_f0 y_f1 y_f2 y_f3 y_f4 y_f5
  obtain⟨W8,hW8⟩:∃W,W7.setCell ⟨gF,3,none⟩ (.int .i64 (-1))=W:=⟨_,rfl⟩
  rw[hW8] at HF8 HC8 HD8 R8
  try rw[hW8]
  clear hW8
  have RZ:=yH (Q5.out.trans R8.out)
  clear HF7 HC7 HD7 R7 R8 Q5 KP
  obtain⟨⟨x0,x1,x2,x3,x4,x5⟩,_⟩:=six_of HC8.out
  go_upto_region 17 with (go_at_call 11;(with_reducible refine(KE.out W8 RZ.out.self).mono ?_);rintro e w9 ⟨rfl,r9⟩;have R9:=yH (RZ.out.trans r9.out);have HC9:=yH (HC8.out.rel r9.out);have HD9:=yH (HD8.out.rel r9.out);have HF9:=yH (HF8.out.rel r9.out);clear r9)
  clear x0 x1 x2 x3 x4 x5 HC8 HD8 HF8 RZ
  obtain⟨⟨x0,x1,x2,x3,x4,x5⟩,_⟩:=six_of HC9.out
  obtain⟨⟨y_0,y_1,y_2,y_3,y_4,y_5⟩,_⟩:=six_of HF9.out
  obtain⟨⟨z0,z1,z2,z3,z4,z5⟩,_⟩:=six_of HD9.out
  go_wp2_with (first
   |(go_at_call 11;(with_reducible refine(KF3.out w9 R9.out.self).mono ?_);rintro e w10 ⟨rfl,r10⟩;have R10:=yH (R9.out.trans r10.out);obtain⟨⟨x0,x1,x2,x3,x4,x5⟩,_⟩:=six_of (HC9.out.rel r10.out);obtain⟨⟨y_0,y_1,y_2,y_3,y_4,y_5⟩,_⟩:=six_of (HF9.out.rel r10.out);obtain⟨⟨z0,z1,z2,z3,z4,z5⟩,_⟩:=six_of (HD9.out.rel r10.out);have HC10:=yH (HC9.out.rel r10.out);clear r10)
   |(go_at_call 11;(with_reducible refine(KD.out w10 R10.out.self).mono ?_);rintro e w11 ⟨rfl,r11⟩;have R11:=yH (R10.out.trans r11.out);obtain⟨⟨x0,x1,x2,x3,x4,x5⟩,_⟩:=six_of (HC10.out.rel r11.out);clear r11)
   |(go_at_call 15;(with_reducible refine(KW.out w11 R11.out.self).mono ?_);rintro e w12 ⟨rfl,r12⟩;have R12:=yH (R11.out.trans r12.out);clear r12))
  go_ret
  exact⟨ret_bool (by first|rfl|(rw[hG];simp)|simp[hG]),R12.out⟩
 ·go_upto_region 16 with (go_at_call 20;(with_reducible refine(KP.out _).mono ?_);rintro e w9 ⟨rfl,rfl⟩)
  have HF8:=yH (show Bk (W7.setCell ⟨gF,4,none⟩ (.int .i64 (-1))) gF 25 #[.int .i64 f,.int .i64 c,.int .i64 m,.int .i64 o,.int .i64 (-1),.string s] from HF7.out.set_ 4 (.int .i64 (-1)))
  have HC8:=yH (HC7.out.far (p:=⟨gF,4,none⟩) nHC7 (.int .i64 (-1)))
  have HD8:=yH (HD7.out.far (p:=⟨gF,4,none⟩) nHD7 (.int .i64 (-1)))
  have R8:=yH (R7.out.setCell (p:=⟨gF,4,none⟩) sgF (.int .i64 (-1)))
  clear x0 x1 x2 x3 x4 x5 xf0 xf1 xf2 xf3 xf4 xf5
  clear y_0 y_1 y_2 y_3 y_4 y_5 y_f0 y_f1 y_f2 y_f3 y_f4 y_f5
  obtain⟨W8,hW8⟩:∃W,W7.setCell ⟨gF,4,none⟩ (.int .i64 (-1))=W:=⟨_,rfl⟩
  rw[hW8] at HF8 HC8 HD8 R8
  try rw[hW8]
  clear hW8
  have RZ:=yH (Q5.out.trans R8.out)
  clear HF7 HC7 HD7 R7 R8 Q5 KP
  obtain⟨⟨x0,x1,x2,x3,x4,x5⟩,_⟩:=six_of HC8.out
  go_upto_region 17 with (go_at_call 11;(with_reducible refine(KE.out W8 RZ.out.self).mono ?_);rintro e w9 ⟨rfl,r9⟩;have R9:=yH (RZ.out.trans r9.out);have HC9:=yH (HC8.out.rel r9.out);have HD9:=yH (HD8.out.rel r9.out);have HF9:=yH (HF8.out.rel r9.out);clear r9)
  clear x0 x1 x2 x3 x4 x5 HC8 HD8 HF8 RZ
  obtain⟨⟨x0,x1,x2,x3,x4,x5⟩,_⟩:=six_of HC9.out
  obtain⟨⟨y_0,y_1,y_2,y_3,y_4,y_5⟩,_⟩:=six_of HF9.out
  obtain⟨⟨z0,z1,z2,z3,z4,z5⟩,_⟩:=six_of HD9.out
  go_wp2_with (first
   |(go_at_call 11;(with_reducible refine(KF4.out w9 R9.out.self).mono ?_);rintro e w10 ⟨rfl,r10⟩;have R10:=yH (R9.out.trans r10.out);obtain⟨⟨x0,x1,x2,x3,x4,x5⟩,_⟩:=six_of (HC9.out.rel r10.out);obtain⟨⟨y_0,y_1,y_2,y_3,y_4,y_5⟩,_⟩:=six_of (HF9.out.rel r10.out);obtain⟨⟨z0,z1,z2,z3,z4,z5⟩,_⟩:=six_of (HD9.out.rel r10.out);have HC10:=yH (HC9.out.rel r10.out);clear r10)
   |(go_at_call 11;(with_reducible refine(KD.out w10 R10.out.self).mono ?_);rintro e w11 ⟨rfl,r11⟩;have R11:=yH (R10.out.trans r11.out);obtain⟨⟨x0,x1,x2,x3,x4,x5⟩,_⟩:=six_of (HC10.out.rel r11.out);clear r11)
   |(go_at_call 15;(with_reducible refine(KW.out w11 R11.out.self).mono ?_);rintro e w12 ⟨rfl,r12⟩;have R12:=yH (R11.out.trans r12.out);clear r12))
  go_ret
  exact⟨ret_bool (by first|rfl|(rw[hG];simp)|simp[hG]),R12.out⟩
end Go.Proofs.YtfekhbeaphpelaaGreatDoor
