/- Plain mathematics of layer 14: what may be asked for. No program in this text; A raw config, opened; the law on targets that are within, walked. -/

import Derived.Test.YtfekhbeaphpelaaGreatDoorZ12
import Derived.Test.YtfekhbeaphpelaaGreatDoorZ26
import Derived.Test.YtfekhbeaphpelaaGreatDoorZ29
set_option maxRecDepth 100000
set_option maxHeartbeats 8000000
namespace Go.Proofs.YtfekhbeaphpelaaGreatDoor
open Go.Lib
set_option linter.unusedVariables false
set_option linter.unusedSimpArgs false
theorem clamp_bd{n l h:Int}(hl:l≤h):l≤clampC n l h∧clampC n l h≤h:=by unfold clampC;omega
theorem target_within{c:Cf}{os:List (List UInt8×Int)}{n:Int}(h:targetC c os=some n):withinC c n=true∧flC c≤n∧mpC c≤n∧n≤ceC c:=by
 unfold targetC at h
 by_cases h0:checkC c=0
 ·rw[if_pos h0] at h
  cases ht:tellT (txC c) os with
  |none=>rw[ht] at h;cases h
  |some m=>
   rw[ht] at h
   injection h with h
   replace h:clampC m (lowC c) (ceC c)=n:=h
   have hb:=clamp_bd (n:=m) (low_le (check_zero.1 h0).1)
   rw[h] at hb
   refine⟨by unfold withinC;exact decide_eq_true ⟨h0,hb.1,hb.2⟩, ?_, ?_,hb.2⟩
   ·have:=hb.1;unfold lowC at this;omega
   ·have:=hb.1;unfold lowC at this;omega
 ·rw[if_neg h0] at h;cases h
end Go.Proofs.YtfekhbeaphpelaaGreatDoor

namespace Go.Proofs.YtfekhbeaphpelaaGreatDoor
open Go.RowKit Go.Lib
set_option linter.unusedVariables false
set_option linter.unusedSimpArgs false
theorem targ_two(c:Cf)(os:List Of):(∃n:Int,targetC c os=some n∧targN c os=n∧targI c os=true)∨(targetC c os=none∧targN c os=0∧targI c os=false):=by
 cases h:targetC c os with
 |some n=>exact .inl ⟨n,rfl,by unfold targN;rw[h];rfl,by unfold targI;rw[h];rfl⟩
 |none=>exact .inr ⟨rfl,by unfold targN;rw[h];rfl,by unfold targI;rw[h];rfl⟩
theorem ConfigWithin_at(H:ConfOk)(r0 r1 r2 r3 r4 r5:Int)(L:List Int)(A:Option Addr)(k:Nat)(zs:List (Int×Int))(AZ:Option Addr)(kz:Nat)(w:World)(hr:Rel w w)(hi:IntsIn w A k L)(hZ:PairsIn w AZ zs.length zs)(h0:i64 r0)(h1:i64 r1)(h2:i64 r2)(h3:i64 r3)(h4:i64 r4)(h5:i64 r5):
  Calls Tryz.prog 4 #[.agg #[.int .i64 r0,.int .i64 r1,.int .i64 r2,.int .i64 r3,.int .i64 r4,.int .i64 r5],.slice A L.length k,.slice AZ zs.length kz] w fun e w'=>e= .returned (.bool true)∧Rel w w':=by
 have HR:=yH hr
 obtain⟨f,c,m,o,b,t,S,hS,hz,hf,⟨bf0,bf1,bc0,bc1,bm0,bm1,bo0,bo1,bb0,bb1⟩,hC⟩:=conf14_open r0 r1 r2 r3 r4 r5 L h0 h1 h2 h3 h4 h5
 have HCo:=yH (fun(w:World) (hr:Rel w w) (hi:IntsIn w A k L)=>hC A k w hr hi)
 have HAw:=yH (fun(w:World) (hr:Rel w w)=>awake14_any H w hr)
 have HI:=yH hi
 clear hC h0 h1 h2 h3 h4 h5
 have HZ:=yH hZ
 obtain⟨os,hos⟩:∃os,offS zs=os:=⟨_,rfl⟩
 have hOf:=fun(w0 w:World) (hr:Rel w0 w) (hz:PairsIn w AZ zs.length zs)=>offers_any AZ kz zs w0 w hr hz
 rw[hos] at hOf
 have HOf:=yH hOf
 have hok:offsOk os=true:=by rw[←hos];exact offS_ok zs
 have HOk:=yH hok
 have h8:=offs_len hok
 have HFit:=yH (offs_fit hok)
 clear hOf hok hos
 have KC:=yH (fun(w:World) (hr:Rel w w)=>cchk_at H hS hf hz w hr)
 have KT:=yH (fun(w:World) (A:Option Addr) (q:Nat) (hr:Rel w w) (ho:OffArg w A q os)=>ctar_at H hS hf (A:=A) (q:=q) os.length rfl rfl rfl w hr ho)
 have T2:=yH (targ_two (f,c,m,o,b,t) os)
 have HWi:=yH (fun(n:Int) (h:targetC (f,c,m,o,b,t) os=some n)=>target_within h)
 have KW:=yH (fun(p:Int) (hp:i64 p) (E:Bool) (hE:withinC (f,c,m,o,b,t) p=E) (w:World) (hr:Rel w w)=>cwit_at H hS hf hp hE w hr)
 obtain⟨E,hE⟩:∃E,targN (f,c,m,o,b,t) os=E:=⟨_,rfl⟩
 obtain⟨I,hI⟩:∃E,targI (f,c,m,o,b,t) os=E:=⟨_,rfl⟩
 rw[hE,hI] at KT T2
 clear H hr hf hS hz hE hI hi hZ
 go_enter Tryz.func4,Tryz.ntmps4
 go_upto_region 1 with (fail)
 have HB0:=yH (Bk.new w 22 #[.int .i64 r0,.int .i64 r1,.int .i64 r2,.int .i64 r3,.int .i64 r4,.int .i64 r5])
 have R0:=yH (HR.out.alloc (.cells #[.int .i64 r0,.int .i64 r1,.int .i64 r2,.int .i64 r3,.int .i64 r4,.int .i64 r5] 22))
 obtain⟨W0,hW0⟩:∃W,w.alloc (.cells #[.int .i64 r0,.int .i64 r1,.int .i64 r2,.int .i64 r3,.int .i64 r4,.int .i64 r5] 22)=W:=⟨_,rfl⟩
 obtain⟨gR,hgR⟩:∃g,w.heap.size=g:=⟨_,rfl⟩
 rw[hW0] at HB0 R0
 rw[hgR] at HB0
 try rw[hW0]
 try rw[hgR]
 have sR:w.heap.size≤gR:=by omega
 clear hW0 hgR
 go_upto_region 2 with (go_at_call 9;(with_reducible refine(HAw.out W0 R0.out.self).mono ?_);rintro e w1 ⟨rfl,h1⟩;have R1:=yH (R0.out.trans h1);have HB1:=yH (HB0.out.rel h1);clear h1)
 obtain⟨⟨r_0,r_1,r_2,r_3,r_4,r_5⟩,⟨r_f0,r_f1,r_f2,r_f3,r_f4,r_f5⟩⟩:=six_of HB1.out
 go_upto_region 3 with (go_at_call 10;(with_reducible refine(HCo.out w1 R1.out.self (HI.out.rel R1.out)).mono ?_);rintro e w2 ⟨rfl,h2⟩;have R2:=yH (R1.out.trans h2.out);have HB2:=yH (HB1.out.rel h2.out);clear h2)
 clear r_0 r_1 r_2 r_3 r_4 r_5 r_f0 r_f1 r_f2 r_f3 r_f4 r_f5
 have HC3:=yH (Bk.new w2 25 #[.int .i64 f,.int .i64 c,.int .i64 m,.int .i64 o,.int .i64 b,.string S])
 have HB3:=yH (HB2.out.alloc (.cells #[.int .i64 f,.int .i64 c,.int .i64 m,.int .i64 o,.int .i64 b,.string S] 25))
 have R3:=yH (R2.out.alloc (.cells #[.int .i64 f,.int .i64 c,.int .i64 m,.int .i64 o,.int .i64 b,.string S] 25))
 have sC:w.heap.size≤w2.heap.size:=R2.out.size
 obtain⟨W3,hW3⟩:∃W,w2.alloc (.cells #[.int .i64 f,.int .i64 c,.int .i64 m,.int .i64 o,.int .i64 b,.string S] 25)=W:=⟨_,rfl⟩
 obtain⟨gC,hgC⟩:∃g,w2.heap.size=g:=⟨_,rfl⟩
 rw[hW3] at HC3 HB3 R3
 rw[hgC] at HC3 sC
 try rw[hW3]
 try rw[hgC]
 clear hW3 hgC HB0 HB1 HB2 R0 R1 R2 HAw HCo
 obtain⟨⟨x0,x1,x2,x3,x4,x5⟩,⟨xf0,xf1,xf2,xf3,xf4,xf5⟩⟩:=six_of HC3.out
 go_region_held3 (fun w'=>w'.cell? ⟨gC,0,none⟩=some (.int .i64 f)∧w'.cell? ⟨gC,1,none⟩=some (.int .i64 c)∧w'.cell? ⟨gC,2,none⟩=some (.int .i64 m)∧w'.cell? ⟨gC,3,none⟩=some (.int .i64 o)∧w'.cell? ⟨gC,4,none⟩=some (.int .i64 b)∧w'.cell? ⟨gC,5,none⟩=some (.string S))
  (first|exact(six_of HC3.out.drew).1|exact(six_of ((HC3.out.drew).rel R4.out)).1|exact(six_of (((HC3.out.drew).rel R4.out).rel R5.out)).1)
  (first
  |(go_at_call 17;(with_reducible refine(HOf.out W3.drew W3.drew R3.out.drew.self (HZ.out.rel9 R3.out.drew)).mono ?_);rintro e w4 ⟨A2,c2,rfl,hO,r4⟩;have R4:=yH r4;have HO:=yH (hO.arg HFit.out);clear hO r4)
  |(go_at_call 18;(with_reducible refine(KT.out w4 A2 c2 R4.out.self HO.out).mono ?_);rintro e w5 ⟨rfl,r5⟩;have R5:=yH r5.out;clear r5))
 have R5':=yH ((R3.out.drew.trans R4.out).trans R5.out)
 have HC5:=yH (((HC3.out.drew).rel R4.out).rel R5.out)
 clear R3 R4 R5 HC3 HO KT HOf HZ HFit
 rcases T2.out with ⟨n',hT,rfl,rfl⟩|⟨hT,rfl,rfl⟩
 ·obtain⟨w1,w2,w3,w4⟩:=(show withinC (f,c,m,o,b,t) E=true∧f≤E∧m≤E∧E≤c from HWi.out E hT)
  have KW1:=yH (fun(w:World) (hr:Rel w w)=>KW.out E ⟨by omega,by omega⟩ true w1 w hr)
  have k1:decide (f≤E)=true:=decide_eq_true w2
  have k2:decide (m≤E)=true:=decide_eq_true w3
  have k3:decide (E≤c)=true:=decide_eq_true w4
  clear T2 HWi KW hT w1
  obtain⟨⟨x0,x1,x2,x3,x4,x5⟩,⟨xf0,xf1,xf2,xf3,xf4,xf5⟩⟩:=six_of HC5.out
  go_upto_region 6 with (go_at_call 11;(with_reducible refine(KC.out _ R5'.out.self).mono ?_);rintro e w6 ⟨rfl,r6⟩;have R6:=yH (R5'.out.trans r6.out);have HC6:=yH (HC5.out.rel r6.out);clear r6)
  clear x0 x1 x2 x3 x4 x5 xf0 xf1 xf2 xf3 xf4 xf5
  obtain⟨⟨x0,x1,x2,x3,x4,x5⟩,⟨xf0,xf1,xf2,xf3,xf4,xf5⟩⟩:=six_of HC6.out
  go_wp2_with (go_at_call 15;(with_reducible refine(KW1.out w6 R6.out.self).mono ?_);rintro e w7 ⟨rfl,r7⟩;have R7:=yH (R6.out.trans r7.out);have HC7:=yH (HC6.out.rel r7.out);clear r7;clear x0 x1 x2 x3 x4 x5 xf0 xf1 xf2 xf3 xf4 xf5;obtain⟨⟨x0,x1,x2,x3,x4,x5⟩,⟨xf0,xf1,xf2,xf3,xf4,xf5⟩⟩:=six_of HC7.out)
  go_ret
  exact⟨rfl,R7.out⟩
 ·clear T2 HWi KW hT
  obtain⟨⟨x0,x1,x2,x3,x4,x5⟩,⟨xf0,xf1,xf2,xf3,xf4,xf5⟩⟩:=six_of HC5.out
  go_upto_region 6 with (go_at_call 11;(with_reducible refine(KC.out _ R5'.out.self).mono ?_);rintro e w6 ⟨rfl,r6⟩;have R6:=yH (R5'.out.trans r6.out);clear r6)
  go_wp2_with (fail)
  go_ret
  exact⟨rfl,R6.out⟩
end Go.Proofs.YtfekhbeaphpelaaGreatDoor
