/- The document's own Same of layer 15. -/

import Derived.Test.YtjhjdiaomnpkmaaGreatDoorZ37
set_option maxRecDepth 100000
set_option maxHeartbeats 8000000
set_option linter.unusedVariables false
set_option linter.unusedSimpArgs false
namespace Go.Proofs.YtjhjdiaomnpkmaaGreatDoor
open Go.RowKit Go.Lib
theorem rsame15_yes(la at_ sw:Int)(L:List Int)(A A':Option Addr)(n k k':Nat)(hn:L.length=n)(w:World)(hr:Rel w w)(hi:IntsIn w A k L)(hi':IntsIn w A' k' L):
  Calls Tryz.prog 17 #[.agg #[.int .i64 la,.int .i64 at_,.slice A n k,.int .i64 sw],.agg #[.int .i64 la,.int .i64 at_,.slice A' n k',.int .i64 sw]] w fun e w'=>e= .returned (.bool true)∧Rel w w':=by
 have HX0:=yH ((Bk.new w 27 #[.int .i64 la,.int .i64 at_,.slice A n k,.int .i64 sw]).alloc (.cells #[.int .i64 la,.int .i64 at_,.slice A' n k',.int .i64 sw] 27))
 have HY0:=yH (Bk.new (w.alloc (.cells #[.int .i64 la,.int .i64 at_,.slice A n k,.int .i64 sw] 27)) 27 #[.int .i64 la,.int .i64 at_,.slice A' n k',.int .i64 sw])
 have HR0:=yH ((hr.alloc (.cells #[.int .i64 la,.int .i64 at_,.slice A n k,.int .i64 sw] 27)).alloc (.cells #[.int .i64 la,.int .i64 at_,.slice A' n k',.int .i64 sw] 27))
 have HI0:=yH (hi.rel HR0.out)
 have HJ0:=yH (hi'.rel HR0.out)
 have hmax:n≤k∧k≤maxLen∧n≤k'∧k'≤maxLen:=by rw[←hn];exact⟨hi.1,hi.2.1,hi'.1,hi'.2.1⟩
 obtain⟨hnk,hkm,hnk',hkm'⟩:=hmax
 unfold maxLen at hkm hkm'
 have HN:=yH hn
 have k1:(la !=la)=false:=by simp
 have k2:(at_ !=at_)=false:=by simp
 have k3:(sw !=sw)=false:=by simp
 have k4:((n:Int) !=(n:Int))=false:=by simp
 clear hr hi hi' hn
 go_enter Tryz.func17,Tryz.ntmps17
 go_upto_region 1 with (fail)
 have HX:=HX0
 have HY:=HY0
 have HR:=HR0
 have HI:=HI0
 have HJ:=HJ0
 rw[World.size_alloc] at HY
 obtain⟨W,hW⟩:∃W,(w.alloc (.cells #[.int .i64 la,.int .i64 at_,.slice A n k,.int .i64 sw] 27)).alloc (.cells #[.int .i64 la,.int .i64 at_,.slice A' n k',.int .i64 sw] 27)=W:=⟨_,rfl⟩
 obtain⟨gy,hgy⟩:∃g,w.heap.size+1=g:=⟨_,rfl⟩
 rw[hW] at HX HY HR HI HJ
 rw[hgy] at HY
 try rw[hW]
 try rw[hgy]
 obtain⟨gx,hgx⟩:∃g,w.heap.size=g:=⟨_,rfl⟩
 rw[hgx] at HX
 try rw[hgx]
 clear hW hgy hgx HX0 HY0 HR0 HI0 HJ0
 obtain⟨⟨p0,p1,p2,p3⟩,_⟩:=four_of HX.out
 obtain⟨⟨q0,q1,q2,q3⟩,_⟩:=four_of HY.out
 go_upto_block 0 with (fail)
 go_wp2_with (fail)
 go_loopw [5] (fun i wr=>∃j:Nat,i= .int .i64 (j:Int)∧j≤n∧Hid (Rel W wr)) (fun i _=>n-(RowKit.intOf i).toNat)
 case atStart=>exact⟨0,rfl,by omega,yH HR.out.self⟩
 case round=>
  obtain⟨j,rfl,hj,HW⟩:=hrel
  clear p0 p1 p2 p3 q0 q1 q2 q3
  obtain⟨⟨p0,p1,p2,p3⟩,_⟩:=four_of (HX.out.rel HW.out)
  obtain⟨⟨q0,q1,q2,q3⟩,_⟩:=four_of (HY.out.rel HW.out)
  by_cases hlt:j<n
  ·have hjL:j<L.length:=by rw[HN.out];exact hlt
   obtain⟨g,off,rfl,hc⟩:=ints_row (HI.out.rel HW.out) (by omega)
   obtain⟨g',off',rfl,hc'⟩:=ints_row (HJ.out.rel HW.out) (by omega)
   have px:=hc j hjL
   have py:=hc' j hjL
   obtain⟨x,hx⟩:∃x,L[j]=x:=⟨_,rfl⟩
   rw[hx] at px py
   have hij:(j:Int)<(n:Int):=by omega
   have hij0:(0:Int)≤(j:Int):=by omega
   have k5:(x !=x)=false:=by simp
   clear hc hc' hx
   go_upto_region 6 with (fail)
   go_quiet (fail)
   all_goals
    go_wp2_with (fail)
    go_roundw
    case rel=>exact⟨j+1,by go_num,by omega,yH (HW.out.drewN _)⟩
    case measure=>simp[RowKit.intOf];omega
  ·obtain rfl:j=n:=by omega
   go_wp2_with (fail)
   go_ret
   exact⟨rfl,HR.out.trans HW.out⟩
theorem rcheck_bad0(f c m o b:Int)(S:ByteArray)(d0:f<1)(w:World)(hr:Rel w w):
  Calls Tryz.prog 40 #[.agg #[.int .i64 f,.int .i64 c,.int .i64 m,.int .i64 o,.int .i64 b,.string S]] w fun e w'=>e= .returned (.int .i64 10)∧Rel w w':=by
 have e0:decide (f<1)=true:=decide_eq_true d0
 obtain⟨gx,hgx,W,hW,HX,R1⟩:=conf_box hr f c m o b S
 go_enter Tryz.func40,Tryz.ntmps40
 go_upto_region 1 with (fail)
 try rw[hW]
 try rw[hgx]
 clear hW hgx
 obtain⟨⟨x0,x1,x2,x3,x4,x5⟩,_⟩:=six_of HX.out
 go_wp2_with (fail)
 go_ret
 exact⟨rfl,R1.out⟩
theorem rcheck_bad1(f c m o b:Int)(S:ByteArray)(d0: ¬f<1)(d1:c<f)(w:World)(hr:Rel w w):
  Calls Tryz.prog 40 #[.agg #[.int .i64 f,.int .i64 c,.int .i64 m,.int .i64 o,.int .i64 b,.string S]] w fun e w'=>e= .returned (.int .i64 10)∧Rel w w':=by
 have e0:decide (f<1)=false:=decide_eq_false d0
 have e1:decide (c<f)=true:=decide_eq_true d1
 obtain⟨gx,hgx,W,hW,HX,R1⟩:=conf_box hr f c m o b S
 go_enter Tryz.func40,Tryz.ntmps40
 go_upto_region 1 with (fail)
 try rw[hW]
 try rw[hgx]
 clear hW hgx
 obtain⟨⟨x0,x1,x2,x3,x4,x5⟩,_⟩:=six_of HX.out
 go_wp2_with (fail)
 go_ret
 exact⟨rfl,R1.out⟩
theorem rcheck_bad2(f c m o b:Int)(S:ByteArray)(d0: ¬f<1)(d1: ¬c<f)(d2:1000000000000<c)(w:World)(hr:Rel w w):
  Calls Tryz.prog 40 #[.agg #[.int .i64 f,.int .i64 c,.int .i64 m,.int .i64 o,.int .i64 b,.string S]] w fun e w'=>e= .returned (.int .i64 10)∧Rel w w':=by
 have e0:decide (f<1)=false:=decide_eq_false d0
 have e1:decide (c<f)=false:=decide_eq_false d1
 have e2:decide (1000000000000<c)=true:=decide_eq_true d2
 obtain⟨gx,hgx,W,hW,HX,R1⟩:=conf_box hr f c m o b S
 go_enter Tryz.func40,Tryz.ntmps40
 go_upto_region 1 with (fail)
 try rw[hW]
 try rw[hgx]
 clear hW hgx
 obtain⟨⟨x0,x1,x2,x3,x4,x5⟩,_⟩:=six_of HX.out
 go_wp2_with (fail)
 go_ret
 exact⟨rfl,R1.out⟩
theorem rcheck_bad3(f c m o b:Int)(S:ByteArray)(d0: ¬f<1)(d1: ¬c<f)(d2: ¬1000000000000<c)(d3:m<0)(w:World)(hr:Rel w w):
  Calls Tryz.prog 40 #[.agg #[.int .i64 f,.int .i64 c,.int .i64 m,.int .i64 o,.int .i64 b,.string S]] w fun e w'=>e= .returned (.int .i64 10)∧Rel w w':=by
 have e0:decide (f<1)=false:=decide_eq_false d0
 have e1:decide (c<f)=false:=decide_eq_false d1
 have e2:decide (1000000000000<c)=false:=decide_eq_false d2
 have e3:decide (m<0)=true:=decide_eq_true d3
 obtain⟨gx,hgx,W,hW,HX,R1⟩:=conf_box hr f c m o b S
 go_enter Tryz.func40,Tryz.ntmps40
 go_upto_region 1 with (fail)
 try rw[hW]
 try rw[hgx]
 clear hW hgx
 obtain⟨⟨x0,x1,x2,x3,x4,x5⟩,_⟩:=six_of HX.out
 go_wp2_with (fail)
 go_ret
 exact⟨rfl,R1.out⟩
theorem rcheck_bad4(f c m o b:Int)(S:ByteArray)(d0: ¬f<1)(d1: ¬c<f)(d2: ¬1000000000000<c)(d3: ¬m<0)(d4:c<m)(w:World)(hr:Rel w w):
  Calls Tryz.prog 40 #[.agg #[.int .i64 f,.int .i64 c,.int .i64 m,.int .i64 o,.int .i64 b,.string S]] w fun e w'=>e= .returned (.int .i64 10)∧Rel w w':=by
 have e0:decide (f<1)=false:=decide_eq_false d0
 have e1:decide (c<f)=false:=decide_eq_false d1
 have e2:decide (1000000000000<c)=false:=decide_eq_false d2
 have e3:decide (m<0)=false:=decide_eq_false d3
 have e4:decide (c<m)=true:=decide_eq_true d4
 obtain⟨gx,hgx,W,hW,HX,R1⟩:=conf_box hr f c m o b S
 go_enter Tryz.func40,Tryz.ntmps40
 go_upto_region 1 with (fail)
 try rw[hW]
 try rw[hgx]
 clear hW hgx
 obtain⟨⟨x0,x1,x2,x3,x4,x5⟩,_⟩:=six_of HX.out
 go_wp2_with (fail)
 go_ret
 exact⟨rfl,R1.out⟩
theorem rcheck_bad5(f c m o b:Int)(S:ByteArray)(d0: ¬f<1)(d1: ¬c<f)(d2: ¬1000000000000<c)(d3: ¬m<0)(d4: ¬c<m)(d5:o<0)(w:World)(hr:Rel w w):
  Calls Tryz.prog 40 #[.agg #[.int .i64 f,.int .i64 c,.int .i64 m,.int .i64 o,.int .i64 b,.string S]] w fun e w'=>e= .returned (.int .i64 10)∧Rel w w':=by
 have e0:decide (f<1)=false:=decide_eq_false d0
 have e1:decide (c<f)=false:=decide_eq_false d1
 have e2:decide (1000000000000<c)=false:=decide_eq_false d2
 have e3:decide (m<0)=false:=decide_eq_false d3
 have e4:decide (c<m)=false:=decide_eq_false d4
 have e5:decide (o<0)=true:=decide_eq_true d5
 obtain⟨gx,hgx,W,hW,HX,R1⟩:=conf_box hr f c m o b S
 go_enter Tryz.func40,Tryz.ntmps40
 go_upto_region 1 with (fail)
 try rw[hW]
 try rw[hgx]
 clear hW hgx
 obtain⟨⟨x0,x1,x2,x3,x4,x5⟩,_⟩:=six_of HX.out
 go_wp2_with (fail)
 go_ret
 exact⟨rfl,R1.out⟩
theorem rcheck_bad6(f c m o b:Int)(S:ByteArray)(d0: ¬f<1)(d1: ¬c<f)(d2: ¬1000000000000<c)(d3: ¬m<0)(d4: ¬c<m)(d5: ¬o<0)(d6:1048576<o)(w:World)(hr:Rel w w):
  Calls Tryz.prog 40 #[.agg #[.int .i64 f,.int .i64 c,.int .i64 m,.int .i64 o,.int .i64 b,.string S]] w fun e w'=>e= .returned (.int .i64 10)∧Rel w w':=by
 have e0:decide (f<1)=false:=decide_eq_false d0
 have e1:decide (c<f)=false:=decide_eq_false d1
 have e2:decide (1000000000000<c)=false:=decide_eq_false d2
 have e3:decide (m<0)=false:=decide_eq_false d3
 have e4:decide (c<m)=false:=decide_eq_false d4
 have e5:decide (o<0)=false:=decide_eq_false d5
 have e6:decide (1048576<o)=true:=decide_eq_true d6
 obtain⟨gx,hgx,W,hW,HX,R1⟩:=conf_box hr f c m o b S
 go_enter Tryz.func40,Tryz.ntmps40
 go_upto_region 1 with (fail)
 try rw[hW]
 try rw[hgx]
 clear hW hgx
 obtain⟨⟨x0,x1,x2,x3,x4,x5⟩,_⟩:=six_of HX.out
 go_wp2_with (fail)
 go_ret
 exact⟨rfl,R1.out⟩
theorem rcheck_bad7(f c m o b:Int)(S:ByteArray)(d0: ¬f<1)(d1: ¬c<f)(d2: ¬1000000000000<c)(d3: ¬m<0)(d4: ¬c<m)(d5: ¬o<0)(d6: ¬1048576<o)(d7:b<0)(w:World)(hr:Rel w w):
  Calls Tryz.prog 40 #[.agg #[.int .i64 f,.int .i64 c,.int .i64 m,.int .i64 o,.int .i64 b,.string S]] w fun e w'=>e= .returned (.int .i64 10)∧Rel w w':=by
 have e0:decide (f<1)=false:=decide_eq_false d0
 have e1:decide (c<f)=false:=decide_eq_false d1
 have e2:decide (1000000000000<c)=false:=decide_eq_false d2
 have e3:decide (m<0)=false:=decide_eq_false d3
 have e4:decide (c<m)=false:=decide_eq_false d4
 have e5:decide (o<0)=false:=decide_eq_false d5
 have e6:decide (1048576<o)=false:=decide_eq_false d6
 have e7:decide (b<0)=true:=decide_eq_true d7
 obtain⟨gx,hgx,W,hW,HX,R1⟩:=conf_box hr f c m o b S
 go_enter Tryz.func40,Tryz.ntmps40
 go_upto_region 1 with (fail)
 try rw[hW]
 try rw[hgx]
 clear hW hgx
 obtain⟨⟨x0,x1,x2,x3,x4,x5⟩,_⟩:=six_of HX.out
 go_wp2_with (fail)
 go_ret
 exact⟨rfl,R1.out⟩
theorem rcheck_bad8(f c m o b:Int)(S:ByteArray)(d0: ¬f<1)(d1: ¬c<f)(d2: ¬1000000000000<c)(d3: ¬m<0)(d4: ¬c<m)(d5: ¬o<0)(d6: ¬1048576<o)(d7: ¬b<0)(d8:1000000000000<b)(w:World)(hr:Rel w w):
  Calls Tryz.prog 40 #[.agg #[.int .i64 f,.int .i64 c,.int .i64 m,.int .i64 o,.int .i64 b,.string S]] w fun e w'=>e= .returned (.int .i64 10)∧Rel w w':=by
 have e0:decide (f<1)=false:=decide_eq_false d0
 have e1:decide (c<f)=false:=decide_eq_false d1
 have e2:decide (1000000000000<c)=false:=decide_eq_false d2
 have e3:decide (m<0)=false:=decide_eq_false d3
 have e4:decide (c<m)=false:=decide_eq_false d4
 have e5:decide (o<0)=false:=decide_eq_false d5
 have e6:decide (1048576<o)=false:=decide_eq_false d6
 have e7:decide (b<0)=false:=decide_eq_false d7
 have e8:decide (1000000000000<b)=true:=decide_eq_true d8
 obtain⟨gx,hgx,W,hW,HX,R1⟩:=conf_box hr f c m o b S
 go_enter Tryz.func40,Tryz.ntmps40
 go_upto_region 1 with (fail)
 try rw[hW]
 try rw[hgx]
 clear hW hgx
 obtain⟨⟨x0,x1,x2,x3,x4,x5⟩,_⟩:=six_of HX.out
 go_wp2_with (fail)
 go_ret
 exact⟨rfl,R1.out⟩
theorem rcheck_no(f c m o b:Int)(t:List UInt8)(S:ByteArray)(hS:B t=S)(ht:t.length≤9223372036854775807)(hn:1≤f∧f≤c∧c≤1000000000000∧0≤m∧m≤c∧0≤o∧o≤1048576∧0≤b∧b≤1000000000000)(cd pl:Int)(hcd:(cd !=0)=true)(hx:parseS t= .error (cd,pl))(w:World)(hr:Rel w w):
  Calls Tryz.prog 40 #[.agg #[.int .i64 f,.int .i64 c,.int .i64 m,.int .i64 o,.int .i64 b,.string S]] w fun e w'=>e= .returned (.int .i64 cd)∧Rel w w':=by
 obtain⟨n0,n1,n2,n3,n4,n5,n6,n7,n8⟩:=hn
 have e0:decide (f<1)=false:=decide_eq_false (by omega)
 have e1:decide (c<f)=false:=decide_eq_false (by omega)
 have e2:decide (1000000000000<c)=false:=decide_eq_false (by omega)
 have e3:decide (m<0)=false:=decide_eq_false (by omega)
 have e4:decide (c<m)=false:=decide_eq_false (by omega)
 have e5:decide (o<0)=false:=decide_eq_false (by omega)
 have e6:decide (1048576<o)=false:=decide_eq_false (by omega)
 have e7:decide (b<0)=false:=decide_eq_false (by omega)
 have e8:decide (1000000000000<b)=false:=decide_eq_false (by omega)
 have HP:=yH (fun(w:World)(hr:Rel w w)=>rparse_no14 t S hS ht cd pl hx w hr)
 obtain⟨gx,hgx,W,hW,HX,R1⟩:=conf_box hr f c m o b S
 clear hS hx ht hr
 go_enter Tryz.func40,Tryz.ntmps40
 go_upto_region 1 with (fail)
 try rw[hW]
 try rw[hgx]
 clear hW hgx
 obtain⟨⟨x0,x1,x2,x3,x4,x5⟩,_⟩:=six_of HX.out
 go_wp2_with (go_at_call 52;(with_reducible refine(HP.out _ R1.out.self).mono ?_);rintro e w2 ⟨rfl,r2⟩;have R2:=yH (R1.out.trans r2.out);clear r2)
 go_ret
 exact⟨rfl,R2.out.alloc _⟩
theorem rcheck_yes(f c m o b:Int)(t:List UInt8)(S:ByteArray)(hS:B t=S)(ht:t.length≤9223372036854775807)(hn:1≤f∧f≤c∧c≤1000000000000∧0≤m∧m≤c∧0≤o∧o≤1048576∧0≤b∧b≤1000000000000)(x:Ex)(hx:parseS t= .ok x)(hb:rightX x=true)(w:World)(hr:Rel w w):
  Calls Tryz.prog 40 #[.agg #[.int .i64 f,.int .i64 c,.int .i64 m,.int .i64 o,.int .i64 b,.string S]] w fun e w'=>e= .returned (.int .i64 0)∧Rel w w':=by
 obtain⟨n0,n1,n2,n3,n4,n5,n6,n7,n8⟩:=hn
 have e0:decide (f<1)=false:=decide_eq_false (by omega)
 have e1:decide (c<f)=false:=decide_eq_false (by omega)
 have e2:decide (1000000000000<c)=false:=decide_eq_false (by omega)
 have e3:decide (m<0)=false:=decide_eq_false (by omega)
 have e4:decide (c<m)=false:=decide_eq_false (by omega)
 have e5:decide (o<0)=false:=decide_eq_false (by omega)
 have e6:decide (1048576<o)=false:=decide_eq_false (by omega)
 have e7:decide (b<0)=false:=decide_eq_false (by omega)
 have e8:decide (1000000000000<b)=false:=decide_eq_false (by omega)
 have hz:=parse_size hx
 have HP:=yH (fun(w:World)(hr:Rel w w)=>rparse_yes14 t S hS ht x hx w hr)
 have HRr:=yH (fun(v:Value)(w:World)(h:XAt w v x)(hr:Rel w w)=>rright14 hb hz w h hr)
 obtain⟨gx,hgx,W,hW,HX,R1⟩:=conf_box hr f c m o b S
 clear hS hx ht hr hb hz
 go_enter Tryz.func40,Tryz.ntmps40
 go_upto_region 1 with (fail)
 try rw[hW]
 try rw[hgx]
 clear hW hgx
 obtain⟨⟨x0,x1,x2,x3,x4,x5⟩,_⟩:=six_of HX.out
 go_upto_region 4 with (go_at_call 52;(with_reducible refine(HP.out _ R1.out.self).mono ?_);rintro e w2 ⟨k,n,X,A,l,q,rfl,hv,r2⟩;have R2:=yH (R1.out.trans r2.out);have HV:=yH hv.out;clear r2 hv)
 have HY:=yH (Bk.new w2 54 #[.int .i64 k,.int .i64 n,.string X,.slice A l q])
 have R3:=yH (R2.out.alloc (.cells #[.int .i64 k,.int .i64 n,.string X,.slice A l q] 54))
 have HV3:=yH (HV.out.rel (R2.out.self.alloc (.cells #[.int .i64 k,.int .i64 n,.string X,.slice A l q] 54)))
 obtain⟨gy,hgy⟩:∃g,w2.heap.size=g:=⟨_,rfl⟩
 obtain⟨V,hV⟩:∃W,w2.alloc (.cells #[.int .i64 k,.int .i64 n,.string X,.slice A l q] 54)=W:=⟨_,rfl⟩
 rw[hV] at HY R3 HV3
 rw[hgy] at HY
 try rw[hV]
 try rw[hgy]
 clear hV hgy x0 x1 x2 x3 x4 x5
 obtain⟨⟨y0,y1,y2,y3⟩,_⟩:=HY.out.four
 have C3:=yH (HRr.out (XV k n X A l q) V HV3.out R3.out.self)
 go_wp2_with (go_at_call 35;(with_reducible refine C3.out.mono ?_);rintro e w4 ⟨rfl,r4⟩;have R4:=yH (R3.out.trans r4.out);clear r4)
 go_ret
 exact⟨rfl,R4.out⟩
theorem rcheck_arg(f c m o b:Int)(t:List UInt8)(S:ByteArray)(hS:B t=S)(ht:t.length≤9223372036854775807)(hn:1≤f∧f≤c∧c≤1000000000000∧0≤m∧m≤c∧0≤o∧o≤1048576∧0≤b∧b≤1000000000000)(x:Ex)(hx:parseS t= .ok x)(hb:rightX x=false)(w:World)(hr:Rel w w):
  Calls Tryz.prog 40 #[.agg #[.int .i64 f,.int .i64 c,.int .i64 m,.int .i64 o,.int .i64 b,.string S]] w fun e w'=>e= .returned (.int .i64 1)∧Rel w w':=by
 obtain⟨n0,n1,n2,n3,n4,n5,n6,n7,n8⟩:=hn
 have e0:decide (f<1)=false:=decide_eq_false (by omega)
 have e1:decide (c<f)=false:=decide_eq_false (by omega)
 have e2:decide (1000000000000<c)=false:=decide_eq_false (by omega)
 have e3:decide (m<0)=false:=decide_eq_false (by omega)
 have e4:decide (c<m)=false:=decide_eq_false (by omega)
 have e5:decide (o<0)=false:=decide_eq_false (by omega)
 have e6:decide (1048576<o)=false:=decide_eq_false (by omega)
 have e7:decide (b<0)=false:=decide_eq_false (by omega)
 have e8:decide (1000000000000<b)=false:=decide_eq_false (by omega)
 have hz:=parse_size hx
 have HP:=yH (fun(w:World)(hr:Rel w w)=>rparse_yes14 t S hS ht x hx w hr)
 have HRr:=yH (fun(v:Value)(w:World)(h:XAt w v x)(hr:Rel w w)=>rright14 hb hz w h hr)
 obtain⟨gx,hgx,W,hW,HX,R1⟩:=conf_box hr f c m o b S
 clear hS hx ht hr hb hz
 go_enter Tryz.func40,Tryz.ntmps40
 go_upto_region 1 with (fail)
 try rw[hW]
 try rw[hgx]
 clear hW hgx
 obtain⟨⟨x0,x1,x2,x3,x4,x5⟩,_⟩:=six_of HX.out
 go_upto_region 4 with (go_at_call 52;(with_reducible refine(HP.out _ R1.out.self).mono ?_);rintro e w2 ⟨k,n,X,A,l,q,rfl,hv,r2⟩;have R2:=yH (R1.out.trans r2.out);have HV:=yH hv.out;clear r2 hv)
 have HY:=yH (Bk.new w2 54 #[.int .i64 k,.int .i64 n,.string X,.slice A l q])
 have R3:=yH (R2.out.alloc (.cells #[.int .i64 k,.int .i64 n,.string X,.slice A l q] 54))
 have HV3:=yH (HV.out.rel (R2.out.self.alloc (.cells #[.int .i64 k,.int .i64 n,.string X,.slice A l q] 54)))
 obtain⟨gy,hgy⟩:∃g,w2.heap.size=g:=⟨_,rfl⟩
 obtain⟨V,hV⟩:∃W,w2.alloc (.cells #[.int .i64 k,.int .i64 n,.string X,.slice A l q] 54)=W:=⟨_,rfl⟩
 rw[hV] at HY R3 HV3
 rw[hgy] at HY
 try rw[hV]
 try rw[hgy]
 clear hV hgy x0 x1 x2 x3 x4 x5
 obtain⟨⟨y0,y1,y2,y3⟩,_⟩:=HY.out.four
 have C3:=yH (HRr.out (XV k n X A l q) V HV3.out R3.out.self)
 go_wp2_with (go_at_call 35;(with_reducible refine C3.out.mono ?_);rintro e w4 ⟨rfl,r4⟩;have R4:=yH (R3.out.trans r4.out);clear r4)
 go_ret
 exact⟨rfl,R4.out⟩
theorem rcheck_any(c:Cf)(S:ByteArray)(hS:B (txC c)=S)(hf:CfFit c)(w:World)(hr:Rel w w):
  Calls Tryz.prog 40 #[.agg #[.int .i64 (flC c),.int .i64 (ceC c),.int .i64 (mpC c),.int .i64 (coC c),.int .i64 (bdC c),.string S]] w fun e w'=>e= .returned (.int .i64 (checkC c))∧Rel w w':=by
 obtain⟨f,ce,m,o,b,t⟩:=c
 have ht:t.length≤9223372036854775807:=hf.2
 by_cases hn:numsOk (f,ce,m,o,b,t)=true
 ·have hn2:=nums_iff.1 hn
  have hc:checkC (f,ce,m,o,b,t)=textE t:=by unfold checkC;rw[if_pos hn]
  rw[hc]
  cases hx:parseS t with
  |error p=>
   obtain⟨cd,pl⟩:=p
   rw[textE_error hx]
   have h0:(cd !=0)=true:=by
    have:=((parse_spec t).2 cd pl hx).1
    simp;omega
   exact rcheck_no f ce m o b t S hS ht hn2 cd pl h0 hx w hr
  |ok x=>
   rw[textE_ok hx]
   cases hb:rightX x with
   |true=>exact rcheck_yes f ce m o b t S hS ht hn2 x hx hb w hr
   |false=>exact rcheck_arg f ce m o b t S hS ht hn2 x hx hb w hr
 ·have hc:checkC (f,ce,m,o,b,t)=10:=by unfold checkC;rw[if_neg hn]
  rw[hc]
  have hn3: ¬(1≤f∧f≤ce∧ce≤1000000000000∧0≤m∧m≤ce∧0≤o∧o≤1048576∧0≤b∧b≤1000000000000):=fun h=>hn (nums_iff.2 h)
  by_cases d0:f<1
  ·exact rcheck_bad0 f ce m o b S d0 w hr
  by_cases d1:ce<f
  ·exact rcheck_bad1 f ce m o b S d0 d1 w hr
  by_cases d2:1000000000000<ce
  ·exact rcheck_bad2 f ce m o b S d0 d1 d2 w hr
  by_cases d3:m<0
  ·exact rcheck_bad3 f ce m o b S d0 d1 d2 d3 w hr
  by_cases d4:ce<m
  ·exact rcheck_bad4 f ce m o b S d0 d1 d2 d3 d4 w hr
  by_cases d5:o<0
  ·exact rcheck_bad5 f ce m o b S d0 d1 d2 d3 d4 d5 w hr
  by_cases d6:1048576<o
  ·exact rcheck_bad6 f ce m o b S d0 d1 d2 d3 d4 d5 d6 w hr
  by_cases d7:b<0
  ·exact rcheck_bad7 f ce m o b S d0 d1 d2 d3 d4 d5 d6 d7 w hr
  by_cases d8:1000000000000<b
  ·exact rcheck_bad8 f ce m o b S d0 d1 d2 d3 d4 d5 d6 d7 d8 w hr
  exact absurd (by omega) hn3
theorem rcheck_at{f c m o b:Int}{t:List UInt8}{S:ByteArray}{E:Int}(hS:B t=S)(hf:CfFit (f,c,m,o,b,t))(hE:checkC (f,c,m,o,b,t)=E)(w:World)(hr:Rel w w):
  Calls Tryz.prog 40 #[.agg #[.int .i64 f,.int .i64 c,.int .i64 m,.int .i64 o,.int .i64 b,.string S]] w fun e w'=>e= .returned (.int .i64 E)∧Hid (Rel w w'):=by
 rw[←hE]
 exact(rcheck_any (f,c,m,o,b,t) S hS hf w hr).mono fun e w' ⟨he,h2⟩=>⟨he,yH h2⟩
theorem rlow_any(f c m o b:Int)(S:ByteArray)(w:World)(hr:Rel w w):
  Calls Tryz.prog 41 #[.agg #[.int .i64 f,.int .i64 c,.int .i64 m,.int .i64 o,.int .i64 b,.string S]] w fun e w'=>e= .returned (.int .i64 (max f m))∧Rel w w':=by
 by_cases h:f<m
 all_goals
  have HR:=yH hr
  go_enter Tryz.func41,Tryz.ntmps41
  go_wp2_with (fail)
  all_goals
   go_ret
   exact⟨ret_int (by omega),HR.out.alloc _⟩
theorem rlow_at(f c m o b:Int)(S:ByteArray)(L:Int)(hL:max f m=L)(w:World)(hr:Rel w w):
  Calls Tryz.prog 41 #[.agg #[.int .i64 f,.int .i64 c,.int .i64 m,.int .i64 o,.int .i64 b,.string S]] w fun e w'=>e= .returned (.int .i64 L)∧Hid (Rel w w'):=by
 rw[←hL]
 exact(rlow_any f c m o b S w hr).mono fun e w' ⟨he,h2⟩=>⟨he,yH h2⟩
theorem rwithin_no(f c m o b p E:Int)(t:List UInt8)(S:ByteArray)(hS:B t=S)(hf:CfFit (f,c,m,o,b,t))(hE:checkC (f,c,m,o,b,t)=E)(h0:(E==0)=false)(w:World)(hr:Rel w w):
  Calls Tryz.prog 32 #[.agg #[.int .i64 f,.int .i64 c,.int .i64 m,.int .i64 o,.int .i64 b,.string S],.int .i64 p] w fun e w'=>e= .returned (.bool false)∧Rel w w':=by
 have HC:=yH (fun(w:World)(hr:Rel w w)=>rcheck_at hS hf hE w hr)
 obtain⟨gx,hgx,W,hW,HX,R1⟩:=conf_box hr f c m o b S
 clear hS hf hE hr
 go_enter Tryz.func32,Tryz.ntmps32
 go_upto_region 1 with (fail)
 try rw[hW]
 try rw[hgx]
 clear hW hgx
 obtain⟨⟨x0,x1,x2,x3,x4,x5⟩,_⟩:=six_of HX.out
 go_wp2_with (go_at_call 40;(with_reducible refine(HC.out _ R1.out.self).mono ?_);rintro e w2 ⟨rfl,r2⟩;have R2:=yH (R1.out.trans r2.out);have P2:=yH r2.out;obtain⟨⟨x0,x1,x2,x3,x4,x5⟩,_⟩:=six_of (HX.out.rel r2.out);clear r2)
 go_ret
 exact⟨rfl,R2.out⟩
theorem rwithin_a(f c m o b p L:Int)(t:List UInt8)(S:ByteArray)(hS:B t=S)(hf:CfFit (f,c,m,o,b,t))(hE:checkC (f,c,m,o,b,t)=0)(hL:max f m=L)(h1:decide (L≤p)=false)(w:World)(hr:Rel w w):
  Calls Tryz.prog 32 #[.agg #[.int .i64 f,.int .i64 c,.int .i64 m,.int .i64 o,.int .i64 b,.string S],.int .i64 p] w fun e w'=>e= .returned (.bool false)∧Rel w w':=by
 have HC:=yH (fun(w:World)(hr:Rel w w)=>rcheck_at hS hf hE w hr)
 have HL:=yH (fun(w:World)(hr:Rel w w)=>rlow_at f c m o b S L hL w hr)
 obtain⟨gx,hgx,W,hW,HX,R1⟩:=conf_box hr f c m o b S
 clear hS hf hE hr hL
 go_enter Tryz.func32,Tryz.ntmps32
 go_upto_region 1 with (fail)
 try rw[hW]
 try rw[hgx]
 clear hW hgx
 obtain⟨⟨x0,x1,x2,x3,x4,x5⟩,_⟩:=six_of HX.out
 go_wp2_with (first
  |(go_at_call 40;(with_reducible refine(HC.out _ R1.out.self).mono ?_);rintro e w2 ⟨rfl,r2⟩;have R2:=yH (R1.out.trans r2.out);have P2:=yH r2.out;obtain⟨⟨x0,x1,x2,x3,x4,x5⟩,_⟩:=six_of (HX.out.rel r2.out);clear r2)
  |(go_at_call 41;(with_reducible refine(HL.out _ R2.out.self).mono ?_);rintro e w3 ⟨rfl,r3⟩;have R3:=yH (R2.out.trans r3.out);obtain⟨⟨x0,x1,x2,x3,x4,x5⟩,_⟩:=six_of (HX.out.rel (P2.out.trans r3.out));clear r3))
 go_ret
 exact⟨rfl,R3.out⟩
theorem rwithin_b(f c m o b p L:Int)(t:List UInt8)(S:ByteArray)(hS:B t=S)(hf:CfFit (f,c,m,o,b,t))(hE:checkC (f,c,m,o,b,t)=0)(hL:max f m=L)(h1:decide (L≤p)=true)(h2:decide (p≤c)=true)(w:World)(hr:Rel w w):
  Calls Tryz.prog 32 #[.agg #[.int .i64 f,.int .i64 c,.int .i64 m,.int .i64 o,.int .i64 b,.string S],.int .i64 p] w fun e w'=>e= .returned (.bool true)∧Rel w w':=by
 have HC:=yH (fun(w:World)(hr:Rel w w)=>rcheck_at hS hf hE w hr)
 have HL:=yH (fun(w:World)(hr:Rel w w)=>rlow_at f c m o b S L hL w hr)
 obtain⟨gx,hgx,W,hW,HX,R1⟩:=conf_box hr f c m o b S
 clear hS hf hE hr hL
 go_enter Tryz.func32,Tryz.ntmps32
 go_upto_region 1 with (fail)
 try rw[hW]
 try rw[hgx]
 clear hW hgx
 obtain⟨⟨x0,x1,x2,x3,x4,x5⟩,_⟩:=six_of HX.out
 go_wp2_with (first
  |(go_at_call 40;(with_reducible refine(HC.out _ R1.out.self).mono ?_);rintro e w2 ⟨rfl,r2⟩;have R2:=yH (R1.out.trans r2.out);have P2:=yH r2.out;obtain⟨⟨x0,x1,x2,x3,x4,x5⟩,_⟩:=six_of (HX.out.rel r2.out);clear r2)
  |(go_at_call 41;(with_reducible refine(HL.out _ R2.out.self).mono ?_);rintro e w3 ⟨rfl,r3⟩;have R3:=yH (R2.out.trans r3.out);obtain⟨⟨x0,x1,x2,x3,x4,x5⟩,_⟩:=six_of (HX.out.rel (P2.out.trans r3.out));clear r3))
 go_ret
 exact⟨rfl,R3.out⟩
theorem rwithin_c(f c m o b p L:Int)(t:List UInt8)(S:ByteArray)(hS:B t=S)(hf:CfFit (f,c,m,o,b,t))(hE:checkC (f,c,m,o,b,t)=0)(hL:max f m=L)(h1:decide (L≤p)=true)(h2:decide (p≤c)=false)(w:World)(hr:Rel w w):
  Calls Tryz.prog 32 #[.agg #[.int .i64 f,.int .i64 c,.int .i64 m,.int .i64 o,.int .i64 b,.string S],.int .i64 p] w fun e w'=>e= .returned (.bool false)∧Rel w w':=by
 have HC:=yH (fun(w:World)(hr:Rel w w)=>rcheck_at hS hf hE w hr)
 have HL:=yH (fun(w:World)(hr:Rel w w)=>rlow_at f c m o b S L hL w hr)
 obtain⟨gx,hgx,W,hW,HX,R1⟩:=conf_box hr f c m o b S
 clear hS hf hE hr hL
 go_enter Tryz.func32,Tryz.ntmps32
 go_upto_region 1 with (fail)
 try rw[hW]
 try rw[hgx]
 clear hW hgx
 obtain⟨⟨x0,x1,x2,x3,x4,x5⟩,_⟩:=six_of HX.out
 go_wp2_with (first
  |(go_at_call 40;(with_reducible refine(HC.out _ R1.out.self).mono ?_);rintro e w2 ⟨rfl,r2⟩;have R2:=yH (R1.out.trans r2.out);have P2:=yH r2.out;obtain⟨⟨x0,x1,x2,x3,x4,x5⟩,_⟩:=six_of (HX.out.rel r2.out);clear r2)
  |(go_at_call 41;(with_reducible refine(HL.out _ R2.out.self).mono ?_);rintro e w3 ⟨rfl,r3⟩;have R3:=yH (R2.out.trans r3.out);obtain⟨⟨x0,x1,x2,x3,x4,x5⟩,_⟩:=six_of (HX.out.rel (P2.out.trans r3.out));clear r3))
 go_ret
 exact⟨rfl,R3.out⟩
theorem rwithin_any(c:Cf)(p:Int)(S:ByteArray)(hS:B (txC c)=S)(hf:CfFit c)(w:World)(hr:Rel w w):
  Calls Tryz.prog 32 #[.agg #[.int .i64 (flC c),.int .i64 (ceC c),.int .i64 (mpC c),.int .i64 (coC c),.int .i64 (bdC c),.string S],.int .i64 p] w fun e w'=>e= .returned (.bool (withinC c p))∧Rel w w':=by
 obtain⟨f,ce,m,o,b,t⟩:=c
 by_cases h0:checkC (f,ce,m,o,b,t)=0
 ·by_cases h1:max f m≤p
  ·by_cases h2:p≤ce
   ·have e:withinC (f,ce,m,o,b,t) p=true:=by
     unfold withinC lowC
     exact decide_eq_true ⟨h0,h1,h2⟩
    rw[e]
    exact rwithin_b f ce m o b p _ t S hS hf h0 rfl (decide_eq_true h1) (decide_eq_true h2) w hr
   ·have e:withinC (f,ce,m,o,b,t) p=false:=by
     unfold withinC lowC
     exact decide_eq_false fun h=>h2 h.2.2
    rw[e]
    exact rwithin_c f ce m o b p _ t S hS hf h0 rfl (decide_eq_true h1) (decide_eq_false h2) w hr
  ·have e:withinC (f,ce,m,o,b,t) p=false:=by
    unfold withinC lowC
    exact decide_eq_false fun h=>h1 h.2.1
   rw[e]
   exact rwithin_a f ce m o b p _ t S hS hf h0 rfl (decide_eq_false h1) w hr
 ·have e:withinC (f,ce,m,o,b,t) p=false:=by
   unfold withinC
   exact decide_eq_false fun h=>h0 h.1
  rw[e]
  exact rwithin_no f ce m o b p _ t S hS hf rfl (by simpa using h0) w hr
end Go.Proofs.YtjhjdiaomnpkmaaGreatDoor
