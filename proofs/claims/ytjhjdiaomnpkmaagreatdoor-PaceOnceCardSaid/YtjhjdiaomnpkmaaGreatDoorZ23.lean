/- The landed Right and Decide. -/

import Derived.Test.YtjhjdiaomnpkmaaGreatDoorZ21
import Derived.Test.YtjhjdiaomnpkmaaGreatDoorZ22
set_option maxRecDepth 100000
set_option maxHeartbeats 8000000
set_option linter.unusedVariables false
set_option linter.unusedSimpArgs false
namespace Go.Proofs.YtjhjdiaomnpkmaaGreatDoor
open Go.RowKit Go.Lib
theorem lright15_none(la at_ sw:Int)(A:Option Addr)(k:Nat)(w:World)(hr:Rel w w):
  Calls Tryz.prog 10 #[.agg #[.int .i64 la,.int .i64 at_,.slice A 0 k,.int .i64 sw]] w fun e w'=>e= .returned (.bool (rightP (la,at_,[],sw)))∧Hid (Rel w w'):=by
 have he:=right_empty (la:=la) (at_:=at_) (sw:=sw) (R:=[]) rfl
 rw[he]
 have e3:decide (la=0∧at_=0∧sw=0)=((la==0)&&(at_==0)&&(sw==0)):=by
  rw[Bool.eq_iff_iff];simp[and_assoc]
 rw[e3]
 obtain⟨q1,hq1⟩:∃q,(la==0)=q:=⟨_,rfl⟩
 obtain⟨q2,hq2⟩:∃q,(at_==0)=q:=⟨_,rfl⟩
 obtain⟨q3,hq3⟩:∃q,(sw==0)=q:=⟨_,rfl⟩
 rw[hq1,hq2,hq3]
 obtain⟨gp,hgp,W,hW,HP,HR,_⟩:=pace_box15 hr la at_ sw (.slice A 0 k)
 clear hr he e3
 go_enter Tryz.func10,Tryz.ntmps10
 go_upto_region 1 with (fail)
 try rw[hW]
 try rw[hgp]
 clear hW hgp
 obtain⟨⟨p0,p1,p2,p3⟩,_⟩:=four_of HP.out
 cases q1<;>cases q2<;>cases q3
 all_goals
  go_wp2_with (fail)
  go_ret
  exact⟨ret_bool (by first|rfl|assumption|simp_all),HR⟩
theorem lright15_some(la at_ sw:Int)(L:List Int)(A:Option Addr)(n k:Nat)(hn:L.length=n)(h1:1≤n)(w:World)(hr:Rel w w)(hi:IntsIn w A k L):
  Calls Tryz.prog 10 #[.agg #[.int .i64 la,.int .i64 at_,.slice A n k,.int .i64 sw]] w fun e w'=>e= .returned (.bool (rightP (la,at_,L,sw)))∧Hid (Rel w w'):=by
 have he:=right_full (la:=la) (at_:=at_) (sw:=sw) (R:=L) (by omega)
 rw[he]
 have n0:((n:Int)==0)=false:=by rw[Bool.eq_false_iff];simp;omega
 have hi0:=hi.rel (hr.alloc (.cells #[.int .i64 la,.int .i64 at_,.slice A n k,.int .i64 sw] 27))
 obtain⟨gp,hgp,W,hW,HP,HR,_⟩:=pace_box15 hr la at_ sw (.slice A n k)
 rw[hW] at hi0
 have HE:=yH (fun(w:World)(hi:IntsIn w A k L)(q:Bool)(hq:endsP L la=q)=>lends15_as L A n k la q hn h1 hq w hi)
 have HI:=yH hi0
 obtain⟨q1,hq1⟩:∃q,endsP L la=q:=⟨_,rfl⟩
 obtain⟨q2,hq2⟩:∃q,decide (0≤at_∧at_≤1099511627776)=q:=⟨_,rfl⟩
 obtain⟨q3,hq3⟩:∃q,decide (0≤sw∧sw≤6)=q:=⟨_,rfl⟩
 have E1:=yH (HE.out W HI.out q1 hq1)
 have E2:=yH (fun w:World=>pwithin15_as at_ 0 1099511627776 q2 (yH (by decide)) (yH hq2) w)
 have E3:=yH (fun w:World=>pwithin15_as sw 0 6 q3 (yH (by decide)) (yH hq3) w)
 rw[hq1,hq2,hq3]
 clear hr he hi hi0 HE HI hq1 hq2 hq3 hn
 go_enter Tryz.func10,Tryz.ntmps10
 go_upto_region 1 with (fail)
 try rw[hW]
 try rw[hgp]
 clear hW hgp
 obtain⟨⟨p0,p1,p2,p3⟩,_⟩:=four_of HP.out
 cases q1<;>cases q2<;>cases q3
 all_goals
  go_wp2_with (first
   |(go_at_call 24;(with_reducible refine E1.out.mono ?_);rintro e w' ⟨rfl,rfl⟩)
   |(go_at_call 25;(with_reducible refine(E2.out _).mono ?_);rintro e w' ⟨rfl,rfl⟩)
   |(go_at_call 25;(with_reducible refine(E3.out _).mono ?_);rintro e w' ⟨rfl,rfl⟩))
  go_ret
  exact⟨rfl,HR⟩
theorem lright15_any(la at_ sw:Int)(L:List Int)(A:Option Addr)(n k:Nat)(hn:L.length=n)(w:World)(hr:Rel w w)(hi:IntsIn w A k L):
  Calls Tryz.prog 10 #[.agg #[.int .i64 la,.int .i64 at_,.slice A n k,.int .i64 sw]] w fun e w'=>e= .returned (.bool (rightP (la,at_,L,sw)))∧Hid (Rel w w'):=by
 by_cases h:1≤n
 ·exact lright15_some la at_ sw L A n k hn h w hr hi
 ·obtain rfl:n=0:=by omega
  obtain rfl:=List.length_eq_zero_iff.1 hn
  exact lright15_none la at_ sw A k w hr
theorem ldec_r(H:ConfOk3)(f c m o b la at_ sw tg now:Int)(t:List UInt8)(S:ByteArray)(hS:B t=S)(hf:CfFit (f,c,m,o,b,t))(L:List Int)(A:Option Addr)(n k:Nat)(hn:L.length=n)(ht:i64 tg)(hnow:i64 now)(hri:rightP (la,at_,L,sw)=false)(w:World)(hr:Rel w w)(hi:IntsIn w A k L):
  Calls Tryz.prog 15 #[.agg #[.int .i64 f,.int .i64 c,.int .i64 m,.int .i64 o,.int .i64 b,.string S],.agg #[.int .i64 la,.int .i64 at_,.slice A n k,.int .i64 sw],.int .i64 tg,.int .i64 now] w fun e w'=>e= .returned (.tuple #[.agg #[.int .i64 la,.int .i64 at_,.slice A n k,.int .i64 sw],.bool false])∧Rel w w':=by
 have hG0:=fun(w:World)(hr:Rel w w)(hi:IntsIn w A k L)=>lright15_any la at_ sw L A n k hn w hr hi
 rw[hri] at hG0
 have HG:=yH hG0
 have HX0:=yH (((Bk.new w 24 #[.int .i64 f,.int .i64 c,.int .i64 m,.int .i64 o,.int .i64 b,.string S]).alloc (.cells #[.int .i64 la,.int .i64 at_,.slice A n k,.int .i64 sw] 27)).alloc (.cells #[.int .i64 0,.int .i64 0,.slice none 0 0,.int .i64 0] 27))
 have HY0:=yH ((Bk.new (w.alloc (.cells #[.int .i64 f,.int .i64 c,.int .i64 m,.int .i64 o,.int .i64 b,.string S] 24)) 27 #[.int .i64 la,.int .i64 at_,.slice A n k,.int .i64 sw]).alloc (.cells #[.int .i64 0,.int .i64 0,.slice none 0 0,.int .i64 0] 27))
 have HZ0:=yH (Bk.new ((w.alloc (.cells #[.int .i64 f,.int .i64 c,.int .i64 m,.int .i64 o,.int .i64 b,.string S] 24)).alloc (.cells #[.int .i64 la,.int .i64 at_,.slice A n k,.int .i64 sw] 27)) 27 #[.int .i64 0,.int .i64 0,.slice none 0 0,.int .i64 0])
 have HR0:=yH (((hr.alloc (.cells #[.int .i64 f,.int .i64 c,.int .i64 m,.int .i64 o,.int .i64 b,.string S] 24)).alloc (.cells #[.int .i64 la,.int .i64 at_,.slice A n k,.int .i64 sw] 27)).alloc (.cells #[.int .i64 0,.int .i64 0,.slice none 0 0,.int .i64 0] 27))
 have HI:=yH hi
 clear H hr hi hS hf hG0 hri hn ht hnow
 go_enter Tryz.func15,Tryz.ntmps15
 go_upto_region 1 with (fail)
 have HX:=HX0
 have HY:=HY0
 have HZ:=HZ0
 have R1:=HR0
 rw[World.size_alloc] at HY
 rw[World.size_alloc,World.size_alloc] at HZ
 obtain⟨W,hW⟩:∃W,((w.alloc (.cells #[.int .i64 f,.int .i64 c,.int .i64 m,.int .i64 o,.int .i64 b,.string S] 24)).alloc (.cells #[.int .i64 la,.int .i64 at_,.slice A n k,.int .i64 sw] 27)).alloc (.cells #[.int .i64 0,.int .i64 0,.slice none 0 0,.int .i64 0] 27)=W:=⟨_,rfl⟩
 rw[hW] at HX HY HZ R1
 obtain⟨gz,hgz⟩:∃g,w.heap.size+1+1=g:=⟨_,rfl⟩
 obtain⟨gy,hgy⟩:∃g,w.heap.size+1=g:=⟨_,rfl⟩
 rw[hgz] at HZ
 rw[hgy] at HY
 have sz:w.heap.size≤gz:=by omega
 have NYZ:=yH (show gy≠gz by omega)
 try rw[hW]
 try rw[hgz]
 try rw[hgy]
 obtain⟨gx,hgx⟩:∃g,w.heap.size=g:=⟨_,rfl⟩
 rw[hgx] at HX
 try rw[hgx]
 clear hW hgz hgy hgx HX0 HY0 HZ0 HR0
 obtain⟨⟨x0,x1,x2,x3,x4,x5⟩,_⟩:=six_of (HX.out.rel R1.out.self)
 obtain⟨⟨p0,p1,p2,p3⟩,_⟩:=four_of (HY.out.rel R1.out.self)
 obtain⟨⟨z0,z1,z2,z3⟩,⟨zf0,zf1,zf2,zf3⟩⟩:=four_of (HZ.out.rel R1.out.self)
 go_wp2_with (go_at_call 10;(with_reducible refine(HG.out _ R1.out.self (HI.out.rel R1.out)).mono ?_);rintro e w2 ⟨rfl,h2⟩;have Q2:=yH h2.out;clear h2;obtain⟨⟨x0,x1,x2,x3,x4,x5⟩,_⟩:=six_of (HX.out.rel Q2.out);obtain⟨⟨p0,p1,p2,p3⟩,_⟩:=four_of (HY.out.rel Q2.out);obtain⟨⟨z0,z1,z2,z3⟩,⟨zf0,zf1,zf2,zf3⟩⟩:=four_of (HZ.out.rel Q2.out))
 obtain⟨⟨y0,y1,y2,y3⟩,_⟩:=four_of ((HZ.out.rel Q2.out).put4 (.int .i64 la) (.int .i64 at_) (.slice A n k) (.int .i64 sw))
 have RW:=(R1.out.trans Q2.out).put4 sz (.int .i64 la) (.int .i64 at_) (.slice A n k) (.int .i64 sw)
 refine bodyPost_ret (v:= .tuple #[.agg #[.int .i64 la,.int .i64 at_,.slice A n k,.int .i64 sw],.bool false]) (by simp[results,Tryz.results15,go_sem,y0,y1,y2,y3]) rfl ⟨rfl,RW⟩
theorem ldec_n(H:ConfOk3)(f c m o b la at_ sw tg now:Int)(t:List UInt8)(S:ByteArray)(hS:B t=S)(hf:CfFit (f,c,m,o,b,t))(L:List Int)(A:Option Addr)(n k:Nat)(hn:L.length=n)(ht:i64 tg)(hnow:i64 now)(hri:rightP (la,at_,L,sw)=true)(hb:decide (0≤now∧readyP (f,c,m,o,b,t) (la,at_,L,sw)≤now∧now≤1099511627776)=false)(w:World)(hr:Rel w w)(hi:IntsIn w A k L):
  Calls Tryz.prog 15 #[.agg #[.int .i64 f,.int .i64 c,.int .i64 m,.int .i64 o,.int .i64 b,.string S],.agg #[.int .i64 la,.int .i64 at_,.slice A n k,.int .i64 sw],.int .i64 tg,.int .i64 now] w fun e w'=>e= .returned (.tuple #[.agg #[.int .i64 la,.int .i64 at_,.slice A n k,.int .i64 sw],.bool false])∧Rel w w':=by
 have hG0:=fun(w:World)(hr:Rel w w)(hi:IntsIn w A k L)=>lright15_any la at_ sw L A n k hn w hr hi
 rw[hri] at hG0
 have HG:=yH hG0
 have hD0:=fun(w:World)(hr:Rel w w)=>lready15_any f c m o b la at_ sw S t L A n k w hr
 have hre0:=ready_bd (c:=(f,c,m,o,b,t)) (la,at_,L,sw)
 obtain⟨re,hre⟩:∃r,readyP (f,c,m,o,b,t) (la,at_,L,sw)=r:=⟨_,rfl⟩
 rw[hre] at hD0 hre0 hb
 have HD:=yH hD0
 have HB:=yH (fun w:World=>pwithin15_as now re 1099511627776 _ (yH hre0.2) (yH rfl) w)
 have hbe:decide (re≤now∧now≤1099511627776)=false:=by rw[←hb,Bool.eq_iff_iff,decide_eq_true_eq,decide_eq_true_eq];omega
 rw[hbe] at HB
 have HX0:=yH (((Bk.new w 24 #[.int .i64 f,.int .i64 c,.int .i64 m,.int .i64 o,.int .i64 b,.string S]).alloc (.cells #[.int .i64 la,.int .i64 at_,.slice A n k,.int .i64 sw] 27)).alloc (.cells #[.int .i64 0,.int .i64 0,.slice none 0 0,.int .i64 0] 27))
 have HY0:=yH ((Bk.new (w.alloc (.cells #[.int .i64 f,.int .i64 c,.int .i64 m,.int .i64 o,.int .i64 b,.string S] 24)) 27 #[.int .i64 la,.int .i64 at_,.slice A n k,.int .i64 sw]).alloc (.cells #[.int .i64 0,.int .i64 0,.slice none 0 0,.int .i64 0] 27))
 have HZ0:=yH (Bk.new ((w.alloc (.cells #[.int .i64 f,.int .i64 c,.int .i64 m,.int .i64 o,.int .i64 b,.string S] 24)).alloc (.cells #[.int .i64 la,.int .i64 at_,.slice A n k,.int .i64 sw] 27)) 27 #[.int .i64 0,.int .i64 0,.slice none 0 0,.int .i64 0])
 have HR0:=yH (((hr.alloc (.cells #[.int .i64 f,.int .i64 c,.int .i64 m,.int .i64 o,.int .i64 b,.string S] 24)).alloc (.cells #[.int .i64 la,.int .i64 at_,.slice A n k,.int .i64 sw] 27)).alloc (.cells #[.int .i64 0,.int .i64 0,.slice none 0 0,.int .i64 0] 27))
 have HI:=yH hi
 clear H hr hi hS hf hG0 hri hn ht hnow hD0 hre hre0 hb hbe
 go_enter Tryz.func15,Tryz.ntmps15
 go_upto_region 1 with (fail)
 have HX:=HX0
 have HY:=HY0
 have HZ:=HZ0
 have R1:=HR0
 rw[World.size_alloc] at HY
 rw[World.size_alloc,World.size_alloc] at HZ
 obtain⟨W,hW⟩:∃W,((w.alloc (.cells #[.int .i64 f,.int .i64 c,.int .i64 m,.int .i64 o,.int .i64 b,.string S] 24)).alloc (.cells #[.int .i64 la,.int .i64 at_,.slice A n k,.int .i64 sw] 27)).alloc (.cells #[.int .i64 0,.int .i64 0,.slice none 0 0,.int .i64 0] 27)=W:=⟨_,rfl⟩
 rw[hW] at HX HY HZ R1
 obtain⟨gz,hgz⟩:∃g,w.heap.size+1+1=g:=⟨_,rfl⟩
 obtain⟨gy,hgy⟩:∃g,w.heap.size+1=g:=⟨_,rfl⟩
 rw[hgz] at HZ
 rw[hgy] at HY
 have sz:w.heap.size≤gz:=by omega
 have NYZ:=yH (show gy≠gz by omega)
 try rw[hW]
 try rw[hgz]
 try rw[hgy]
 obtain⟨gx,hgx⟩:∃g,w.heap.size=g:=⟨_,rfl⟩
 rw[hgx] at HX
 try rw[hgx]
 clear hW hgz hgy hgx HX0 HY0 HZ0 HR0
 obtain⟨⟨x0,x1,x2,x3,x4,x5⟩,_⟩:=six_of (HX.out.rel R1.out.self)
 obtain⟨⟨p0,p1,p2,p3⟩,_⟩:=four_of (HY.out.rel R1.out.self)
 obtain⟨⟨z0,z1,z2,z3⟩,⟨zf0,zf1,zf2,zf3⟩⟩:=four_of (HZ.out.rel R1.out.self)
 go_wp2_with (first
  |(go_at_call 10;(with_reducible refine(HG.out _ R1.out.self (HI.out.rel R1.out)).mono ?_);rintro e w2 ⟨rfl,h2⟩;have Q2:=yH h2.out;clear h2;obtain⟨⟨x0,x1,x2,x3,x4,x5⟩,_⟩:=six_of (HX.out.rel Q2.out);obtain⟨⟨p0,p1,p2,p3⟩,_⟩:=four_of (HY.out.rel Q2.out);obtain⟨⟨z0,z1,z2,z3⟩,⟨zf0,zf1,zf2,zf3⟩⟩:=four_of (HZ.out.rel Q2.out))
  |(go_at_call 12;(with_reducible refine(HD.out _ (R1.out.trans Q2.out).self).mono ?_);rintro e w3 ⟨rfl,h3⟩;have Q3:=yH (Q2.out.trans h3.out);clear h3;obtain⟨⟨x0,x1,x2,x3,x4,x5⟩,_⟩:=six_of (HX.out.rel Q3.out);obtain⟨⟨p0,p1,p2,p3⟩,_⟩:=four_of (HY.out.rel Q3.out);obtain⟨⟨z0,z1,z2,z3⟩,⟨zf0,zf1,zf2,zf3⟩⟩:=four_of (HZ.out.rel Q3.out))
  |(go_at_call 25;(with_reducible refine(HB.out _).mono ?_);rintro e w' ⟨rfl,rfl⟩))
 obtain⟨⟨y0,y1,y2,y3⟩,_⟩:=four_of ((HZ.out.rel Q3.out).put4 (.int .i64 la) (.int .i64 at_) (.slice A n k) (.int .i64 sw))
 have RW:=(R1.out.trans Q3.out).put4 sz (.int .i64 la) (.int .i64 at_) (.slice A n k) (.int .i64 sw)
 refine bodyPost_ret (v:= .tuple #[.agg #[.int .i64 la,.int .i64 at_,.slice A n k,.int .i64 sw],.bool false]) (by simp[results,Tryz.results15,go_sem,y0,y1,y2,y3]) rfl ⟨rfl,RW⟩
theorem ldec_w(H:ConfOk3)(f c m o b la at_ sw tg now:Int)(t:List UInt8)(S:ByteArray)(hS:B t=S)(hf:CfFit (f,c,m,o,b,t))(L:List Int)(A:Option Addr)(n k:Nat)(hn:L.length=n)(ht:i64 tg)(hnow:i64 now)(hri:rightP (la,at_,L,sw)=true)(hb:decide (0≤now∧readyP (f,c,m,o,b,t) (la,at_,L,sw)≤now∧now≤1099511627776)=true)(hw:withinC (f,c,m,o,b,t) tg=false)(w:World)(hr:Rel w w)(hi:IntsIn w A k L):
  Calls Tryz.prog 15 #[.agg #[.int .i64 f,.int .i64 c,.int .i64 m,.int .i64 o,.int .i64 b,.string S],.agg #[.int .i64 la,.int .i64 at_,.slice A n k,.int .i64 sw],.int .i64 tg,.int .i64 now] w fun e w'=>e= .returned (.tuple #[.agg #[.int .i64 la,.int .i64 at_,.slice A n k,.int .i64 sw],.bool false])∧Rel w w':=by
 have hG0:=fun(w:World)(hr:Rel w w)(hi:IntsIn w A k L)=>lright15_any la at_ sw L A n k hn w hr hi
 rw[hri] at hG0
 have HG:=yH hG0
 have hD0:=fun(w:World)(hr:Rel w w)=>lready15_any f c m o b la at_ sw S t L A n k w hr
 have hre0:=ready_bd (c:=(f,c,m,o,b,t)) (la,at_,L,sw)
 obtain⟨re,hre⟩:∃r,readyP (f,c,m,o,b,t) (la,at_,L,sw)=r:=⟨_,rfl⟩
 rw[hre] at hD0 hre0 hb
 have HD:=yH hD0
 have HB:=yH (fun w:World=>pwithin15_as now re 1099511627776 _ (yH hre0.2) (yH rfl) w)
 have hbe:decide (re≤now∧now≤1099511627776)=true:=by rw[←hb,Bool.eq_iff_iff,decide_eq_true_eq,decide_eq_true_eq];omega
 rw[hbe] at HB
 have HW:=yH (fun(w:World)(hr:Rel w w)=>cwit15 H hS hf (p:=tg) ht hw w hr)
 have HX0:=yH (((Bk.new w 24 #[.int .i64 f,.int .i64 c,.int .i64 m,.int .i64 o,.int .i64 b,.string S]).alloc (.cells #[.int .i64 la,.int .i64 at_,.slice A n k,.int .i64 sw] 27)).alloc (.cells #[.int .i64 0,.int .i64 0,.slice none 0 0,.int .i64 0] 27))
 have HY0:=yH ((Bk.new (w.alloc (.cells #[.int .i64 f,.int .i64 c,.int .i64 m,.int .i64 o,.int .i64 b,.string S] 24)) 27 #[.int .i64 la,.int .i64 at_,.slice A n k,.int .i64 sw]).alloc (.cells #[.int .i64 0,.int .i64 0,.slice none 0 0,.int .i64 0] 27))
 have HZ0:=yH (Bk.new ((w.alloc (.cells #[.int .i64 f,.int .i64 c,.int .i64 m,.int .i64 o,.int .i64 b,.string S] 24)).alloc (.cells #[.int .i64 la,.int .i64 at_,.slice A n k,.int .i64 sw] 27)) 27 #[.int .i64 0,.int .i64 0,.slice none 0 0,.int .i64 0])
 have HR0:=yH (((hr.alloc (.cells #[.int .i64 f,.int .i64 c,.int .i64 m,.int .i64 o,.int .i64 b,.string S] 24)).alloc (.cells #[.int .i64 la,.int .i64 at_,.slice A n k,.int .i64 sw] 27)).alloc (.cells #[.int .i64 0,.int .i64 0,.slice none 0 0,.int .i64 0] 27))
 have HI:=yH hi
 clear H hr hi hS hf hG0 hri hn ht hnow hD0 hre hre0 hb hbe hw
 go_enter Tryz.func15,Tryz.ntmps15
 go_upto_region 1 with (fail)
 have HX:=HX0
 have HY:=HY0
 have HZ:=HZ0
 have R1:=HR0
 rw[World.size_alloc] at HY
 rw[World.size_alloc,World.size_alloc] at HZ
 obtain⟨W,hW⟩:∃W,((w.alloc (.cells #[.int .i64 f,.int .i64 c,.int .i64 m,.int .i64 o,.int .i64 b,.string S] 24)).alloc (.cells #[.int .i64 la,.int .i64 at_,.slice A n k,.int .i64 sw] 27)).alloc (.cells #[.int .i64 0,.int .i64 0,.slice none 0 0,.int .i64 0] 27)=W:=⟨_,rfl⟩
 rw[hW] at HX HY HZ R1
 obtain⟨gz,hgz⟩:∃g,w.heap.size+1+1=g:=⟨_,rfl⟩
 obtain⟨gy,hgy⟩:∃g,w.heap.size+1=g:=⟨_,rfl⟩
 rw[hgz] at HZ
 rw[hgy] at HY
 have sz:w.heap.size≤gz:=by omega
 have NYZ:=yH (show gy≠gz by omega)
 try rw[hW]
 try rw[hgz]
 try rw[hgy]
 obtain⟨gx,hgx⟩:∃g,w.heap.size=g:=⟨_,rfl⟩
 rw[hgx] at HX
 try rw[hgx]
 clear hW hgz hgy hgx HX0 HY0 HZ0 HR0
 obtain⟨⟨x0,x1,x2,x3,x4,x5⟩,_⟩:=six_of (HX.out.rel R1.out.self)
 obtain⟨⟨p0,p1,p2,p3⟩,_⟩:=four_of (HY.out.rel R1.out.self)
 obtain⟨⟨z0,z1,z2,z3⟩,⟨zf0,zf1,zf2,zf3⟩⟩:=four_of (HZ.out.rel R1.out.self)
 go_upto_region 3 with (first
  |(go_at_call 10;(with_reducible refine(HG.out _ R1.out.self (HI.out.rel R1.out)).mono ?_);rintro e w2 ⟨rfl,h2⟩;have Q2:=yH h2.out;clear h2;obtain⟨⟨x0,x1,x2,x3,x4,x5⟩,_⟩:=six_of (HX.out.rel Q2.out);obtain⟨⟨p0,p1,p2,p3⟩,_⟩:=four_of (HY.out.rel Q2.out);obtain⟨⟨z0,z1,z2,z3⟩,⟨zf0,zf1,zf2,zf3⟩⟩:=four_of (HZ.out.rel Q2.out))
  |(go_at_call 12;(with_reducible refine(HD.out _ (R1.out.trans Q2.out).self).mono ?_);rintro e w3 ⟨rfl,h3⟩;have Q3:=yH (Q2.out.trans h3.out);clear h3;obtain⟨⟨x0,x1,x2,x3,x4,x5⟩,_⟩:=six_of (HX.out.rel Q3.out);obtain⟨⟨p0,p1,p2,p3⟩,_⟩:=four_of (HY.out.rel Q3.out);obtain⟨⟨z0,z1,z2,z3⟩,⟨zf0,zf1,zf2,zf3⟩⟩:=four_of (HZ.out.rel Q3.out))
  |(go_at_call 25;(with_reducible refine(HB.out _).mono ?_);rintro e w' ⟨rfl,rfl⟩))
 go_wp2_with (go_at_call 19;(with_reducible refine(HW.out _ (R1.out.trans Q3.out).self).mono ?_);rintro e w4 ⟨rfl,h4⟩;have Q4:=yH (Q3.out.trans h4.out);clear h4;obtain⟨⟨x0,x1,x2,x3,x4,x5⟩,_⟩:=six_of (HX.out.rel Q4.out);obtain⟨⟨p0,p1,p2,p3⟩,_⟩:=four_of (HY.out.rel Q4.out);obtain⟨⟨z0,z1,z2,z3⟩,⟨zf0,zf1,zf2,zf3⟩⟩:=four_of (HZ.out.rel Q4.out))
 obtain⟨⟨y0,y1,y2,y3⟩,_⟩:=four_of ((HZ.out.rel Q4.out).put4 (.int .i64 la) (.int .i64 at_) (.slice A n k) (.int .i64 sw))
 have RW:=(R1.out.trans Q4.out).put4 sz (.int .i64 la) (.int .i64 at_) (.slice A n k) (.int .i64 sw)
 refine bodyPost_ret (v:= .tuple #[.agg #[.int .i64 la,.int .i64 at_,.slice A n k,.int .i64 sw],.bool false]) (by simp[results,Tryz.results15,go_sem,y0,y1,y2,y3]) rfl ⟨rfl,RW⟩
theorem right_last{la at_ sw:Int}{L:List Int}(h:rightP (la,at_,L,sw)=true):0≤la∧la≤1000000000000:=by
 by_cases hl:1≤L.length
 ·rw[right_full hl,Bool.and_eq_true,Bool.and_eq_true] at h
  have he:=h.1.1
  unfold endsP at he
  rw[Bool.and_eq_true,Bool.and_eq_true] at he
  have:=ringOk_mem.1 he.2 la (List.mem_of_getLast? (of_decide_eq_true he.1.2))
  omega
 ·rw[right_empty (by omega)] at h
  have:=of_decide_eq_true h
  omega
theorem ldec_f(H:ConfOk3)(f c m o b la at_ sw tg now:Int)(t:List UInt8)(S:ByteArray)(hS:B t=S)(hf:CfFit (f,c,m,o,b,t))(L:List Int)(A:Option Addr)(n k:Nat)(hn:L.length=n)(ht:i64 tg)(hnow:i64 now)(hri:rightP (la,at_,L,sw)=true)(hb:decide (0≤now∧readyP (f,c,m,o,b,t) (la,at_,L,sw)≤now∧now≤1099511627776)=true)(hw:withinC (f,c,m,o,b,t) tg=true)(hne:(decide (la-b≤tg∧tg≤la+b)&&withinC (f,c,m,o,b,t) la)=true)(w:World)(hr:Rel w w)(hi:IntsIn w A k L):
  Calls Tryz.prog 15 #[.agg #[.int .i64 f,.int .i64 c,.int .i64 m,.int .i64 o,.int .i64 b,.string S],.agg #[.int .i64 la,.int .i64 at_,.slice A n k,.int .i64 sw],.int .i64 tg,.int .i64 now] w fun e w'=>e= .returned (.tuple #[.agg #[.int .i64 la,.int .i64 at_,.slice A n k,.int .i64 sw],.bool false])∧Rel w w':=by
 have hcz:=check_zero.1 (within_bd hw).2.2.1
 have hnu:=nums_iff.1 hcz.1
 have hbb:0≤b∧b≤1000000000000:=⟨hnu.2.2.2.2.2.2.2.1,hnu.2.2.2.2.2.2.2.2⟩
 have hlb:=right_last hri
 have hN0:=fun(w:World)(hr:Rel w w)=>lnear15_any H f c m o b la tg t S hS hf hlb hbb w hr
 rw[hne] at hN0
 have HNe:=yH hN0
 have hG0:=fun(w:World)(hr:Rel w w)(hi:IntsIn w A k L)=>lright15_any la at_ sw L A n k hn w hr hi
 rw[hri] at hG0
 have HG:=yH hG0
 have hD0:=fun(w:World)(hr:Rel w w)=>lready15_any f c m o b la at_ sw S t L A n k w hr
 have hre0:=ready_bd (c:=(f,c,m,o,b,t)) (la,at_,L,sw)
 obtain⟨re,hre⟩:∃r,readyP (f,c,m,o,b,t) (la,at_,L,sw)=r:=⟨_,rfl⟩
 rw[hre] at hD0 hre0 hb
 have HD:=yH hD0
 have HB:=yH (fun w:World=>pwithin15_as now re 1099511627776 _ (yH hre0.2) (yH rfl) w)
 have hbe:decide (re≤now∧now≤1099511627776)=true:=by rw[←hb,Bool.eq_iff_iff,decide_eq_true_eq,decide_eq_true_eq];omega
 rw[hbe] at HB
 have HW:=yH (fun(w:World)(hr:Rel w w)=>cwit15 H hS hf (p:=tg) ht hw w hr)
 have HX0:=yH (((Bk.new w 24 #[.int .i64 f,.int .i64 c,.int .i64 m,.int .i64 o,.int .i64 b,.string S]).alloc (.cells #[.int .i64 la,.int .i64 at_,.slice A n k,.int .i64 sw] 27)).alloc (.cells #[.int .i64 0,.int .i64 0,.slice none 0 0,.int .i64 0] 27))
 have HY0:=yH ((Bk.new (w.alloc (.cells #[.int .i64 f,.int .i64 c,.int .i64 m,.int .i64 o,.int .i64 b,.string S] 24)) 27 #[.int .i64 la,.int .i64 at_,.slice A n k,.int .i64 sw]).alloc (.cells #[.int .i64 0,.int .i64 0,.slice none 0 0,.int .i64 0] 27))
 have HZ0:=yH (Bk.new ((w.alloc (.cells #[.int .i64 f,.int .i64 c,.int .i64 m,.int .i64 o,.int .i64 b,.string S] 24)).alloc (.cells #[.int .i64 la,.int .i64 at_,.slice A n k,.int .i64 sw] 27)) 27 #[.int .i64 0,.int .i64 0,.slice none 0 0,.int .i64 0])
 have HR0:=yH (((hr.alloc (.cells #[.int .i64 f,.int .i64 c,.int .i64 m,.int .i64 o,.int .i64 b,.string S] 24)).alloc (.cells #[.int .i64 la,.int .i64 at_,.slice A n k,.int .i64 sw] 27)).alloc (.cells #[.int .i64 0,.int .i64 0,.slice none 0 0,.int .i64 0] 27))
 have HI:=yH hi
 clear H hr hi hS hf hG0 hri hn ht hnow hD0 hre hre0 hb hbe hw hN0 hne hlb hbb hnu hcz
 go_enter Tryz.func15,Tryz.ntmps15
 go_upto_region 1 with (fail)
 have HX:=HX0
 have HY:=HY0
 have HZ:=HZ0
 have R1:=HR0
 rw[World.size_alloc] at HY
 rw[World.size_alloc,World.size_alloc] at HZ
 obtain⟨W,hW⟩:∃W,((w.alloc (.cells #[.int .i64 f,.int .i64 c,.int .i64 m,.int .i64 o,.int .i64 b,.string S] 24)).alloc (.cells #[.int .i64 la,.int .i64 at_,.slice A n k,.int .i64 sw] 27)).alloc (.cells #[.int .i64 0,.int .i64 0,.slice none 0 0,.int .i64 0] 27)=W:=⟨_,rfl⟩
 rw[hW] at HX HY HZ R1
 obtain⟨gz,hgz⟩:∃g,w.heap.size+1+1=g:=⟨_,rfl⟩
 obtain⟨gy,hgy⟩:∃g,w.heap.size+1=g:=⟨_,rfl⟩
 rw[hgz] at HZ
 rw[hgy] at HY
 have sz:w.heap.size≤gz:=by omega
 have NYZ:=yH (show gy≠gz by omega)
 try rw[hW]
 try rw[hgz]
 try rw[hgy]
 obtain⟨gx,hgx⟩:∃g,w.heap.size=g:=⟨_,rfl⟩
 rw[hgx] at HX
 try rw[hgx]
 clear hW hgz hgy hgx HX0 HY0 HZ0 HR0
 obtain⟨⟨x0,x1,x2,x3,x4,x5⟩,_⟩:=six_of (HX.out.rel R1.out.self)
 obtain⟨⟨p0,p1,p2,p3⟩,_⟩:=four_of (HY.out.rel R1.out.self)
 obtain⟨⟨z0,z1,z2,z3⟩,⟨zf0,zf1,zf2,zf3⟩⟩:=four_of (HZ.out.rel R1.out.self)
 go_upto_region 3 with (first
  |(go_at_call 10;(with_reducible refine(HG.out _ R1.out.self (HI.out.rel R1.out)).mono ?_);rintro e w2 ⟨rfl,h2⟩;have Q2:=yH h2.out;clear h2;obtain⟨⟨x0,x1,x2,x3,x4,x5⟩,_⟩:=six_of (HX.out.rel Q2.out);obtain⟨⟨p0,p1,p2,p3⟩,_⟩:=four_of (HY.out.rel Q2.out);obtain⟨⟨z0,z1,z2,z3⟩,⟨zf0,zf1,zf2,zf3⟩⟩:=four_of (HZ.out.rel Q2.out))
  |(go_at_call 12;(with_reducible refine(HD.out _ (R1.out.trans Q2.out).self).mono ?_);rintro e w3 ⟨rfl,h3⟩;have Q3:=yH (Q2.out.trans h3.out);clear h3;obtain⟨⟨x0,x1,x2,x3,x4,x5⟩,_⟩:=six_of (HX.out.rel Q3.out);obtain⟨⟨p0,p1,p2,p3⟩,_⟩:=four_of (HY.out.rel Q3.out);obtain⟨⟨z0,z1,z2,z3⟩,⟨zf0,zf1,zf2,zf3⟩⟩:=four_of (HZ.out.rel Q3.out))
  |(go_at_call 25;(with_reducible refine(HB.out _).mono ?_);rintro e w' ⟨rfl,rfl⟩))
 go_wp2_with (first
  |(go_at_call 19;(with_reducible refine(HW.out _ (R1.out.trans Q3.out).self).mono ?_);rintro e w4 ⟨rfl,h4⟩;have Q4:=yH (Q3.out.trans h4.out);clear h4;obtain⟨⟨x0,x1,x2,x3,x4,x5⟩,_⟩:=six_of (HX.out.rel Q4.out);obtain⟨⟨p0,p1,p2,p3⟩,_⟩:=four_of (HY.out.rel Q4.out);obtain⟨⟨z0,z1,z2,z3⟩,⟨zf0,zf1,zf2,zf3⟩⟩:=four_of (HZ.out.rel Q4.out))
  |(go_at_call 29;(with_reducible refine(HNe.out _ (R1.out.trans Q4.out).self).mono ?_);rintro e w5 ⟨rfl,h5⟩;have Q5:=yH (Q4.out.trans h5.out);clear h5;obtain⟨⟨x0,x1,x2,x3,x4,x5⟩,_⟩:=six_of (HX.out.rel Q5.out);obtain⟨⟨p0,p1,p2,p3⟩,_⟩:=four_of (HY.out.rel Q5.out);obtain⟨⟨z0,z1,z2,z3⟩,⟨zf0,zf1,zf2,zf3⟩⟩:=four_of (HZ.out.rel Q5.out)))
 obtain⟨⟨y0,y1,y2,y3⟩,_⟩:=four_of ((HZ.out.rel Q5.out).put4 (.int .i64 la) (.int .i64 at_) (.slice A n k) (.int .i64 sw))
 have RW:=(R1.out.trans Q5.out).put4 sz (.int .i64 la) (.int .i64 at_) (.slice A n k) (.int .i64 sw)
 refine bodyPost_ret (v:= .tuple #[.agg #[.int .i64 la,.int .i64 at_,.slice A n k,.int .i64 sw],.bool false]) (by simp[results,Tryz.results15,go_sem,y0,y1,y2,y3]) rfl ⟨rfl,RW⟩
theorem ldec_y(H:ConfOk3)(f c m o b la at_ sw tg now:Int)(t:List UInt8)(S:ByteArray)(hS:B t=S)(hf:CfFit (f,c,m,o,b,t))(L:List Int)(A:Option Addr)(n k:Nat)(hn:L.length=n)(ht:i64 tg)(hnow:i64 now)(hri:rightP (la,at_,L,sw)=true)(hb:decide (0≤now∧readyP (f,c,m,o,b,t) (la,at_,L,sw)≤now∧now≤1099511627776)=true)(hw:withinC (f,c,m,o,b,t) tg=true)(hne:(decide (la-b≤tg∧tg≤la+b)&&withinC (f,c,m,o,b,t) la)=false)(w:World)(hr:Rel w w)(hi:IntsIn w A k L):
  Calls Tryz.prog 15 #[.agg #[.int .i64 f,.int .i64 c,.int .i64 m,.int .i64 o,.int .i64 b,.string S],.agg #[.int .i64 la,.int .i64 at_,.slice A n k,.int .i64 sw],.int .i64 tg,.int .i64 now] w fun e w'=>∃A' n' k',e= .returned (.tuple #[.agg #[.int .i64 tg,.int .i64 now,.slice A' n' k',.int .i64 (if swingsP L tg then min (sw+1) 6 else 0)],.bool true])∧(lastR (L++[tg])).length=n'∧IntsIn w' A' k' (lastR (L++[tg]))∧Rel w w'∧(∀a,A'=some a→w.heap.size≤a.block∧a.block<w'.heap.size):=by
 have hcz:=check_zero.1 (within_bd hw).2.2.1
 have hnu:=nums_iff.1 hcz.1
 have hbb:0≤b∧b≤1000000000000:=⟨hnu.2.2.2.2.2.2.2.1,hnu.2.2.2.2.2.2.2.2⟩
 have hlb:=right_last hri
 have hN0:=fun(w:World)(hr:Rel w w)=>lnear15_any H f c m o b la tg t S hS hf hlb hbb w hr
 rw[hne] at hN0
 have HNe:=yH hN0
 have hrr:=right_ring hri
 have hrs:=right_swing hri
 have h3:n≤3:=by rw[←hn];exact hrr.2
 have HS0:=yH (fun(w:World)(hr:Rel w w)(hi:IntsIn w A k L)=>lswings15_any la at_ sw tg L A n k hn h3 hrs.1 hrs.2 w hr hi)
 have HBe:=yH (fun(w:World)(hr:Rel w w)(hi:IntsIn w A k L)=>lbehind15_any L A n k hn h3 tg ht w hr hi)
 obtain⟨sv,hsv⟩:∃s,(if swingsP L tg then min (sw+1) 6 else 0)=s:=⟨_,rfl⟩
 rw[hsv] at HS0⊢
 obtain⟨LL,hLL⟩:∃l,lastR (L++[tg])=l:=⟨_,rfl⟩
 rw[hLL] at HBe⊢
 have hG0:=fun(w:World)(hr:Rel w w)(hi:IntsIn w A k L)=>lright15_any la at_ sw L A n k hn w hr hi
 rw[hri] at hG0
 have HG:=yH hG0
 have hD0:=fun(w:World)(hr:Rel w w)=>lready15_any f c m o b la at_ sw S t L A n k w hr
 have hre0:=ready_bd (c:=(f,c,m,o,b,t)) (la,at_,L,sw)
 obtain⟨re,hre⟩:∃r,readyP (f,c,m,o,b,t) (la,at_,L,sw)=r:=⟨_,rfl⟩
 rw[hre] at hD0 hre0 hb
 have HD:=yH hD0
 have HB:=yH (fun w:World=>pwithin15_as now re 1099511627776 _ (yH hre0.2) (yH rfl) w)
 have hbe:decide (re≤now∧now≤1099511627776)=true:=by rw[←hb,Bool.eq_iff_iff,decide_eq_true_eq,decide_eq_true_eq];omega
 rw[hbe] at HB
 have HW:=yH (fun(w:World)(hr:Rel w w)=>cwit15 H hS hf (p:=tg) ht hw w hr)
 have HX0:=yH (((Bk.new w 24 #[.int .i64 f,.int .i64 c,.int .i64 m,.int .i64 o,.int .i64 b,.string S]).alloc (.cells #[.int .i64 la,.int .i64 at_,.slice A n k,.int .i64 sw] 27)).alloc (.cells #[.int .i64 0,.int .i64 0,.slice none 0 0,.int .i64 0] 27))
 have HY0:=yH ((Bk.new (w.alloc (.cells #[.int .i64 f,.int .i64 c,.int .i64 m,.int .i64 o,.int .i64 b,.string S] 24)) 27 #[.int .i64 la,.int .i64 at_,.slice A n k,.int .i64 sw]).alloc (.cells #[.int .i64 0,.int .i64 0,.slice none 0 0,.int .i64 0] 27))
 have HZ0:=yH (Bk.new ((w.alloc (.cells #[.int .i64 f,.int .i64 c,.int .i64 m,.int .i64 o,.int .i64 b,.string S] 24)).alloc (.cells #[.int .i64 la,.int .i64 at_,.slice A n k,.int .i64 sw] 27)) 27 #[.int .i64 0,.int .i64 0,.slice none 0 0,.int .i64 0])
 have HR0:=yH (((hr.alloc (.cells #[.int .i64 f,.int .i64 c,.int .i64 m,.int .i64 o,.int .i64 b,.string S] 24)).alloc (.cells #[.int .i64 la,.int .i64 at_,.slice A n k,.int .i64 sw] 27)).alloc (.cells #[.int .i64 0,.int .i64 0,.slice none 0 0,.int .i64 0] 27))
 have HI:=yH hi
 clear H hr hi hS hf hG0 hri hn ht hnow hD0 hre hre0 hb hbe hw hN0 hne hlb hbb hnu hcz hrr hrs hsv hLL h3
 go_enter Tryz.func15,Tryz.ntmps15
 go_upto_region 1 with (fail)
 have HX:=HX0
 have HY:=HY0
 have HZ:=HZ0
 have R1:=HR0
 rw[World.size_alloc] at HY
 rw[World.size_alloc,World.size_alloc] at HZ
 obtain⟨W,hW⟩:∃W,((w.alloc (.cells #[.int .i64 f,.int .i64 c,.int .i64 m,.int .i64 o,.int .i64 b,.string S] 24)).alloc (.cells #[.int .i64 la,.int .i64 at_,.slice A n k,.int .i64 sw] 27)).alloc (.cells #[.int .i64 0,.int .i64 0,.slice none 0 0,.int .i64 0] 27)=W:=⟨_,rfl⟩
 rw[hW] at HX HY HZ R1
 obtain⟨gz,hgz⟩:∃g,w.heap.size+1+1=g:=⟨_,rfl⟩
 obtain⟨gy,hgy⟩:∃g,w.heap.size+1=g:=⟨_,rfl⟩
 rw[hgz] at HZ
 rw[hgy] at HY
 have sz:w.heap.size≤gz:=by omega
 have NYZ:=yH (show gy≠gz by omega)
 try rw[hW]
 try rw[hgz]
 try rw[hgy]
 obtain⟨gx,hgx⟩:∃g,w.heap.size=g:=⟨_,rfl⟩
 rw[hgx] at HX
 try rw[hgx]
 clear hW hgz hgy hgx HX0 HY0 HZ0 HR0
 obtain⟨⟨x0,x1,x2,x3,x4,x5⟩,_⟩:=six_of (HX.out.rel R1.out.self)
 obtain⟨⟨p0,p1,p2,p3⟩,_⟩:=four_of (HY.out.rel R1.out.self)
 obtain⟨⟨z0,z1,z2,z3⟩,⟨zf0,zf1,zf2,zf3⟩⟩:=four_of (HZ.out.rel R1.out.self)
 go_upto_region 3 with (first
  |(go_at_call 10;(with_reducible refine(HG.out _ R1.out.self (HI.out.rel R1.out)).mono ?_);rintro e w2 ⟨rfl,h2⟩;have Q2:=yH h2.out;clear h2;obtain⟨⟨x0,x1,x2,x3,x4,x5⟩,_⟩:=six_of (HX.out.rel Q2.out);obtain⟨⟨p0,p1,p2,p3⟩,_⟩:=four_of (HY.out.rel Q2.out);obtain⟨⟨z0,z1,z2,z3⟩,⟨zf0,zf1,zf2,zf3⟩⟩:=four_of (HZ.out.rel Q2.out))
  |(go_at_call 12;(with_reducible refine(HD.out _ (R1.out.trans Q2.out).self).mono ?_);rintro e w3 ⟨rfl,h3⟩;have Q3:=yH (Q2.out.trans h3.out);clear h3;obtain⟨⟨x0,x1,x2,x3,x4,x5⟩,_⟩:=six_of (HX.out.rel Q3.out);obtain⟨⟨p0,p1,p2,p3⟩,_⟩:=four_of (HY.out.rel Q3.out);obtain⟨⟨z0,z1,z2,z3⟩,⟨zf0,zf1,zf2,zf3⟩⟩:=four_of (HZ.out.rel Q3.out))
  |(go_at_call 25;(with_reducible refine(HB.out _).mono ?_);rintro e w' ⟨rfl,rfl⟩))
 go_upto_region 5 with (first
  |(go_at_call 19;(with_reducible refine(HW.out _ (R1.out.trans Q3.out).self).mono ?_);rintro e w4 ⟨rfl,h4⟩;have Q4:=yH (Q3.out.trans h4.out);clear h4;obtain⟨⟨x0,x1,x2,x3,x4,x5⟩,_⟩:=six_of (HX.out.rel Q4.out);obtain⟨⟨p0,p1,p2,p3⟩,_⟩:=four_of (HY.out.rel Q4.out);obtain⟨⟨z0,z1,z2,z3⟩,⟨zf0,zf1,zf2,zf3⟩⟩:=four_of (HZ.out.rel Q4.out))
  |(go_at_call 29;(with_reducible refine(HNe.out _ (R1.out.trans Q4.out).self).mono ?_);rintro e w5 ⟨rfl,h5⟩;have Q5:=yH (Q4.out.trans h5.out);clear h5;obtain⟨⟨x0,x1,x2,x3,x4,x5⟩,_⟩:=six_of (HX.out.rel Q5.out);obtain⟨⟨p0,p1,p2,p3⟩,_⟩:=four_of (HY.out.rel Q5.out);obtain⟨⟨z0,z1,z2,z3⟩,⟨zf0,zf1,zf2,zf3⟩⟩:=four_of (HZ.out.rel Q5.out)))
 have R5:=yH (R1.out.trans Q5.out)
 have HYq:=yH (HY.out.rel Q5.out)
 have HZq:=yH (HZ.out.rel Q5.out)
 clear HX HY HZ R1 Q2 Q3 Q4 Q5 HW HG HD HB HNe x0 x1 x2 x3 x4 x5 p0 p1 p2 p3 z0 z1 z2 z3 zf0 zf1 zf2 zf3
 have HYd:=yH HYq.out.drew
 have HZd:=yH HZq.out.drew
 have Rd:=yH R5.out.drew
 have HGZ:=yH HZd.out.lt
 go_region_held3 (fun w'=>w'.cell? ⟨gy,0,none⟩=some (.int .i64 la)∧w'.cell? ⟨gy,1,none⟩=some (.int .i64 at_)∧w'.cell? ⟨gy,2,none⟩=some (.slice A n k)∧w'.cell? ⟨gy,3,none⟩=some (.int .i64 sw))
  (first|exact(four_of HYd.out).1|exact(four_of (HYd.out.rel Q6.out)).1|exact(four_of (HYd.out.rel Q7.out)).1|exact(four_of (((((HYd.out.rel Q7.out).far (p:=⟨gz,0,none⟩) NYZ.out _).far (p:=⟨gz,1,none⟩) NYZ.out _).far (p:=⟨gz,2,none⟩) NYZ.out _).far (p:=⟨gz,3,none⟩) NYZ.out _)).1)
  (first
  |(go_at_call 30;(with_reducible refine(HBe.out _ Rd.out.self (HI.out.rel Rd.out)).mono ?_);rintro e w6 ⟨A',n',k',rfl,hn6,HIr,HBl,h6⟩;have Q6:=yH h6.out;have HN6:=yH hn6;clear h6 hn6)
  |(go_at_call 31;(with_reducible refine(HS0.out _ (Rd.out.trans Q6.out).self (HI.out.rel (Rd.out.trans Q6.out))).mono ?_);rintro e w7 ⟨rfl,h7⟩;have Q7:=yH (Q6.out.trans h7.out);have HI7:=yH (HIr.out.rel h7.out);have HS67:=yH h7.out.size;clear h7;obtain⟨⟨z0,z1,z2,z3⟩,⟨zf0,zf1,zf2,zf3⟩⟩:=four_of (HZd.out.rel Q7.out)))
 go_wp2_with (fail)
 have HBz:=yH (fun a ha=>Nat.ne_of_gt (Nat.lt_of_lt_of_le HGZ.out (HBl.out a ha).1))
 have HRg:=yH (HI7.out.put4 (g:=gz) HBz.out (.int .i64 tg) (.int .i64 now) (.slice A' n' k') (.int .i64 sv))
 obtain⟨⟨y0,y1,y2,y3⟩,_⟩:=four_of ((HZd.out.rel Q7.out).put4 (.int .i64 tg) (.int .i64 now) (.slice A' n' k') (.int .i64 sv))
 have RW:=(Rd.out.trans Q7.out).put4 sz (.int .i64 tg) (.int .i64 now) (.slice A' n' k') (.int .i64 sv)
 refine bodyPost_ret (v:= .tuple #[.agg #[.int .i64 tg,.int .i64 now,.slice A' n' k',.int .i64 sv],.bool true]) (by simp[results,Tryz.results15,go_sem,y0,y1,y2,y3]) rfl ⟨A',n',k',rfl,HN6.out,HRg.out,RW,fun a ha=>⟨Nat.le_trans Rd.out.size (HBl.out a ha).1,Nat.lt_of_lt_of_le (HBl.out a ha).2 (Nat.le_trans HS67.out (put4_grown _ _ _ _ _ _).size)⟩⟩
theorem ldec15_any(H:ConfOk3)(c:Cf)(S:ByteArray)(p:Pa15)(A:Option Addr)(n k:Nat)(t now:Int)(w:World)(hS:B (txC c)=S)(hf:CfFit c)(ht:i64 t)(hnow:i64 now)(hr:Rel w w)(hp:PaAt w p A n k):
  Calls Tryz.prog 15 #[.agg #[.int .i64 (flC c),.int .i64 (ceC c),.int .i64 (mpC c),.int .i64 (coC c),.int .i64 (bdC c),.string S],.agg #[.int .i64 (laP p),.int .i64 (atP p),.slice A n k,.int .i64 (swP p)],.int .i64 t,.int .i64 now] w fun e w'=>∃(A':Option Addr)(n' k':Nat),e= .returned (.tuple #[.agg #[.int .i64 (laP (decP c p t now)),.int .i64 (atP (decP c p t now)),.slice A' n' k',.int .i64 (swP (decP c p t now))],.bool (goP c p t now)])∧PaAt w' (decP c p t now) A' n' k'∧Rel w w'∧(A'=A∨∀a,A'=some a→w.heap.size≤a.block∧a.block<w'.heap.size):=by
 obtain⟨f,ce,m,o,b,tx⟩:=c
 obtain⟨la,at_,L,sw⟩:=p
 obtain⟨hn,hfit,hi⟩:=hp
 have hgo:=lgo_eq (c:=(f,ce,m,o,b,tx)) (p:=(la,at_,L,sw)) (t:=t) (now:=now)
 have hno:goP (f,ce,m,o,b,tx) (la,at_,L,sw) t now=false→(Calls Tryz.prog 15 #[.agg #[.int .i64 f,.int .i64 ce,.int .i64 m,.int .i64 o,.int .i64 b,.string S],.agg #[.int .i64 la,.int .i64 at_,.slice A n k,.int .i64 sw],.int .i64 t,.int .i64 now] w fun e w'=>e= .returned (.tuple #[.agg #[.int .i64 la,.int .i64 at_,.slice A n k,.int .i64 sw],.bool false])∧Rel w w')→Calls Tryz.prog 15 #[.agg #[.int .i64 f,.int .i64 ce,.int .i64 m,.int .i64 o,.int .i64 b,.string S],.agg #[.int .i64 la,.int .i64 at_,.slice A n k,.int .i64 sw],.int .i64 t,.int .i64 now] w fun e w'=>∃(A':Option Addr)(n' k':Nat),e= .returned (.tuple #[.agg #[.int .i64 (laP (decP (f,ce,m,o,b,tx) (la,at_,L,sw) t now)),.int .i64 (atP (decP (f,ce,m,o,b,tx) (la,at_,L,sw) t now)),.slice A' n' k',.int .i64 (swP (decP (f,ce,m,o,b,tx) (la,at_,L,sw) t now))],.bool (goP (f,ce,m,o,b,tx) (la,at_,L,sw) t now)])∧PaAt w' (decP (f,ce,m,o,b,tx) (la,at_,L,sw) t now) A' n' k'∧Rel w w'∧(A'=A∨∀a,A'=some a→w.heap.size≤a.block∧a.block<w'.heap.size):=by
  intro hg hc
  have hd:decP (f,ce,m,o,b,tx) (la,at_,L,sw) t now=(la,at_,L,sw):=by unfold decP;rw[if_neg (by rw[hg];decide)]
  rw[hd,hg]
  refine hc.mono ?_
  rintro e w' ⟨he,h2⟩
  exact⟨A,n,k,he,⟨hn,hfit,hi.rel h2⟩,h2,.inl rfl⟩
 cases hri:rightP (la,at_,L,sw) with
 |false=>
  rw[hri,Bool.false_and,Bool.false_and,Bool.false_and] at hgo
  exact hno hgo (ldec_r H f ce m o b la at_ sw t now tx S hS hf L A n k hn ht hnow hri w hr hi)
 |true=>
  cases hb:decide (0≤now∧readyP (f,ce,m,o,b,tx) (la,at_,L,sw)≤now∧now≤1099511627776) with
  |false=>
   rw[hri,hb,Bool.and_false,Bool.false_and,Bool.false_and] at hgo
   exact hno hgo (ldec_n H f ce m o b la at_ sw t now tx S hS hf L A n k hn ht hnow hri hb w hr hi)
  |true=>
   cases hw:withinC (f,ce,m,o,b,tx) t with
   |false=>
    rw[hri,hb,hw,Bool.and_false,Bool.false_and] at hgo
    exact hno hgo (ldec_w H f ce m o b la at_ sw t now tx S hS hf L A n k hn ht hnow hri hb hw w hr hi)
   |true=>
    cases hne:(decide (la-b≤t∧t≤la+b)&&withinC (f,ce,m,o,b,tx) la) with
    |true=>
     have hgo2:goP (f,ce,m,o,b,tx) (la,at_,L,sw) t now=false:=by
      rw[hgo,show(decide (laP (la,at_,L,sw)-bdC (f,ce,m,o,b,tx)≤t∧t≤laP (la,at_,L,sw)+bdC (f,ce,m,o,b,tx))&&withinC (f,ce,m,o,b,tx) (laP (la,at_,L,sw)))=true from hne,Bool.not_true,Bool.and_false]
     exact hno hgo2 (ldec_f H f ce m o b la at_ sw t now tx S hS hf L A n k hn ht hnow hri hb hw hne w hr hi)
    |false=>
     have hgo2:goP (f,ce,m,o,b,tx) (la,at_,L,sw) t now=true:=by
      rw[hgo,show(decide (laP (la,at_,L,sw)-bdC (f,ce,m,o,b,tx)≤t∧t≤laP (la,at_,L,sw)+bdC (f,ce,m,o,b,tx))&&withinC (f,ce,m,o,b,tx) (laP (la,at_,L,sw)))=false from hne,hri,hb,hw]
      rfl
     have hd:decP (f,ce,m,o,b,tx) (la,at_,L,sw) t now=nextP (la,at_,L,sw) t now:=by unfold decP;rw[if_pos hgo2]
     rw[hd,hgo2]
     refine(ldec_y H f ce m o b la at_ sw t now tx S hS hf L A n k hn ht hnow hri hb hw hne w hr hi).mono ?_
     rintro e w' ⟨A',n',k',he,h1,h2,h3,h4⟩
     have hrs:=right_swing hri
     have hsw:0≤(if swingsP L t then min (sw+1) 6 else 0)∧(if swingsP L t then min (sw+1) 6 else 0)≤6:=by
      have h0:0≤sw:=hrs.1
      split<;>omega
     exact⟨A',n',k',he,⟨h1,⟨ht,hnow,⟨by show(-9223372036854775808:Int)≤(if swingsP L t then min (sw+1) 6 else 0);omega,by show(if swingsP L t then min (sw+1) 6 else 0)≤(9223372036854775807:Int);omega⟩⟩,h2⟩,h3,.inr h4⟩
theorem paceOk(H:ConfOk3):PaceOk:=by
 refine⟨fun p A n k w hr hp=> ?_,fun c S p A n k w _ _ hr hp=> ?_,fun c S p A n k t now w hS hf ht hnow hr hp=>ldec15_any H c S p A n k t now w hS hf ht hnow hr hp⟩
 ·obtain⟨la,at_,L,sw⟩:=p
  exact(lright15_any la at_ sw L A n k hp.1 w hr hp.2.2).mono fun e w' h=>⟨h.1,h.2.out⟩
 ·obtain⟨f,ce,m,o,b,tx⟩:=c
  obtain⟨la,at_,L,sw⟩:=p
  exact(lready15_any f ce m o b la at_ sw S tx L A n k w hr).mono fun e w' h=>⟨h.1,h.2.out⟩
theorem confOk15:ConfOk3:=⟨llowc_any,fun c p S hS hf _ w hr=>lwithin_any c p S hS hf w hr⟩
theorem paceOk15:PaceOk:=paceOk confOk15
end Go.Proofs.YtjhjdiaomnpkmaaGreatDoor
