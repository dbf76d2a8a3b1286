/- The document's own Decide of layer 15. -/

import Derived.Test.YtjhjdiaomnpkmaaGreatDoorZ13
import Derived.Test.YtjhjdiaomnpkmaaGreatDoorZ38
import Derived.Test.YtjhjdiaomnpkmaaGreatDoorZ39
set_option maxRecDepth 100000
set_option maxHeartbeats 8000000
set_option linter.unusedVariables false
set_option linter.unusedSimpArgs false
namespace Go.Proofs.YtjhjdiaomnpkmaaGreatDoor
open Go.RowKit Go.Lib
theorem rdec_w(f c m o b la at_ sw tg now:Int)(t:List UInt8)(S:ByteArray)(hS:B t=S)(hf:CfFit (f,c,m,o,b,t))(L:List Int)(A:Option Addr)(n k:Nat)(hn:L.length=n)(ht:i64 tg)(hw:withinC (f,c,m,o,b,t) tg=false)(ri:Bool)(hri:rightP (la,at_,L,sw)=ri)(w:World)(hr:Rel w w)(hi:IntsIn w A k L):
  Calls Tryz.prog 16 #[.agg #[.int .i64 f,.int .i64 c,.int .i64 m,.int .i64 o,.int .i64 b,.string S],.agg #[.int .i64 la,.int .i64 at_,.slice A n k,.int .i64 sw],.int .i64 tg,.int .i64 now] w fun e w'=>e= .returned (.tuple #[.agg #[.int .i64 la,.int .i64 at_,.slice A n k,.int .i64 sw],.bool false])∧Rel w w':=by
 have hW0:=fun(w:World)(hr:Rel w w)=>rwithin_any (f,c,m,o,b,t) tg S hS hf w hr
 have hG0:=fun(w:World)(hr:Rel w w)(hi:IntsIn w A k L)=>rright15_any la at_ sw L A n k hn w hr hi
 rw[hw] at hW0
 rw[hri] at hG0
 have HW:=yH hW0
 have HG:=yH hG0
 have HX0:=yH (((Bk.new w 24 #[.int .i64 f,.int .i64 c,.int .i64 m,.int .i64 o,.int .i64 b,.string S]).alloc (.cells #[.int .i64 la,.int .i64 at_,.slice A n k,.int .i64 sw] 27)).alloc (.cells #[.int .i64 0,.int .i64 0,.slice none 0 0,.int .i64 0] 27))
 have HY0:=yH ((Bk.new (w.alloc (.cells #[.int .i64 f,.int .i64 c,.int .i64 m,.int .i64 o,.int .i64 b,.string S] 24)) 27 #[.int .i64 la,.int .i64 at_,.slice A n k,.int .i64 sw]).alloc (.cells #[.int .i64 0,.int .i64 0,.slice none 0 0,.int .i64 0] 27))
 have HZ0:=yH (Bk.new ((w.alloc (.cells #[.int .i64 f,.int .i64 c,.int .i64 m,.int .i64 o,.int .i64 b,.string S] 24)).alloc (.cells #[.int .i64 la,.int .i64 at_,.slice A n k,.int .i64 sw] 27)) 27 #[.int .i64 0,.int .i64 0,.slice none 0 0,.int .i64 0])
 have HR0:=yH (((hr.alloc (.cells #[.int .i64 f,.int .i64 c,.int .i64 m,.int .i64 o,.int .i64 b,.string S] 24)).alloc (.cells #[.int .i64 la,.int .i64 at_,.slice A n k,.int .i64 sw] 27)).alloc (.cells #[.int .i64 0,.int .i64 0,.slice none 0 0,.int .i64 0] 27))
 have HI:=yH hi
 clear hr hi hS hf hW0 hG0 hw hri hn ht
 go_enter Tryz.func16,Tryz.ntmps16
 go_upto_region 1 with (fail)
 have HX:=HX0
 have HY:=HY0
 have HZ:=HZ0
 have R1:=HR0
 rw[World.size_alloc] at HY
 rw[World.size_alloc,World.size_alloc] at HZ
 obtain⟨W,hW⟩:∃W,((w.alloc (.cells #[.int .i64 f,.int .i64 c,.int .i64 m,.int .i64 o,.int .i64 b,.string S] 24)).alloc (.cells #[.int .i64 la,.int .i64 at_,.slice A n k,.int .i64 sw] 27)).alloc (.cells #[.int .i64 0,.int .i64 0,.slice none 0 0,.int .i64 0] 27)=W:=⟨_,rfl⟩
 rw[hW] at HX HY HZ R1
 obtain⟨gz,hgz⟩:∃g,w.heap.size+1+1=g:=⟨_,rfl⟩
 obtain⟨gy,hgy⟩:∃g,w.heap.size+1=g:=⟨_,rfl⟩
 rw[hgz] at HZ
 rw[hgy] at HY
 have sz:w.heap.size≤gz:=by omega
 try rw[hW]
 try rw[hgz]
 try rw[hgy]
 obtain⟨gx,hgx⟩:∃g,w.heap.size=g:=⟨_,rfl⟩
 rw[hgx] at HX
 try rw[hgx]
 clear hW hgz hgy hgx HX0 HY0 HZ0 HR0
 obtain⟨⟨x0,x1,x2,x3,x4,x5⟩,_⟩:=six_of (HX.out.rel R1.out.self)
 obtain⟨⟨p0,p1,p2,p3⟩,_⟩:=four_of (HY.out.rel R1.out.self)
 obtain⟨⟨z0,z1,z2,z3⟩,⟨zf0,zf1,zf2,zf3⟩⟩:=four_of (HZ.out.rel R1.out.self)
 go_wp2_with (first
  |(go_at_call 32;(with_reducible refine(HW.out _ R1.out.self).mono ?_);rintro e w2 ⟨rfl,h2⟩;have Q2:=yH h2;clear h2;obtain⟨⟨x0,x1,x2,x3,x4,x5⟩,_⟩:=six_of (HX.out.rel Q2.out);obtain⟨⟨p0,p1,p2,p3⟩,_⟩:=four_of (HY.out.rel Q2.out);obtain⟨⟨z0,z1,z2,z3⟩,⟨zf0,zf1,zf2,zf3⟩⟩:=four_of (HZ.out.rel Q2.out))
  |(go_at_call 11;(with_reducible refine(HG.out _ (R1.out.trans Q2.out).self (HI.out.rel (R1.out.trans Q2.out))).mono ?_);rintro e w3 ⟨rfl,h3⟩;have Q3:=yH (Q2.out.trans h3);clear h3;obtain⟨⟨x0,x1,x2,x3,x4,x5⟩,_⟩:=six_of (HX.out.rel Q3.out);obtain⟨⟨p0,p1,p2,p3⟩,_⟩:=four_of (HY.out.rel Q3.out);obtain⟨⟨z0,z1,z2,z3⟩,⟨zf0,zf1,zf2,zf3⟩⟩:=four_of (HZ.out.rel Q3.out)))
 obtain⟨⟨y0,y1,y2,y3⟩,_⟩:=four_of ((HZ.out.rel Q3.out).put4 (.int .i64 la) (.int .i64 at_) (.slice A n k) (.int .i64 sw))
 have RW:=(R1.out.trans Q3.out).put4 sz (.int .i64 la) (.int .i64 at_) (.slice A n k) (.int .i64 sw)
 refine bodyPost_ret (v:= .tuple #[.agg #[.int .i64 la,.int .i64 at_,.slice A n k,.int .i64 sw],.bool false]) (by simp[results,Tryz.results16,go_sem,y0,y1,y2,y3]) rfl ⟨rfl,RW⟩
theorem rdec_r(f c m o b la at_ sw tg now:Int)(t:List UInt8)(S:ByteArray)(hS:B t=S)(hf:CfFit (f,c,m,o,b,t))(L:List Int)(A:Option Addr)(n k:Nat)(hn:L.length=n)(ht:i64 tg)(hw:withinC (f,c,m,o,b,t) tg=true)(hri:rightP (la,at_,L,sw)=false)(w:World)(hr:Rel w w)(hi:IntsIn w A k L):
  Calls Tryz.prog 16 #[.agg #[.int .i64 f,.int .i64 c,.int .i64 m,.int .i64 o,.int .i64 b,.string S],.agg #[.int .i64 la,.int .i64 at_,.slice A n k,.int .i64 sw],.int .i64 tg,.int .i64 now] w fun e w'=>e= .returned (.tuple #[.agg #[.int .i64 la,.int .i64 at_,.slice A n k,.int .i64 sw],.bool false])∧Rel w w':=by
 have hW0:=fun(w:World)(hr:Rel w w)=>rwithin_any (f,c,m,o,b,t) tg S hS hf w hr
 have hG0:=fun(w:World)(hr:Rel w w)(hi:IntsIn w A k L)=>rright15_any la at_ sw L A n k hn w hr hi
 rw[hw] at hW0
 rw[hri] at hG0
 have HW:=yH hW0
 have HG:=yH hG0
 have HX0:=yH (((Bk.new w 24 #[.int .i64 f,.int .i64 c,.int .i64 m,.int .i64 o,.int .i64 b,.string S]).alloc (.cells #[.int .i64 la,.int .i64 at_,.slice A n k,.int .i64 sw] 27)).alloc (.cells #[.int .i64 0,.int .i64 0,.slice none 0 0,.int .i64 0] 27))
 have HY0:=yH ((Bk.new (w.alloc (.cells #[.int .i64 f,.int .i64 c,.int .i64 m,.int .i64 o,.int .i64 b,.string S] 24)) 27 #[.int .i64 la,.int .i64 at_,.slice A n k,.int .i64 sw]).alloc (.cells #[.int .i64 0,.int .i64 0,.slice none 0 0,.int .i64 0] 27))
 have HZ0:=yH (Bk.new ((w.alloc (.cells #[.int .i64 f,.int .i64 c,.int .i64 m,.int .i64 o,.int .i64 b,.string S] 24)).alloc (.cells #[.int .i64 la,.int .i64 at_,.slice A n k,.int .i64 sw] 27)) 27 #[.int .i64 0,.int .i64 0,.slice none 0 0,.int .i64 0])
 have HR0:=yH (((hr.alloc (.cells #[.int .i64 f,.int .i64 c,.int .i64 m,.int .i64 o,.int .i64 b,.string S] 24)).alloc (.cells #[.int .i64 la,.int .i64 at_,.slice A n k,.int .i64 sw] 27)).alloc (.cells #[.int .i64 0,.int .i64 0,.slice none 0 0,.int .i64 0] 27))
 have HI:=yH hi
 clear hr hi hS hf hW0 hG0 hw hri hn ht
 go_enter Tryz.func16,Tryz.ntmps16
 go_upto_region 1 with (fail)
 have HX:=HX0
 have HY:=HY0
 have HZ:=HZ0
 have R1:=HR0
 rw[World.size_alloc] at HY
 rw[World.size_alloc,World.size_alloc] at HZ
 obtain⟨W,hW⟩:∃W,((w.alloc (.cells #[.int .i64 f,.int .i64 c,.int .i64 m,.int .i64 o,.int .i64 b,.string S] 24)).alloc (.cells #[.int .i64 la,.int .i64 at_,.slice A n k,.int .i64 sw] 27)).alloc (.cells #[.int .i64 0,.int .i64 0,.slice none 0 0,.int .i64 0] 27)=W:=⟨_,rfl⟩
 rw[hW] at HX HY HZ R1
 obtain⟨gz,hgz⟩:∃g,w.heap.size+1+1=g:=⟨_,rfl⟩
 obtain⟨gy,hgy⟩:∃g,w.heap.size+1=g:=⟨_,rfl⟩
 rw[hgz] at HZ
 rw[hgy] at HY
 have sz:w.heap.size≤gz:=by omega
 try rw[hW]
 try rw[hgz]
 try rw[hgy]
 obtain⟨gx,hgx⟩:∃g,w.heap.size=g:=⟨_,rfl⟩
 rw[hgx] at HX
 try rw[hgx]
 clear hW hgz hgy hgx HX0 HY0 HZ0 HR0
 obtain⟨⟨x0,x1,x2,x3,x4,x5⟩,_⟩:=six_of (HX.out.rel R1.out.self)
 obtain⟨⟨p0,p1,p2,p3⟩,_⟩:=four_of (HY.out.rel R1.out.self)
 obtain⟨⟨z0,z1,z2,z3⟩,⟨zf0,zf1,zf2,zf3⟩⟩:=four_of (HZ.out.rel R1.out.self)
 go_wp2_with (first
  |(go_at_call 32;(with_reducible refine(HW.out _ R1.out.self).mono ?_);rintro e w2 ⟨rfl,h2⟩;have Q2:=yH h2;clear h2;obtain⟨⟨x0,x1,x2,x3,x4,x5⟩,_⟩:=six_of (HX.out.rel Q2.out);obtain⟨⟨p0,p1,p2,p3⟩,_⟩:=four_of (HY.out.rel Q2.out);obtain⟨⟨z0,z1,z2,z3⟩,⟨zf0,zf1,zf2,zf3⟩⟩:=four_of (HZ.out.rel Q2.out))
  |(go_at_call 11;(with_reducible refine(HG.out _ (R1.out.trans Q2.out).self (HI.out.rel (R1.out.trans Q2.out))).mono ?_);rintro e w3 ⟨rfl,h3⟩;have Q3:=yH (Q2.out.trans h3);clear h3;obtain⟨⟨x0,x1,x2,x3,x4,x5⟩,_⟩:=six_of (HX.out.rel Q3.out);obtain⟨⟨p0,p1,p2,p3⟩,_⟩:=four_of (HY.out.rel Q3.out);obtain⟨⟨z0,z1,z2,z3⟩,⟨zf0,zf1,zf2,zf3⟩⟩:=four_of (HZ.out.rel Q3.out)))
 obtain⟨⟨y0,y1,y2,y3⟩,_⟩:=four_of ((HZ.out.rel Q3.out).put4 (.int .i64 la) (.int .i64 at_) (.slice A n k) (.int .i64 sw))
 have RW:=(R1.out.trans Q3.out).put4 sz (.int .i64 la) (.int .i64 at_) (.slice A n k) (.int .i64 sw)
 refine bodyPost_ret (v:= .tuple #[.agg #[.int .i64 la,.int .i64 at_,.slice A n k,.int .i64 sw],.bool false]) (by simp[results,Tryz.results16,go_sem,y0,y1,y2,y3]) rfl ⟨rfl,RW⟩
theorem rdec_n(f c m o b la at_ sw tg now:Int)(t:List UInt8)(S:ByteArray)(hS:B t=S)(hf:CfFit (f,c,m,o,b,t))(L:List Int)(A:Option Addr)(n k:Nat)(hn:L.length=n)(ht:i64 tg)(hw:withinC (f,c,m,o,b,t) tg=true)(hri:rightP (la,at_,L,sw)=true)(d1:decide (now<0)=true)(w:World)(hr:Rel w w)(hi:IntsIn w A k L):
  Calls Tryz.prog 16 #[.agg #[.int .i64 f,.int .i64 c,.int .i64 m,.int .i64 o,.int .i64 b,.string S],.agg #[.int .i64 la,.int .i64 at_,.slice A n k,.int .i64 sw],.int .i64 tg,.int .i64 now] w fun e w'=>e= .returned (.tuple #[.agg #[.int .i64 la,.int .i64 at_,.slice A n k,.int .i64 sw],.bool false])∧Rel w w':=by
 have hW0:=fun(w:World)(hr:Rel w w)=>rwithin_any (f,c,m,o,b,t) tg S hS hf w hr
 have hG0:=fun(w:World)(hr:Rel w w)(hi:IntsIn w A k L)=>rright15_any la at_ sw L A n k hn w hr hi
 rw[hw] at hW0
 rw[hri] at hG0
 have HW:=yH hW0
 have HG:=yH hG0
 have HX0:=yH (((Bk.new w 24 #[.int .i64 f,.int .i64 c,.int .i64 m,.int .i64 o,.int .i64 b,.string S]).alloc (.cells #[.int .i64 la,.int .i64 at_,.slice A n k,.int .i64 sw] 27)).alloc (.cells #[.int .i64 0,.int .i64 0,.slice none 0 0,.int .i64 0] 27))
 have HY0:=yH ((Bk.new (w.alloc (.cells #[.int .i64 f,.int .i64 c,.int .i64 m,.int .i64 o,.int .i64 b,.string S] 24)) 27 #[.int .i64 la,.int .i64 at_,.slice A n k,.int .i64 sw]).alloc (.cells #[.int .i64 0,.int .i64 0,.slice none 0 0,.int .i64 0] 27))
 have HZ0:=yH (Bk.new ((w.alloc (.cells #[.int .i64 f,.int .i64 c,.int .i64 m,.int .i64 o,.int .i64 b,.string S] 24)).alloc (.cells #[.int .i64 la,.int .i64 at_,.slice A n k,.int .i64 sw] 27)) 27 #[.int .i64 0,.int .i64 0,.slice none 0 0,.int .i64 0])
 have HR0:=yH (((hr.alloc (.cells #[.int .i64 f,.int .i64 c,.int .i64 m,.int .i64 o,.int .i64 b,.string S] 24)).alloc (.cells #[.int .i64 la,.int .i64 at_,.slice A n k,.int .i64 sw] 27)).alloc (.cells #[.int .i64 0,.int .i64 0,.slice none 0 0,.int .i64 0] 27))
 have HI:=yH hi
 clear hr hi hS hf hW0 hG0 hw hri hn ht
 go_enter Tryz.func16,Tryz.ntmps16
 go_upto_region 1 with (fail)
 have HX:=HX0
 have HY:=HY0
 have HZ:=HZ0
 have R1:=HR0
 rw[World.size_alloc] at HY
 rw[World.size_alloc,World.size_alloc] at HZ
 obtain⟨W,hW⟩:∃W,((w.alloc (.cells #[.int .i64 f,.int .i64 c,.int .i64 m,.int .i64 o,.int .i64 b,.string S] 24)).alloc (.cells #[.int .i64 la,.int .i64 at_,.slice A n k,.int .i64 sw] 27)).alloc (.cells #[.int .i64 0,.int .i64 0,.slice none 0 0,.int .i64 0] 27)=W:=⟨_,rfl⟩
 rw[hW] at HX HY HZ R1
 obtain⟨gz,hgz⟩:∃g,w.heap.size+1+1=g:=⟨_,rfl⟩
 obtain⟨gy,hgy⟩:∃g,w.heap.size+1=g:=⟨_,rfl⟩
 rw[hgz] at HZ
 rw[hgy] at HY
 have sz:w.heap.size≤gz:=by omega
 try rw[hW]
 try rw[hgz]
 try rw[hgy]
 obtain⟨gx,hgx⟩:∃g,w.heap.size=g:=⟨_,rfl⟩
 rw[hgx] at HX
 try rw[hgx]
 clear hW hgz hgy hgx HX0 HY0 HZ0 HR0
 obtain⟨⟨x0,x1,x2,x3,x4,x5⟩,_⟩:=six_of (HX.out.rel R1.out.self)
 obtain⟨⟨p0,p1,p2,p3⟩,_⟩:=four_of (HY.out.rel R1.out.self)
 obtain⟨⟨z0,z1,z2,z3⟩,⟨zf0,zf1,zf2,zf3⟩⟩:=four_of (HZ.out.rel R1.out.self)
 go_wp2_with (first
  |(go_at_call 32;(with_reducible refine(HW.out _ R1.out.self).mono ?_);rintro e w2 ⟨rfl,h2⟩;have Q2:=yH h2;clear h2;obtain⟨⟨x0,x1,x2,x3,x4,x5⟩,_⟩:=six_of (HX.out.rel Q2.out);obtain⟨⟨p0,p1,p2,p3⟩,_⟩:=four_of (HY.out.rel Q2.out);obtain⟨⟨z0,z1,z2,z3⟩,⟨zf0,zf1,zf2,zf3⟩⟩:=four_of (HZ.out.rel Q2.out))
  |(go_at_call 11;(with_reducible refine(HG.out _ (R1.out.trans Q2.out).self (HI.out.rel (R1.out.trans Q2.out))).mono ?_);rintro e w3 ⟨rfl,h3⟩;have Q3:=yH (Q2.out.trans h3);clear h3;obtain⟨⟨x0,x1,x2,x3,x4,x5⟩,_⟩:=six_of (HX.out.rel Q3.out);obtain⟨⟨p0,p1,p2,p3⟩,_⟩:=four_of (HY.out.rel Q3.out);obtain⟨⟨z0,z1,z2,z3⟩,⟨zf0,zf1,zf2,zf3⟩⟩:=four_of (HZ.out.rel Q3.out)))
 obtain⟨⟨y0,y1,y2,y3⟩,_⟩:=four_of ((HZ.out.rel Q3.out).put4 (.int .i64 la) (.int .i64 at_) (.slice A n k) (.int .i64 sw))
 have RW:=(R1.out.trans Q3.out).put4 sz (.int .i64 la) (.int .i64 at_) (.slice A n k) (.int .i64 sw)
 refine bodyPost_ret (v:= .tuple #[.agg #[.int .i64 la,.int .i64 at_,.slice A n k,.int .i64 sw],.bool false]) (by simp[results,Tryz.results16,go_sem,y0,y1,y2,y3]) rfl ⟨rfl,RW⟩
theorem rdec_m(f c m o b la at_ sw tg now:Int)(t:List UInt8)(S:ByteArray)(hS:B t=S)(hf:CfFit (f,c,m,o,b,t))(L:List Int)(A:Option Addr)(n k:Nat)(hn:L.length=n)(ht:i64 tg)(hw:withinC (f,c,m,o,b,t) tg=true)(hri:rightP (la,at_,L,sw)=true)(d1:decide (now<0)=false)(d2:decide (1099511627776<now)=true)(w:World)(hr:Rel w w)(hi:IntsIn w A k L):
  Calls Tryz.prog 16 #[.agg #[.int .i64 f,.int .i64 c,.int .i64 m,.int .i64 o,.int .i64 b,.string S],.agg #[.int .i64 la,.int .i64 at_,.slice A n k,.int .i64 sw],.int .i64 tg,.int .i64 now] w fun e w'=>e= .returned (.tuple #[.agg #[.int .i64 la,.int .i64 at_,.slice A n k,.int .i64 sw],.bool false])∧Rel w w':=by
 have hW0:=fun(w:World)(hr:Rel w w)=>rwithin_any (f,c,m,o,b,t) tg S hS hf w hr
 have hG0:=fun(w:World)(hr:Rel w w)(hi:IntsIn w A k L)=>rright15_any la at_ sw L A n k hn w hr hi
 rw[hw] at hW0
 rw[hri] at hG0
 have HW:=yH hW0
 have HG:=yH hG0
 have HX0:=yH (((Bk.new w 24 #[.int .i64 f,.int .i64 c,.int .i64 m,.int .i64 o,.int .i64 b,.string S]).alloc (.cells #[.int .i64 la,.int .i64 at_,.slice A n k,.int .i64 sw] 27)).alloc (.cells #[.int .i64 0,.int .i64 0,.slice none 0 0,.int .i64 0] 27))
 have HY0:=yH ((Bk.new (w.alloc (.cells #[.int .i64 f,.int .i64 c,.int .i64 m,.int .i64 o,.int .i64 b,.string S] 24)) 27 #[.int .i64 la,.int .i64 at_,.slice A n k,.int .i64 sw]).alloc (.cells #[.int .i64 0,.int .i64 0,.slice none 0 0,.int .i64 0] 27))
 have HZ0:=yH (Bk.new ((w.alloc (.cells #[.int .i64 f,.int .i64 c,.int .i64 m,.int .i64 o,.int .i64 b,.string S] 24)).alloc (.cells #[.int .i64 la,.int .i64 at_,.slice A n k,.int .i64 sw] 27)) 27 #[.int .i64 0,.int .i64 0,.slice none 0 0,.int .i64 0])
 have HR0:=yH (((hr.alloc (.cells #[.int .i64 f,.int .i64 c,.int .i64 m,.int .i64 o,.int .i64 b,.string S] 24)).alloc (.cells #[.int .i64 la,.int .i64 at_,.slice A n k,.int .i64 sw] 27)).alloc (.cells #[.int .i64 0,.int .i64 0,.slice none 0 0,.int .i64 0] 27))
 have HI:=yH hi
 clear hr hi hS hf hW0 hG0 hw hri hn ht
 go_enter Tryz.func16,Tryz.ntmps16
 go_upto_region 1 with (fail)
 have HX:=HX0
 have HY:=HY0
 have HZ:=HZ0
 have R1:=HR0
 rw[World.size_alloc] at HY
 rw[World.size_alloc,World.size_alloc] at HZ
 obtain⟨W,hW⟩:∃W,((w.alloc (.cells #[.int .i64 f,.int .i64 c,.int .i64 m,.int .i64 o,.int .i64 b,.string S] 24)).alloc (.cells #[.int .i64 la,.int .i64 at_,.slice A n k,.int .i64 sw] 27)).alloc (.cells #[.int .i64 0,.int .i64 0,.slice none 0 0,.int .i64 0] 27)=W:=⟨_,rfl⟩
 rw[hW] at HX HY HZ R1
 obtain⟨gz,hgz⟩:∃g,w.heap.size+1+1=g:=⟨_,rfl⟩
 obtain⟨gy,hgy⟩:∃g,w.heap.size+1=g:=⟨_,rfl⟩
 rw[hgz] at HZ
 rw[hgy] at HY
 have sz:w.heap.size≤gz:=by omega
 try rw[hW]
 try rw[hgz]
 try rw[hgy]
 obtain⟨gx,hgx⟩:∃g,w.heap.size=g:=⟨_,rfl⟩
 rw[hgx] at HX
 try rw[hgx]
 clear hW hgz hgy hgx HX0 HY0 HZ0 HR0
 obtain⟨⟨x0,x1,x2,x3,x4,x5⟩,_⟩:=six_of (HX.out.rel R1.out.self)
 obtain⟨⟨p0,p1,p2,p3⟩,_⟩:=four_of (HY.out.rel R1.out.self)
 obtain⟨⟨z0,z1,z2,z3⟩,⟨zf0,zf1,zf2,zf3⟩⟩:=four_of (HZ.out.rel R1.out.self)
 go_wp2_with (first
  |(go_at_call 32;(with_reducible refine(HW.out _ R1.out.self).mono ?_);rintro e w2 ⟨rfl,h2⟩;have Q2:=yH h2;clear h2;obtain⟨⟨x0,x1,x2,x3,x4,x5⟩,_⟩:=six_of (HX.out.rel Q2.out);obtain⟨⟨p0,p1,p2,p3⟩,_⟩:=four_of (HY.out.rel Q2.out);obtain⟨⟨z0,z1,z2,z3⟩,⟨zf0,zf1,zf2,zf3⟩⟩:=four_of (HZ.out.rel Q2.out))
  |(go_at_call 11;(with_reducible refine(HG.out _ (R1.out.trans Q2.out).self (HI.out.rel (R1.out.trans Q2.out))).mono ?_);rintro e w3 ⟨rfl,h3⟩;have Q3:=yH (Q2.out.trans h3);clear h3;obtain⟨⟨x0,x1,x2,x3,x4,x5⟩,_⟩:=six_of (HX.out.rel Q3.out);obtain⟨⟨p0,p1,p2,p3⟩,_⟩:=four_of (HY.out.rel Q3.out);obtain⟨⟨z0,z1,z2,z3⟩,⟨zf0,zf1,zf2,zf3⟩⟩:=four_of (HZ.out.rel Q3.out)))
 obtain⟨⟨y0,y1,y2,y3⟩,_⟩:=four_of ((HZ.out.rel Q3.out).put4 (.int .i64 la) (.int .i64 at_) (.slice A n k) (.int .i64 sw))
 have RW:=(R1.out.trans Q3.out).put4 sz (.int .i64 la) (.int .i64 at_) (.slice A n k) (.int .i64 sw)
 refine bodyPost_ret (v:= .tuple #[.agg #[.int .i64 la,.int .i64 at_,.slice A n k,.int .i64 sw],.bool false]) (by simp[results,Tryz.results16,go_sem,y0,y1,y2,y3]) rfl ⟨rfl,RW⟩
theorem rdec_e(f c m o b la at_ sw tg now:Int)(t:List UInt8)(S:ByteArray)(hS:B t=S)(hf:CfFit (f,c,m,o,b,t))(L:List Int)(A:Option Addr)(n k:Nat)(hn:L.length=n)(ht:i64 tg)(hw:withinC (f,c,m,o,b,t) tg=true)(hri:rightP (la,at_,L,sw)=true)(d1:decide (now<0)=false)(d2:decide (1099511627776<now)=false)(re:Int)(hre:readyP (f,c,m,o,b,t) (la,at_,L,sw)=re)(d3:decide (now<re)=true)(w:World)(hr:Rel w w)(hi:IntsIn w A k L):
  Calls Tryz.prog 16 #[.agg #[.int .i64 f,.int .i64 c,.int .i64 m,.int .i64 o,.int .i64 b,.string S],.agg #[.int .i64 la,.int .i64 at_,.slice A n k,.int .i64 sw],.int .i64 tg,.int .i64 now] w fun e w'=>e= .returned (.tuple #[.agg #[.int .i64 la,.int .i64 at_,.slice A n k,.int .i64 sw],.bool false])∧Rel w w':=by
 have hW0:=fun(w:World)(hr:Rel w w)=>rwithin_any (f,c,m,o,b,t) tg S hS hf w hr
 have hG0:=fun(w:World)(hr:Rel w w)(hi:IntsIn w A k L)=>rright15_any la at_ sw L A n k hn w hr hi
 rw[hw] at hW0
 rw[hri] at hG0
 have HW:=yH hW0
 have HG:=yH hG0
 have hre2:(if la=0 then (0:Int) else laterF at_ (byP o (swK sw)))=re:=hre
 have hD0:∀(w:World),Rel w w→Calls Tryz.prog 13 #[.agg #[.int .i64 f,.int .i64 c,.int .i64 m,.int .i64 o,.int .i64 b,.string S],.agg #[.int .i64 la,.int .i64 at_,.slice A n k,.int .i64 sw]] w fun e w'=>e= .returned (.int .i64 re)∧Rel w w':=fun w hr=>by
  rw[←hre2];exact rready_any f c m o b S la at_ sw A n k w hr
 have HD:=yH hD0
 have HX0:=yH (((Bk.new w 24 #[.int .i64 f,.int .i64 c,.int .i64 m,.int .i64 o,.int .i64 b,.string S]).alloc (.cells #[.int .i64 la,.int .i64 at_,.slice A n k,.int .i64 sw] 27)).alloc (.cells #[.int .i64 0,.int .i64 0,.slice none 0 0,.int .i64 0] 27))
 have HY0:=yH ((Bk.new (w.alloc (.cells #[.int .i64 f,.int .i64 c,.int .i64 m,.int .i64 o,.int .i64 b,.string S] 24)) 27 #[.int .i64 la,.int .i64 at_,.slice A n k,.int .i64 sw]).alloc (.cells #[.int .i64 0,.int .i64 0,.slice none 0 0,.int .i64 0] 27))
 have HZ0:=yH (Bk.new ((w.alloc (.cells #[.int .i64 f,.int .i64 c,.int .i64 m,.int .i64 o,.int .i64 b,.string S] 24)).alloc (.cells #[.int .i64 la,.int .i64 at_,.slice A n k,.int .i64 sw] 27)) 27 #[.int .i64 0,.int .i64 0,.slice none 0 0,.int .i64 0])
 have HR0:=yH (((hr.alloc (.cells #[.int .i64 f,.int .i64 c,.int .i64 m,.int .i64 o,.int .i64 b,.string S] 24)).alloc (.cells #[.int .i64 la,.int .i64 at_,.slice A n k,.int .i64 sw] 27)).alloc (.cells #[.int .i64 0,.int .i64 0,.slice none 0 0,.int .i64 0] 27))
 have HI:=yH hi
 clear hr hi hS hf hW0 hG0 hw hri hn ht hD0 hre2 hre
 go_enter Tryz.func16,Tryz.ntmps16
 go_upto_region 1 with (fail)
 have HX:=HX0
 have HY:=HY0
 have HZ:=HZ0
 have R1:=HR0
 rw[World.size_alloc] at HY
 rw[World.size_alloc,World.size_alloc] at HZ
 obtain⟨W,hW⟩:∃W,((w.alloc (.cells #[.int .i64 f,.int .i64 c,.int .i64 m,.int .i64 o,.int .i64 b,.string S] 24)).alloc (.cells #[.int .i64 la,.int .i64 at_,.slice A n k,.int .i64 sw] 27)).alloc (.cells #[.int .i64 0,.int .i64 0,.slice none 0 0,.int .i64 0] 27)=W:=⟨_,rfl⟩
 rw[hW] at HX HY HZ R1
 obtain⟨gz,hgz⟩:∃g,w.heap.size+1+1=g:=⟨_,rfl⟩
 obtain⟨gy,hgy⟩:∃g,w.heap.size+1=g:=⟨_,rfl⟩
 rw[hgz] at HZ
 rw[hgy] at HY
 have sz:w.heap.size≤gz:=by omega
 try rw[hW]
 try rw[hgz]
 try rw[hgy]
 obtain⟨gx,hgx⟩:∃g,w.heap.size=g:=⟨_,rfl⟩
 rw[hgx] at HX
 try rw[hgx]
 clear hW hgz hgy hgx HX0 HY0 HZ0 HR0
 obtain⟨⟨x0,x1,x2,x3,x4,x5⟩,_⟩:=six_of (HX.out.rel R1.out.self)
 obtain⟨⟨p0,p1,p2,p3⟩,_⟩:=four_of (HY.out.rel R1.out.self)
 obtain⟨⟨z0,z1,z2,z3⟩,⟨zf0,zf1,zf2,zf3⟩⟩:=four_of (HZ.out.rel R1.out.self)
 go_wp2_with (first
  |(go_at_call 32;(with_reducible refine(HW.out _ R1.out.self).mono ?_);rintro e w2 ⟨rfl,h2⟩;have Q2:=yH h2;clear h2;obtain⟨⟨x0,x1,x2,x3,x4,x5⟩,_⟩:=six_of (HX.out.rel Q2.out);obtain⟨⟨p0,p1,p2,p3⟩,_⟩:=four_of (HY.out.rel Q2.out);obtain⟨⟨z0,z1,z2,z3⟩,⟨zf0,zf1,zf2,zf3⟩⟩:=four_of (HZ.out.rel Q2.out))
  |(go_at_call 11;(with_reducible refine(HG.out _ (R1.out.trans Q2.out).self (HI.out.rel (R1.out.trans Q2.out))).mono ?_);rintro e w3 ⟨rfl,h3⟩;have Q3:=yH (Q2.out.trans h3);clear h3;obtain⟨⟨x0,x1,x2,x3,x4,x5⟩,_⟩:=six_of (HX.out.rel Q3.out);obtain⟨⟨p0,p1,p2,p3⟩,_⟩:=four_of (HY.out.rel Q3.out);obtain⟨⟨z0,z1,z2,z3⟩,⟨zf0,zf1,zf2,zf3⟩⟩:=four_of (HZ.out.rel Q3.out))
  |(go_at_call 13;(with_reducible refine(HD.out _ (R1.out.trans Q3.out).self).mono ?_);rintro e w4 ⟨rfl,h4⟩;have Q4:=yH (Q3.out.trans h4);clear h4;obtain⟨⟨x0,x1,x2,x3,x4,x5⟩,_⟩:=six_of (HX.out.rel Q4.out);obtain⟨⟨p0,p1,p2,p3⟩,_⟩:=four_of (HY.out.rel Q4.out);obtain⟨⟨z0,z1,z2,z3⟩,⟨zf0,zf1,zf2,zf3⟩⟩:=four_of (HZ.out.rel Q4.out)))
 obtain⟨⟨y0,y1,y2,y3⟩,_⟩:=four_of ((HZ.out.rel Q4.out).put4 (.int .i64 la) (.int .i64 at_) (.slice A n k) (.int .i64 sw))
 have RW:=(R1.out.trans Q4.out).put4 sz (.int .i64 la) (.int .i64 at_) (.slice A n k) (.int .i64 sw)
 refine bodyPost_ret (v:= .tuple #[.agg #[.int .i64 la,.int .i64 at_,.slice A n k,.int .i64 sw],.bool false]) (by simp[results,Tryz.results16,go_sem,y0,y1,y2,y3]) rfl ⟨rfl,RW⟩
theorem rdec_f(f c m o b la at_ sw tg now:Int)(t:List UInt8)(S:ByteArray)(hS:B t=S)(hf:CfFit (f,c,m,o,b,t))(L:List Int)(A:Option Addr)(n k:Nat)(hn:L.length=n)(ht:i64 tg)(hw:withinC (f,c,m,o,b,t) tg=true)(hri:rightP (la,at_,L,sw)=true)(d1:decide (now<0)=false)(d2:decide (1099511627776<now)=false)(re:Int)(hre:readyP (f,c,m,o,b,t) (la,at_,L,sw)=re)(d3:decide (now<re)=false)(hla:0≤la∧la≤1000000000000)(htb:1≤tg∧tg≤1000000000000)(hv:withinC (f,c,m,o,b,t) la=true)(n1:decide (tg-la≤b)=true)(n2:decide (la-tg≤b)=true)(w:World)(hr:Rel w w)(hi:IntsIn w A k L):
  Calls Tryz.prog 16 #[.agg #[.int .i64 f,.int .i64 c,.int .i64 m,.int .i64 o,.int .i64 b,.string S],.agg #[.int .i64 la,.int .i64 at_,.slice A n k,.int .i64 sw],.int .i64 tg,.int .i64 now] w fun e w'=>e= .returned (.tuple #[.agg #[.int .i64 la,.int .i64 at_,.slice A n k,.int .i64 sw],.bool false])∧Rel w w':=by
 obtain⟨l0,l1⟩:=hla
 obtain⟨g0,g1⟩:=htb
 have hW0:=fun(w:World)(hr:Rel w w)=>rwithin_any (f,c,m,o,b,t) tg S hS hf w hr
 have hV0:=fun(w:World)(hr:Rel w w)=>rwithin_any (f,c,m,o,b,t) la S hS hf w hr
 have hG0:=fun(w:World)(hr:Rel w w)(hi:IntsIn w A k L)=>rright15_any la at_ sw L A n k hn w hr hi
 rw[hw] at hW0
 rw[hv] at hV0
 rw[hri] at hG0
 have HW:=yH hW0
 have HV:=yH hV0
 have HG:=yH hG0
 have hre2:(if la=0 then (0:Int) else laterF at_ (byP o (swK sw)))=re:=hre
 have hD0:∀(w:World),Rel w w→Calls Tryz.prog 13 #[.agg #[.int .i64 f,.int .i64 c,.int .i64 m,.int .i64 o,.int .i64 b,.string S],.agg #[.int .i64 la,.int .i64 at_,.slice A n k,.int .i64 sw]] w fun e w'=>e= .returned (.int .i64 re)∧Rel w w':=fun w hr=>by
  rw[←hre2];exact rready_any f c m o b S la at_ sw A n k w hr
 have HD:=yH hD0
 have HX0:=yH (((Bk.new w 24 #[.int .i64 f,.int .i64 c,.int .i64 m,.int .i64 o,.int .i64 b,.string S]).alloc (.cells #[.int .i64 la,.int .i64 at_,.slice A n k,.int .i64 sw] 27)).alloc (.cells #[.int .i64 0,.int .i64 0,.slice none 0 0,.int .i64 0] 27))
 have HY0:=yH ((Bk.new (w.alloc (.cells #[.int .i64 f,.int .i64 c,.int .i64 m,.int .i64 o,.int .i64 b,.string S] 24)) 27 #[.int .i64 la,.int .i64 at_,.slice A n k,.int .i64 sw]).alloc (.cells #[.int .i64 0,.int .i64 0,.slice none 0 0,.int .i64 0] 27))
 have HZ0:=yH (Bk.new ((w.alloc (.cells #[.int .i64 f,.int .i64 c,.int .i64 m,.int .i64 o,.int .i64 b,.string S] 24)).alloc (.cells #[.int .i64 la,.int .i64 at_,.slice A n k,.int .i64 sw] 27)) 27 #[.int .i64 0,.int .i64 0,.slice none 0 0,.int .i64 0])
 have HR0:=yH (((hr.alloc (.cells #[.int .i64 f,.int .i64 c,.int .i64 m,.int .i64 o,.int .i64 b,.string S] 24)).alloc (.cells #[.int .i64 la,.int .i64 at_,.slice A n k,.int .i64 sw] 27)).alloc (.cells #[.int .i64 0,.int .i64 0,.slice none 0 0,.int .i64 0] 27))
 have HI:=yH hi
 clear hr hi hS hf hW0 hV0 hG0 hw hv hri hn ht hD0 hre2 hre
 go_enter Tryz.func16,Tryz.ntmps16
 go_upto_region 1 with (fail)
 have HX:=HX0
 have HY:=HY0
 have HZ:=HZ0
 have R1:=HR0
 rw[World.size_alloc] at HY
 rw[World.size_alloc,World.size_alloc] at HZ
 obtain⟨W,hW⟩:∃W,((w.alloc (.cells #[.int .i64 f,.int .i64 c,.int .i64 m,.int .i64 o,.int .i64 b,.string S] 24)).alloc (.cells #[.int .i64 la,.int .i64 at_,.slice A n k,.int .i64 sw] 27)).alloc (.cells #[.int .i64 0,.int .i64 0,.slice none 0 0,.int .i64 0] 27)=W:=⟨_,rfl⟩
 rw[hW] at HX HY HZ R1
 obtain⟨gz,hgz⟩:∃g,w.heap.size+1+1=g:=⟨_,rfl⟩
 obtain⟨gy,hgy⟩:∃g,w.heap.size+1=g:=⟨_,rfl⟩
 rw[hgz] at HZ
 rw[hgy] at HY
 have sz:w.heap.size≤gz:=by omega
 try rw[hW]
 try rw[hgz]
 try rw[hgy]
 obtain⟨gx,hgx⟩:∃g,w.heap.size=g:=⟨_,rfl⟩
 rw[hgx] at HX
 try rw[hgx]
 clear hW hgz hgy hgx HX0 HY0 HZ0 HR0
 obtain⟨⟨x0,x1,x2,x3,x4,x5⟩,_⟩:=six_of (HX.out.rel R1.out.self)
 obtain⟨⟨p0,p1,p2,p3⟩,_⟩:=four_of (HY.out.rel R1.out.self)
 obtain⟨⟨z0,z1,z2,z3⟩,⟨zf0,zf1,zf2,zf3⟩⟩:=four_of (HZ.out.rel R1.out.self)
 go_upto_region 5 with (first
  |(go_at_call 32;(with_reducible refine(HW.out _ R1.out.self).mono ?_);rintro e w2 ⟨rfl,h2⟩;have Q2:=yH h2;clear h2;obtain⟨⟨x0,x1,x2,x3,x4,x5⟩,_⟩:=six_of (HX.out.rel Q2.out);obtain⟨⟨p0,p1,p2,p3⟩,_⟩:=four_of (HY.out.rel Q2.out);obtain⟨⟨z0,z1,z2,z3⟩,⟨zf0,zf1,zf2,zf3⟩⟩:=four_of (HZ.out.rel Q2.out))
  |(go_at_call 11;(with_reducible refine(HG.out _ (R1.out.trans Q2.out).self (HI.out.rel (R1.out.trans Q2.out))).mono ?_);rintro e w3 ⟨rfl,h3⟩;have Q3:=yH (Q2.out.trans h3);clear h3;obtain⟨⟨x0,x1,x2,x3,x4,x5⟩,_⟩:=six_of (HX.out.rel Q3.out);obtain⟨⟨p0,p1,p2,p3⟩,_⟩:=four_of (HY.out.rel Q3.out);obtain⟨⟨z0,z1,z2,z3⟩,⟨zf0,zf1,zf2,zf3⟩⟩:=four_of (HZ.out.rel Q3.out))
  |(go_at_call 13;(with_reducible refine(HD.out _ (R1.out.trans Q3.out).self).mono ?_);rintro e w4 ⟨rfl,h4⟩;have Q4:=yH (Q3.out.trans h4);clear h4;obtain⟨⟨x0,x1,x2,x3,x4,x5⟩,_⟩:=six_of (HX.out.rel Q4.out);obtain⟨⟨p0,p1,p2,p3⟩,_⟩:=four_of (HY.out.rel Q4.out);obtain⟨⟨z0,z1,z2,z3⟩,⟨zf0,zf1,zf2,zf3⟩⟩:=four_of (HZ.out.rel Q4.out)))
 go_upto_region 6 with (fail)
 go_wp2_with (go_at_call 32;(with_reducible refine(HV.out _ (R1.out.trans Q4.out).self).mono ?_);rintro e w5 ⟨rfl,h5⟩;have Q5:=yH (Q4.out.trans h5);clear h5;obtain⟨⟨x0,x1,x2,x3,x4,x5⟩,_⟩:=six_of (HX.out.rel Q5.out);obtain⟨⟨p0,p1,p2,p3⟩,_⟩:=four_of (HY.out.rel Q5.out);obtain⟨⟨z0,z1,z2,z3⟩,⟨zf0,zf1,zf2,zf3⟩⟩:=four_of (HZ.out.rel Q5.out))
 obtain⟨⟨y0,y1,y2,y3⟩,_⟩:=four_of ((HZ.out.rel Q5.out).put4 (.int .i64 la) (.int .i64 at_) (.slice A n k) (.int .i64 sw))
 have RW:=(R1.out.trans Q5.out).put4 sz (.int .i64 la) (.int .i64 at_) (.slice A n k) (.int .i64 sw)
 refine bodyPost_ret (v:= .tuple #[.agg #[.int .i64 la,.int .i64 at_,.slice A n k,.int .i64 sw],.bool false]) (by simp[results,Tryz.results16,go_sem,y0,y1,y2,y3]) rfl ⟨rfl,RW⟩
section
variable {α:Type} {cl:α→List Value} {k:Nat}
theorem row_gone15{w:World}{b:List α}(h:RowAt cl k w none b):b=[]:=by
 cases b with
 |nil=>rfl
 |cons x r=>obtain⟨g,off,e,_⟩:=h 0 (by simp);cases e
theorem row_news15(hk:∀x,(cl x).length=k){w:World}{p:Addr}{b:List α}(h:RowAt cl k w (some p) b):∀(j:Nat)(u:Value),(b.flatMap cl)[j]?=some u→w.cell? (p.add j)=some u:=fun j u hu=>by
 have hj:j<b.length*k:=by
  rcases Nat.lt_or_ge j (b.length*k) with h'|h'
  ·exact h'
  ·rw[List.getElem?_eq_none (by rw[flat_len hk];exact h')] at hu;cases hu
 have hk0:0<k:=by
  rcases Nat.eq_zero_or_pos k with h0|h0
  ·rw[h0,Nat.mul_zero] at hj;omega
  ·exact h0
 have e:j=j/k*k+j%k:=(Nat.div_add_mod' j k).symm
 have h1:j/k<b.length:=Nat.div_lt_of_lt_mul (by rw[Nat.mul_comm];exact hj)
 have h2:j%k<k:=Nat.mod_lt _ hk0
 obtain⟨g',off',e1,_,hc⟩:=h (j/k) h1
 injection e1 with e1
 subst e1
 rw[addr_at,e,←Nat.add_assoc,hc (j%k) h2]
 rw[e,flat_at hk b (j/k) h1 (j%k) h2] at hu
 exact hu
theorem flat_one15(h1:∀x,∀u∈cl x,u.oneCell'=true)(b:List α):∀u∈b.flatMap cl,u.oneCell'=true:=fun u hu=>by
 obtain⟨x,_,hx⟩:=List.mem_flatMap.1 hu
 exact h1 x u hx
theorem wpList_onto15{w:World}{ops:Array Oper}{rest:List Oper}{o:Oper}{a:Act}{Q:Exit→Act→World→Prop}(T LT:TypeId)(i0:TypeInfo)(z:Value)(bytes:Nat)(hu:Tryz.prog.underlying LT=some (.slice T))(hi0:Tryz.prog.info? T=some i0)(hz0:i0.zero=some z)(hz1:i0.size=k)(hz2:i0.bytes=bytes)(hzs:z.cells.size=k)(hk0:0<k)
  (hk:∀x,(cl x).length=k) (h1:∀x,∀u∈cl x,u.oneCell'=true) (hgd:o.guard=none) (s x:Operand)
  (ho:o.op= .call {callee:= .builtin .append,args:= #[s,x],argTypes:= #[LT,LT]}) (base:Nat) (v:Value) (xs:List α) (hs:a.eval s=v) (hown:RowOwn T cl k w base v xs) (A:Option Addr) (n c:Nat) (b:List α) (hn:b.length=n) (hx:a.eval x= .slice A n c)
  (hat:RowAt cl k w A b) (hA:A=none→c=0) (hl:(xs.length+b.length)*bytes≤140737488355328) (hm:xs.length+b.length≤maxLen) (hbase:base≤w.heap.size)
  (h:∀v' w',RowOwn T cl k w' base v' (xs++b)→w.grownBy w' v.ownBlock→wpList Tryz.prog ops Q rest (a.put o.dst v') w'):wpList Tryz.prog ops Q (o::rest) a w:=by
 subst hn
 refine wpList_plain hgd fun K hK=> ?_
 cases A with
 |none=>
  obtain rfl:=row_gone15 hat
  obtain rfl:=hA rfl
  have hrun:=run_append_owned_none (P:=Tryz.prog) (w:=w) base LT o.type T i0 k hu hi0 v xs.length (xs.flatMap cl) hown
  have hx':a.eval x= .slice none 0 0:=hx
  unfold Oper.wp
  simp[execOp,ho,resolve,invoke,builtin,hs,hx',hrun,Result.andThen]
  exact hK _ _ (h _ _ (by rw[List.append_nil];exact hown) ⟨rfl,rfl,rfl,Nat.le_refl _,fun _ _ _=>rfl⟩)
 |some p=>
  obtain⟨v',w',hrun,r1,r2,_⟩:=run_append_own (P:=Tryz.prog) w base LT o.type T i0 z k bytes hu hi0 hz0 hz1 hz2 hzs hk0 v xs.length (xs.flatMap cl) hown p b.length c (b.flatMap cl) (flat_len hk b) (row_news15 hk hat) (flat_one15 h1 b) hm hl hbase
  unfold Oper.wp
  simp[execOp,ho,resolve,invoke,builtin,hs,hx,hrun,Result.andThen]
  refine hK _ _ (h _ _ ?_ r2)
  unfold RowOwn
  rw[List.length_append,List.flatMap_append]
  exact r1
end
end Go.Proofs.YtjhjdiaomnpkmaaGreatDoor
