/- The law's raw config. -/

import Derived.Test.YtjhjdiaomnpkmaaGreatDoorZ11
set_option maxRecDepth 100000
set_option maxHeartbeats 8000000
set_option linter.unusedVariables false
set_option linter.unusedSimpArgs false
namespace Go.Proofs.YtjhjdiaomnpkmaaGreatDoor
open Go.RowKit Go.Lib
theorem pick14_as(c n y:Int)(h:Hid (pk c n=y))(hc:i64 c)(hn:0<n)(hn':n≤9223372036854775807)(w:World):
  Calls Tryz.prog 21 #[.int .i64 c,.int .i64 n] w fun e w'=>e= .returned (.int .i64 y)∧w=w':=by
 rw[←h.out]
 obtain⟨h0,h1⟩:=hc
 by_cases h:c<0
 all_goals
  go_enter Tryz.func21,Tryz.ntmps21
  go_wp2
  all_goals
   go_ret
   exact⟨ret_int (by unfold pk;split<;>first|rfl|omega),rfl⟩
def CfW(w0 W:World)(g2 g4 g5:Nat)(raw:Array Value)(f c m o b:Int)(S:ByteArray):Prop:=
 Rel w0 W∧Bk W g2 22 raw∧Bk W g4 24 #[.int .i64 0,.int .i64 0,.int .i64 0,.int .i64 0,.int .i64 0,.string ⟨#[]⟩]∧Bk W g5 24 #[.int .i64 f,.int .i64 c,.int .i64 m,.int .i64 o,.int .i64 b,.string S]
section
variable {w0 W:World} {g2 g4 g5:Nat} {raw:Array Value} {f c m o b:Int} {S:ByteArray}
theorem r6_ne:22≠24:=by decide
theorem CfW.ne2(h:CfW w0 W g2 g4 g5 raw f c m o b S):g2≠g5:=Bk.ne h.2.1 h.2.2.2 r6_ne
theorem CfW.rel(h:CfW w0 W g2 g4 g5 raw f c m o b S){W':World}(hr:Rel W W'):CfW w0 W' g2 g4 g5 raw f c m o b S:=⟨h.1.trans hr,h.2.1.rel hr,h.2.2.1.rel hr,h.2.2.2.rel hr⟩
theorem CfW.drew(h:CfW w0 W g2 g4 g5 raw f c m o b S):CfW w0 W.drew g2 g4 g5 raw f c m o b S:=⟨h.1.drew,h.2.1.drew,h.2.2.1.drew,h.2.2.2.drew⟩
theorem CfW.set1(h:CfW w0 W g2 g4 g5 raw f c m o b S)(hg:w0.heap.size≤g5)(h45:g4≠g5)(v:Int):CfW w0 (W.setCell ⟨g5,1,none⟩ (.int .i64 v)) g2 g4 g5 raw f v m o b S:=
 ⟨h.1.setCell (p:=⟨g5,1,none⟩) hg _,h.2.1.far (p:=⟨g5,1,none⟩) h.ne2 _,h.2.2.1.far (p:=⟨g5,1,none⟩) h45 _,h.2.2.2.set_ 1 (.int .i64 v)⟩
theorem CfW.set2(h:CfW w0 W g2 g4 g5 raw f c m o b S)(hg:w0.heap.size≤g5)(h45:g4≠g5)(v:Int):CfW w0 (W.setCell ⟨g5,2,none⟩ (.int .i64 v)) g2 g4 g5 raw f c v o b S:=
 ⟨h.1.setCell (p:=⟨g5,2,none⟩) hg _,h.2.1.far (p:=⟨g5,2,none⟩) h.ne2 _,h.2.2.1.far (p:=⟨g5,2,none⟩) h45 _,h.2.2.2.set_ 2 (.int .i64 v)⟩
theorem CfW.set3(h:CfW w0 W g2 g4 g5 raw f c m o b S)(hg:w0.heap.size≤g5)(h45:g4≠g5)(v:Int):CfW w0 (W.setCell ⟨g5,3,none⟩ (.int .i64 v)) g2 g4 g5 raw f c m v b S:=
 ⟨h.1.setCell (p:=⟨g5,3,none⟩) hg _,h.2.1.far (p:=⟨g5,3,none⟩) h.ne2 _,h.2.2.1.far (p:=⟨g5,3,none⟩) h45 _,h.2.2.2.set_ 3 (.int .i64 v)⟩
theorem CfW.set4(h:CfW w0 W g2 g4 g5 raw f c m o b S)(hg:w0.heap.size≤g5)(h45:g4≠g5)(v:Int):CfW w0 (W.setCell ⟨g5,4,none⟩ (.int .i64 v)) g2 g4 g5 raw f c m o v S:=
 ⟨h.1.setCell (p:=⟨g5,4,none⟩) hg _,h.2.1.far (p:=⟨g5,4,none⟩) h.ne2 _,h.2.2.1.far (p:=⟨g5,4,none⟩) h45 _,h.2.2.2.set_ 4 (.int .i64 v)⟩
theorem CfW.set5(h:CfW w0 W g2 g4 g5 raw f c m o b S)(hg:w0.heap.size≤g5)(h45:g4≠g5)(v:ByteArray):CfW w0 (W.setCell ⟨g5,5,none⟩ (.string v)) g2 g4 g5 raw f c m o b v:=
 ⟨h.1.setCell (p:=⟨g5,5,none⟩) hg _,h.2.1.far (p:=⟨g5,5,none⟩) h.ne2 _,h.2.2.1.far (p:=⟨g5,5,none⟩) h45 _,h.2.2.2.set_ 5 (.string v)⟩
end
theorem strat14(A:Option Addr)(c:Nat)(L:List Int)(x:Ex)(hx:strat L=x)(w:World)(hr:Rel w w)(hi:IntsIn w A c L):
  Calls Tryz.prog 23 #[.slice A L.length c] w fun e w'=>∃(k n:Int)(X:ByteArray)(A:Option Addr)(l c:Nat),e= .returned (XV k n X A l c)∧Hid (XAt w' (XV k n X A l c) x)∧Hid (Rel w w'):=by
 subst hx
 refine(strat_any A c L w w hr hi).mono ?_
 rintro e w' ⟨v,rfl,hv,hr2⟩
 exact⟨_,_,_,_,_,_,rfl,yH ⟨_,v,rfl,hv⟩,yH hr2⟩
theorem rprint14{v:Value}{x:Ex}{T:ByteArray}{E:Int}(hT:B (prT x)=T)(hE:prE x=E)(hz:size x≤1000000)(w:World)(h:XAt w v x)(hr:Rel w w):
  Calls Tryz.prog 22 #[v] w fun e w'=>e= .returned (.tuple #[.string T,.int .i64 E])∧Hid (Rel w w'):=by
 obtain⟨S,e,rfl,hx⟩:=h
 rw[←hT,←hE]
 exact(rprint_any x S e w w hr hx hz).mono fun e w' ⟨he,hr2⟩=>⟨he,yH hr2⟩
theorem four_fix{W:World}{g:Nat}(h:Bk W g 9 #[.string ⟨#[108,111,119,101,115,116]⟩,.string ⟨#[101,108,115,101,40,108,101,115,115,40,108,111,119,101,115,116,44,32,48,46,48,49,41,44,32,57,46,57,57,41]⟩,.string ⟨#[99,117,116,40,115,101,99,111,110,100,44,32,50,53,48,41]⟩,.string ⟨#[105,102,40,109,111,114,101,40,50,41,44,32,109,97,120,40,108,111,119,101,115,116,44,32,53,46,48,48,41,44,32,102,114,111,109,40,98,111,98,48,41,41]⟩])(j:Nat)(hj:j<4):W.cell? ⟨g,j,none⟩=some (.string (B (fixT (j:Int)))):=by
 have:j=0∨j=1∨j=2∨j=3:=by omega
 rcases this with rfl|rfl|rfl|rfl
 ·exact h.cell 0
 ·exact h.cell 1
 ·exact h.cell 2
 ·exact h.cell 3
theorem config14_any(r0 r1 r2 r3 r4 r5:Int)(L:List Int)(A:Option Addr)(c:Nat)(w:World)(hr:Rel w w)(hi:IntsIn w A c L)(h0:i64 r0)(h1:i64 r1)(h2:i64 r2)(h3:i64 r3)(h4:i64 r4)(h5:i64 r5):
  Calls Tryz.prog 9 #[.agg #[.int .i64 r0,.int .i64 r1,.int .i64 r2,.int .i64 r3,.int .i64 r4,.int .i64 r5],.slice A L.length c] w fun e w'=>e= .returned (.agg #[.int .i64 (flC (confR r0 r1 r2 r3 r4 r5 L)),.int .i64 (ceC (confR r0 r1 r2 r3 r4 r5 L)),.int .i64 (mpC (confR r0 r1 r2 r3 r4 r5 L)),.int .i64 (coC (confR r0 r1 r2 r3 r4 r5 L)),.int .i64 (bdC (confR r0 r1 r2 r3 r4 r5 L)),.string (B (txC (confR r0 r1 r2 r3 r4 r5 L)))])∧Rel w w':=by
 have hW0:=yH hr
 have p0:=pk_bd r0 1500 (by omega)
 have p1:=pk_bd r1 2000 (by omega)
 have p3:=pk_bd r3 12 (by omega)
 have p4:=pk_bd r4 60 (by omega)
 have p5:=pk_bd r5 4 (by omega)
 obtain⟨P0,hP0⟩:∃P,pk r0 1500=P:=⟨_,rfl⟩
 obtain⟨P1,hP1⟩:∃P,pk r1 2000=P:=⟨_,rfl⟩
 obtain⟨P3,hP3⟩:∃P,pk r3 12=P:=⟨_,rfl⟩
 obtain⟨P4,hP4⟩:∃P,pk r4 60=P:=⟨_,rfl⟩
 obtain⟨P5,hP5⟩:∃P,pk r5 4=P:=⟨_,rfl⟩
 rw[hP0] at p0
 rw[hP1] at p1
 rw[hP3] at p3
 rw[hP4] at p4
 rw[hP5] at p5
 obtain⟨j5,hj5⟩:∃j:Nat,P5=(j:Int):=⟨P5.toNat,by omega⟩
 subst hj5
 have hj4:j5<4:=by omega
 have HP0:=yH hP0
 have HP1:=yH hP1
 have HP3:=yH hP3
 have HP4:=yH hP4
 have HP5:=yH hP5
 obtain⟨F,hF⟩:∃F,1+P0=F:=⟨_,rfl⟩
 obtain⟨C,hC⟩:∃C,F+P1=C:=⟨_,rfl⟩
 have HF:=yH hF
 have HC:=yH hC
 have f0:1≤F:=by omega
 have f1:F≤1500:=by omega
 have c0:1≤C:=by omega
 have c1:C≤3500:=by omega
 have hcw:IntKind.i64.wrap C=C:=by rw[IntKind.wrap_i64];omega
 have p2:=pk_bd r2 (C+1) (by omega)
 obtain⟨P2,hP2⟩:∃P,pk r2 (C+1)=P:=⟨_,rfl⟩
 rw[hP2] at p2
 have HP2:=yH hP2
 have HI:=yH hi
 have I0:=yH h0
 have I1:=yH h1
 have I2:=yH h2
 have I3:=yH h3
 have I4:=yH h4
 have I5:=yH h5
 have HM:=yH (show rawM r2 C=if r2.tmod 3=0 then 0 else P2 from by unfold rawM;rw[hP2])
 have HB:=yH (show rawB r4=if r4.tmod 3=0 then 0 else P4 from by unfold rawB;rw[hP4])
 obtain⟨x,hx⟩:∃x,strat L=x:=⟨_,rfl⟩
 have HX:=yH hx
 have hsz:=strat_size L
 rw[hx] at hsz
 have HSt:=yH (fun(w:World)(hr:Rel w w)(hi:IntsIn w A c L)=>strat_any A c L w w hr hi)
 rw[hx] at HSt
 have HSz:=yH hsz
 obtain⟨p00,p01⟩:=p0
 obtain⟨p10,p11⟩:=p1
 obtain⟨p20,p21⟩:=p2
 obtain⟨p30,p31⟩:=p3
 obtain⟨p40,p41⟩:=p4
 clear hP0 hP1 hP2 hP3 hP4 hP5 h0 h1 h2 h3 h4 h5 hi hr hx hsz p5
 go_enter Tryz.func9,Tryz.ntmps9
 go_upto_region 2 with (go_at_call 21;(with_reducible refine(pick14_as r0 1500 P0 HP0 I0.out (by omega) (by omega) _).mono ?_);rintro e w9 ⟨rfl,rfl⟩)
 try rw[hF]
 clear hF
 have H1:=yH (show CfW w (((w.alloc (.cells #[.int .i64 r0,.int .i64 r1,.int .i64 r2,.int .i64 r3,.int .i64 r4,.int .i64 r5] 22)).alloc (.cells #[.int .i64 0,.int .i64 0,.int .i64 0,.int .i64 0,.int .i64 0,.string ⟨#[]⟩] 24)).alloc (.cells #[.int .i64 F,.int .i64 0,.int .i64 0,.int .i64 0,.int .i64 0,.string ⟨#[]⟩] 24)) w.heap.size (w.heap.size+1) (w.heap.size+1+1) #[.int .i64 r0,.int .i64 r1,.int .i64 r2,.int .i64 r3,.int .i64 r4,.int .i64 r5] F 0 0 0 0 ⟨#[]⟩ from
  ⟨((hW0.out.alloc _).alloc _).alloc _,((Bk.new w 22 #[.int .i64 r0,.int .i64 r1,.int .i64 r2,.int .i64 r3,.int .i64 r4,.int .i64 r5]).alloc _).alloc _,by(have h:=(Bk.new (w.alloc (.cells #[.int .i64 r0,.int .i64 r1,.int .i64 r2,.int .i64 r3,.int .i64 r4,.int .i64 r5] 22)) 24 #[.int .i64 0,.int .i64 0,.int .i64 0,.int .i64 0,.int .i64 0,.string ⟨#[]⟩]).alloc (.cells #[.int .i64 F,.int .i64 0,.int .i64 0,.int .i64 0,.int .i64 0,.string ⟨#[]⟩] 24);rw[World.size_alloc] at h;exact h),by(have h:=Bk.new ((w.alloc (.cells #[.int .i64 r0,.int .i64 r1,.int .i64 r2,.int .i64 r3,.int .i64 r4,.int .i64 r5] 22)).alloc (.cells #[.int .i64 0,.int .i64 0,.int .i64 0,.int .i64 0,.int .i64 0,.string ⟨#[]⟩] 24)) 24 #[.int .i64 F,.int .i64 0,.int .i64 0,.int .i64 0,.int .i64 0,.string ⟨#[]⟩];rw[World.size_alloc,World.size_alloc] at h;exact h)⟩)
 obtain⟨W1,hW1⟩:∃W,((w.alloc (.cells #[.int .i64 r0,.int .i64 r1,.int .i64 r2,.int .i64 r3,.int .i64 r4,.int .i64 r5] 22)).alloc (.cells #[.int .i64 0,.int .i64 0,.int .i64 0,.int .i64 0,.int .i64 0,.string ⟨#[]⟩] 24)).alloc (.cells #[.int .i64 F,.int .i64 0,.int .i64 0,.int .i64 0,.int .i64 0,.string ⟨#[]⟩] 24)=W:=⟨_,rfl⟩
 rw[hW1] at H1
 try rw[hW1]
 clear hW1
 obtain⟨g2,hg2⟩:∃g,w.heap.size=g:=⟨_,rfl⟩
 obtain⟨g4,hg4⟩:∃g,w.heap.size+1=g:=⟨_,rfl⟩
 obtain⟨g5,hg5⟩:∃g,w.heap.size+1+1=g:=⟨_,rfl⟩
 have b5:w.heap.size≤g5:=by omega
 have b4:w.heap.size≤g4:=by omega
 have h45:g4≠g5:=by omega
 rw[hg5,hg4,hg2] at H1
 try rw[hg5]
 try rw[hg4]
 try rw[hg2]
 rw[hg2] at b5 b4
 have HG2:=yH hg2
 clear hg2 hg4 hg5
 obtain⟨⟨r_0,r_1,r_2,r_3,r_4,r_5⟩,_⟩:=six_of H1.out.2.1
 obtain⟨⟨x0,x1,x2,x3,x4,x5⟩,⟨z0,z1,z2,z3,z4,z5⟩⟩:=six_of H1.out.2.2.2
 have H2:=yH (CfW.set1 H1.out (by rw[HG2.out];exact b5) h45 C).drew
 go_region_held3 (fun w'=>w'.cell? ⟨g2,1,none⟩=some (.int .i64 r1)∧w'.cell? ⟨g5,0,none⟩=some (.int .i64 F))
  (first|exact⟨r_1,x0⟩|exact⟨(six_of (CfW.set1 H1.out (by rw[HG2.out];exact b5) h45 C).2.1).1.2.1,(six_of (CfW.set1 H1.out (by rw[HG2.out];exact b5) h45 C).2.2.2).1.1⟩|go_keep)
  ((go_at_call 21;(with_reducible refine(pick14_as r1 2000 P1 HP1 I1.out (by omega) (by omega) _).mono ?_);rintro e w9 ⟨rfl,rfl⟩))
 try rw[hC]
 clear hC
 clear r_0 r_1 r_2 r_3 r_4 r_5 x0 x1 x2 x3 x4 x5 z0 z1 z2 z3 z4 z5
 obtain⟨W2,hW2⟩:∃W,(W1.setCell ⟨g5,1,none⟩ (.int .i64 C)).drew=W:=⟨_,rfl⟩
 rw[hW2] at H2
 try rw[hW2]
 clear hW2
 obtain⟨⟨r_0,r_1,r_2,r_3,r_4,r_5⟩,_⟩:=six_of H2.out.2.1
 obtain⟨⟨x0,x1,x2,x3,x4,x5⟩,⟨z0,z1,z2,z3,z4,z5⟩⟩:=six_of H2.out.2.2.2
 go_upto_region 4 with (go_at_call 21;(with_reducible refine(pick14_as r2 (C+1) P2 HP2 I2.out (by omega) (by omega) _).mono ?_);rintro e w9 ⟨rfl,rfl⟩)
 have H3:=yH (CfW.set2 H2.out (by rw[HG2.out];exact b5) h45 P2)
 clear r_0 r_1 r_2 r_3 r_4 r_5 x0 x1 x2 x3 x4 x5 z0 z1 z2 z3 z4 z5
 obtain⟨W3,hW3⟩:∃W,W2.setCell ⟨g5,2,none⟩ (.int .i64 P2)=W:=⟨_,rfl⟩
 rw[hW3] at H3
 try rw[hW3]
 clear hW3
 obtain⟨⟨r_0,r_1,r_2,r_3,r_4,r_5⟩,_⟩:=six_of H3.out.2.1
 obtain⟨⟨x0,x1,x2,x3,x4,x5⟩,⟨z0,z1,z2,z3,z4,z5⟩⟩:=six_of H3.out.2.2.2
 go_upto_if 30 with (fail)
 go_cut [] (fun wx=>Hid (CfW w wx g2 g4 g5 #[.int .i64 r0,.int .i64 r1,.int .i64 r2,.int .i64 r3,.int .i64 r4,.int .i64 r5] F C (rawM r2 C) 0 0 ⟨#[]⟩))
 case first=>
  by_cases hb:r2.tmod 3=0
  ·have hb2:(r2.tmod 3==0)=true:=by simpa using hb
   have e:=HM.out
   rw[if_pos hb] at e
   have H4:=yH (CfW.set2 H3.out (by rw[HG2.out];exact b5) h45 0)
   have HE:=yH e
   clear hb e
   go_wp2_with (fail)
   go_meet
   rw[HE.out]
   exact H4
  ·have hb2:(r2.tmod 3==0)=false:=by simpa using hb
   have e:=HM.out
   rw[if_neg hb] at e
   have HE:=yH e
   clear hb e
   go_wp2_with (fail)
   go_meet
   rw[HE.out]
   exact H3
 obtain⟨W4,hW4⟩:∃W,wc=W:=⟨_,rfl⟩
 subst hW4
 have H4:=hcut
 clear r_0 r_1 r_2 r_3 r_4 r_5 x0 x1 x2 x3 x4 x5 z0 z1 z2 z3 z4 z5
 clear hcut
 obtain⟨M,hM⟩:∃M,rawM r2 C=M:=⟨_,rfl⟩
 have HMM:=yH hM
 rw[hM] at H4
 clear hM
 obtain⟨⟨r_0,r_1,r_2,r_3,r_4,r_5⟩,_⟩:=six_of H4.out.2.1
 obtain⟨⟨x0,x1,x2,x3,x4,x5⟩,⟨z0,z1,z2,z3,z4,z5⟩⟩:=six_of H4.out.2.2.2
 go_upto_region 7 with (go_at_call 21;(with_reducible refine(pick14_as r3 12 P3 HP3 I3.out (by omega) (by omega) _).mono ?_);rintro e w9 ⟨rfl,rfl⟩)
 have H5:=yH (CfW.set3 H4.out (by rw[HG2.out];exact b5) h45 P3)
 clear r_0 r_1 r_2 r_3 r_4 r_5 x0 x1 x2 x3 x4 x5 z0 z1 z2 z3 z4 z5
 obtain⟨W5,hW5⟩:∃W,wc.setCell ⟨g5,3,none⟩ (.int .i64 P3)=W:=⟨_,rfl⟩
 rw[hW5] at H5
 try rw[hW5]
 clear hW5
 obtain⟨⟨r_0,r_1,r_2,r_3,r_4,r_5⟩,_⟩:=six_of H5.out.2.1
 obtain⟨⟨x0,x1,x2,x3,x4,x5⟩,⟨z0,z1,z2,z3,z4,z5⟩⟩:=six_of H5.out.2.2.2
 go_upto_region 8 with (go_at_call 21;(with_reducible refine(pick14_as r4 60 P4 HP4 I4.out (by omega) (by omega) _).mono ?_);rintro e w9 ⟨rfl,rfl⟩)
 have H6:=yH (CfW.set4 H5.out (by rw[HG2.out];exact b5) h45 P4)
 clear r_0 r_1 r_2 r_3 r_4 r_5 x0 x1 x2 x3 x4 x5 z0 z1 z2 z3 z4 z5
 obtain⟨W6,hW6⟩:∃W,W5.setCell ⟨g5,4,none⟩ (.int .i64 P4)=W:=⟨_,rfl⟩
 rw[hW6] at H6
 try rw[hW6]
 clear hW6
 obtain⟨⟨r_0,r_1,r_2,r_3,r_4,r_5⟩,_⟩:=six_of H6.out.2.1
 obtain⟨⟨x0,x1,x2,x3,x4,x5⟩,⟨z0,z1,z2,z3,z4,z5⟩⟩:=six_of H6.out.2.2.2
 go_upto_if 43 with (fail)
 go_cut [] (fun wx=>Hid (CfW w wx g2 g4 g5 #[.int .i64 r0,.int .i64 r1,.int .i64 r2,.int .i64 r3,.int .i64 r4,.int .i64 r5] F C M P3 (rawB r4) ⟨#[]⟩))
 case first=>
  by_cases hb:r4.tmod 3=0
  ·have hb2:(r4.tmod 3==0)=true:=by simpa using hb
   have e:=HB.out
   rw[if_pos hb] at e
   have H7:=yH (CfW.set4 H6.out (by rw[HG2.out];exact b5) h45 0)
   have HE:=yH e
   clear hb e
   go_wp2_with (fail)
   go_meet
   rw[HE.out]
   exact H7
  ·have hb2:(r4.tmod 3==0)=false:=by simpa using hb
   have e:=HB.out
   rw[if_neg hb] at e
   have HE:=yH e
   clear hb e
   go_wp2_with (fail)
   go_meet
   rw[HE.out]
   exact H6
 have H7:=hcut
 clear r_0 r_1 r_2 r_3 r_4 r_5 x0 x1 x2 x3 x4 x5 z0 z1 z2 z3 z4 z5
 clear hcut
 obtain⟨Bd,hBd⟩:∃M,rawB r4=M:=⟨_,rfl⟩
 have HBd:=yH hBd
 rw[hBd] at H7
 clear hBd
 have HS4:=yH (Bk.new wc 9 #[.string ⟨#[108,111,119,101,115,116]⟩,.string ⟨#[101,108,115,101,40,108,101,115,115,40,108,111,119,101,115,116,44,32,48,46,48,49,41,44,32,57,46,57,57,41]⟩,.string ⟨#[99,117,116,40,115,101,99,111,110,100,44,32,50,53,48,41]⟩,.string ⟨#[105,102,40,109,111,114,101,40,50,41,44,32,109,97,120,40,108,111,119,101,115,116,44,32,53,46,48,48,41,44,32,102,114,111,109,40,98,111,98,48,41,41]⟩])
 have HA8:=yH (H7.out.1.self.alloc (.cells #[.string ⟨#[108,111,119,101,115,116]⟩,.string ⟨#[101,108,115,101,40,108,101,115,115,40,108,111,119,101,115,116,44,32,48,46,48,49,41,44,32,57,46,57,57,41]⟩,.string ⟨#[99,117,116,40,115,101,99,111,110,100,44,32,50,53,48,41]⟩,.string ⟨#[105,102,40,109,111,114,101,40,50,41,44,32,109,97,120,40,108,111,119,101,115,116,44,32,53,46,48,48,41,44,32,102,114,111,109,40,98,111,98,48,41,41]⟩] 9))
 have H8:=yH (H7.out.rel HA8.out)
 obtain⟨gS,hgS⟩:∃g,wc.heap.size=g:=⟨_,rfl⟩
 obtain⟨Wa,hWa⟩:∃W,wc.alloc (.cells #[.string ⟨#[108,111,119,101,115,116]⟩,.string ⟨#[101,108,115,101,40,108,101,115,115,40,108,111,119,101,115,116,44,32,48,46,48,49,41,44,32,57,46,57,57,41]⟩,.string ⟨#[99,117,116,40,115,101,99,111,110,100,44,32,50,53,48,41]⟩,.string ⟨#[105,102,40,109,111,114,101,40,50,41,44,32,109,97,120,40,108,111,119,101,115,116,44,32,53,46,48,48,41,44,32,102,114,111,109,40,98,111,98,48,41,41]⟩] 9)=W:=⟨_,rfl⟩
 rw[hWa] at HS4 H8
 rw[hgS] at HS4
 have s5:=four_fix HS4.out j5 hj4
 obtain⟨X5,hX5⟩:∃X,B (fixT (j5:Int))=X:=⟨_,rfl⟩
 rw[hX5] at s5
 have HX5:=yH hX5
 have j40:(j5:Int)<4:=by omega
 clear HA8 hX5
 obtain⟨⟨r_0,r_1,r_2,r_3,r_4,r_5⟩,_⟩:=six_of H8.out.2.1
 obtain⟨⟨x0,x1,x2,x3,x4,x5⟩,⟨z0,z1,z2,z3,z4,z5⟩⟩:=six_of H8.out.2.2.2
 go_upto_region 11 with (go_at_call 21;(with_reducible refine(pick14_as r5 4 (j5:Int) HP5 I5.out (by omega) (by omega) _).mono ?_);rintro e w9 ⟨rfl,rfl⟩)
 have H9:=yH (CfW.set5 H8.out (by rw[HG2.out];exact b5) h45 X5)
 clear r_0 r_1 r_2 r_3 r_4 r_5 x0 x1 x2 x3 x4 x5 z0 z1 z2 z3 z4 z5
 clear hWa hgS s5
 obtain⟨W9,hW9⟩:∃W,Wa.setCell ⟨g5,5,none⟩ (.string X5)=W:=⟨_,rfl⟩
 rw[hW9] at H9
 try rw[hW9]
 clear hW9
 have U9:=yH H9.out.1.self
 have I9:=yH (HI.out.rel H9.out.1)
 obtain⟨PT,hPT⟩:∃T,B (prT x)=T:=⟨_,rfl⟩
 obtain⟨PE,hPE⟩:∃T,prE x=T:=⟨_,rfl⟩
 have HPT:=yH hPT
 have HPE:=yH hPE
 have HPr:=yH (fun(v:Value)(w:World)(h:XAt w v x)(hr:Rel w w)=>rprint14 hPT hPE (by have:=HSz.out;omega) w h hr)
 clear hPT hPE
 go_upto_region 12 with (first
  |(go_at_call 23;(with_reducible refine(strat14 A c L x HX.out W9 U9.out I9.out).mono ?_);rintro e w10 ⟨k,n,X,A',l,q,rfl,hv,r10⟩;have V10:=yH hv.out;have R10:=yH r10.out;have U10:=yH r10.out.self;clear hv r10)
  |(go_at_call 22;(with_reducible refine(HPr.out _ _ V10.out U10.out).mono ?_);rintro e w11 ⟨rfl,r11⟩;have R11:=yH (R10.out.trans r11.out);clear r11))
 have H11:=yH (H9.out.rel R11.out)
 clear U9 I9 HPr U10 V10 R10 HSt
 obtain⟨⟨r_0,r_1,r_2,r_3,r_4,r_5⟩,_⟩:=six_of H11.out.2.1
 obtain⟨⟨x0,x1,x2,x3,x4,x5⟩,⟨z0,z1,z2,z3,z4,z5⟩⟩:=six_of H11.out.2.2.2
 by_cases hb:r5.tmod 2=0
 ·have hb2:(r5.tmod 2==0)=true:=by simpa using hb
  have HBb:=yH hb
  clear hb
  cases hrx:rightX x with
  |true=>
   have hpe:PE=0:=by rw[←HPE.out];unfold prE;rw[hrx];rfl
   have hpt:B (text x)=PT:=by rw[←HPT.out];unfold prT;rw[hrx];rfl
   have HRx:=yH hrx
   have HPt:=yH hpt
   subst hpe
   clear hrx hpt
   go_upto_region 14 with (fail)
   have H12:=yH (CfW.set5 H11.out (by rw[HG2.out];exact b5) h45 PT)
   clear r_0 r_1 r_2 r_3 r_4 r_5 x0 x1 x2 x3 x4 x5 z0 z1 z2 z3 z4 z5
   obtain⟨W12,hW12⟩:∃W,w11.setCell ⟨g5,5,none⟩ (.string PT)=W:=⟨_,rfl⟩
   rw[hW12] at H12
   try rw[hW12]
   clear hW12
   obtain⟨⟨r_0,r_1,r_2,r_3,r_4,r_5⟩,_⟩:=six_of H12.out.2.1
   obtain⟨⟨x0,x1,x2,x3,x4,x5⟩,⟨z0,z1,z2,z3,z4,z5⟩⟩:=six_of H12.out.2.2.2
   obtain⟨⟨t0,t1,t2,t3,t4,t5⟩,⟨f_0,f_1,f_2,f_3,f_4,f_5⟩⟩:=six_of H12.out.2.2.1
   go_wp2_with (fail)
   have hb:Bk ((((((W12.setCell ⟨g4,0,none⟩ (.int .i64 F)).setCell ⟨g4,1,none⟩ (.int .i64 C)).setCell ⟨g4,2,none⟩ (.int .i64 M)).setCell ⟨g4,3,none⟩ (.int .i64 P3)).setCell ⟨g4,4,none⟩ (.int .i64 Bd)).setCell ⟨g4,5,none⟩ (.string PT)) g4 24 #[.int .i64 F,.int .i64 C,.int .i64 M,.int .i64 P3,.int .i64 Bd,.string PT]:=((((((H12.out.2.2.1.set_ 0 (.int .i64 F)).set_ 1 (.int .i64 C)).set_ 2 (.int .i64 M)).set_ 3 (.int .i64 P3)).set_ 4 (.int .i64 Bd)).set_ 5 (.string PT))
   have hR:Rel w ((((((W12.setCell ⟨g4,0,none⟩ (.int .i64 F)).setCell ⟨g4,1,none⟩ (.int .i64 C)).setCell ⟨g4,2,none⟩ (.int .i64 M)).setCell ⟨g4,3,none⟩ (.int .i64 P3)).setCell ⟨g4,4,none⟩ (.int .i64 Bd)).setCell ⟨g4,5,none⟩ (.string PT)):=((((((H12.out.1.setCell (p:=⟨g4,0,none⟩) (by rw[HG2.out];exact b4) _).setCell (p:=⟨g4,1,none⟩) (by rw[HG2.out];exact b4) _).setCell (p:=⟨g4,2,none⟩) (by rw[HG2.out];exact b4) _).setCell (p:=⟨g4,3,none⟩) (by rw[HG2.out];exact b4) _).setCell (p:=⟨g4,4,none⟩) (by rw[HG2.out];exact b4) _).setCell (p:=⟨g4,5,none⟩) (by rw[HG2.out];exact b4) _)
   obtain⟨V,hV⟩:∃V,((((((W12.setCell ⟨g4,0,none⟩ (.int .i64 F)).setCell ⟨g4,1,none⟩ (.int .i64 C)).setCell ⟨g4,2,none⟩ (.int .i64 M)).setCell ⟨g4,3,none⟩ (.int .i64 P3)).setCell ⟨g4,4,none⟩ (.int .i64 Bd)).setCell ⟨g4,5,none⟩ (.string PT))=V:=⟨_,rfl⟩
   rw[hV] at hb hR
   rw[hV]
   clear hV
   obtain⟨⟨y0,y1,y2,y3,y4,y5⟩,_⟩:=six_of hb
   refine bodyPost_ret (v:= .agg #[.int .i64 F,.int .i64 C,.int .i64 M,.int .i64 P3,.int .i64 Bd,.string PT]) (by simp[results,Tryz.results9,go_sem,y0,y1,y2,y3,y4,y5]) rfl ⟨?_,hR⟩
   have e1:flC (confR r0 r1 r2 r3 r4 r5 L)=F:=by show 1+pk r0 1500=F;rw[HP0.out,HF.out]
   have e2:ceC (confR r0 r1 r2 r3 r4 r5 L)=C:=by show 1+pk r0 1500+pk r1 2000=C;rw[HP0.out,HP1.out,HF.out,HC.out]
   have e3:mpC (confR r0 r1 r2 r3 r4 r5 L)=M:=by show rawM r2 (1+pk r0 1500+pk r1 2000)=M;rw[HP0.out,HP1.out,HF.out,HC.out,HMM.out]
   have e4:coC (confR r0 r1 r2 r3 r4 r5 L)=P3:=HP3.out
   have e5:bdC (confR r0 r1 r2 r3 r4 r5 L)=Bd:=HBd.out
   have e6:B (txC (confR r0 r1 r2 r3 r4 r5 L))=PT:=by
    show B (rawT r5 L)=PT
    unfold rawT
    rw[if_pos ⟨HBb.out,by rw[HX.out];exact HRx.out⟩,HX.out];exact HPt.out
   rw[e1,e2,e3,e4,e5,e6]
  |false=>
   have hpe:(PE==0)=false:=by rw[←HPE.out];unfold prE;rw[hrx];rfl
   have HRx:=yH hrx
   clear hrx
   obtain⟨⟨t0,t1,t2,t3,t4,t5⟩,⟨f_0,f_1,f_2,f_3,f_4,f_5⟩⟩:=six_of H11.out.2.2.1
   go_wp2_with (fail)
   have hb:Bk ((((((w11.setCell ⟨g4,0,none⟩ (.int .i64 F)).setCell ⟨g4,1,none⟩ (.int .i64 C)).setCell ⟨g4,2,none⟩ (.int .i64 M)).setCell ⟨g4,3,none⟩ (.int .i64 P3)).setCell ⟨g4,4,none⟩ (.int .i64 Bd)).setCell ⟨g4,5,none⟩ (.string X5)) g4 24 #[.int .i64 F,.int .i64 C,.int .i64 M,.int .i64 P3,.int .i64 Bd,.string X5]:=((((((H11.out.2.2.1.set_ 0 (.int .i64 F)).set_ 1 (.int .i64 C)).set_ 2 (.int .i64 M)).set_ 3 (.int .i64 P3)).set_ 4 (.int .i64 Bd)).set_ 5 (.string X5))
   have hR:Rel w ((((((w11.setCell ⟨g4,0,none⟩ (.int .i64 F)).setCell ⟨g4,1,none⟩ (.int .i64 C)).setCell ⟨g4,2,none⟩ (.int .i64 M)).setCell ⟨g4,3,none⟩ (.int .i64 P3)).setCell ⟨g4,4,none⟩ (.int .i64 Bd)).setCell ⟨g4,5,none⟩ (.string X5)):=((((((H11.out.1.setCell (p:=⟨g4,0,none⟩) (by rw[HG2.out];exact b4) _).setCell (p:=⟨g4,1,none⟩) (by rw[HG2.out];exact b4) _).setCell (p:=⟨g4,2,none⟩) (by rw[HG2.out];exact b4) _).setCell (p:=⟨g4,3,none⟩) (by rw[HG2.out];exact b4) _).setCell (p:=⟨g4,4,none⟩) (by rw[HG2.out];exact b4) _).setCell (p:=⟨g4,5,none⟩) (by rw[HG2.out];exact b4) _)
   obtain⟨V,hV⟩:∃V,((((((w11.setCell ⟨g4,0,none⟩ (.int .i64 F)).setCell ⟨g4,1,none⟩ (.int .i64 C)).setCell ⟨g4,2,none⟩ (.int .i64 M)).setCell ⟨g4,3,none⟩ (.int .i64 P3)).setCell ⟨g4,4,none⟩ (.int .i64 Bd)).setCell ⟨g4,5,none⟩ (.string X5))=V:=⟨_,rfl⟩
   rw[hV] at hb hR
   rw[hV]
   clear hV
   obtain⟨⟨y0,y1,y2,y3,y4,y5⟩,_⟩:=six_of hb
   refine bodyPost_ret (v:= .agg #[.int .i64 F,.int .i64 C,.int .i64 M,.int .i64 P3,.int .i64 Bd,.string X5]) (by simp[results,Tryz.results9,go_sem,y0,y1,y2,y3,y4,y5]) rfl ⟨?_,hR⟩
   have e1:flC (confR r0 r1 r2 r3 r4 r5 L)=F:=by show 1+pk r0 1500=F;rw[HP0.out,HF.out]
   have e2:ceC (confR r0 r1 r2 r3 r4 r5 L)=C:=by show 1+pk r0 1500+pk r1 2000=C;rw[HP0.out,HP1.out,HF.out,HC.out]
   have e3:mpC (confR r0 r1 r2 r3 r4 r5 L)=M:=by show rawM r2 (1+pk r0 1500+pk r1 2000)=M;rw[HP0.out,HP1.out,HF.out,HC.out,HMM.out]
   have e4:coC (confR r0 r1 r2 r3 r4 r5 L)=P3:=HP3.out
   have e5:bdC (confR r0 r1 r2 r3 r4 r5 L)=Bd:=HBd.out
   have e6:B (txC (confR r0 r1 r2 r3 r4 r5 L))=X5:=by
    show B (rawT r5 L)=X5
    unfold rawT
    rw[if_neg (fun h=>by have h2:=h.2;rw[HX.out,HRx.out] at h2;cases h2),HP5.out];exact HX5.out
   rw[e1,e2,e3,e4,e5,e6]
 ·have hb2:(r5.tmod 2==0)=false:=by simpa using hb
  have HBb:=yH hb
  clear hb
  obtain⟨⟨t0,t1,t2,t3,t4,t5⟩,⟨f_0,f_1,f_2,f_3,f_4,f_5⟩⟩:=six_of H11.out.2.2.1
  go_wp2_with (fail)
  have hb:Bk ((((((w11.setCell ⟨g4,0,none⟩ (.int .i64 F)).setCell ⟨g4,1,none⟩ (.int .i64 C)).setCell ⟨g4,2,none⟩ (.int .i64 M)).setCell ⟨g4,3,none⟩ (.int .i64 P3)).setCell ⟨g4,4,none⟩ (.int .i64 Bd)).setCell ⟨g4,5,none⟩ (.string X5)) g4 24 #[.int .i64 F,.int .i64 C,.int .i64 M,.int .i64 P3,.int .i64 Bd,.string X5]:=((((((H11.out.2.2.1.set_ 0 (.int .i64 F)).set_ 1 (.int .i64 C)).set_ 2 (.int .i64 M)).set_ 3 (.int .i64 P3)).set_ 4 (.int .i64 Bd)).set_ 5 (.string X5))
  have hR:Rel w ((((((w11.setCell ⟨g4,0,none⟩ (.int .i64 F)).setCell ⟨g4,1,none⟩ (.int .i64 C)).setCell ⟨g4,2,none⟩ (.int .i64 M)).setCell ⟨g4,3,none⟩ (.int .i64 P3)).setCell ⟨g4,4,none⟩ (.int .i64 Bd)).setCell ⟨g4,5,none⟩ (.string X5)):=((((((H11.out.1.setCell (p:=⟨g4,0,none⟩) (by rw[HG2.out];exact b4) _).setCell (p:=⟨g4,1,none⟩) (by rw[HG2.out];exact b4) _).setCell (p:=⟨g4,2,none⟩) (by rw[HG2.out];exact b4) _).setCell (p:=⟨g4,3,none⟩) (by rw[HG2.out];exact b4) _).setCell (p:=⟨g4,4,none⟩) (by rw[HG2.out];exact b4) _).setCell (p:=⟨g4,5,none⟩) (by rw[HG2.out];exact b4) _)
  obtain⟨V,hV⟩:∃V,((((((w11.setCell ⟨g4,0,none⟩ (.int .i64 F)).setCell ⟨g4,1,none⟩ (.int .i64 C)).setCell ⟨g4,2,none⟩ (.int .i64 M)).setCell ⟨g4,3,none⟩ (.int .i64 P3)).setCell ⟨g4,4,none⟩ (.int .i64 Bd)).setCell ⟨g4,5,none⟩ (.string X5))=V:=⟨_,rfl⟩
  rw[hV] at hb hR
  rw[hV]
  clear hV
  obtain⟨⟨y0,y1,y2,y3,y4,y5⟩,_⟩:=six_of hb
  refine bodyPost_ret (v:= .agg #[.int .i64 F,.int .i64 C,.int .i64 M,.int .i64 P3,.int .i64 Bd,.string X5]) (by simp[results,Tryz.results9,go_sem,y0,y1,y2,y3,y4,y5]) rfl ⟨?_,hR⟩
  have e1:flC (confR r0 r1 r2 r3 r4 r5 L)=F:=by show 1+pk r0 1500=F;rw[HP0.out,HF.out]
  have e2:ceC (confR r0 r1 r2 r3 r4 r5 L)=C:=by show 1+pk r0 1500+pk r1 2000=C;rw[HP0.out,HP1.out,HF.out,HC.out]
  have e3:mpC (confR r0 r1 r2 r3 r4 r5 L)=M:=by show rawM r2 (1+pk r0 1500+pk r1 2000)=M;rw[HP0.out,HP1.out,HF.out,HC.out,HMM.out]
  have e4:coC (confR r0 r1 r2 r3 r4 r5 L)=P3:=HP3.out
  have e5:bdC (confR r0 r1 r2 r3 r4 r5 L)=Bd:=HBd.out
  have e6:B (txC (confR r0 r1 r2 r3 r4 r5 L))=X5:=by
   show B (rawT r5 L)=X5
   unfold rawT
   rw[if_neg (fun h=>HBb.out h.1),HP5.out];exact HX5.out
  rw[e1,e2,e3,e4,e5,e6]
def CLowOk:Prop:=∀(c:Cf)(S:ByteArray),B (txC c)=S→CfFit c→∀w:World,Rel w w→Calls Tryz.prog 20 #[.agg #[.int .i64 (flC c),.int .i64 (ceC c),.int .i64 (mpC c),.int .i64 (coC c),.int .i64 (bdC c),.string S]] w fun e w'=>e= .returned (.int .i64 (lowC c))∧Rel w w'
def CWithinOk:Prop:=∀(c:Cf)(p:Int)(S:ByteArray),B (txC c)=S→CfFit c→i64 p→∀w:World,Rel w w→Calls Tryz.prog 19 #[.agg #[.int .i64 (flC c),.int .i64 (ceC c),.int .i64 (mpC c),.int .i64 (coC c),.int .i64 (bdC c),.string S],.int .i64 p] w fun e w'=>e= .returned (.bool (withinC c p))∧Rel w w'
section
variable {f c m o b:Int} {t:List UInt8} {S:ByteArray}
end
def ConfOk3:Prop:=CLowOk∧CWithinOk
def PaAt(w:World)(p:Pa15)(A:Option Addr)(n k:Nat):Prop:=(riP p).length=n∧PaFit p∧IntsIn w A k (riP p)
theorem PaAt.rel{w w':World}{p:Pa15}{A:Option Addr}{n k:Nat}(h:PaAt w p A n k)(hr:Rel w w'):PaAt w' p A n k:=⟨h.1,h.2.1,h.2.2.rel hr⟩
def PRightOk:Prop:=∀(p:Pa15)(A:Option Addr)(n k:Nat)(w:World),Rel w w→PaAt w p A n k→Calls Tryz.prog 10 #[.agg #[.int .i64 (laP p),.int .i64 (atP p),.slice A n k,.int .i64 (swP p)]] w fun e w'=>e= .returned (.bool (rightP p))∧Rel w w'
def PReadyOk:Prop:=∀(c:Cf)(S:ByteArray)(p:Pa15)(A:Option Addr)(n k:Nat)(w:World),B (txC c)=S→CfFit c→Rel w w→PaAt w p A n k→
  Calls Tryz.prog 12 #[.agg #[.int .i64 (flC c),.int .i64 (ceC c),.int .i64 (mpC c),.int .i64 (coC c),.int .i64 (bdC c),.string S],.agg #[.int .i64 (laP p),.int .i64 (atP p),.slice A n k,.int .i64 (swP p)]] w fun e w'=>e= .returned (.int .i64 (readyP c p))∧Rel w w'
def PDecOk:Prop:=∀(c:Cf)(S:ByteArray)(p:Pa15)(A:Option Addr)(n k:Nat)(t now:Int)(w:World),B (txC c)=S→CfFit c→i64 t→i64 now→Rel w w→PaAt w p A n k→
  Calls Tryz.prog 15 #[.agg #[.int .i64 (flC c),.int .i64 (ceC c),.int .i64 (mpC c),.int .i64 (coC c),.int .i64 (bdC c),.string S],.agg #[.int .i64 (laP p),.int .i64 (atP p),.slice A n k,.int .i64 (swP p)],.int .i64 t,.int .i64 now] w fun e w'=>∃(A':Option Addr)(n' k':Nat),e= .returned (.tuple #[.agg #[.int .i64 (laP (decP c p t now)),.int .i64 (atP (decP c p t now)),.slice A' n' k',.int .i64 (swP (decP c p t now))],.bool (goP c p t now)])∧PaAt w' (decP c p t now) A' n' k'∧Rel w w'∧(A'=A∨∀a,A'=some a→w.heap.size≤a.block∧a.block<w'.heap.size)
def PaceOk:Prop:=PRightOk∧PReadyOk∧PDecOk
section
variable {f c m o b la at_ sw:Int} {t:List UInt8} {R:List Int} {S:ByteArray}
theorem clow15(H:ConfOk3)(hS:B t=S)(hf:CfFit (f,c,m,o,b,t)){E:Int}(hE:max f m=E)(w:World)(hr:Rel w w):
  Calls Tryz.prog 20 #[.agg #[.int .i64 f,.int .i64 c,.int .i64 m,.int .i64 o,.int .i64 b,.string S]] w fun e w'=>e= .returned (.int .i64 E)∧Hid (Rel w w'):=by
 rw[←hE]
 exact(H.1 (f,c,m,o,b,t) S hS hf w hr).mono fun e w' ⟨he,h2⟩=>⟨he,yH h2⟩
theorem cwit15(H:ConfOk3)(hS:B t=S)(hf:CfFit (f,c,m,o,b,t)){p:Int}(hp:i64 p){E:Bool}(hE:withinC (f,c,m,o,b,t) p=E)(w:World)(hr:Rel w w):
  Calls Tryz.prog 19 #[.agg #[.int .i64 f,.int .i64 c,.int .i64 m,.int .i64 o,.int .i64 b,.string S],.int .i64 p] w fun e w'=>e= .returned (.bool E)∧Hid (Rel w w'):=by
 rw[←hE]
 exact(H.2 (f,c,m,o,b,t) p S hS hf hp w hr).mono fun e w' ⟨he,h2⟩=>⟨he,yH h2⟩
theorem pright15(H:PaceOk){A:Option Addr}{n k:Nat}{E:Bool}(hE:rightP (la,at_,R,sw)=E)(w:World)(hr:Rel w w)(hp:PaAt w (la,at_,R,sw) A n k):
  Calls Tryz.prog 10 #[.agg #[.int .i64 la,.int .i64 at_,.slice A n k,.int .i64 sw]] w fun e w'=>e= .returned (.bool E)∧Hid (Rel w w'):=by
 rw[←hE]
 exact(H.1 (la,at_,R,sw) A n k w hr hp).mono fun e w' ⟨he,h2⟩=>⟨he,yH h2⟩
theorem pready15(H:PaceOk)(hS:B t=S)(hf:CfFit (f,c,m,o,b,t)){A:Option Addr}{n k:Nat}{E:Int}(hE:readyP (f,c,m,o,b,t) (la,at_,R,sw)=E)(w:World)(hr:Rel w w)(hp:PaAt w (la,at_,R,sw) A n k):
  Calls Tryz.prog 12 #[.agg #[.int .i64 f,.int .i64 c,.int .i64 m,.int .i64 o,.int .i64 b,.string S],.agg #[.int .i64 la,.int .i64 at_,.slice A n k,.int .i64 sw]] w fun e w'=>e= .returned (.int .i64 E)∧Hid (Rel w w'):=by
 rw[←hE]
 exact(H.2.1 (f,c,m,o,b,t) S (la,at_,R,sw) A n k w hS hf hr hp).mono fun e w' ⟨he,h2⟩=>⟨he,yH h2⟩
theorem pdec15(H:PaceOk)(hS:B t=S)(hf:CfFit (f,c,m,o,b,t)){A:Option Addr}{n k:Nat}{tg now:Int}(ht:i64 tg)(hn:i64 now){la' at' sw':Int}{R':List Int}{g:Bool}(hq:decP (f,c,m,o,b,t) (la,at_,R,sw) tg now=(la',at',R',sw'))(hg:goP (f,c,m,o,b,t) (la,at_,R,sw) tg now=g)(w:World)(hr:Rel w w)(hp:PaAt w (la,at_,R,sw) A n k):
  Calls Tryz.prog 15 #[.agg #[.int .i64 f,.int .i64 c,.int .i64 m,.int .i64 o,.int .i64 b,.string S],.agg #[.int .i64 la,.int .i64 at_,.slice A n k,.int .i64 sw],.int .i64 tg,.int .i64 now] w fun e w'=>∃(A':Option Addr)(n' k':Nat),e= .returned (.tuple #[.agg #[.int .i64 la',.int .i64 at',.slice A' n' k',.int .i64 sw'],.bool g])∧Hid (PaAt w' (la',at',R',sw') A' n' k')∧Hid (Rel w w'):=by
 refine(H.2.2 (f,c,m,o,b,t) S (la,at_,R,sw) A n k tg now w hS hf ht hn hr hp).mono ?_
 rintro e w' ⟨A',n',k',he,h1,h2,_⟩
 rw[hq,hg] at he
 rw[hq] at h1
 exact⟨A',n',k',he,yH h1,yH h2⟩
theorem pdecw15(H:PaceOk)(hS:B t=S)(hf:CfFit (f,c,m,o,b,t)){A:Option Addr}{n k:Nat}{tg now:Int}(ht:i64 tg)(hn:i64 now){la' at' sw':Int}{R':List Int}{g:Bool}(hq:decP (f,c,m,o,b,t) (la,at_,R,sw) tg now=(la',at',R',sw'))(hg:goP (f,c,m,o,b,t) (la,at_,R,sw) tg now=g)(w:World)(hr:Rel w w)(hp:PaAt w (la,at_,R,sw) A n k):
  Calls Tryz.prog 15 #[.agg #[.int .i64 f,.int .i64 c,.int .i64 m,.int .i64 o,.int .i64 b,.string S],.agg #[.int .i64 la,.int .i64 at_,.slice A n k,.int .i64 sw],.int .i64 tg,.int .i64 now] w fun e w'=>∃(A':Option Addr)(n' k':Nat),e= .returned (.tuple #[.agg #[.int .i64 la',.int .i64 at',.slice A' n' k',.int .i64 sw'],.bool g])∧Hid (PaAt w' (la',at',R',sw') A' n' k')∧Hid (Rel w w')∧Hid (A'=A∨∀a,A'=some a→w.heap.size≤a.block∧a.block<w'.heap.size):=by
 refine(H.2.2 (f,c,m,o,b,t) S (la,at_,R,sw) A n k tg now w hS hf ht hn hr hp).mono ?_
 rintro e w' ⟨A',n',k',he,h1,h2,h3⟩
 rw[hq,hg] at he
 rw[hq] at h1
 exact⟨A',n',k',he,yH h1,yH h2,yH h3⟩
end
theorem pk15_as(c n y:Int)(h:Hid (pk c n=y))(hc:i64 c)(hn:0<n)(hn':n≤9223372036854775807)(w:World):
  Calls Tryz.prog 14 #[.int .i64 c,.int .i64 n] w fun e w'=>e= .returned (.int .i64 y)∧w=w':=by
 obtain⟨hc0,hc1⟩:=hc
 rw[←h.out]
 by_cases h:c<0
 all_goals
  go_enter Tryz.func14,Tryz.ntmps14
  go_wp2
  all_goals
   go_ret
   exact⟨ret_int (by unfold pk;split<;>first|rfl|omega),rfl⟩
end Go.Proofs.YtjhjdiaomnpkmaaGreatDoor
