/- The law's awake of layer 15. -/

import Derived.Test.YtjhjdiaomnpkmaaGreatDoorZ12
set_option maxRecDepth 100000
set_option maxHeartbeats 8000000
set_option linter.unusedVariables false
set_option linter.unusedSimpArgs false
namespace Go.Proofs.YtjhjdiaomnpkmaaGreatDoor
open Go.RowKit Go.Lib
theorem fitA15:CfFit (1,900,0,4,5,tA14):=⟨⟨⟨by decide,by decide⟩,⟨by decide,by decide⟩,⟨by decide,by decide⟩,⟨by decide,by decide⟩,⟨by decide,by decide⟩⟩,by decide⟩
theorem ints_nil15(w:World):IntsIn w none 0 []:=⟨Nat.le_refl _,Nat.zero_le _,fun z h=>absurd h List.not_mem_nil,fun i h=>absurd h (Nat.not_lt_zero i)⟩
theorem ints_three15{w:World}{g:Nat}{x y z:Int}(h:Bk w g 3 #[.int .i64 x,.int .i64 y,.int .i64 z])(hx:i64 x)(hy:i64 y)(hz:i64 z):IntsIn w (some ⟨g,0,none⟩) 3 [x,y,z]:=by
 refine⟨Nat.le_refl _,by decide,fun q hq=> ?_,fun i hi=>⟨⟨g,0,none⟩,rfl,h.lt, ?_⟩⟩
 ·simp only[List.mem_cons,List.not_mem_nil,or_false] at hq
  rcases hq with rfl|rfl|rfl
  ·exact hx
  ·exact hy
  ·exact hz
 ·have hi:i<3:=hi
  have hc:i=0∨i=1∨i=2:=by omega
  rcases hc with rfl|rfl|rfl
  ·exact h.cell 0
  ·exact h.cell 1
  ·exact h.cell 2
theorem pa_no(w:World):PaAt w (0,0,[],0) none 0 0:=⟨rfl,⟨⟨by decide,by decide⟩,⟨by decide,by decide⟩,⟨by decide,by decide⟩⟩,ints_nil15 w⟩
theorem awake15_any(H:PaceOk)(w:World)(hr:Rel w w):
  Calls Tryz.prog 8 #[] w fun e w'=>e= .returned (.bool true)∧Rel w w':=by
 have HR:=yH hr
 have K1:=yH (fun(w:World)(hr:Rel w w)=>pdec15 H (S:=⟨#[108,111,119,101,115,116]⟩) (t:=tA14) rfl fitA15 (tg:=500) (now:=10) ⟨by decide,by decide⟩ ⟨by decide,by decide⟩ (show decP (1,900,0,4,5,tA14) (0,0,[],0) 500 10=(500,10,[500],0) from de_A0) (show goP (1,900,0,4,5,tA14) (0,0,[],0) 500 10=true from go_A0) w hr (pa_no w))
 have K2:=yH (fun(w:World)(A:Option Addr)(n k:Nat)(hr:Rel w w)(hp:PaAt w (500,10,[500],0) A n k)=>pdec15 H (S:=⟨#[108,111,119,101,115,116]⟩) (t:=tA14) rfl fitA15 (tg:=505) (now:=20) ⟨by decide,by decide⟩ ⟨by decide,by decide⟩ (show decP (1,900,0,4,5,tA14) (500,10,[500],0) 505 20=(500,10,[500],0) from by unfold decP;rw[if_neg (by rw[show goP (1,900,0,4,5,tA14) (500,10,[500],0) 505 20=false from go_A1];decide)]) (show goP (1,900,0,4,5,tA14) (500,10,[500],0) 505 20=false from go_A1) w hr hp)
 have K3:=yH (fun(w:World)(A:Option Addr)(n k:Nat)(hr:Rel w w)(hp:PaAt w (500,10,[500],0) A n k)=>pdec15 H (S:=⟨#[108,111,119,101,115,116]⟩) (t:=tA14) rfl fitA15 (tg:=600) (now:=13) ⟨by decide,by decide⟩ ⟨by decide,by decide⟩ (show decP (1,900,0,4,5,tA14) (500,10,[500],0) 600 13=(500,10,[500],0) from by unfold decP;rw[if_neg (by rw[show goP (1,900,0,4,5,tA14) (500,10,[500],0) 600 13=false from go_A2];decide)]) (show goP (1,900,0,4,5,tA14) (500,10,[500],0) 600 13=false from go_A2) w hr hp)
 have K4:=yH (fun(w:World)(A:Option Addr)(n k:Nat)(hr:Rel w w)(hp:PaAt w (500,10,[500],0) A n k)=>pdec15 H (S:=⟨#[108,111,119,101,115,116]⟩) (t:=tA14) rfl fitA15 (tg:=600) (now:=14) ⟨by decide,by decide⟩ ⟨by decide,by decide⟩ (show decP (1,900,0,4,5,tA14) (500,10,[500],0) 600 14=(600,14,[500,600],0) from de_A3) (show goP (1,900,0,4,5,tA14) (500,10,[500],0) 600 14=true from go_A3) w hr hp)
 have K5:=yH (fun(w:World)(A:Option Addr)(n k:Nat)(hr:Rel w w)(hp:PaAt w (500,10,[500,600,500],0) A n k)=>pdec15 H (S:=⟨#[108,111,119,101,115,116]⟩) (t:=tA14) rfl fitA15 (tg:=600) (now:=14) ⟨by decide,by decide⟩ ⟨by decide,by decide⟩ (show decP (1,900,0,4,5,tA14) (500,10,[500,600,500],0) 600 14=(600,14,[600,500,600],1) from de_A4) (show goP (1,900,0,4,5,tA14) (500,10,[500,600,500],0) 600 14=true from go_A4) w hr hp)
 have KR1:=yH (fun(w:World)(A:Option Addr)(n k:Nat)(hr:Rel w w)(hp:PaAt w (500,10,[500],0) A n k)=>pready15 H (S:=⟨#[108,111,119,101,115,116]⟩) (t:=tA14) rfl fitA15 (show readyP (1,900,0,4,5,tA14) (500,10,[500],0)=14 from rd_A) w hr hp)
 have KR2:=yH (fun(w:World)(A:Option Addr)(n k:Nat)(hr:Rel w w)(hp:PaAt w (600,14,[600,500,600],1) A n k)=>pready15 H (S:=⟨#[108,111,119,101,115,116]⟩) (t:=tA14) rfl fitA15 (show readyP (1,900,0,4,5,tA14) (600,14,[600,500,600],1)=22 from rd_F) w hr hp)
 have KG1:=yH (fun(w:World)(A:Option Addr)(n k:Nat)(hr:Rel w w)(hp:PaAt w (500,10,[500],0) A n k)=>pright15 H (show rightP (500,10,[500],0)=true from ri_A) w hr hp)
 have KG2:=yH (fun(w:World)(hr:Rel w w)=>pright15 H (show rightP (1,0,[],0)=false from ri_L) w hr (⟨rfl,⟨⟨by decide,by decide⟩,⟨by decide,by decide⟩,⟨by decide,by decide⟩⟩,ints_nil15 w⟩:PaAt w (1,0,[],0) none 0 0))
 clear H hr
 go_enter Tryz.func8,Tryz.ntmps8
 go_upto_region 2 with (fail)
 have HC:=yH (Bk.new w 24 #[.int .i64 1,.int .i64 900,.int .i64 0,.int .i64 4,.int .i64 5,.string ⟨#[108,111,119,101,115,116]⟩])
 have R1:=yH (HR.out.alloc (.cells #[.int .i64 1,.int .i64 900,.int .i64 0,.int .i64 4,.int .i64 5,.string ⟨#[108,111,119,101,115,116]⟩] 24))
 obtain⟨W1,hW1⟩:∃W,w.alloc (.cells #[.int .i64 1,.int .i64 900,.int .i64 0,.int .i64 4,.int .i64 5,.string ⟨#[108,111,119,101,115,116]⟩] 24)=W:=⟨_,rfl⟩
 obtain⟨gC,hgC⟩:∃g,w.heap.size=g:=⟨_,rfl⟩
 rw[hW1] at HC R1
 rw[hgC] at HC
 try rw[hW1]
 try rw[hgC]
 clear hW1 hgC
 obtain⟨⟨c0,c1,c2,c3,c4,c5⟩,_⟩:=six_of HC.out
 have C1:=yH (K1.out W1 R1.out.self)
 go_upto_region 3 with (go_at_call 15;(with_reducible refine C1.out.mono ?_);rintro e w1 ⟨A1,n1,k1,rfl,P10,h1⟩;have R1b:=yH (R1.out.trans h1.out);have HCx:=yH (HC.out.rel h1.out);clear h1)
 clear c0 c1 c2 c3 c4 c5
 have HA:=yH (Bk.new w1 27 #[.int .i64 500,.int .i64 10,.slice A1 n1 k1,.int .i64 0])
 have R1c:=yH (R1b.out.alloc (.cells #[.int .i64 500,.int .i64 10,.slice A1 n1 k1,.int .i64 0] 27))
 have P1:=yH (P10.out.rel (R1b.out.self.alloc (.cells #[.int .i64 500,.int .i64 10,.slice A1 n1 k1,.int .i64 0] 27)))
 have HCy:=yH (HCx.out.alloc (.cells #[.int .i64 500,.int .i64 10,.slice A1 n1 k1,.int .i64 0] 27))
 obtain⟨V1,hV1⟩:∃W,w1.alloc (.cells #[.int .i64 500,.int .i64 10,.slice A1 n1 k1,.int .i64 0] 27)=W:=⟨_,rfl⟩
 obtain⟨gA,hgA⟩:∃g,w1.heap.size=g:=⟨_,rfl⟩
 rw[hV1] at HA R1c P1 HCy
 rw[hgA] at HA
 try rw[hV1]
 try rw[hgA]
 clear hV1 hgA P10 C1 R1b HC HCx
 have HC:=HCy
 clear HCy
 obtain⟨⟨c0,c1,c2,c3,c4,c5⟩,_⟩:=six_of HC.out
 obtain⟨⟨a_0,a_1,a_2,a_3⟩,_⟩:=four_of HA.out
 have C2:=yH (K2.out V1 A1 n1 k1 R1c.out.self P1.out)
 go_upto_region 4 with (go_at_call 15;(with_reducible refine C2.out.mono ?_);rintro e w2 ⟨A2,n2,k2,rfl,P20,h2⟩;have R2b:=yH (R1c.out.trans h2.out);have HCx:=yH (HC.out.rel h2.out);have HAx:=yH (HA.out.rel h2.out);have P1x:=yH (P1.out.rel h2.out);clear h2)
 clear c0 c1 c2 c3 c4 c5 a_0 a_1 a_2 a_3
 have HB:=yH (Bk.new w2 27 #[.int .i64 500,.int .i64 10,.slice A2 n2 k2,.int .i64 0])
 have R2c:=yH (R2b.out.alloc (.cells #[.int .i64 500,.int .i64 10,.slice A2 n2 k2,.int .i64 0] 27))
 have P2:=yH (P20.out.rel (R2b.out.self.alloc (.cells #[.int .i64 500,.int .i64 10,.slice A2 n2 k2,.int .i64 0] 27)))
 have HCy:=yH (HCx.out.alloc (.cells #[.int .i64 500,.int .i64 10,.slice A2 n2 k2,.int .i64 0] 27))
 have HAy:=yH (HAx.out.alloc (.cells #[.int .i64 500,.int .i64 10,.slice A2 n2 k2,.int .i64 0] 27))
 have P1y:=yH (P1x.out.rel (R2b.out.self.alloc (.cells #[.int .i64 500,.int .i64 10,.slice A2 n2 k2,.int .i64 0] 27)))
 obtain⟨V2,hV2⟩:∃W,w2.alloc (.cells #[.int .i64 500,.int .i64 10,.slice A2 n2 k2,.int .i64 0] 27)=W:=⟨_,rfl⟩
 obtain⟨gB,hgB⟩:∃g,w2.heap.size=g:=⟨_,rfl⟩
 rw[hV2] at HB R2c P2 HCy HAy P1y
 rw[hgB] at HB
 try rw[hV2]
 try rw[hgB]
 clear hV2 hgB P20 C2 R2b HC HCx HA HAx P1 P1x
 have HC:=HCy
 have HA:=HAy
 have P1:=P1y
 clear HCy HAy P1y
 obtain⟨⟨c0,c1,c2,c3,c4,c5⟩,_⟩:=six_of HC.out
 obtain⟨⟨a_0,a_1,a_2,a_3⟩,_⟩:=four_of HA.out
 obtain⟨⟨b_0,b_1,b_2,b_3⟩,_⟩:=four_of HB.out
 have C3:=yH (K3.out V2 A1 n1 k1 R2c.out.self P1.out)
 go_upto_region 5 with (go_at_call 15;(with_reducible refine C3.out.mono ?_);rintro e w3 ⟨A3,n3,k3,rfl,P30,h3⟩;have R3b:=yH (R2c.out.trans h3.out);have HCx:=yH (HC.out.rel h3.out);have HAx:=yH (HA.out.rel h3.out);have HBx:=yH (HB.out.rel h3.out);have P1x:=yH (P1.out.rel h3.out);have P2x:=yH (P2.out.rel h3.out);clear h3)
 clear c0 c1 c2 c3 c4 c5 a_0 a_1 a_2 a_3 b_0 b_1 b_2 b_3
 have HX:=yH (Bk.new w3 27 #[.int .i64 500,.int .i64 10,.slice A3 n3 k3,.int .i64 0])
 have R3c:=yH (R3b.out.alloc (.cells #[.int .i64 500,.int .i64 10,.slice A3 n3 k3,.int .i64 0] 27))
 have P3:=yH (P30.out.rel (R3b.out.self.alloc (.cells #[.int .i64 500,.int .i64 10,.slice A3 n3 k3,.int .i64 0] 27)))
 have HCy:=yH (HCx.out.alloc (.cells #[.int .i64 500,.int .i64 10,.slice A3 n3 k3,.int .i64 0] 27))
 have HAy:=yH (HAx.out.alloc (.cells #[.int .i64 500,.int .i64 10,.slice A3 n3 k3,.int .i64 0] 27))
 have HBy:=yH (HBx.out.alloc (.cells #[.int .i64 500,.int .i64 10,.slice A3 n3 k3,.int .i64 0] 27))
 have P1y:=yH (P1x.out.rel (R3b.out.self.alloc (.cells #[.int .i64 500,.int .i64 10,.slice A3 n3 k3,.int .i64 0] 27)))
 have P2y:=yH (P2x.out.rel (R3b.out.self.alloc (.cells #[.int .i64 500,.int .i64 10,.slice A3 n3 k3,.int .i64 0] 27)))
 obtain⟨V3,hV3⟩:∃W,w3.alloc (.cells #[.int .i64 500,.int .i64 10,.slice A3 n3 k3,.int .i64 0] 27)=W:=⟨_,rfl⟩
 obtain⟨gX,hgX⟩:∃g,w3.heap.size=g:=⟨_,rfl⟩
 rw[hV3] at HX R3c P3 HCy HAy HBy P1y P2y
 rw[hgX] at HX
 try rw[hV3]
 try rw[hgX]
 clear hV3 hgX P30 C3 R3b HC HCx HA HAx HB HBx P1 P1x P2 P2x
 have HC:=HCy
 have HA:=HAy
 have HB:=HBy
 have P1:=P1y
 have P2:=P2y
 clear HCy HAy HBy P1y P2y
 obtain⟨⟨c0,c1,c2,c3,c4,c5⟩,_⟩:=six_of HC.out
 obtain⟨⟨a_0,a_1,a_2,a_3⟩,_⟩:=four_of HA.out
 obtain⟨⟨b_0,b_1,b_2,b_3⟩,_⟩:=four_of HB.out
 obtain⟨⟨x_0,x_1,x_2,x_3⟩,_⟩:=four_of HX.out
 have C4:=yH (K4.out V3 A1 n1 k1 R3c.out.self P1.out)
 go_upto_region 6 with (go_at_call 15;(with_reducible refine C4.out.mono ?_);rintro e w4 ⟨A4,n4,k4,rfl,P40,h4⟩;have R4b:=yH (R3c.out.trans h4.out);have HCx:=yH (HC.out.rel h4.out);have HAx:=yH (HA.out.rel h4.out);have HBx:=yH (HB.out.rel h4.out);have HXx:=yH (HX.out.rel h4.out);have P1x:=yH (P1.out.rel h4.out);have P2x:=yH (P2.out.rel h4.out);have P3x:=yH (P3.out.rel h4.out);clear h4)
 clear c0 c1 c2 c3 c4 c5 a_0 a_1 a_2 a_3 b_0 b_1 b_2 b_3 x_0 x_1 x_2 x_3
 have HD:=yH (Bk.new w4 27 #[.int .i64 600,.int .i64 14,.slice A4 n4 k4,.int .i64 0])
 have R4c:=yH (R4b.out.alloc (.cells #[.int .i64 600,.int .i64 14,.slice A4 n4 k4,.int .i64 0] 27))
 have P4:=yH (P40.out.rel (R4b.out.self.alloc (.cells #[.int .i64 600,.int .i64 14,.slice A4 n4 k4,.int .i64 0] 27)))
 have HCy:=yH (HCx.out.alloc (.cells #[.int .i64 600,.int .i64 14,.slice A4 n4 k4,.int .i64 0] 27))
 have HAy:=yH (HAx.out.alloc (.cells #[.int .i64 600,.int .i64 14,.slice A4 n4 k4,.int .i64 0] 27))
 have HBy:=yH (HBx.out.alloc (.cells #[.int .i64 600,.int .i64 14,.slice A4 n4 k4,.int .i64 0] 27))
 have HXy:=yH (HXx.out.alloc (.cells #[.int .i64 600,.int .i64 14,.slice A4 n4 k4,.int .i64 0] 27))
 have P1y:=yH (P1x.out.rel (R4b.out.self.alloc (.cells #[.int .i64 600,.int .i64 14,.slice A4 n4 k4,.int .i64 0] 27)))
 have P2y:=yH (P2x.out.rel (R4b.out.self.alloc (.cells #[.int .i64 600,.int .i64 14,.slice A4 n4 k4,.int .i64 0] 27)))
 have P3y:=yH (P3x.out.rel (R4b.out.self.alloc (.cells #[.int .i64 600,.int .i64 14,.slice A4 n4 k4,.int .i64 0] 27)))
 obtain⟨V4,hV4⟩:∃W,w4.alloc (.cells #[.int .i64 600,.int .i64 14,.slice A4 n4 k4,.int .i64 0] 27)=W:=⟨_,rfl⟩
 obtain⟨gD,hgD⟩:∃g,w4.heap.size=g:=⟨_,rfl⟩
 rw[hV4] at HD R4c P4 HCy HAy HBy HXy P1y P2y P3y
 rw[hgD] at HD
 try rw[hV4]
 try rw[hgD]
 clear hV4 hgD P40 C4 R4b HC HCx HA HAx HB HBx HX HXx P1 P1x P2 P2x P3 P3x
 have HC:=HCy
 have HA:=HAy
 have HB:=HBy
 have HX:=HXy
 have P1:=P1y
 have P2:=P2y
 have P3:=P3y
 clear HCy HAy HBy HXy P1y P2y P3y
 obtain⟨⟨c0,c1,c2,c3,c4,c5⟩,_⟩:=six_of HC.out
 obtain⟨⟨a_0,a_1,a_2,a_3⟩,_⟩:=four_of HA.out
 obtain⟨⟨b_0,b_1,b_2,b_3⟩,_⟩:=four_of HB.out
 obtain⟨⟨x_0,x_1,x_2,x_3⟩,_⟩:=four_of HX.out
 obtain⟨⟨d_0,d_1,d_2,d_3⟩,_⟩:=four_of HD.out
 go_upto_region 7 with (fail)
 clear c0 c1 c2 c3 c4 c5 a_0 a_1 a_2 a_3 b_0 b_1 b_2 b_3 x_0 x_1 x_2 x_3 d_0 d_1 d_2 d_3
 have HQ:=yH ((Bk.new V4 3 #[.int .i64 500,.int .i64 600,.int .i64 500]).alloc (.cells #[.int .i64 500,.int .i64 10,.slice (some ⟨V4.heap.size,0,none⟩) 3 3,.int .i64 0] 27))
 have HS:=yH (Bk.new (V4.alloc (.cells #[.int .i64 500,.int .i64 600,.int .i64 500] 3)) 27 #[.int .i64 500,.int .i64 10,.slice (some ⟨V4.heap.size,0,none⟩) 3 3,.int .i64 0])
 have R5a:=yH ((R4c.out.alloc (.cells #[.int .i64 500,.int .i64 600,.int .i64 500] 3)).alloc (.cells #[.int .i64 500,.int .i64 10,.slice (some ⟨V4.heap.size,0,none⟩) 3 3,.int .i64 0] 27))
 rw[World.size_alloc] at HS
 have HCy:=yH ((HC.out.alloc (.cells #[.int .i64 500,.int .i64 600,.int .i64 500] 3)).alloc (.cells #[.int .i64 500,.int .i64 10,.slice (some ⟨V4.heap.size,0,none⟩) 3 3,.int .i64 0] 27))
 have HAy:=yH ((HA.out.alloc (.cells #[.int .i64 500,.int .i64 600,.int .i64 500] 3)).alloc (.cells #[.int .i64 500,.int .i64 10,.slice (some ⟨V4.heap.size,0,none⟩) 3 3,.int .i64 0] 27))
 have HBy:=yH ((HB.out.alloc (.cells #[.int .i64 500,.int .i64 600,.int .i64 500] 3)).alloc (.cells #[.int .i64 500,.int .i64 10,.slice (some ⟨V4.heap.size,0,none⟩) 3 3,.int .i64 0] 27))
 have HXy:=yH ((HX.out.alloc (.cells #[.int .i64 500,.int .i64 600,.int .i64 500] 3)).alloc (.cells #[.int .i64 500,.int .i64 10,.slice (some ⟨V4.heap.size,0,none⟩) 3 3,.int .i64 0] 27))
 have HDy:=yH ((HD.out.alloc (.cells #[.int .i64 500,.int .i64 600,.int .i64 500] 3)).alloc (.cells #[.int .i64 500,.int .i64 10,.slice (some ⟨V4.heap.size,0,none⟩) 3 3,.int .i64 0] 27))
 have P1y:=yH (P1.out.rel ((R4c.out.self.alloc (.cells #[.int .i64 500,.int .i64 600,.int .i64 500] 3)).alloc (.cells #[.int .i64 500,.int .i64 10,.slice (some ⟨V4.heap.size,0,none⟩) 3 3,.int .i64 0] 27)))
 have P2y:=yH (P2.out.rel ((R4c.out.self.alloc (.cells #[.int .i64 500,.int .i64 600,.int .i64 500] 3)).alloc (.cells #[.int .i64 500,.int .i64 10,.slice (some ⟨V4.heap.size,0,none⟩) 3 3,.int .i64 0] 27)))
 have P3y:=yH (P3.out.rel ((R4c.out.self.alloc (.cells #[.int .i64 500,.int .i64 600,.int .i64 500] 3)).alloc (.cells #[.int .i64 500,.int .i64 10,.slice (some ⟨V4.heap.size,0,none⟩) 3 3,.int .i64 0] 27)))
 have P4y:=yH (P4.out.rel ((R4c.out.self.alloc (.cells #[.int .i64 500,.int .i64 600,.int .i64 500] 3)).alloc (.cells #[.int .i64 500,.int .i64 10,.slice (some ⟨V4.heap.size,0,none⟩) 3 3,.int .i64 0] 27)))
 obtain⟨V5,hV5⟩:∃W,(V4.alloc (.cells #[.int .i64 500,.int .i64 600,.int .i64 500] 3)).alloc (.cells #[.int .i64 500,.int .i64 10,.slice (some ⟨V4.heap.size,0,none⟩) 3 3,.int .i64 0] 27)=W:=⟨_,rfl⟩
 rw[hV5] at HQ HS R5a HCy HAy HBy HXy HDy P1y P2y P3y P4y
 try rw[hV5]
 obtain⟨gS,hgS⟩:∃g,V4.heap.size+1=g:=⟨_,rfl⟩
 rw[hgS] at HS
 try rw[hgS]
 obtain⟨gR,hgR⟩:∃g,V4.heap.size=g:=⟨_,rfl⟩
 rw[hgR] at HQ HS
 try rw[hgR]
 clear hV5 hgS hgR HC HA HB HX HD P1 P2 P3 P4
 have HC:=HCy
 have HA:=HAy
 have HB:=HBy
 have HX:=HXy
 have HD:=HDy
 have P1:=P1y
 have P2:=P2y
 have P3:=P3y
 have P4:=P4y
 clear HCy HAy HBy HXy HDy P1y P2y P3y P4y
 have PS:=yH (show PaAt V5 (500,10,[500,600,500],0) (some ⟨gR,0,none⟩) 3 3 from⟨rfl,⟨⟨by decide,by decide⟩,⟨by decide,by decide⟩,⟨by decide,by decide⟩⟩,ints_three15 HQ.out ⟨by decide,by decide⟩ ⟨by decide,by decide⟩ ⟨by decide,by decide⟩⟩)
 clear HQ
 obtain⟨⟨c0,c1,c2,c3,c4,c5⟩,_⟩:=six_of HC.out
 obtain⟨⟨a_0,a_1,a_2,a_3⟩,_⟩:=four_of HA.out
 obtain⟨⟨b_0,b_1,b_2,b_3⟩,_⟩:=four_of HB.out
 obtain⟨⟨x_0,x_1,x_2,x_3⟩,_⟩:=four_of HX.out
 obtain⟨⟨d_0,d_1,d_2,d_3⟩,_⟩:=four_of HD.out
 obtain⟨⟨s_0,s_1,s_2,s_3⟩,_⟩:=four_of HS.out
 have C6:=yH (K5.out V5 (some ⟨gR,0,none⟩) 3 3 R5a.out.self PS.out)
 go_upto_region 8 with (go_at_call 15;(with_reducible refine C6.out.mono ?_);rintro e w6 ⟨A6,n6,k6,rfl,P60,h6⟩;have R6b:=yH (R5a.out.trans h6.out);have HCx:=yH (HC.out.rel h6.out);have HAx:=yH (HA.out.rel h6.out);have HBx:=yH (HB.out.rel h6.out);have HXx:=yH (HX.out.rel h6.out);have HDx:=yH (HD.out.rel h6.out);have HSx:=yH (HS.out.rel h6.out);have P1x:=yH (P1.out.rel h6.out);have P2x:=yH (P2.out.rel h6.out);have P3x:=yH (P3.out.rel h6.out);have P4x:=yH (P4.out.rel h6.out);have PSx:=yH (PS.out.rel h6.out);clear h6)
 clear c0 c1 c2 c3 c4 c5 a_0 a_1 a_2 a_3 b_0 b_1 b_2 b_3 x_0 x_1 x_2 x_3 d_0 d_1 d_2 d_3 s_0 s_1 s_2 s_3
 have HF:=yH (Bk.new w6 27 #[.int .i64 600,.int .i64 14,.slice A6 n6 k6,.int .i64 1])
 have R6c:=yH (R6b.out.alloc (.cells #[.int .i64 600,.int .i64 14,.slice A6 n6 k6,.int .i64 1] 27))
 have P6:=yH (P60.out.rel (R6b.out.self.alloc (.cells #[.int .i64 600,.int .i64 14,.slice A6 n6 k6,.int .i64 1] 27)))
 have HCy:=yH (HCx.out.alloc (.cells #[.int .i64 600,.int .i64 14,.slice A6 n6 k6,.int .i64 1] 27))
 have HAy:=yH (HAx.out.alloc (.cells #[.int .i64 600,.int .i64 14,.slice A6 n6 k6,.int .i64 1] 27))
 have HBy:=yH (HBx.out.alloc (.cells #[.int .i64 600,.int .i64 14,.slice A6 n6 k6,.int .i64 1] 27))
 have HXy:=yH (HXx.out.alloc (.cells #[.int .i64 600,.int .i64 14,.slice A6 n6 k6,.int .i64 1] 27))
 have HDy:=yH (HDx.out.alloc (.cells #[.int .i64 600,.int .i64 14,.slice A6 n6 k6,.int .i64 1] 27))
 have HSy:=yH (HSx.out.alloc (.cells #[.int .i64 600,.int .i64 14,.slice A6 n6 k6,.int .i64 1] 27))
 have P1y:=yH (P1x.out.rel (R6b.out.self.alloc (.cells #[.int .i64 600,.int .i64 14,.slice A6 n6 k6,.int .i64 1] 27)))
 have P2y:=yH (P2x.out.rel (R6b.out.self.alloc (.cells #[.int .i64 600,.int .i64 14,.slice A6 n6 k6,.int .i64 1] 27)))
 have P3y:=yH (P3x.out.rel (R6b.out.self.alloc (.cells #[.int .i64 600,.int .i64 14,.slice A6 n6 k6,.int .i64 1] 27)))
 have P4y:=yH (P4x.out.rel (R6b.out.self.alloc (.cells #[.int .i64 600,.int .i64 14,.slice A6 n6 k6,.int .i64 1] 27)))
 have PSy:=yH (PSx.out.rel (R6b.out.self.alloc (.cells #[.int .i64 600,.int .i64 14,.slice A6 n6 k6,.int .i64 1] 27)))
 obtain⟨V6,hV6⟩:∃W,w6.alloc (.cells #[.int .i64 600,.int .i64 14,.slice A6 n6 k6,.int .i64 1] 27)=W:=⟨_,rfl⟩
 obtain⟨gF,hgF⟩:∃g,w6.heap.size=g:=⟨_,rfl⟩
 rw[hV6] at HF R6c P6 HCy HAy HBy HXy HDy HSy P1y P2y P3y P4y PSy
 rw[hgF] at HF
 try rw[hV6]
 try rw[hgF]
 clear hV6 hgF P60 C6 R6b HC HCx HA HAx HB HBx HX HXx HD HDx HS HSx P1 P1x P2 P2x P3 P3x P4 P4x PS PSx
 have HC:=HCy
 have HA:=HAy
 have HB:=HBy
 have HX:=HXy
 have HD:=HDy
 have HS:=HSy
 have P1:=P1y
 have P2:=P2y
 have P3:=P3y
 have P4:=P4y
 have PS:=PSy
 clear HCy HAy HBy HXy HDy HSy P1y P2y P3y P4y PSy
 obtain rfl:n4=2:=P4.out.1.symm
 obtain⟨⟨c0,c1,c2,c3,c4,c5⟩,_⟩:=six_of HC.out
 obtain⟨⟨a_0,a_1,a_2,a_3⟩,_⟩:=four_of HA.out
 obtain⟨⟨b_0,b_1,b_2,b_3⟩,_⟩:=four_of HB.out
 obtain⟨⟨x_0,x_1,x_2,x_3⟩,_⟩:=four_of HX.out
 obtain⟨⟨d_0,d_1,d_2,d_3⟩,_⟩:=four_of HD.out
 obtain⟨⟨s_0,s_1,s_2,s_3⟩,_⟩:=four_of HS.out
 obtain⟨⟨f_0,f_1,f_2,f_3⟩,_⟩:=four_of HF.out
 go_wp2_with (first
  |(go_at_call 12;(with_reducible refine(KR1.out V6 A1 n1 k1 R6c.out.self P1.out).mono ?_);rintro e w21 ⟨rfl,h1⟩;have Z1:=yH h1.out;clear h1;obtain⟨⟨c0,c1,c2,c3,c4,c5⟩,_⟩:=six_of (HC.out.rel Z1.out);obtain⟨⟨a_0,a_1,a_2,a_3⟩,_⟩:=four_of (HA.out.rel Z1.out);obtain⟨⟨b_0,b_1,b_2,b_3⟩,_⟩:=four_of (HB.out.rel Z1.out);obtain⟨⟨x_0,x_1,x_2,x_3⟩,_⟩:=four_of (HX.out.rel Z1.out);obtain⟨⟨d_0,d_1,d_2,d_3⟩,_⟩:=four_of (HD.out.rel Z1.out);obtain⟨⟨s_0,s_1,s_2,s_3⟩,_⟩:=four_of (HS.out.rel Z1.out);obtain⟨⟨f_0,f_1,f_2,f_3⟩,_⟩:=four_of (HF.out.rel Z1.out))
  |(go_at_call 12;(with_reducible refine(KR2.out w21 A6 n6 k6 (R6c.out.trans Z1.out).self (P6.out.rel Z1.out)).mono ?_);rintro e w22 ⟨rfl,h2⟩;have Z2:=yH (Z1.out.trans h2.out);clear h2;obtain⟨⟨c0,c1,c2,c3,c4,c5⟩,_⟩:=six_of (HC.out.rel Z2.out);obtain⟨⟨a_0,a_1,a_2,a_3⟩,_⟩:=four_of (HA.out.rel Z2.out);obtain⟨⟨b_0,b_1,b_2,b_3⟩,_⟩:=four_of (HB.out.rel Z2.out);obtain⟨⟨x_0,x_1,x_2,x_3⟩,_⟩:=four_of (HX.out.rel Z2.out);obtain⟨⟨d_0,d_1,d_2,d_3⟩,_⟩:=four_of (HD.out.rel Z2.out);obtain⟨⟨s_0,s_1,s_2,s_3⟩,_⟩:=four_of (HS.out.rel Z2.out);obtain⟨⟨f_0,f_1,f_2,f_3⟩,_⟩:=four_of (HF.out.rel Z2.out))
  |(go_at_call 10;(with_reducible refine(KG1.out w22 A1 n1 k1 (R6c.out.trans Z2.out).self (P1.out.rel Z2.out)).mono ?_);rintro e w23 ⟨rfl,h3⟩;have Z3:=yH (Z2.out.trans h3.out);clear h3;obtain⟨⟨c0,c1,c2,c3,c4,c5⟩,_⟩:=six_of (HC.out.rel Z3.out);obtain⟨⟨a_0,a_1,a_2,a_3⟩,_⟩:=four_of (HA.out.rel Z3.out);obtain⟨⟨b_0,b_1,b_2,b_3⟩,_⟩:=four_of (HB.out.rel Z3.out);obtain⟨⟨x_0,x_1,x_2,x_3⟩,_⟩:=four_of (HX.out.rel Z3.out);obtain⟨⟨d_0,d_1,d_2,d_3⟩,_⟩:=four_of (HD.out.rel Z3.out);obtain⟨⟨s_0,s_1,s_2,s_3⟩,_⟩:=four_of (HS.out.rel Z3.out);obtain⟨⟨f_0,f_1,f_2,f_3⟩,_⟩:=four_of (HF.out.rel Z3.out))
  |(go_at_call 10;(with_reducible refine(KG2.out w23 (R6c.out.trans Z3.out).self).mono ?_);rintro e w24 ⟨rfl,h4⟩;have Z4:=yH (Z3.out.trans h4.out);clear h4;obtain⟨⟨c0,c1,c2,c3,c4,c5⟩,_⟩:=six_of (HC.out.rel Z4.out);obtain⟨⟨a_0,a_1,a_2,a_3⟩,_⟩:=four_of (HA.out.rel Z4.out);obtain⟨⟨b_0,b_1,b_2,b_3⟩,_⟩:=four_of (HB.out.rel Z4.out);obtain⟨⟨x_0,x_1,x_2,x_3⟩,_⟩:=four_of (HX.out.rel Z4.out);obtain⟨⟨d_0,d_1,d_2,d_3⟩,_⟩:=four_of (HD.out.rel Z4.out);obtain⟨⟨s_0,s_1,s_2,s_3⟩,_⟩:=four_of (HS.out.rel Z4.out);obtain⟨⟨f_0,f_1,f_2,f_3⟩,_⟩:=four_of (HF.out.rel Z4.out)))
 go_ret
 exact⟨rfl,R6c.out.trans Z4.out⟩
section
variable {α:Type} {cl:α→List Value} {k:Nat}
theorem flat_len(hk:∀x,(cl x).length=k)(xs:List α):(xs.flatMap cl).length=xs.length*k:=by
 induction xs with
 |nil=>simp
 |cons e t ih=>rw[List.flatMap_cons,List.length_append,ih,hk,List.length_cons,Nat.succ_mul];omega
theorem flat_at(hk:∀x,(cl x).length=k)(xs:List α)(i:Nat)(h:i<xs.length)(j:Nat)(hj:j<k):(xs.flatMap cl)[i*k+j]?=(cl xs[i])[j]?:=by
 induction xs generalizing i with
 |nil=>simp at h
 |cons e t ih=>
  rw[List.flatMap_cons]
  cases i with
  |zero=>rw[Nat.zero_mul,Nat.zero_add,List.getElem?_append_left (by rw[hk];exact hj)];rfl
  |succ i=>
   rw[List.getElem?_append_right (by rw[hk,Nat.succ_mul];omega),hk,show(i+1)*k+j-k=i*k+j by rw[Nat.succ_mul];omega]
   exact ih i (by simpa using h)
def RowAt(cl:α→List Value)(k:Nat)(w:World)(A:Option Addr)(xs:List α):Prop:=
 ∀i (h:i<xs.length),∃(g off:Nat),A=some ⟨g,off,none⟩∧g<w.heap.size∧∀j,j<k→w.cell? ⟨g,off+i*k+j,none⟩=(cl xs[i])[j]?
theorem RowAt.nil(w:World)(A:Option Addr):RowAt cl k w A []:=fun i h=>absurd h (by simp)
theorem RowAt.below{w w':World}{A:Option Addr}{xs:List α}(h:RowAt cl k w A xs)(hb:Below w.heap.size w w'):RowAt cl k w' A xs:=by
 intro i hi
 obtain⟨g,off,e,hl,h0⟩:=h i hi
 exact⟨g,off,e,by have:=hb.size;omega,fun j hj=>(hb.cell (p:=⟨g,off+i*k+j,none⟩) hl).trans (h0 j hj)⟩
theorem RowAt.rel{w w':World}{A:Option Addr}{xs:List α}(h:RowAt cl k w A xs)(hr:Rel w w'):RowAt cl k w' A xs:=h.below hr.2
theorem RowAt.take{w:World}{A:Option Addr}{xs:List α}(h:RowAt cl k w A xs)(n:Nat):RowAt cl k w A (xs.take n):=by
 intro i hi
 rw[List.length_take] at hi
 obtain⟨g,off,e,hl,h0⟩:=h i (by omega)
 exact⟨g,off,e,hl,fun j hj=>by rw[List.getElem_take];exact h0 j hj⟩
theorem RowAt.from{w:World}{g off:Nat}{xs:List α}(h:RowAt cl k w (some ⟨g,off,none⟩) xs)(n:Nat):RowAt cl k w (some ⟨g,off+n*k,none⟩) (xs.drop n):=by
 intro i hi
 rw[List.length_drop] at hi
 obtain⟨g',off',e,hl,h0⟩:=h (n+i) (by omega)
 injection e with e
 injection e with e1 e2
 subst e1;subst e2
 refine⟨g,off+n*k,rfl,hl,fun j hj=> ?_⟩
 rw[List.getElem_drop,show off+n*k+i*k+j=off+(n+i)*k+j by rw[Nat.add_mul];omega]
 exact h0 j hj
theorem RowAt.of_bk(hk:∀x,(cl x).length=k){T:TypeId}{w:World}{g:Nat}{xs:List α}(h:Bk w g T (xs.flatMap cl).toArray):RowAt cl k w (some ⟨g,0,none⟩) xs:=by
 intro i hi
 refine⟨g,0,rfl,h.lt,fun j hj=> ?_⟩
 rw[Nat.zero_add,h.cell,List.getElem?_toArray,flat_at hk xs i hi j hj]
def RowOwn(T:TypeId)(cl:α→List Value)(k:Nat)(w:World)(base:Nat)(v:Value)(xs:List α):Prop:=w.ownsRow base T k v xs.length (xs.flatMap cl)
theorem RowOwn.row{T:TypeId}{w:World}{base:Nat}{v:Value}{xs:List α}(h:RowOwn T cl k w base v xs):w.ownsRow base T k v xs.length (xs.flatMap cl):=h
theorem RowOwn.nil(T:TypeId)(w:World)(base:Nat):RowOwn T cl k w base (.slice none 0 0) []:=World.ownsRow_nil _ _ _ _
theorem RowOwn.rel{T:TypeId}{w w':World}{base:Nat}{v:Value}{xs:List α}(h:RowOwn T cl k w base v xs)(hr:Rel w w'):RowOwn T cl k w' base v xs:=own_rel h hr
theorem RowOwn.slice_of{T:TypeId}{w:World}{base:Nat}{v:Value}{xs:List α}(h:RowOwn T cl k w base v xs):∃A c,v= .slice A xs.length c∧c≤maxLen:=own_slice h.row
theorem RowOwn.at{T:TypeId}(hk:∀x,(cl x).length=k){w:World}{base:Nat}{A:Option Addr}{n c:Nat}{xs:List α}(h:RowOwn T cl k w base (.slice A n c) xs)(hn:n=xs.length):RowAt cl k w A xs:=by
 intro i hi
 rcases h.2 with ⟨h0,h1⟩|⟨g,cap,cur,hv,hb,hh,_⟩
 ·omega
 ·have hA:A=some ⟨g,0,none⟩:=by injection hv
  have hc:=h.row.cells (g:=g) (by rw[hA];rfl)
  refine⟨g,0,hA,Bk.lt (t:=T) hh,fun j hj=> ?_⟩
  have hlt:j<(cl xs[i]).length:=by rw[hk];exact hj
  have e:=flat_at hk xs i hi j hj
  rw[List.getElem?_eq_getElem hlt] at e⊢
  have q:=hc _ _ e
  rw[addr_at,Nat.zero_add] at q
  rw[Nat.zero_add];exact q
theorem flat_snoc(xs:List α)(x:α):(xs++[x]).flatMap cl=xs.flatMap cl++cl x:=by simp
theorem RowOwn.more{T:TypeId}{w1:World}{base g cap n:Nat}{xs:List α}{x:α}(hn:xs.length=n)(h:w1.ownsRow base T k (.slice (some ⟨g,0,none⟩) (n+1) cap) (n+1) (xs.flatMap cl++cl x)):RowOwn T cl k w1 base (.slice (some ⟨g,0,none⟩) (n+1) cap) (xs++[x]):=by
 subst hn
 unfold RowOwn
 rw[flat_snoc,show(xs++[x]).length=xs.length+1 by simp];exact h
theorem RowOwn.copied{T:TypeId}{w1:World}{base g cap n:Nat}{xs:List α}(hn:xs.length=n)(h:w1.ownsRow base T k (.slice (some ⟨g,0,none⟩) (0+n) cap) (0+n) ([]++xs.flatMap cl)):RowOwn T cl k w1 base (.slice (some ⟨g,0,none⟩) n cap) xs:=by
 subst hn
 rw[Nat.zero_add,List.nil_append] at h
 exact h
end
abbrev clI15(x:Int):List Value:=[.int .i64 x]
theorem clI_flat(L:List Int):L.flatMap clI15=L.map fun x=>Value.int .i64 x:=by
 induction L with
 |nil=>rfl
 |cons a t ih=>rw[List.flatMap_cons,ih];rfl
theorem ints_at15{w:World}{A:Option Addr}{k:Nat}{L:List Int}(h:RowAt clI15 1 w A L)(hl:L.length≤k)(hk:k≤maxLen)(hz:∀z∈L,i64 z):IntsIn w A k L:=by
 refine⟨hl,hk,hz,fun i hi=> ?_⟩
 obtain⟨g,off,rfl,hg,hc⟩:=h i hi
 have h0:w.cell? ⟨g,off+i*1+0,none⟩=some (.int .i64 L[i]):=hc 0 (by decide)
 refine⟨⟨g,off,none⟩,rfl,hg, ?_⟩
 by_cases e:i=0
 ·subst e;exact h0
 ·have:(⟨g,off,none⟩:Addr).add i=⟨g,off+i*1+0,none⟩:=by simp[Addr.add,e]
  rw[this];exact h0
theorem own_le15{w:World}{base:Nat}{e:TypeId}{size n c:Nat}{A:Option Addr}{xs:List Value}(h:w.ownsRow base e size (.slice A n c) n xs):n≤c:=by
 rcases h.2 with ⟨hv,rfl⟩|⟨g,cap,cur,hv,_,_,hl,_⟩
 ·exact Nat.zero_le _
 ·injection hv with _ _ hc;omega
theorem row_ints15{T:TypeId}{w:World}{base:Nat}{v:Value}{L:List Int}(h:w.ownsRow base T 1 v L.length (L.map fun x=>Value.int .i64 x))(hz:∀z∈L,i64 z):∃A k,v= .slice A L.length k∧IntsIn w A k L∧∀a,A=some a→base≤a.block∧a.block<w.heap.size:=by
 have ho:RowOwn T clI15 1 w base v L:=by unfold RowOwn;rw[clI_flat];exact h
 obtain⟨A,c,rfl,hc⟩:=ho.slice_of
 have hat:=RowOwn.at (cl:=clI15) (k:=1) (fun _=>rfl) ho rfl
 have hlen:L.length≤c:=own_le15 h
 refine⟨A,c,rfl,ints_at15 hat hlen hc hz,fun a ha=> ?_⟩
 rcases h.2 with ⟨hv,_⟩|⟨g,cap,cur,hv,hb,hh,_⟩
 ·injection hv with hA _ _;rw[hA] at ha;cases ha
 ·injection hv with hA _ _;rw[hA] at ha;injection ha with ha;subst ha;exact⟨hb,Bk.lt (t:=T) hh⟩
theorem IntsIn.grown15{w w':World}{row:Option Nat}{A:Option Addr}{k:Nat}{L:List Int}(h:IntsIn w A k L)(hg:w.grownBy w' row)(hne:∀a,A=some a→some a.block≠row):IntsIn w' A k L:=by
 refine⟨h.1,h.2.1,h.2.2.1,fun i hi=> ?_⟩
 obtain⟨a,ha,hl,hc⟩:=h.2.2.2 i hi
 refine⟨a,ha,Nat.lt_of_lt_of_le hl hg.size, ?_⟩
 rw[World.cell?_of_block (w:=w) (by rw[block_add];exact hg.block a.block hl (hne a ha))]
 exact hc
theorem IntsIn.put4{w:World}{A:Option Addr}{k g:Nat}{L:List Int}(h:IntsIn w A k L)(hne:∀a,A=some a→a.block≠g)(a b c d:Value):IntsIn ((((w.setCell ⟨g,0,none⟩ a).setCell ⟨g,1,none⟩ b).setCell ⟨g,2,none⟩ c).setCell ⟨g,3,none⟩ d) A k L:=
 h.grown15 (put4_grown w g a b c d) (fun x hx e=>hne x hx (by injection e))
theorem conf15_open(r0 r1 r2 r3 r4 r5:Int)(h0:i64 r0)(h1:i64 r1)(h2:i64 r2)(h3:i64 r3)(h4:i64 r4)(h5:i64 r5):∃(f c m o b:Int)(t:List UInt8)(S:ByteArray),B t=S∧checkC (f,c,m,o,b,t)=0∧CfFit (f,c,m,o,b,t)∧(1≤f∧f≤1500∧f≤c∧c≤3500∧0≤m∧m≤c∧0≤o∧o≤12∧0≤b∧b≤60)∧
  ∀(w:World),Rel w w→Calls Tryz.prog 9 #[.agg #[.int .i64 r0,.int .i64 r1,.int .i64 r2,.int .i64 r3,.int .i64 r4,.int .i64 r5],.slice none 0 0] w fun e w'=>e= .returned (.agg #[.int .i64 f,.int .i64 c,.int .i64 m,.int .i64 o,.int .i64 b,.string S])∧Hid (Rel w w'):=by
 have hz:=raw_zero r0 r1 r2 r3 r4 r5 []
 have hC:=fun w hr=>config14_any r0 r1 r2 r3 r4 r5 [] none 0 w hr (ints_nil15 w) h0 h1 h2 h3 h4 h5
 have hb:1≤flC (confR r0 r1 r2 r3 r4 r5 [])∧flC (confR r0 r1 r2 r3 r4 r5 [])≤1500∧ceC (confR r0 r1 r2 r3 r4 r5 [])≤3500∧coC (confR r0 r1 r2 r3 r4 r5 [])≤12∧bdC (confR r0 r1 r2 r3 r4 r5 [])≤60:=by
  have p0:=pk_bd r0 1500 (by omega)
  have p1:=pk_bd r1 2000 (by omega)
  have p3:=pk_bd r3 12 (by omega)
  have p4:=pk_bd r4 60 (by omega)
  show 1≤1+pk r0 1500∧1+pk r0 1500≤1500∧1+pk r0 1500+pk r1 2000≤3500∧pk r3 12≤12∧rawB r4≤60
  have hb:0≤rawB r4∧rawB r4<60:=by
   unfold rawB
   split
   ·omega
   ·exact p4
  omega
 obtain⟨⟨f,c,m,o,b,t⟩,hc⟩:∃c,confR r0 r1 r2 r3 r4 r5 []=c:=⟨_,rfl⟩
 rw[hc] at hz hC hb
 have hn:=nums_iff.1 (check_zero.1 hz).1
 have hl:=textE_len (check_zero.1 hz).2
 obtain⟨n0,n1,n2,n3,n4,n5,n6,n7,n8⟩:=hn
 obtain⟨b0,b1,b2,b3,b4⟩:=hb
 replace n0:1≤f:=n0
 replace n1:f≤c:=n1
 replace n3:0≤m:=n3
 replace n4:m≤c:=n4
 replace n5:0≤o:=n5
 replace n7:0≤b:=n7
 replace b0:1≤f:=b0
 replace b1:f≤1500:=b1
 replace b2:c≤3500:=b2
 replace b3:o≤12:=b3
 replace b4:b≤60:=b4
 replace hl:t.length≤2000:=hl
 refine⟨f,c,m,o,b,t,B t,rfl,hz,⟨⟨⟨by show _≤f;omega,by show f≤_;omega⟩,⟨by show _≤c;omega,by show c≤_;omega⟩,⟨by show _≤m;omega,by show m≤_;omega⟩,⟨by show _≤o;omega,by show o≤_;omega⟩,⟨by show _≤b;omega,by show b≤_;omega⟩⟩,by show t.length≤_;omega⟩,⟨b0,b1,n1,b2,n3,n4,n5,b3,n7,b4⟩,fun w hr=> ?_⟩
 exact(hC w hr).mono fun e w' h=>⟨h.1,yH h.2⟩
end Go.Proofs.YtjhjdiaomnpkmaaGreatDoor
