/- The law on all that config tells. -/

import Derived.Test.YtfekhbeaphpelaaGreatDoorY13
set_option maxRecDepth 100000
set_option maxHeartbeats 8000000
set_option linter.unusedVariables false
set_option linter.unusedSimpArgs false
namespace Go.Proofs.YtfekhbeaphpelaaGreatDoor
open Go.RowKit Go.Lib
theorem rwit_at{f c m o b p:Int}{t:List UInt8}{S:ByteArray}{E:Bool}(hS:B t=S)(hf:CfFit (f,c,m,o,b,t))(hE:withinC (f,c,m,o,b,t) p=E)(w:World)(hr:Rel w w):
  Calls Tryz.prog 16 #[.agg #[yI f,yI c,yI m,yI o,yI b,.string S],yI p] w fun e w'=>e= .returned (.bool E)∧Hid (Rel w w'):=by
 rw[←hE]
 exact(rwithin_any (f,c,m,o,b,t) p S hS hf w hr).mono fun e w' ⟨he,h2⟩=>⟨he,yH h2⟩
theorem rtar_at{f c m o b:Int}{t:List UInt8}{S:ByteArray}(hS:B t=S)(hf:CfFit (f,c,m,o,b,t)){os:List Of}{A:Option Addr}{q:Nat}(N:Nat)(hN:os.length=N){E:Int}{I:Bool}(hE:targN (f,c,m,o,b,t) os=E)(hI:targI (f,c,m,o,b,t) os=I)(w:World)(hr:Rel w w)(ho:OffArg w A q os):
  Calls Tryz.prog 19 #[.agg #[yI f,yI c,yI m,yI o,yI b,.string S],.slice A N q] w fun e w'=>e= .returned (.tuple #[yI E,.bool I])∧Hid (Rel w w'):=by
 rw[←hE,←hI]
 exact(rtarget_any (f,c,m,o,b,t) S hS hf os A q N hN w hr ho).mono fun e w' ⟨he,h2⟩=>⟨he,yH h2⟩
theorem conf_four{w:World}{g:Nat}{f c m o b f1 c1 m1 o1 b1:Int}{S sx:ByteArray}{t u:List UInt8}(hS:B t=S)(hx:B u=sx)(h1:CfFit (f,c,m,o,b,t))(h2:CfFit (f1,c1,m1,o1,b1,u))(h:Bk w g 25 #[yI f,yI c,yI m,yI o,yI b,.string S,yI f1,yI c1,yI m1,yI o1,yI b1,.string sx,yI f,yI c,yI m,yI o,yI b,.string sx,yI f1,yI c1,yI m1,yI o1,yI b1,.string ⟨#[108,111,119,101,115,116]⟩])(j:Nat)(hj:j<4):
  ∃(F C M O D:Int)(Z:ByteArray)(v:List UInt8),w.cell? ⟨g,j*6,none⟩=some (yI F)∧w.cell? ⟨g,j*6+1,none⟩=some (yI C)∧w.cell? ⟨g,j*6+2,none⟩=some (yI M)∧w.cell? ⟨g,j*6+3,none⟩=some (yI O)∧w.cell? ⟨g,j*6+4,none⟩=some (yI D)∧w.cell? ⟨g,j*6+5,none⟩=some (.string Z)∧B v=Z∧CfFit (F,C,M,O,D,v):=by
 have:j=0∨j=1∨j=2∨j=3:=by omega
 rcases this with rfl|rfl|rfl|rfl
 ·exact⟨f,c,m,o,b,S,t,h.cell 0,h.cell 1,h.cell 2,h.cell 3,h.cell 4,h.cell 5,hS,h1⟩
 ·exact⟨f1,c1,m1,o1,b1,sx,u,h.cell 6,h.cell 7,h.cell 8,h.cell 9,h.cell 10,h.cell 11,hx,h2⟩
 ·exact⟨f,c,m,o,b,sx,u,h.cell 12,h.cell 13,h.cell 14,h.cell 15,h.cell 16,h.cell 17,hx,⟨h1.1,h2.2⟩⟩
 ·exact⟨f1,c1,m1,o1,b1,⟨#[108,111,119,101,115,116]⟩,[108,111,119,101,115,116],h.cell 18,h.cell 19,h.cell 20,h.cell 21,h.cell 22,h.cell 23,rfl,⟨h2.1,(by decide:6≤9223372036854775807)⟩⟩
theorem ConfigTells_at(H:ConfOk)(r0 r1 r2 r3 r4 r5:Int)(L:List Int)(A:Option Addr)(k:Nat)(f1 c1 m1 o1 b1:Int)(u:List UInt8)(sx:ByteArray)(hx:B u=sx)(hfx:CfFit (f1,c1,m1,o1,b1,u))(zs:List (Int×Int))(AZ:Option Addr)(kz:Nat)(os2:List Of)(AO:Option Addr)(kO nO:Nat)(hnO:os2.length=nO)(price:Int)(hp:i64 price)(w:World)(hr:Rel w w)(hi:IntsIn w A k L)(hZ:PairsIn w AZ zs.length zs)(hO:OffArg w AO kO os2)(h0:i64 r0)(h1:i64 r1)(h2:i64 r2)(h3:i64 r3)(h4:i64 r4)(h5:i64 r5):
  Calls Tryz.prog 3 #[.agg #[yI r0,yI r1,yI r2,yI r3,yI r4,yI r5],.slice A L.length k,.agg #[yI f1,yI c1,yI m1,yI o1,yI b1,.string sx],.slice AZ zs.length kz,.slice AO nO kO,yI price] w fun e w'=>e= .returned (.bool true)∧Rel w w':=by
 have HR:=yH hr
 obtain⟨f,c,m,o,b,t,S,hS,hz,hf,_,hC⟩:=conf14_open r0 r1 r2 r3 r4 r5 L h0 h1 h2 h3 h4 h5
 have HCo:=yH (fun(w:World)(hr:Rel w w)(hi:IntsIn w A k L)=>hC A k w hr hi)
 have HAw:=yH (fun(w:World)(hr:Rel w w)=>awake14_any H w hr)
 have HI:=yH hi
 have HH:=yH H
 have HF4:=yH (fun(w:World)(g:Nat)(h:Bk w g 25 #[yI f,yI c,yI m,yI o,yI b,.string S,yI f1,yI c1,yI m1,yI o1,yI b1,.string sx,yI f,yI c,yI m,yI o,yI b,.string sx,yI f1,yI c1,yI m1,yI o1,yI b1,.string ⟨#[108,111,119,101,115,116]⟩])(j:Nat)(hj:j<4)=>conf_four hS hx hf hfx h j hj)
 have HPr:=yH hp
 have HAO:=yH hO
 clear hC h0 h1 h2 h3 h4 h5 H hi hS hz hf hx hfx hp hO
 have HZ:=yH hZ
 obtain⟨os,hos⟩:∃os,offS zs=os:=⟨_,rfl⟩
 have hOf:=fun(w0 w:World)(hr:Rel w0 w)(hz:PairsIn w AZ zs.length zs)=>offers_any AZ kz zs w0 w hr hz
 rw[hos] at hOf
 have HOf:=yH hOf
 have hok:offsOk os=true:=by rw[←hos];exact offS_ok zs
 have HOk:=yH hok
 have h8:=offs_len hok
 have HFit:=yH (offs_fit hok)
 clear hOf hok hos
 clear hZ hr h8 HOk
 go_enter Tryz.func3,Tryz.ntmps3
 go_upto_region 1 with (fail)
 have HA0:=yH (Bk.new (w.alloc (.cells #[yI r0,yI r1,yI r2,yI r3,yI r4,yI r5] 22)) 25 #[yI f1,yI c1,yI m1,yI o1,yI b1,.string sx])
 have HB0:=yH ((Bk.new w 22 #[yI r0,yI r1,yI r2,yI r3,yI r4,yI r5]).alloc (.cells #[yI f1,yI c1,yI m1,yI o1,yI b1,.string sx] 25))
 have R0:=yH ((HR.out.alloc (.cells #[yI r0,yI r1,yI r2,yI r3,yI r4,yI r5] 22)).alloc (.cells #[yI f1,yI c1,yI m1,yI o1,yI b1,.string sx] 25))
 rw[World.size_alloc] at HA0
 obtain⟨W0,hW0⟩:∃W,(w.alloc (.cells #[yI r0,yI r1,yI r2,yI r3,yI r4,yI r5] 22)).alloc (.cells #[yI f1,yI c1,yI m1,yI o1,yI b1,.string sx] 25)=W:=⟨_,rfl⟩
 obtain⟨gA,hgA⟩:∃g,w.heap.size+1=g:=⟨_,rfl⟩
 obtain⟨gR,hgR⟩:∃g,w.heap.size=g:=⟨_,rfl⟩
 rw[hW0] at HB0 HA0 R0
 rw[hgA] at HA0
 rw[hgR] at HB0
 try rw[hW0]
 try rw[hgA]
 try rw[hgR]
 clear hW0 hgA hgR
 go_upto_region 2 with (go_at_call 9;(with_reducible refine(HAw.out W0 R0.out.self).mono ?_);rintro e w1 ⟨rfl,h1⟩;have R1:=yH (R0.out.trans h1);have HB1:=yH (HB0.out.rel h1);have HA1:=yH (HA0.out.rel h1);clear h1)
 clear R0 HB0 HA0 HAw
 obtain⟨⟨r_0,r_1,r_2,r_3,r_4,r_5⟩,⟨r_f0,r_f1,r_f2,r_f3,r_f4,r_f5⟩⟩:=six_of HB1.out
 go_upto_region 3 with (go_at_call 10;(with_reducible refine(HCo.out w1 R1.out.self (HI.out.rel R1.out)).mono ?_);rintro e w2 ⟨rfl,h2⟩;have R2:=yH (R1.out.trans h2.out);have HB2:=yH (HB1.out.rel h2.out);have HA2:=yH (HA1.out.rel h2.out);clear h2)
 clear r_0 r_1 r_2 r_3 r_4 r_5 r_f0 r_f1 r_f2 r_f3 r_f4 r_f5
 clear R1 HB1 HA1
 have HM3:=yH (Bk.new w2 25 #[yI f,yI c,yI m,yI o,yI b,.string S])
 have HB3:=yH (HB2.out.alloc (.cells #[yI f,yI c,yI m,yI o,yI b,.string S] 25))
 have HA3:=yH (HA2.out.alloc (.cells #[yI f,yI c,yI m,yI o,yI b,.string S] 25))
 have R3:=yH (R2.out.alloc (.cells #[yI f,yI c,yI m,yI o,yI b,.string S] 25))
 have nHB3:=Nat.ne_of_lt HB2.out.lt
 have nHA3:=Nat.ne_of_lt HA2.out.lt
 obtain⟨W3,hW3⟩:∃W,w2.alloc (.cells #[yI f,yI c,yI m,yI o,yI b,.string S] 25)=W:=⟨_,rfl⟩
 obtain⟨gM,hgM⟩:∃g,w2.heap.size=g:=⟨_,rfl⟩
 rw[hW3] at HM3 R3 HB3 HA3
 rw[hgM] at HM3 nHB3 nHA3
 have sgM:w.heap.size≤gM:=by rw[←hgM];exact R2.out.size
 try rw[hW3]
 try rw[hgM]
 clear hW3 hgM
 clear HB2 HA2 R2
 obtain⟨⟨x0,x1,x2,x3,x4,x5⟩,⟨xf0,xf1,xf2,xf3,xf4,xf5⟩⟩:=six_of HA3.out
 obtain⟨⟨z0,z1,z2,z3,z4,z5⟩,⟨zf0,zf1,zf2,zf3,zf4,zf5⟩⟩:=six_of HM3.out
 go_upto_region 4 with (fail)
 have HM4:=yH (show Bk (W3.setCell ⟨gM,5,none⟩ (.string sx)) gM 25 #[yI f,yI c,yI m,yI o,yI b,.string sx] from HM3.out.set_ 5 (.string sx))
 have HB4:=yH (HB3.out.far (p:=⟨gM,5,none⟩) nHB3 (.string sx))
 have HA4:=yH (HA3.out.far (p:=⟨gM,5,none⟩) nHA3 (.string sx))
 have R4:=yH (R3.out.setCell (p:=⟨gM,5,none⟩) sgM (.string sx))
 clear x0 x1 x2 x3 x4 x5 xf0 xf1 xf2 xf3 xf4 xf5
 clear z0 z1 z2 z3 z4 z5 zf0 zf1 zf2 zf3 zf4 zf5
 obtain⟨W4,hW4⟩:∃W,W3.setCell ⟨gM,5,none⟩ (.string sx)=W:=⟨_,rfl⟩
 rw[hW4] at HM4 HB4 HA4 R4
 try rw[hW4]
 clear hW4
 clear HM3 HB3 HA3 R3 nHA3 nHB3
 obtain⟨⟨x0,x1,x2,x3,x4,x5⟩,⟨xf0,xf1,xf2,xf3,xf4,xf5⟩⟩:=six_of HA4.out
 go_upto_region 5 with (fail)
 have HO5:=yH (Bk.new W4 25 #[yI f1,yI c1,yI m1,yI o1,yI b1,.string sx])
 have HB5:=yH (HB4.out.alloc (.cells #[yI f1,yI c1,yI m1,yI o1,yI b1,.string sx] 25))
 have HA5:=yH (HA4.out.alloc (.cells #[yI f1,yI c1,yI m1,yI o1,yI b1,.string sx] 25))
 have HM5:=yH (HM4.out.alloc (.cells #[yI f1,yI c1,yI m1,yI o1,yI b1,.string sx] 25))
 have R5:=yH (R4.out.alloc (.cells #[yI f1,yI c1,yI m1,yI o1,yI b1,.string sx] 25))
 have nHB5:=Nat.ne_of_lt HB4.out.lt
 have nHA5:=Nat.ne_of_lt HA4.out.lt
 have nHM5:=Nat.ne_of_lt HM4.out.lt
 obtain⟨W5,hW5⟩:∃W,W4.alloc (.cells #[yI f1,yI c1,yI m1,yI o1,yI b1,.string sx] 25)=W:=⟨_,rfl⟩
 obtain⟨gO,hgO⟩:∃g,W4.heap.size=g:=⟨_,rfl⟩
 rw[hW5] at HO5 R5 HB5 HA5 HM5
 rw[hgO] at HO5 nHB5 nHA5 nHM5
 have sgO:w.heap.size≤gO:=by rw[←hgO];exact R4.out.size
 try rw[hW5]
 try rw[hgO]
 clear hW5 hgO
 clear x0 x1 x2 x3 x4 x5 xf0 xf1 xf2 xf3 xf4 xf5
 clear HB4 HA4 HM4 R4
 obtain⟨⟨x0,x1,x2,x3,x4,x5⟩,⟨xf0,xf1,xf2,xf3,xf4,xf5⟩⟩:=six_of HO5.out
 go_upto_region 6 with (fail)
 have HO6:=yH (show Bk (W5.setCell ⟨gO,5,none⟩ (.string ⟨#[108,111,119,101,115,116]⟩)) gO 25 #[yI f1,yI c1,yI m1,yI o1,yI b1,.string ⟨#[108,111,119,101,115,116]⟩] from HO5.out.set_ 5 (.string ⟨#[108,111,119,101,115,116]⟩))
 have HB6:=yH (HB5.out.far (p:=⟨gO,5,none⟩) nHB5 (.string ⟨#[108,111,119,101,115,116]⟩))
 have HA6:=yH (HA5.out.far (p:=⟨gO,5,none⟩) nHA5 (.string ⟨#[108,111,119,101,115,116]⟩))
 have HM6:=yH (HM5.out.far (p:=⟨gO,5,none⟩) nHM5 (.string ⟨#[108,111,119,101,115,116]⟩))
 have R6:=yH (R5.out.setCell (p:=⟨gO,5,none⟩) sgO (.string ⟨#[108,111,119,101,115,116]⟩))
 clear x0 x1 x2 x3 x4 x5 xf0 xf1 xf2 xf3 xf4 xf5
 obtain⟨W6,hW6⟩:∃W,W5.setCell ⟨gO,5,none⟩ (.string ⟨#[108,111,119,101,115,116]⟩)=W:=⟨_,rfl⟩
 rw[hW6] at HO6 HB6 HA6 HM6 R6
 try rw[hW6]
 clear hW6
 clear HO5 HB5 HA5 HM5 R5 nHA5 nHB5 nHM5
 refine wp_region_held_drew (S:=(fun w'=>Rel W6 w')) (by kernel_rfl) R6.out.self.drew (fun hH=> ?_)
 refine yL [0,1,3,4,5,8] (by kernel_rfl) hH (fun _ _ _ _ _=>id) ?_
 iterate 6
  refine yS rfl rfl (by rfl) ?_ ?_ ?_
  rotate_left
  ·intro w' (h:Rel W6 w');obtain⟨⟨y_0,y_1,y_2,y_3,y_4,y_5⟩,⟨y_f0,y_f1,y_f2,y_f3,y_f4,y_f5⟩⟩:=six_of (HB6.out.rel h);obtain⟨⟨x0,x1,x2,x3,x4,x5⟩,⟨xf0,xf1,xf2,xf3,xf4,xf5⟩⟩:=six_of (HA6.out.rel h);obtain⟨⟨z0,z1,z2,z3,z4,z5⟩,⟨zf0,zf1,zf2,zf3,zf4,zf5⟩⟩:=six_of (HM6.out.rel h);obtain⟨⟨v0,v1,v2,v3,v4,v5⟩,⟨vf0,vf1,vf2,vf3,vf4,vf5⟩⟩:=six_of (HO6.out.rel h);go_simp;try with_reducible rfl
  try simp only[Act.put,yA,yB,yC]
 refine yZ ?_
 refine held_one (j:=2) (by kernel_rfl) rfl (fun K hK=> ?_)
 try simp only[yD,yE,yF]
 rw[if_pos (by rfl)]
 go_simp
 go_at_call 10
 (with_reducible refine(HCo.out _ hH.self (HI.out.rel (R6.out.trans hH))).mono ?_)
 rintro e w7 ⟨rfl,r7⟩
 refine hK.out _ _ (hH.trans r7.out) (fun hH=> ?_)
 clear hK K
 try simp only[Act.put,yA,yB,yC]
 refine held_one (j:=6) (by kernel_rfl) rfl (fun K hK=> ?_)
 try simp only[yD,yE,yF]
 rw[if_pos (by rfl)]
 go_simp
 refine hK.out _ _ (hH.alloc _) (fun hH=> ?_)
 clear hK K
 try simp only[Act.put,yA,yB,yC]
 refine yW 7 40 rfl rfl (by kernel_rfl) (by rfl) hH ?_ (fun _ _ _=>id) ?_ ?_
 rotate_left
 ·intro w' (h:Rel W6 w');obtain⟨⟨y_0,y_1,y_2,y_3,y_4,y_5⟩,⟨y_f0,y_f1,y_f2,y_f3,y_f4,y_f5⟩⟩:=six_of (HB6.out.rel h);obtain⟨⟨x0,x1,x2,x3,x4,x5⟩,⟨xf0,xf1,xf2,xf3,xf4,xf5⟩⟩:=six_of (HA6.out.rel h);obtain⟨⟨z0,z1,z2,z3,z4,z5⟩,⟨zf0,zf1,zf2,zf3,zf4,zf5⟩⟩:=six_of (HM6.out.rel h);obtain⟨⟨v0,v1,v2,v3,v4,v5⟩,⟨vf0,vf1,vf2,vf3,vf4,vf5⟩⟩:=six_of (HO6.out.rel h);go_simp;try with_reducible rfl
 try simp only[Act.put,yA,yB,yC]
 refine wpAnyH_done (by kernel_rfl) ?_ _
 have HS7:=yH (Bk.new w7 25 #[yI f,yI c,yI m,yI o,yI b,.string S,yI f1,yI c1,yI m1,yI o1,yI b1,.string sx,yI f,yI c,yI m,yI o,yI b,.string sx,yI f1,yI c1,yI m1,yI o1,yI b1,.string ⟨#[108,111,119,101,115,116]⟩])
 have R7:=yH (R6.out.trans hH)
 obtain⟨gS,hgS⟩:∃g,w7.heap.size=g:=⟨_,rfl⟩
 obtain⟨wB,hwB⟩:∃W,w7.alloc (.cells #[yI f,yI c,yI m,yI o,yI b,.string S,yI f1,yI c1,yI m1,yI o1,yI b1,.string sx,yI f,yI c,yI m,yI o,yI b,.string sx,yI f1,yI c1,yI m1,yI o1,yI b1,.string ⟨#[108,111,119,101,115,116]⟩] 25)=W:=⟨_,rfl⟩
 rw[hwB] at HS7 R7
 rw[hgS] at HS7
 try rw[hwB]
 try rw[hgS]
 clear hwB hgS hH r7 HO6 HB6 HA6 HM6 R6 HI HCo
 have UB:=yH R7.out.self
 have HAB:=yH (HAO.out.rel R7.out)
 have HZB:=yH (HZ.out.rel9 R7.out)
 clear HAO HZ
 go_wp2_with (fail)
 go_loopw [41] (fun i wr=>∃j:Nat,i=yI (j:Int)∧j≤4∧Hid (Rel wB wr)) (fun i _=>4-(RowKit.intOf i).toNat)
 case atStart=>exact⟨0,rfl,by omega,UB⟩
 case round=>
  obtain⟨j,rfl,hj,HRb⟩:=hrel
  obtain⟨w3,hw3⟩:∃w3,w3=wr:=⟨_,rfl⟩
  subst hw3
  by_cases hlt:j<4
  rotate_left 1
  ·obtain rfl:j=4:=by omega
   go_wp2_with (fail)
   go_ret
   exact⟨rfl,R7.out.trans HRb.out⟩
  have hij:(j:Int)<4:=by omega
  obtain⟨fl,ce,mp,co,bd,Z,v,x0,x1,x2,x3,x4,x5,hZv,hfv⟩:=HF4.out w3 gS (HS7.out.rel HRb.out) j hlt
  have hce:i64 ce:=hfv.1.2.1
  obtain⟨E,hE⟩:∃E,checkC (fl,ce,mp,co,bd,v)=E:=⟨_,rfl⟩
  obtain⟨LL,hLL⟩:∃E,max fl mp=E:=⟨_,rfl⟩
  obtain⟨W1,hW1⟩:∃E,withinC (fl,ce,mp,co,bd,v) price=E:=⟨_,rfl⟩
  obtain⟨W2,hW2⟩:∃E,withinC (fl,ce,mp,co,bd,v) ce=E:=⟨_,rfl⟩
  have KC:=yH (fun(w:World)(hr:Rel w w)=>cchk_at HH.out hZv hfv hE w hr)
  have RC:=yH (fun(w:World)(hr:Rel w w)=>rcheck_at hZv hfv hE w hr)
  have KL:=yH (fun(w:World)(hr:Rel w w)=>clow_at HH.out hZv hfv hLL w hr)
  have RL:=yH (fun(w:World)(hr:Rel w w)=>rlow_at fl ce mp co bd Z LL hLL w hr)
  have KW:=yH (fun(w:World)(hr:Rel w w)=>cwit_at HH.out hZv hfv HPr.out hW1 w hr)
  have RW:=yH (fun(w:World)(hr:Rel w w)=>rwit_at hZv hfv hW1 w hr)
  have KX:=yH (fun(w:World)(hr:Rel w w)=>cwit_at HH.out hZv hfv hce hW2 w hr)
  have RX:=yH (fun(w:World)(hr:Rel w w)=>rwit_at hZv hfv hW2 w hr)
  have HZv:=yH hZv
  have HFv:=yH hfv
  have e1:(E !=E)=false:=by simp
  have e2:(LL !=LL)=false:=by simp
  have e3:(W1 !=W1)=false:=by simp
  have e4:(W2 !=W2)=false:=by simp
  clear hZv hfv hce hE hLL hW1 hW2
  go_upto_region 9 with (fail)
  have HX9:=yH (Bk.new w3 25 #[yI fl,yI ce,yI mp,yI co,yI bd,.string Z])
  have R9:=yH (HRb.out.alloc (.cells #[yI fl,yI ce,yI mp,yI co,yI bd,.string Z] 25))
  obtain⟨gX,hgX⟩:∃g,w3.heap.size=g:=⟨_,rfl⟩
  obtain⟨W9,hW9⟩:∃W,w3.alloc (.cells #[yI fl,yI ce,yI mp,yI co,yI bd,.string Z] 25)=W:=⟨_,rfl⟩
  rw[hW9] at HX9 R9
  rw[hgX] at HX9
  try rw[hW9]
  try rw[hgX]
  clear x0 x1 x2 x3 x4 x5 hW9 hgX
  refine wp_region_held_drew (S:=(fun w'=>Rel W9 w')) (by kernel_rfl) R9.out.self.drew (fun hH=> ?_)
  refine yL [0,2] (by kernel_rfl) hH (fun _ _ _ _ _=>id) ?_
  iterate 2
   refine yS rfl rfl (by rfl) ?_ ?_ ?_
   rotate_left
   ·intro w' (h:Rel W9 w');obtain⟨⟨x0,x1,x2,x3,x4,x5⟩,⟨xf0,xf1,xf2,xf3,xf4,xf5⟩⟩:=six_of (HX9.out.rel h);go_simp;try with_reducible rfl
   try simp only[Act.put,yA,yB,yC]
  refine yZ ?_
  refine held_one (j:=1) (by kernel_rfl) rfl (fun K hK=> ?_)
  try simp only[yD,yE,yF]
  rw[if_pos (by rfl)]
  go_simp
  go_at_call 11
  (with_reducible refine(KC.out _ hH.self).mono ?_)
  rintro e wq ⟨rfl,rq⟩
  refine hK.out _ _ (hH.trans rq.out) (fun hH=> ?_)
  clear hK K
  try simp only[Act.put,yA,yB,yC]
  refine held_one (j:=3) (by kernel_rfl) rfl (fun K hK=> ?_)
  try simp only[yD,yE,yF]
  rw[if_pos (by rfl)]
  go_simp
  go_at_call 12
  (with_reducible refine(RC.out _ hH.self).mono ?_)
  rintro e wq ⟨rfl,rq⟩
  refine hK.out _ _ (hH.trans rq.out) (fun hH=> ?_)
  clear hK K
  try simp only[Act.put,yA,yB,yC]
  refine yL [4,5,6,8] (by kernel_rfl) hH (fun _ _ _ _ _=>id) ?_
  iterate 4
   refine yS rfl rfl (by rfl) ?_ ?_ ?_
   rotate_left
   ·intro w' (h:Rel W9 w');obtain⟨⟨x0,x1,x2,x3,x4,x5⟩,⟨xf0,xf1,xf2,xf3,xf4,xf5⟩⟩:=six_of (HX9.out.rel h);go_simp;try with_reducible rfl
   try simp only[Act.put,yA,yB,yC]
  refine yZ ?_
  refine held_one (j:=7) (by kernel_rfl) rfl (fun K hK=> ?_)
  try simp only[yD,yE,yF]
  rw[if_pos (by rfl)]
  go_simp
  go_at_call 13
  (with_reducible refine(KL.out _ hH.self).mono ?_)
  rintro e wq ⟨rfl,rq⟩
  refine hK.out _ _ (hH.trans rq.out) (fun hH=> ?_)
  clear hK K
  try simp only[Act.put,yA,yB,yC]
  refine held_one (j:=9) (by kernel_rfl) rfl (fun K hK=> ?_)
  try simp only[yD,yE,yF]
  rw[if_pos (by rfl)]
  go_simp
  go_at_call 14
  (with_reducible refine(RL.out _ hH.self).mono ?_)
  rintro e wq ⟨rfl,rq⟩
  refine hK.out _ _ (hH.trans rq.out) (fun hH=> ?_)
  clear hK K
  try simp only[Act.put,yA,yB,yC]
  refine yL [10,11,12,13,14,16,17] (by kernel_rfl) hH (fun _ _ _ _ _=>id) ?_
  iterate 7
   refine yS rfl rfl (by rfl) ?_ ?_ ?_
   rotate_left
   ·intro w' (h:Rel W9 w');obtain⟨⟨x0,x1,x2,x3,x4,x5⟩,⟨xf0,xf1,xf2,xf3,xf4,xf5⟩⟩:=six_of (HX9.out.rel h);go_simp;try with_reducible rfl
   try simp only[Act.put,yA,yB,yC]
  refine yZ ?_
  refine held_one (j:=15) (by kernel_rfl) rfl (fun K hK=> ?_)
  try simp only[yD,yE,yF]
  rw[if_pos (by rfl)]
  go_simp
  go_at_call 15
  (with_reducible refine(KW.out _ hH.self).mono ?_)
  rintro e wq ⟨rfl,rq⟩
  refine hK.out _ _ (hH.trans rq.out) (fun hH=> ?_)
  clear hK K
  try simp only[Act.put,yA,yB,yC]
  refine held_one (j:=18) (by kernel_rfl) rfl (fun K hK=> ?_)
  try simp only[yD,yE,yF]
  rw[if_pos (by rfl)]
  go_simp
  go_at_call 16
  (with_reducible refine(RW.out _ hH.self).mono ?_)
  rintro e wq ⟨rfl,rq⟩
  refine hK.out _ _ (hH.trans rq.out) (fun hH=> ?_)
  clear hK K
  try simp only[Act.put,yA,yB,yC]
  refine yL [19,20,21,22,23,24,26,27,28] (by kernel_rfl) hH (fun _ _ _ _ _=>id) ?_
  iterate 9
   refine yS rfl rfl (by rfl) ?_ ?_ ?_
   rotate_left
   ·intro w' (h:Rel W9 w');obtain⟨⟨x0,x1,x2,x3,x4,x5⟩,⟨xf0,xf1,xf2,xf3,xf4,xf5⟩⟩:=six_of (HX9.out.rel h);go_simp;try with_reducible rfl
   try simp only[Act.put,yA,yB,yC]
  refine yZ ?_
  refine held_one (j:=25) (by kernel_rfl) rfl (fun K hK=> ?_)
  try simp only[yD,yE,yF]
  rw[if_pos (by rfl)]
  go_simp
  go_at_call 15
  (with_reducible refine(KX.out _ hH.self).mono ?_)
  rintro e wq ⟨rfl,rq⟩
  refine hK.out _ _ (hH.trans rq.out) (fun hH=> ?_)
  clear hK K
  try simp only[Act.put,yA,yB,yC]
  refine held_one (j:=29) (by kernel_rfl) rfl (fun K hK=> ?_)
  try simp only[yD,yE,yF]
  rw[if_pos (by rfl)]
  go_simp
  go_at_call 16
  (with_reducible refine(RX.out _ hH.self).mono ?_)
  rintro e wq ⟨rfl,rq⟩
  refine hK.out _ _ (hH.trans rq.out) (fun hH=> ?_)
  clear hK K
  try simp only[Act.put,yA,yB,yC]
  refine yL [30,31] (by kernel_rfl) hH (fun _ _ _ _ _=>id) ?_
  iterate 2
   refine yS rfl rfl (by rfl) ?_ ?_ ?_
   rotate_left
   ·intro w' (h:Rel W9 w');obtain⟨⟨x0,x1,x2,x3,x4,x5⟩,⟨xf0,xf1,xf2,xf3,xf4,xf5⟩⟩:=six_of (HX9.out.rel h);go_simp;try with_reducible rfl
   try simp only[Act.put,yA,yB,yC]
  refine yZ ?_
  refine wpAnyH_done (by kernel_rfl) ?_ _
  obtain⟨wA,hwA⟩:∃W,W=wq:=⟨_,rfl⟩
  subst hwA
  have RA:=yH (R9.out.trans hH)
  have HXA:=yH (HX9.out.rel hH)
  clear hH rq KC RC KL RL KW RW KX RX R9 HX9 e1 e2 e3 e4
  go_upto_block 2 with (go_at_call 17;(with_reducible refine(HOf.out _ _ RA.out.self (HZB.out.rel9 RA.out)).mono ?_);rintro e w4 ⟨A2,c2,rfl,hO,r4⟩;have R4:=yH r4;have HO:=yH (hO.arg HFit.out);clear hO r4)
  have HG:=yH (Bk.new w4 27 #[.slice A2 os.length c2,.slice AO nO kO,.slice none 0 0])
  have RI:=yH (R4.out.alloc (.cells #[.slice A2 os.length c2,.slice AO nO kO,.slice none 0 0] 27))
  have OA:=yH (HO.out.rel (R4.out.self.alloc (.cells #[.slice A2 os.length c2,.slice AO nO kO,.slice none 0 0] 27)))
  have OB:=yH (HAB.out.rel (RA.out.trans RI.out))
  obtain⟨gL,hgL⟩:∃g,w4.heap.size=g:=⟨_,rfl⟩
  obtain⟨wI,hwI⟩:∃W,w4.alloc (.cells #[.slice A2 os.length c2,.slice AO nO kO,.slice none 0 0] 27)=W:=⟨_,rfl⟩
  rw[hwI] at HG RI OA OB
  rw[hgL] at HG
  try rw[hwI]
  try rw[hgL]
  have HXI:=yH (HXA.out.rel RI.out)
  clear hwI hgL R4 HO HXA
  have UI:=yH RI.out.self
  go_wp2_with (fail)
  go_loopw [82] (fun i wr=>∃q:Nat,i=yI (q:Int)∧q≤3∧Hid (Rel wI wr)) (fun i _=>3-(RowKit.intOf i).toNat)
  case atStart=>exact⟨0,rfl,by omega,UI⟩
  case round=>
   obtain⟨q,rfl,hq,HRq⟩:=hrel
   obtain⟨w5,hw5⟩:∃w3,w3=wr:=⟨_,rfl⟩
   subst hw5
   by_cases hltq:q<3
   rotate_left 1
   ·obtain rfl:q=3:=by omega
    go_wp2_with (fail)
    go_roundw
    case rel=>exact⟨j+1,by go_num,by omega,yH (RA.out.trans (RI.out.trans HRq.out))⟩
    case measure=>simp[RowKit.intOf];omega
   have hiq:(q:Int)<3:=by omega
   obtain⟨l,AL,ln,cL,hcell,hln,hAL⟩:∃(l:List Of)(AL:Option Addr)(ln cL:Nat),w5.cell? ⟨gL,q,none⟩=some (.slice AL ln cL)∧l.length=ln∧OffArg wI AL cL l:=by
    have h:=HG.out.rel HRq.out
    have:q=0∨q=1∨q=2:=by omega
    rcases this with rfl|rfl|rfl
    ·exact⟨os,A2,os.length,c2,h.cell 0,rfl,OA.out⟩
    ·exact⟨os2,AO,nO,kO,h.cell 1,hnO,OB.out⟩
    ·exact⟨[],none,0,0,h.cell 2,rfl,offArg_nil _⟩
   have HAL:=yH (hAL.rel HRq.out)
   obtain⟨TN,hTN⟩:∃E,targN (fl,ce,mp,co,bd,v) l=E:=⟨_,rfl⟩
   obtain⟨TI,hTI⟩:∃E,targI (fl,ce,mp,co,bd,v) l=E:=⟨_,rfl⟩
   have KT:=yH (ctar_at HH.out HZv.out HFv.out ln hln hTN hTI w5 HRq.out.self HAL.out)
   have RT:=yH (fun(w:World)(h:Rel w5 w)=>rtar_at HZv.out HFv.out ln hln hTN hTI w h.self (HAL.out.rel h))
   have e5:(TN !=TN)=false:=by simp
   have e6:(TI !=TI)=false:=by simp
   clear hln hAL hTN hTI
   obtain⟨⟨x0,x1,x2,x3,x4,x5⟩,_⟩:=six_of (HXI.out.rel HRq.out)
   go_upto_region 15 with (go_at_call 18;(with_reducible refine KT.out.mono ?_);rintro e w6 ⟨rfl,r6⟩;have R6:=yH r6.out;clear r6)
   clear x0 x1 x2 x3 x4 x5 hcell
   obtain⟨⟨x0,x1,x2,x3,x4,x5⟩,_⟩:=six_of (HXI.out.rel (HRq.out.trans R6.out))
   go_upto_region 16 with (go_at_call 19;(with_reducible refine(RT.out w6 R6.out).mono ?_);rintro e w7 ⟨rfl,r7⟩;have R7':=yH (R6.out.trans r7.out);clear r7)
   clear x0 x1 x2 x3 x4 x5
   go_wp2_with (fail)
   go_roundw
   case rel=>exact⟨q+1,by go_num,by omega,yH (HRq.out.trans R7'.out)⟩
   case measure=>simp[RowKit.intOf];omega
theorem parg_yes(d:Nat)(E:ExprOk d)(V U:World)(g gx a:Nat)(had:a+d=32)(x:Ex)(ts:List Tok)(hx:x.l.length≤2)(y:Ex)(r:List Tok)(hr:exprT d false ts= .ok (y,r))(w:World)(h:InP V U w g gx a x ts):
  Calls Tryz.prog 98 #[.pointer (some ⟨g,0,none⟩),.pointer (some ⟨gx,0,none⟩)] w (PcPost V U g gx a (stepP (exprT d) .ar x ts)):=by
 obtain⟨i0,hi,hz0,hz1,hz2'⟩:=info_parts ex_info
 have HI:=yH h
 have HR:=yH (show stepP (exprT d) .ar x ts= .ok (x.push y,r) by unfold stepP;rw[hr])
 have HR0:=yH hr
 obtain⟨hs,hg,hU,hG,A,c,es,hX⟩:=h
 have HD:=yH (hs.V.1.self.drew)
 have HDA:=yH (hs.V.1.self.alloc (.cells #[yI 0,yI 0,.string ⟨#[]⟩,.slice none 0 0] 52)).drew
 have HXX:=yH hX
 obtain⟨n,hn⟩:∃n,es.length=n:=⟨_,rfl⟩
 have HLen:=yH hn
 have hn2:n≤2:=by rw[←hn,hX.2.2.1];exact hx
 have hgx:=hX.lt
 have HK:=yH hX.1
 have hbk:=hX.1
 rw[hn] at HK hbk
 obtain⟨⟨c0,c1,c2,c3⟩,f0,f1,f2,f3⟩:=hbk.four
 have HS:=yH hs
 clear hr hs hX hbk hG hn
 go_enter Tryz.func98,Tryz.ntmps98
 go_wp2_with (fail)
 refine wp_region_any (by kernel_rfl) ?_
 change wpAny _ _ _ _ _ _ _ w.drew
 refine yM [0,1,2,4] (by kernel_rfl) (fun _ _ _ _ _=>id) ?_
 iterate 4
  refine yT rfl rfl (by rfl) ?_ ?_ ?_
  rotate_left
  ·intro w';go_simp;try with_reducible rfl
  try simp only[Act.put,yA,yB,yC]
 refine yZ ?_
 refine till_take (i:=3) (v:= ?_) (S:=fun w'=>w'.cell? ⟨gx,3,none⟩=some (.slice A n c)) (some 7) rfl rfl (by kernel_rfl) (by kernel_rfl) (by kernel_rfl) (fun _ _ _ h=>h) (Or.inl ⟨by rfl, ?_⟩) c3 ?_
 rotate_left 1
 ·intro w' hSw;go_simp;try with_reducible rfl
 try simp only[Act.put,yA,yB,yC]
 refine till_move (q:=6) (v:= ?_) (some 10) rfl rfl (by kernel_rfl) (by kernel_rfl) (by kernel_rfl) (by kernel_rfl) (fun _ _ _ h=>h) (Or.inl ⟨by rfl, ?_⟩) ?_
 rotate_left 1
 ·intro w';go_simp;try with_reducible rfl
 try simp only[Act.put,yA,yB,yC]
 refine till_two (j:=5) (k:=7) (by kernel_rfl) rfl rfl (fun K hK=> ?_) (fun K hK=> ?_)
 ·skip
  try simp only[yD,yE,yF]
  rw[if_pos (by rfl)]
  go_simp
  go_at_call 75
  (with_reducible refine(ex_yes E had (HS.out.rel HD.out) HR0.out).mono ?_)
  rintro e w2 ⟨vx,rfl,ex,s2,g2⟩
  have K2:=HK.out.drew.grown g2 (fun e=>by injection e;omega)
  have HM:=yH (mid_one HI.out HXX.out HD.out g2 s2 ex (.cells #[yI 0,yI 0,.string ⟨#[]⟩,.slice none 0 0] 52))
  have HZb:=yH (Bk.new w2 52 #[yI 0,yI 0,.string ⟨#[]⟩,.slice none 0 0])
  refine hK.out _ _ (K2.cell 3) ?_
  clear hK K
  try simp only[Act.put,yA,yB,yC]
  refine till_one (j:=7) (by kernel_rfl) rfl (fun K hK=> ?_)
  try simp only[yD,yE,yF]
  go_simp
  refine hK.out _ _ ((K2.alloc (.cells #[yI 0,yI 0,.string ⟨#[]⟩,.slice none 0 0] 52)).cell 3) ?_
  clear hK K
  try simp only[Act.put,yA,yB,yC]
  rw[HLen.out] at HM
  refine till_late (j:=8) (by kernel_rfl) rfl (by kernel_rfl) (fun K hK=> ?_)
  try simp only[yD,yE,yF]
  rw[if_pos (by rfl)]
  refine wp_append_lies _ _ _ _ rfl (gx+1) 52 i0 _ 4 56 Tryz.underlying50 hi hz0 hz1 hz2' rfl (by decide) (.slice A n c) n (cellsEs es) rfl HM.out.own ⟨w2.heap.size,0,none⟩ 1 1 (cellsE (0,0,[],none,0,0)) rfl rfl (World.news_of_block HZb.out) (cellsE_one _) (by decide) (by unfold maxLen;omega) (by omega) HM.out.base _ (by rfl) ?_
  intro g' cap w3 hown3 hgrow hat hlt3
  have HP:=yH (And.intro hown3 (And.intro hgrow hat))
  obtain⟨⟨y0,y1,y2,y3⟩,v0,v1,v2,v3⟩:=own_last hown3 HLen.out
  have K3:=HM.out.box hgrow
  obtain⟨⟨x0,x1,x2,x3⟩,u0,u1,u2,u3⟩:=K3.four
  have hgg: ¬g'=gx:=HM.out.apart hown3
  have hgg': ¬gx=g':=fun e=>hgg e.symm
  clear hown3 hgrow hat K3
  refine hK.out _ _ ?_
  clear hK K
  try simp only[Act.put,yA,yB,yC]
  refine till_rest (by kernel_rfl) ?_
  refine yM [9,11,12] (by kernel_rfl) (fun _ _ _ _ _=>id) ?_
  refine yT rfl rfl (by rfl) ?_ ?_ ?_
  rotate_left
  ·intro w';go_simp;rw[if_pos (show(n:Int)<(n:Int)+1 by omega)]
  try simp only[Act.put,yA,yB,yC]
  iterate 2
   refine yT rfl rfl (by rfl) ?_ ?_ ?_
   rotate_left
   ·intro w';go_simp;try with_reducible rfl
   try simp only[Act.put,yA,yB,yC]
  refine yZ ?_
  refine any_two (j:=10) (k:=13) (by kernel_rfl) rfl rfl (fun K hK=> ?_) (fun K hK=> ?_)
  ·skip
   try simp only[yD,yE,yF]
   go_simp
   refine hK _ _ ?_
   clear hK K
   try simp only[Act.put,yA,yB,yC]
   refine any_one (j:=13) (by kernel_rfl) rfl (fun K hK=> ?_)
   try simp only[yD,yE,yF]
   go_simp
   refine hK _ _ ?_
   clear hK K
   try simp only[Act.put,yA,yB,yC]
   refine any_done (by kernel_rfl) ?_ _
   go_end0
   refine PcPost.yes HR.out rfl ?_
   have HPu:=(HM.out.pushed HP.out HLen.out).1
   have HPv:=fun W h=>HM.out.push HP.out HLen.out hx W h
   unfold put4 at HPu
   exact HPv _ HPu
  ·skip
   try simp only[yD,yE,yF]
   go_simp
   refine hK _ _ ?_
   clear hK K
   try simp only[Act.put,yA,yB,yC]
   refine any_one (j:=10) (by kernel_rfl) rfl (fun K hK=> ?_)
   try simp only[yD,yE,yF]
   go_simp
   refine hK _ _ ?_
   clear hK K
   try simp only[Act.put,yA,yB,yC]
   refine any_done (by kernel_rfl) ?_ _
   go_end0
   refine PcPost.yes HR.out rfl ?_
   have HPu:=(HM.out.pushed HP.out HLen.out).2
   have HPv:=fun W h=>HM.out.push HP.out HLen.out hx W h
   unfold put4 at HPu
   exact HPv _ HPu
 ·skip
  try simp only[yD,yE,yF]
  go_simp
  refine hK.out _ _ ((HK.out.alloc (.cells #[yI 0,yI 0,.string ⟨#[]⟩,.slice none 0 0] 52)).drew.cell 3) ?_
  clear hK K
  try simp only[Act.put,yA,yB,yC]
  refine till_one (j:=5) (by kernel_rfl) rfl (fun K hK=> ?_)
  try simp only[yD,yE,yF]
  rw[if_pos (by rfl)]
  go_simp
  go_at_call 75
  (with_reducible refine(ex_yes E had (HS.out.rel HDA.out) HR0.out).mono ?_)
  rintro e w2 ⟨vx,rfl,ex,s2,g2⟩
  have K2:=(HK.out.alloc (.cells #[yI 0,yI 0,.string ⟨#[]⟩,.slice none 0 0] 52)).drew.grown g2 (fun e=>by injection e;omega)
  have HM:=yH (mid_two HI.out HXX.out HDA.out g2 s2 ex rfl)
  have HZb:=yH ((Bk.new w 52 #[yI 0,yI 0,.string ⟨#[]⟩,.slice none 0 0]).drew.grown g2 (fun e=>by injection e;have:=HS.out.lt;omega))
  refine hK.out _ _ (K2.cell 3) ?_
  clear hK K
  try simp only[Act.put,yA,yB,yC]
  rw[HLen.out] at HM
  refine till_late (j:=8) (by kernel_rfl) rfl (by kernel_rfl) (fun K hK=> ?_)
  try simp only[yD,yE,yF]
  rw[if_pos (by rfl)]
  refine wp_append_lies _ _ _ _ rfl (gx+1) 52 i0 _ 4 56 Tryz.underlying50 hi hz0 hz1 hz2' rfl (by decide) (.slice A n c) n (cellsEs es) rfl HM.out.own ⟨w.heap.size,0,none⟩ 1 1 (cellsE (0,0,[],none,0,0)) rfl rfl (World.news_of_block HZb.out) (cellsE_one _) (by decide) (by unfold maxLen;omega) (by omega) HM.out.base _ (by rfl) ?_
  intro g' cap w3 hown3 hgrow hat hlt3
  have HP:=yH (And.intro hown3 (And.intro hgrow hat))
  obtain⟨⟨y0,y1,y2,y3⟩,v0,v1,v2,v3⟩:=own_last hown3 HLen.out
  have K3:=HM.out.box hgrow
  obtain⟨⟨x0,x1,x2,x3⟩,u0,u1,u2,u3⟩:=K3.four
  have hgg: ¬g'=gx:=HM.out.apart hown3
  have hgg': ¬gx=g':=fun e=>hgg e.symm
  clear hown3 hgrow hat K3
  refine hK.out _ _ ?_
  clear hK K
  try simp only[Act.put,yA,yB,yC]
  refine till_rest (by kernel_rfl) ?_
  refine yM [9,11,12] (by kernel_rfl) (fun _ _ _ _ _=>id) ?_
  refine yT rfl rfl (by rfl) ?_ ?_ ?_
  rotate_left
  ·intro w';go_simp;rw[if_pos (show(n:Int)<(n:Int)+1 by omega)]
  try simp only[Act.put,yA,yB,yC]
  iterate 2
   refine yT rfl rfl (by rfl) ?_ ?_ ?_
   rotate_left
   ·intro w';go_simp;try with_reducible rfl
   try simp only[Act.put,yA,yB,yC]
  refine yZ ?_
  refine any_two (j:=10) (k:=13) (by kernel_rfl) rfl rfl (fun K hK=> ?_) (fun K hK=> ?_)
  ·skip
   try simp only[yD,yE,yF]
   go_simp
   refine hK _ _ ?_
   clear hK K
   try simp only[Act.put,yA,yB,yC]
   refine any_one (j:=13) (by kernel_rfl) rfl (fun K hK=> ?_)
   try simp only[yD,yE,yF]
   go_simp
   refine hK _ _ ?_
   clear hK K
   try simp only[Act.put,yA,yB,yC]
   refine any_done (by kernel_rfl) ?_ _
   go_end0
   refine PcPost.yes HR.out rfl ?_
   have HPu:=(HM.out.pushed HP.out HLen.out).1
   have HPv:=fun W h=>HM.out.push HP.out HLen.out hx W h
   unfold put4 at HPu
   exact HPv _ HPu
  ·skip
   try simp only[yD,yE,yF]
   go_simp
   refine hK _ _ ?_
   clear hK K
   try simp only[Act.put,yA,yB,yC]
   refine any_one (j:=10) (by kernel_rfl) rfl (fun K hK=> ?_)
   try simp only[yD,yE,yF]
   go_simp
   refine hK _ _ ?_
   clear hK K
   try simp only[Act.put,yA,yB,yC]
   refine any_done (by kernel_rfl) ?_ _
   go_end0
   refine PcPost.yes HR.out rfl ?_
   have HPu:=(HM.out.pushed HP.out HLen.out).2
   have HPv:=fun W h=>HM.out.push HP.out HLen.out hx W h
   unfold put4 at HPu
   exact HPv _ HPu
theorem parg_no(d:Nat)(E:ExprOk d)(V U:World)(g gx a:Nat)(had:a+d=32)(x:Ex)(ts:List Tok)(hx:x.l.length≤2)(e0:Int×Int)(hr:exprT d false ts= .error e0)(w:World)(h:InP V U w g gx a x ts):
  Calls Tryz.prog 98 #[.pointer (some ⟨g,0,none⟩),.pointer (some ⟨gx,0,none⟩)] w (PcPost V U g gx a (stepP (exprT d) .ar x ts)):=by
 obtain⟨i0,hi,hz0,hz1,hz2'⟩:=info_parts ex_info
 have HI:=yH h
 have HR:=yH (show stepP (exprT d) .ar x ts= .error e0 by unfold stepP;rw[hr])
 have HR0:=yH hr
 obtain⟨hs,hg,hU,hG,A,c,es,hX⟩:=h
 have HD:=yH (hs.V.1.self.drew)
 have HDA:=yH (hs.V.1.self.alloc (.cells #[yI 0,yI 0,.string ⟨#[]⟩,.slice none 0 0] 52)).drew
 have HXX:=yH hX
 obtain⟨n,hn⟩:∃n,es.length=n:=⟨_,rfl⟩
 have HLen:=yH hn
 have hn2:n≤2:=by rw[←hn,hX.2.2.1];exact hx
 have hgx:=hX.lt
 have HK:=yH hX.1
 have hbk:=hX.1
 rw[hn] at HK hbk
 obtain⟨⟨c0,c1,c2,c3⟩,f0,f1,f2,f3⟩:=hbk.four
 have HS:=yH hs
 clear hr hs hX hbk hG hn
 go_enter Tryz.func98,Tryz.ntmps98
 go_wp2_with (fail)
 refine wp_region_any (by kernel_rfl) ?_
 change wpAny _ _ _ _ _ _ _ w.drew
 refine yM [0,1,2,4] (by kernel_rfl) (fun _ _ _ _ _=>id) ?_
 iterate 4
  refine yT rfl rfl (by rfl) ?_ ?_ ?_
  rotate_left
  ·intro w';go_simp;try with_reducible rfl
  try simp only[Act.put,yA,yB,yC]
 refine yZ ?_
 refine till_take (i:=3) (v:= ?_) (S:=fun w'=>w'.cell? ⟨gx,3,none⟩=some (.slice A n c)) (some 7) rfl rfl (by kernel_rfl) (by kernel_rfl) (by kernel_rfl) (fun _ _ _ h=>h) (Or.inl ⟨by rfl, ?_⟩) c3 ?_
 rotate_left 1
 ·intro w' hSw;go_simp;try with_reducible rfl
 try simp only[Act.put,yA,yB,yC]
 refine till_move (q:=6) (v:= ?_) (some 10) rfl rfl (by kernel_rfl) (by kernel_rfl) (by kernel_rfl) (by kernel_rfl) (fun _ _ _ h=>h) (Or.inl ⟨by rfl, ?_⟩) ?_
 rotate_left 1
 ·intro w';go_simp;try with_reducible rfl
 try simp only[Act.put,yA,yB,yC]
 refine till_two (j:=5) (k:=7) (by kernel_rfl) rfl rfl (fun K hK=> ?_) (fun K hK=> ?_)
 ·skip
  try simp only[yD,yE,yF]
  rw[if_pos (by rfl)]
  go_simp
  go_at_call 75
  (with_reducible refine(ex_no E had (HS.out.rel HD.out) HR0.out).mono ?_)
  rintro e w2 ⟨rfl,g2⟩
  exact⟨rfl,PcPost.no HR.out rfl (grown_trans HI.out.2.2.2.1 (grown_trans (grown_rel (some g) HD.out) g2))⟩
 ·skip
  try simp only[yD,yE,yF]
  go_simp
  refine hK.out _ _ ((HK.out.alloc (.cells #[yI 0,yI 0,.string ⟨#[]⟩,.slice none 0 0] 52)).drew.cell 3) ?_
  clear hK K
  try simp only[Act.put,yA,yB,yC]
  refine till_one (j:=5) (by kernel_rfl) rfl (fun K hK=> ?_)
  try simp only[yD,yE,yF]
  rw[if_pos (by rfl)]
  go_simp
  go_at_call 75
  (with_reducible refine(ex_no E had (HS.out.rel HDA.out) HR0.out).mono ?_)
  rintro e w2 ⟨rfl,g2⟩
  exact⟨rfl,PcPost.no HR.out rfl (grown_trans HI.out.2.2.2.1 (grown_trans (grown_rel (some g) HDA.out) g2))⟩
theorem pwhen_yes(d:Nat)(E:ExprOk d)(V U:World)(g gx a:Nat)(had:a+d=32)(x:Ex)(ts:List Tok)(hx:x.l.length≤2)(y:Ex)(r:List Tok)(hr:exprT d true ts= .ok (y,r))(w:World)(h:InP V U w g gx a x ts):
  Calls Tryz.prog 101 #[.pointer (some ⟨g,0,none⟩),.pointer (some ⟨gx,0,none⟩)] w (PcPost V U g gx a (stepP (exprT d) .wh x ts)):=by
 obtain⟨i0,hi,hz0,hz1,hz2'⟩:=info_parts ex_info
 have HI:=yH h
 have HR:=yH (show stepP (exprT d) .wh x ts= .ok (x.push y,r) by unfold stepP;rw[hr])
 have HR0:=yH hr
 obtain⟨hs,hg,hU,hG,A,c,es,hX⟩:=h
 have HD:=yH (hs.V.1.self.drew)
 have HDA:=yH (hs.V.1.self.alloc (.cells #[yI 0,yI 0,.string ⟨#[]⟩,.slice none 0 0] 52)).drew
 have HXX:=yH hX
 obtain⟨n,hn⟩:∃n,es.length=n:=⟨_,rfl⟩
 have HLen:=yH hn
 have hn2:n≤2:=by rw[←hn,hX.2.2.1];exact hx
 have hgx:=hX.lt
 have HK:=yH hX.1
 have hbk:=hX.1
 rw[hn] at HK hbk
 obtain⟨⟨c0,c1,c2,c3⟩,f0,f1,f2,f3⟩:=hbk.four
 have HS:=yH hs
 clear hr hs hX hbk hG hn
 go_enter Tryz.func101,Tryz.ntmps101
 go_wp2_with (fail)
 refine wp_region_any (by kernel_rfl) ?_
 change wpAny _ _ _ _ _ _ _ w.drew
 refine yM [0,1,2,4] (by kernel_rfl) (fun _ _ _ _ _=>id) ?_
 iterate 4
  refine yT rfl rfl (by rfl) ?_ ?_ ?_
  rotate_left
  ·intro w';go_simp;try with_reducible rfl
  try simp only[Act.put,yA,yB,yC]
 refine yZ ?_
 refine till_take (i:=3) (v:= ?_) (S:=fun w'=>w'.cell? ⟨gx,3,none⟩=some (.slice A n c)) (some 7) rfl rfl (by kernel_rfl) (by kernel_rfl) (by kernel_rfl) (fun _ _ _ h=>h) (Or.inl ⟨by rfl, ?_⟩) c3 ?_
 rotate_left 1
 ·intro w' hSw;go_simp;try with_reducible rfl
 try simp only[Act.put,yA,yB,yC]
 refine till_move (q:=6) (v:= ?_) (some 10) rfl rfl (by kernel_rfl) (by kernel_rfl) (by kernel_rfl) (by kernel_rfl) (fun _ _ _ h=>h) (Or.inl ⟨by rfl, ?_⟩) ?_
 rotate_left 1
 ·intro w';go_simp;try with_reducible rfl
 try simp only[Act.put,yA,yB,yC]
 refine till_two (j:=5) (k:=7) (by kernel_rfl) rfl rfl (fun K hK=> ?_) (fun K hK=> ?_)
 ·skip
  try simp only[yD,yE,yF]
  rw[if_pos (by rfl)]
  go_simp
  go_at_call 136
  (with_reducible refine(cond_yes E had (HS.out.rel HD.out) HR0.out).mono ?_)
  rintro e w2 ⟨vx,rfl,ex,s2,g2⟩
  have K2:=HK.out.drew.grown g2 (fun e=>by injection e;omega)
  have HM:=yH (mid_one HI.out HXX.out HD.out g2 s2 ex (.cells #[yI 0,yI 0,.string ⟨#[]⟩,.slice none 0 0] 52))
  have HZb:=yH (Bk.new w2 52 #[yI 0,yI 0,.string ⟨#[]⟩,.slice none 0 0])
  refine hK.out _ _ (K2.cell 3) ?_
  clear hK K
  try simp only[Act.put,yA,yB,yC]
  refine till_one (j:=7) (by kernel_rfl) rfl (fun K hK=> ?_)
  try simp only[yD,yE,yF]
  go_simp
  refine hK.out _ _ ((K2.alloc (.cells #[yI 0,yI 0,.string ⟨#[]⟩,.slice none 0 0] 52)).cell 3) ?_
  clear hK K
  try simp only[Act.put,yA,yB,yC]
  rw[HLen.out] at HM
  refine till_late (j:=8) (by kernel_rfl) rfl (by kernel_rfl) (fun K hK=> ?_)
  try simp only[yD,yE,yF]
  rw[if_pos (by rfl)]
  refine wp_append_lies _ _ _ _ rfl (gx+1) 52 i0 _ 4 56 Tryz.underlying50 hi hz0 hz1 hz2' rfl (by decide) (.slice A n c) n (cellsEs es) rfl HM.out.own ⟨w2.heap.size,0,none⟩ 1 1 (cellsE (0,0,[],none,0,0)) rfl rfl (World.news_of_block HZb.out) (cellsE_one _) (by decide) (by unfold maxLen;omega) (by omega) HM.out.base _ (by rfl) ?_
  intro g' cap w3 hown3 hgrow hat hlt3
  have HP:=yH (And.intro hown3 (And.intro hgrow hat))
  obtain⟨⟨y0,y1,y2,y3⟩,v0,v1,v2,v3⟩:=own_last hown3 HLen.out
  have K3:=HM.out.box hgrow
  obtain⟨⟨x0,x1,x2,x3⟩,u0,u1,u2,u3⟩:=K3.four
  have hgg: ¬g'=gx:=HM.out.apart hown3
  have hgg': ¬gx=g':=fun e=>hgg e.symm
  clear hown3 hgrow hat K3
  refine hK.out _ _ ?_
  clear hK K
  try simp only[Act.put,yA,yB,yC]
  refine till_rest (by kernel_rfl) ?_
  refine yM [9,11,12] (by kernel_rfl) (fun _ _ _ _ _=>id) ?_
  refine yT rfl rfl (by rfl) ?_ ?_ ?_
  rotate_left
  ·intro w';go_simp;rw[if_pos (show(n:Int)<(n:Int)+1 by omega)]
  try simp only[Act.put,yA,yB,yC]
  iterate 2
   refine yT rfl rfl (by rfl) ?_ ?_ ?_
   rotate_left
   ·intro w';go_simp;try with_reducible rfl
   try simp only[Act.put,yA,yB,yC]
  refine yZ ?_
  refine any_two (j:=10) (k:=13) (by kernel_rfl) rfl rfl (fun K hK=> ?_) (fun K hK=> ?_)
  ·skip
   try simp only[yD,yE,yF]
   go_simp
   refine hK _ _ ?_
   clear hK K
   try simp only[Act.put,yA,yB,yC]
   refine any_one (j:=13) (by kernel_rfl) rfl (fun K hK=> ?_)
   try simp only[yD,yE,yF]
   go_simp
   refine hK _ _ ?_
   clear hK K
   try simp only[Act.put,yA,yB,yC]
   refine any_done (by kernel_rfl) ?_ _
   go_end0
   refine PcPost.yes HR.out rfl ?_
   have HPu:=(HM.out.pushed HP.out HLen.out).1
   have HPv:=fun W h=>HM.out.push HP.out HLen.out hx W h
   unfold put4 at HPu
   exact HPv _ HPu
  ·skip
   try simp only[yD,yE,yF]
   go_simp
   refine hK _ _ ?_
   clear hK K
   try simp only[Act.put,yA,yB,yC]
   refine any_one (j:=10) (by kernel_rfl) rfl (fun K hK=> ?_)
   try simp only[yD,yE,yF]
   go_simp
   refine hK _ _ ?_
   clear hK K
   try simp only[Act.put,yA,yB,yC]
   refine any_done (by kernel_rfl) ?_ _
   go_end0
   refine PcPost.yes HR.out rfl ?_
   have HPu:=(HM.out.pushed HP.out HLen.out).2
   have HPv:=fun W h=>HM.out.push HP.out HLen.out hx W h
   unfold put4 at HPu
   exact HPv _ HPu
 ·skip
  try simp only[yD,yE,yF]
  go_simp
  refine hK.out _ _ ((HK.out.alloc (.cells #[yI 0,yI 0,.string ⟨#[]⟩,.slice none 0 0] 52)).drew.cell 3) ?_
  clear hK K
  try simp only[Act.put,yA,yB,yC]
  refine till_one (j:=5) (by kernel_rfl) rfl (fun K hK=> ?_)
  try simp only[yD,yE,yF]
  rw[if_pos (by rfl)]
  go_simp
  go_at_call 136
  (with_reducible refine(cond_yes E had (HS.out.rel HDA.out) HR0.out).mono ?_)
  rintro e w2 ⟨vx,rfl,ex,s2,g2⟩
  have K2:=(HK.out.alloc (.cells #[yI 0,yI 0,.string ⟨#[]⟩,.slice none 0 0] 52)).drew.grown g2 (fun e=>by injection e;omega)
  have HM:=yH (mid_two HI.out HXX.out HDA.out g2 s2 ex rfl)
  have HZb:=yH ((Bk.new w 52 #[yI 0,yI 0,.string ⟨#[]⟩,.slice none 0 0]).drew.grown g2 (fun e=>by injection e;have:=HS.out.lt;omega))
  refine hK.out _ _ (K2.cell 3) ?_
  clear hK K
  try simp only[Act.put,yA,yB,yC]
  rw[HLen.out] at HM
  refine till_late (j:=8) (by kernel_rfl) rfl (by kernel_rfl) (fun K hK=> ?_)
  try simp only[yD,yE,yF]
  rw[if_pos (by rfl)]
  refine wp_append_lies _ _ _ _ rfl (gx+1) 52 i0 _ 4 56 Tryz.underlying50 hi hz0 hz1 hz2' rfl (by decide) (.slice A n c) n (cellsEs es) rfl HM.out.own ⟨w.heap.size,0,none⟩ 1 1 (cellsE (0,0,[],none,0,0)) rfl rfl (World.news_of_block HZb.out) (cellsE_one _) (by decide) (by unfold maxLen;omega) (by omega) HM.out.base _ (by rfl) ?_
  intro g' cap w3 hown3 hgrow hat hlt3
  have HP:=yH (And.intro hown3 (And.intro hgrow hat))
  obtain⟨⟨y0,y1,y2,y3⟩,v0,v1,v2,v3⟩:=own_last hown3 HLen.out
  have K3:=HM.out.box hgrow
  obtain⟨⟨x0,x1,x2,x3⟩,u0,u1,u2,u3⟩:=K3.four
  have hgg: ¬g'=gx:=HM.out.apart hown3
  have hgg': ¬gx=g':=fun e=>hgg e.symm
  clear hown3 hgrow hat K3
  refine hK.out _ _ ?_
  clear hK K
  try simp only[Act.put,yA,yB,yC]
  refine till_rest (by kernel_rfl) ?_
  refine yM [9,11,12] (by kernel_rfl) (fun _ _ _ _ _=>id) ?_
  refine yT rfl rfl (by rfl) ?_ ?_ ?_
  rotate_left
  ·intro w';go_simp;rw[if_pos (show(n:Int)<(n:Int)+1 by omega)]
  try simp only[Act.put,yA,yB,yC]
  iterate 2
   refine yT rfl rfl (by rfl) ?_ ?_ ?_
   rotate_left
   ·intro w';go_simp;try with_reducible rfl
   try simp only[Act.put,yA,yB,yC]
  refine yZ ?_
  refine any_two (j:=10) (k:=13) (by kernel_rfl) rfl rfl (fun K hK=> ?_) (fun K hK=> ?_)
  ·skip
   try simp only[yD,yE,yF]
   go_simp
   refine hK _ _ ?_
   clear hK K
   try simp only[Act.put,yA,yB,yC]
   refine any_one (j:=13) (by kernel_rfl) rfl (fun K hK=> ?_)
   try simp only[yD,yE,yF]
   go_simp
   refine hK _ _ ?_
   clear hK K
   try simp only[Act.put,yA,yB,yC]
   refine any_done (by kernel_rfl) ?_ _
   go_end0
   refine PcPost.yes HR.out rfl ?_
   have HPu:=(HM.out.pushed HP.out HLen.out).1
   have HPv:=fun W h=>HM.out.push HP.out HLen.out hx W h
   unfold put4 at HPu
   exact HPv _ HPu
  ·skip
   try simp only[yD,yE,yF]
   go_simp
   refine hK _ _ ?_
   clear hK K
   try simp only[Act.put,yA,yB,yC]
   refine any_one (j:=10) (by kernel_rfl) rfl (fun K hK=> ?_)
   try simp only[yD,yE,yF]
   go_simp
   refine hK _ _ ?_
   clear hK K
   try simp only[Act.put,yA,yB,yC]
   refine any_done (by kernel_rfl) ?_ _
   go_end0
   refine PcPost.yes HR.out rfl ?_
   have HPu:=(HM.out.pushed HP.out HLen.out).2
   have HPv:=fun W h=>HM.out.push HP.out HLen.out hx W h
   unfold put4 at HPu
   exact HPv _ HPu
theorem pwhen_no(d:Nat)(E:ExprOk d)(V U:World)(g gx a:Nat)(had:a+d=32)(x:Ex)(ts:List Tok)(hx:x.l.length≤2)(e0:Int×Int)(hr:exprT d true ts= .error e0)(w:World)(h:InP V U w g gx a x ts):
  Calls Tryz.prog 101 #[.pointer (some ⟨g,0,none⟩),.pointer (some ⟨gx,0,none⟩)] w (PcPost V U g gx a (stepP (exprT d) .wh x ts)):=by
 obtain⟨i0,hi,hz0,hz1,hz2'⟩:=info_parts ex_info
 have HI:=yH h
 have HR:=yH (show stepP (exprT d) .wh x ts= .error e0 by unfold stepP;rw[hr])
 have HR0:=yH hr
 obtain⟨hs,hg,hU,hG,A,c,es,hX⟩:=h
 have HD:=yH (hs.V.1.self.drew)
 have HDA:=yH (hs.V.1.self.alloc (.cells #[yI 0,yI 0,.string ⟨#[]⟩,.slice none 0 0] 52)).drew
 have HXX:=yH hX
 obtain⟨n,hn⟩:∃n,es.length=n:=⟨_,rfl⟩
 have HLen:=yH hn
 have hn2:n≤2:=by rw[←hn,hX.2.2.1];exact hx
 have hgx:=hX.lt
 have HK:=yH hX.1
 have hbk:=hX.1
 rw[hn] at HK hbk
 obtain⟨⟨c0,c1,c2,c3⟩,f0,f1,f2,f3⟩:=hbk.four
 have HS:=yH hs
 clear hr hs hX hbk hG hn
 go_enter Tryz.func101,Tryz.ntmps101
 go_wp2_with (fail)
 refine wp_region_any (by kernel_rfl) ?_
 change wpAny _ _ _ _ _ _ _ w.drew
 refine yM [0,1,2,4] (by kernel_rfl) (fun _ _ _ _ _=>id) ?_
 iterate 4
  refine yT rfl rfl (by rfl) ?_ ?_ ?_
  rotate_left
  ·intro w';go_simp;try with_reducible rfl
  try simp only[Act.put,yA,yB,yC]
 refine yZ ?_
 refine till_take (i:=3) (v:= ?_) (S:=fun w'=>w'.cell? ⟨gx,3,none⟩=some (.slice A n c)) (some 7) rfl rfl (by kernel_rfl) (by kernel_rfl) (by kernel_rfl) (fun _ _ _ h=>h) (Or.inl ⟨by rfl, ?_⟩) c3 ?_
 rotate_left 1
 ·intro w' hSw;go_simp;try with_reducible rfl
 try simp only[Act.put,yA,yB,yC]
 refine till_move (q:=6) (v:= ?_) (some 10) rfl rfl (by kernel_rfl) (by kernel_rfl) (by kernel_rfl) (by kernel_rfl) (fun _ _ _ h=>h) (Or.inl ⟨by rfl, ?_⟩) ?_
 rotate_left 1
 ·intro w';go_simp;try with_reducible rfl
 try simp only[Act.put,yA,yB,yC]
 refine till_two (j:=5) (k:=7) (by kernel_rfl) rfl rfl (fun K hK=> ?_) (fun K hK=> ?_)
 ·skip
  try simp only[yD,yE,yF]
  rw[if_pos (by rfl)]
  go_simp
  go_at_call 136
  (with_reducible refine(cond_no E had (HS.out.rel HD.out) HR0.out).mono ?_)
  rintro e w2 ⟨rfl,g2⟩
  exact⟨rfl,PcPost.no HR.out rfl (grown_trans HI.out.2.2.2.1 (grown_trans (grown_rel (some g) HD.out) g2))⟩
 ·skip
  try simp only[yD,yE,yF]
  go_simp
  refine hK.out _ _ ((HK.out.alloc (.cells #[yI 0,yI 0,.string ⟨#[]⟩,.slice none 0 0] 52)).drew.cell 3) ?_
  clear hK K
  try simp only[Act.put,yA,yB,yC]
  refine till_one (j:=5) (by kernel_rfl) rfl (fun K hK=> ?_)
  try simp only[yD,yE,yF]
  rw[if_pos (by rfl)]
  go_simp
  go_at_call 136
  (with_reducible refine(cond_no E had (HS.out.rel HDA.out) HR0.out).mono ?_)
  rintro e w2 ⟨rfl,g2⟩
  exact⟨rfl,PcPost.no HR.out rfl (grown_trans HI.out.2.2.2.1 (grown_trans (grown_rel (some g) HDA.out) g2))⟩
def fnOf:Pc→FuncId
 | .ar=>98
 | .wh=>101
 | .na=>97
 | .am=>99
 | .pa=>100
 | .co=>162
def pvOf(g:Nat)(p:Pc):Value:= .func (.func (fnOf p)) #[.pointer (some ⟨g,0,none⟩)] #[]
theorem piece_any(d:Nat)(E:ExprOk d)(V U:World)(g gx a:Nat)(had:a+d=32)(p:Pc)(x:Ex)(ts:List Tok)(hx:x.l.length≤2)(w:World)(h:InP V U w g gx a x ts):
  Calls Tryz.prog (fnOf p) #[.pointer (some ⟨g,0,none⟩),.pointer (some ⟨gx,0,none⟩)] w (PcPost V U g gx a (stepP (exprT d) p x ts)):=by
 cases p with
 |ar=>
  cases hr:exprT d false ts with
  |error e0=>exact parg_no d E V U g gx a had x ts hx e0 hr w h
  |ok q=>obtain⟨y,r⟩:=q;exact parg_yes d E V U g gx a had x ts hx y r hr w h
 |wh=>
  cases hr:exprT d true ts with
  |error e0=>exact pwhen_no d E V U g gx a had x ts hx e0 hr w h
  |ok q=>obtain⟨y,r⟩:=q;exact pwhen_yes d E V U g gx a had x ts hx y r hr w h
 |na=>exact pname_any V U g gx a x ts (exprT d) w h
 |am=>exact pamount_any V U g gx a x ts (exprT d) w h
 |pa=>exact ppart_any V U g gx a x ts (exprT d) w h
 |co=>exact pcount_any V U g gx a x ts (exprT d) w h
theorem piece_yes{d:Nat}(E:ExprOk d){V U:World}{g gx a:Nat}(had:a+d=32)(p:Pc){x y:Ex}{ts r:List Tok}(hx:x.l.length≤2)(hr:stepP (exprT d) p x ts= .ok (y,r)){w:World}(h:InP V U w g gx a x ts):
  Calls Tryz.prog (fnOf p) #[.pointer (some ⟨g,0,none⟩),.pointer (some ⟨gx,0,none⟩)] w fun e w'=>e= .returned (.tuple #[])∧InP V U w' g gx a y r:=by
 have:=piece_any d E V U g gx a had p x ts hx w h
 rw[hr] at this
 exact this
theorem piece_no{d:Nat}(E:ExprOk d){V U:World}{g gx a:Nat}(had:a+d=32)(p:Pc){x:Ex}{ts:List Tok}(hx:x.l.length≤2){e0:Int×Int}(hr:stepP (exprT d) p x ts= .error e0){w:World}(h:InP V U w g gx a x ts):
  Calls Tryz.prog (fnOf p) #[.pointer (some ⟨g,0,none⟩),.pointer (some ⟨gx,0,none⟩)] w fun e w'=>e=FLT e0.1 e0.2∧U.grownBy w' (some g):=by
 have:=piece_any d E V U g gx a had p x ts hx w h
 rw[hr] at this
 exact this
theorem step_len{f:Bool→List Tok→Told Ex}{p:Pc}{x y:Ex}{ts r:List Tok}(h:stepP f p x ts= .ok (y,r)):y.l.length≤x.l.length+1:=by
 unfold stepP at h
 cases p<;>simp only at h<;>split at h<;>(try cases h)<;>simp[Ex.push,Ex.num,Ex.name,Ex.l]
theorem XP.done{gx:Nat}{w:World}{x:Ex}{A:Option Addr}{c:Nat}{es:List El}(h:XP gx w x A c es)(W:World)(hs:w.heap.size≤W.heap.size)(hW:∀q,gx<q→q<w.heap.size→W.heap[q]?=w.heap[q]?)(S:Nat→Prop)(hS:∀q,gx<q→S q):ExAt S W (x.k,x.n,x.nm,A,es.length,c) x:=by
 obtain⟨h1,h2,h3,h4,h5,h6,h7,h8⟩:=h
 obtain⟨k,n,nm,l⟩:=x
 have h3:es.length=l.length:=h3
 have hrow:RowE (fun q=>gx<q) w A es:=ElsOwn.toks (base:=gx+1) (n:=es.length) (c:=c) (by unfold ElsOwn;exact h2) rfl (fun q hq=>by have:=(h2.lt q hq).1;omega)
 have hx:ExAt S W (k,n,nm,A,l.length,c) (.mk k n nm l):= .mk k n nm A c l es h5 h6 h7 h3 (hrow.mono hs fun q hq hl=>⟨hS q hq,hW q hq hl⟩) (fun i hi hi'=>(h4 i hi hi').mono hs fun q hq hl=>⟨hS q hq.1,hW q hq.1 hl⟩)
 rw[h3]
 exact hx
def btwP(j:Nat):UInt8:=if j=0 then 40 else 44
theorem btwP_or(j:Nat):btwP j=40∨btwP j=41∨btwP j=44:=by unfold btwP;split<;>simp
def LoopP(V U wr:World)(g gx a d:Nat)(ps:List Pc)(R:Told Ex)(j:Nat)(x:Ex)(ts:List Tok):Prop:=
 InP V U wr g gx a x ts∧piecesP (exprT d) (ps.drop j) (btwP j) x ts=R∧x.l.length≤j
theorem loop_start{V w:World}{g a d:Nat}{ts:List Tok}(h:StP V w g ts a)(ha:a+1≤100)(k:Int)(hk:i64 k)(ps:List Pc)(R:Told Ex)(hR:piecesP (exprT d) ps 40 (.mk k 0 [] []) ts=R):
  LoopP V (w.alloc (.cells #[yI 0,yI 0,.string ⟨#[]⟩,.slice none 0 0] 52)) (((w.setCell ⟨g,1,none⟩ (yI (a+1))).alloc (.cells #[yI 0,yI 0,.string ⟨#[]⟩,.slice none 0 0] 52)).alloc (.cells #[yI k,yI 0,.string ⟨#[]⟩,.slice none 0 0] 52)) g (w.heap.size+1) (a+1) d ps R 0 (.mk k 0 [] []) ts:=by
 obtain⟨s1,s2⟩:=h.around (a+1) ha
 have R1:=s1.V.1.self.alloc (.cells #[yI 0,yI 0,.string ⟨#[]⟩,.slice none 0 0] 52)
 have R2:=R1.self.alloc (.cells #[yI k,yI 0,.string ⟨#[]⟩,.slice none 0 0] 52)
 have hz:((w.setCell ⟨g,1,none⟩ (yI (a+1))).alloc (.cells #[yI 0,yI 0,.string ⟨#[]⟩,.slice none 0 0] 52)).heap.size=w.heap.size+1:=by rw[World.size_alloc,World.size_setCell]
 have hB:=Bk.new ((w.setCell ⟨g,1,none⟩ (yI (a+1))).alloc (.cells #[yI 0,yI 0,.string ⟨#[]⟩,.slice none 0 0] 52)) 52 #[yI k,yI 0,.string ⟨#[]⟩,.slice none 0 0]
 rw[hz] at hB
 have hl:=h.lt
 refine⟨⟨s1.rel (R1.trans R2),by rw[World.size_alloc];omega,by rw[World.size_alloc];exact Nat.le_refl _, ?_,none,0,[],hB,World.ownsRow_nil _ _ _ _,rfl,fun i hi=>absurd hi (by simp),hk,⟨show(-9223372036854775808:Int)≤0 by decide,show(0:Int)≤9223372036854775807 by decide⟩,Nat.zero_le _,Nat.zero_le _⟩,hR,Nat.zero_le _⟩
 refine⟨rfl,rfl,rfl,by rw[World.size_alloc,World.size_alloc,World.size_alloc,World.size_setCell];omega,fun q hq hn=> ?_⟩
 rw[World.size_alloc] at hq
 rw[Below.heap_alloc _ _ _ (by rw[hz];omega)]
 rcases Nat.lt_or_ge q w.heap.size with hlt|hge
 ·rw[Below.heap_alloc _ _ _ (by rw[World.size_setCell];exact hlt),Below.heap_setCell _ _ _ _ (fun e=>hn (by rw[e])),Below.heap_alloc _ _ _ hlt]
 ·obtain rfl:q=w.heap.size:=by omega
  have e1:=Bk.new (w.setCell ⟨g,1,none⟩ (yI (a+1))) 52 #[yI 0,yI 0,.string ⟨#[]⟩,.slice none 0 0]
  rw[World.size_setCell] at e1
  exact Eq.trans e1 (Bk.new w 52 #[yI 0,yI 0,.string ⟨#[]⟩,.slice none 0 0]).symm
theorem call_end{V w U W:World}{g a:Nat}{x:Ex}{ts:List Tok}{A:Option Addr}{m:Nat}{es:List El}(hgl:g<w.heap.size)(hVw:V.heap.size≤w.heap.size)(hUr:Rel w U)(hzU:U.heap.size=w.heap.size+1)(h:InP V U W g (w.heap.size+1) (a+1) x ts)(hX:XP (w.heap.size+1) W x A m es)(ha:a≤100)(hz:Bk W w.heap.size 52 #[yI 0,yI 0,.string ⟨#[]⟩,.slice none 0 0])(W':World)
  (hW:((((W.setCell ⟨g,1,none⟩ (yI a)).setCell ⟨w.heap.size,0,none⟩ (yI x.k)).setCell ⟨w.heap.size,1,none⟩ (yI x.n)).setCell ⟨w.heap.size,2,none⟩ (.string (B x.nm))).setCell ⟨w.heap.size,3,none⟩ (.slice A es.length m)=W'):
  Bk W' w.heap.size 52 #[yI x.k,yI x.n,.string (B x.nm),.slice A es.length m]∧ExAt (fun k=>w.heap.size≤k) W' (x.k,x.n,x.nm,A,es.length,m) x∧StP V W' g ts a∧w.grownBy W' (some g):=by
 obtain⟨s1,s2⟩:=h.1.around a ha
 have gp:=put4_grown (W.setCell ⟨g,1,none⟩ (yI a)) w.heap.size (yI x.k) (yI x.n) (.string (B x.nm)) (.slice A es.length m)
 have hb:=(hz.far (p:=⟨g,1,none⟩) (by simp only;omega) (yI a)).put4 (yI x.k) (yI x.n) (.string (B x.nm)) (.slice A es.length m)
 rw[hW] at gp hb
 have z1:=s2.size
 have z2:=gp.size
 rw[World.size_setCell] at z1 z2
 refine⟨hb,hX.done W' (by omega) (fun q hq hl=> ?_) _ (fun q hq=>by omega),s1.grown gp (fun e=>by injection e;omega) (fun k e=>by cases e;exact hVw), ?_⟩
 ·exact(gp.block q (by rw[World.size_setCell];omega) (fun e=>by injection e;omega)).trans (s2.block q hl (fun e=>by injection e;omega))
 ·exact grown_of (grown_trans (grown_rel (some g) hUr) (grown_trans h.2.2.2.1 s2)) gp (fun k e=>by cases e;exact Nat.le_refl _)
theorem call_gr{w U W:World}{g:Nat}(hU:Rel w U)(hg:g<w.heap.size)(h:U.grownBy W (some g)):w.grownBy W (some g):=grown_trans (grown_rel (some g) hU) h
theorem ppcall_any(d:Nat)(E:ExprOk d)(V:World)(g a:Nat)(had:a+1+d=32)(k:Int)(hk:i64 k)(ps:List Pc)(hp:ps.length≤3)(q c:Nat)(ts:List Tok)(w:World)(h:StP V w g ts a)(hq:Bk w q 152 (ps.map (pvOf g)).toArray):
  Calls Tryz.prog 96 #[.pointer (some ⟨g,0,none⟩),yI k,.slice (some ⟨q,0,none⟩) ps.length c] w (ExPost V g a w (piecesP (exprT d) ps 40 (.mk k 0 [] []) ts)):=by
 obtain⟨R,hR⟩:∃R,piecesP (exprT d) ps 40 (.mk k 0 [] []) ts=R:=⟨_,rfl⟩
 rw[hR]
 have HI0:=yH (loop_start h (by omega) k hk ps R hR)
 obtain⟨A0,c0,r0,hg0,_,_,_,_,_,hb0⟩:=h
 have hqg:q≠g:=hq.ne hb0 (by decide)
 have hgl:=hb0.lt
 obtain⟨⟨b0,b1⟩,f0,f1⟩:=hb0.two
 have HZ:=yH (Bk.new w 52 #[yI 0,yI 0,.string ⟨#[]⟩,.slice none 0 0])
 have HQ:=yH (hq.alloc (.cells #[yI 0,yI 0,.string ⟨#[]⟩,.slice none 0 0] 52))
 have HR0:=yH r0
 have HVg:=yH hg0
 have hw1:IntKind.i64.wrap ((a:Int)+1)=(a:Int)+1:=IntWalk.i64_in _ (by omega)
 obtain⟨n,hn⟩:∃n,ps.length=n:=⟨_,rfl⟩
 have HN:=yH hn
 rw[hn] at hp⊢
 obtain⟨U,hU⟩:∃U,w.alloc (.cells #[yI 0,yI 0,.string ⟨#[]⟩,.slice none 0 0] 52)=U:=⟨_,rfl⟩
 have hzU:U.heap.size=w.heap.size+1:=by rw[←hU];exact World.size_alloc ..
 rw[hU] at HI0 HZ HQ
 have HUr:=yH (show Rel w U by rw[←hU];exact r0.self.alloc _)
 clear hq hb0 r0 hg0 hR hn hU
 go_enter Tryz.func96,Tryz.ntmps96
 go_wp2_with (fail)
 go_loopw [8,22] (fun b i wr=>∃(j:Nat)(C:ByteArray)(x:Ex)(ts':List Tok),j≤n∧i=yI (j:Int)∧b= .string C∧Hid (C=B [btwP j])∧Hid (LoopP V U wr g (w.heap.size+1) (a+1) d ps R j x ts')) (fun _ i _=>n-(RowKit.intOf i).toNat)
 case atStart=>exact⟨0,⟨#[40]⟩,.mk k 0 [] [],ts,by omega,rfl,rfl,yH rfl,HI0⟩
 case round=>
  obtain⟨j,C,x,ts',hj,rfl,rfl,HC,HL⟩:=hrel
  have HIn:=yH HL.out.1
  have HSt:=yH HL.out.1.1
  have hxl:x.l.length≤j:=HL.out.2.2
  have HQr:Hid (Bk wr q 152 (ps.map (pvOf g)).toArray):=yH (HQ.out.grown HIn.out.2.2.2.1 (fun e=>by injection e;omega))
  have HUg:=yH HIn.out.2.2.2.1
  by_cases hlt:j<n
  ·obtain⟨p,hp'⟩:∃p,ps[j]?=some p:=⟨ps[j]'(by rw[HN.out];exact hlt),List.getElem?_eq_getElem _⟩
   have hcell:wr.cell? ⟨q,j,none⟩=some (pvOf g p):=by
    rw[HQr.out.cell,List.getElem?_toArray,List.getElem?_map,hp'];rfl
   have hdr:ps.drop j=p::ps.drop (j+1):=by
    obtain⟨h1,h2⟩:=List.getElem?_eq_some_iff.1 hp'
    rw[List.drop_eq_getElem_cons h1,h2]
   have HRR:=yH (show piecesP (exprT d) (p::ps.drop (j+1)) (btwP j) x ts'=R by rw[←hdr];exact HL.out.2.1)
   have htk:=sign_take (btwP_or j) ts' HSt.out.fine.head.1
   clear hdr hp'
   by_cases htx:(hdT ts').2.1=[btwP j]
   ·have HT:=yH (show takeT 4 [btwP j] ts'= .ok (hdT ts',ts'.tail) by rw[htk,if_pos htx])
    have HSg:=yH (psign_yes V g (a+1) ts' [btwP j] C HC wr HSt.out htx (by simp))
    clear htk htx
    cases hst:stepP (exprT d) p x ts'.tail with
    |error e0=>
     have HE:=yH (show R= .error e0 by rw[←HRR.out];unfold piecesP;rw[HT.out];simp only[hst])
     have HPc:=yH (fun(w2:World)(h:InP V U w2 g (w.heap.size+1) (a+1) x ts'.tail)=>piece_no E had p (by omega) hst h)
     clear hst
     cases p
     all_goals
      unfold pvOf fnOf at hcell
      unfold fnOf at HPc
      go_wp2_with (first
          |(go_at_call 134;(with_reducible refine HSg.out.mono ?_);rintro e w2 ⟨rfl,s2,g2⟩;have HI2:=yH (HIn.out.step g2 s2);clear s2 g2)
          |((first|go_at_call 98|go_at_call 101|go_at_call 97|go_at_call 99|go_at_call 100|go_at_call 162);(with_reducible refine(HPc.out _ HI2.out).mono ?_);rintro e w3 ⟨rfl,g3⟩))
      exact⟨rfl,ExPost.no HE.out rfl (call_gr HUr.out hgl g3)⟩
    |ok qq=>
     obtain⟨y,r2⟩:=qq
     have HE:=yH (show piecesP (exprT d) (ps.drop (j+1)) (btwP (j+1)) y r2=R by rw[←HRR.out,piecesP,HT.out];simp only[hst];rfl)
     have HPc:=yH (fun(w2:World)(h:InP V U w2 g (w.heap.size+1) (a+1) x ts'.tail)=>piece_yes E had p (by omega) hst h)
     have HYl:=yH (show y.l.length≤j+1 from by have:=step_len hst;omega)
     clear hst
     cases p
     all_goals
      unfold pvOf fnOf at hcell
      unfold fnOf at HPc
      go_wp2_with (first
          |(go_at_call 134;(with_reducible refine HSg.out.mono ?_);rintro e w2 ⟨rfl,s2,g2⟩;have HI2:=yH (HIn.out.step g2 s2);clear s2 g2)
          |((first|go_at_call 98|go_at_call 101|go_at_call 97|go_at_call 99|go_at_call 100|go_at_call 162);(with_reducible refine(HPc.out _ HI2.out).mono ?_);rintro e w3 ⟨rfl,i3⟩;have HI3:=yH i3;clear i3))
      go_roundw
      case rel=>exact⟨j+1,_,y,r2,by omega,by go_num,rfl,yH rfl,yH ⟨HI3.out,HE.out,HYl.out⟩⟩
      case measure=>simp[RowKit.intOf];omega
   ·have HE:=yH (show R= .error (80,atT ts') by rw[←HRR.out];unfold piecesP;rw[htk,if_neg htx])
    have HSg:=yH (psign_not V g (a+1) ts' [btwP j] C HC wr HSt.out htx)
    clear htk htx
    go_wp2_with (go_at_call 134;(with_reducible refine HSg.out.mono ?_);rintro e w2 ⟨rfl,g2⟩)
    exact⟨rfl,ExPost.no HE.out rfl (call_gr HUr.out hgl (grown_trans HUg.out g2))⟩
  ·obtain rfl:j=n:=by omega
   have HRR:=yH (show piecesP (exprT d) [] (btwP j) x ts'=R by rw[←HL.out.2.1,List.drop_eq_nil_of_le (by rw[HN.out];exact Nat.le_refl _)])
   have htk:=sign_take (.inr (.inl rfl)) ts' HSt.out.fine.head.1
   by_cases htx:(hdT ts').2.1=[41]
   ·have HE:=yH (show R= .ok (x,ts'.tail) by rw[←HRR.out];unfold piecesP;rw[htk,if_pos htx])
    have HSg:=yH (psign_yes V g (a+1) ts' [41] ⟨#[41]⟩ (yH rfl) wr HSt.out htx (by simp))
    clear htk htx
    have hw2:IntKind.i64.wrap ((a:Int)+1-1)=(a:Int):=by rw[show(a:Int)+1-1=a by omega];exact IntWalk.i64_in _ (by omega)
    go_wp2_with (go_at_call 134;(with_reducible refine HSg.out.mono ?_);rintro e w2 ⟨rfl,s2,g2⟩;have HI2:=yH (HIn.out.step g2 s2);obtain⟨⟨A',c',_,_,_,_,_,_,_,hb2⟩,_,_,hg2,A,m,es,hX2⟩:=HI2.out;obtain⟨⟨_,c1⟩,_,u1⟩:=hb2.two;obtain⟨⟨x0,x1,x2,x3⟩,_⟩:=hX2.1.four;obtain⟨⟨z0,z1,z2,z3⟩,v0,v1,v2,v3⟩:=(HZ.out.grown hg2 (fun e=>by injection e;omega)).four;have hgne: ¬g=w.heap.size:=(by omega);have hgne': ¬w.heap.size=g:=(by omega);have hgnx: ¬g=w.heap.size+1:=(by omega);have hgnx': ¬w.heap.size+1=g:=(by omega);have HX2:=yH hX2;have HZ2:=yH (HZ.out.grown hg2 (fun e=>by injection e;omega));clear s2 g2 hX2 hb2 hg2)
    obtain⟨e1,e2,e3,e4⟩:=call_end hgl HR0.out.size HUr.out hzU HI2.out HX2.out (by omega) HZ2.out _ rfl
    obtain⟨⟨y0,y1,y2,y3⟩,_⟩:=e1.four
    refine bodyPost_ret (v:=EV (x.k,x.n,x.nm,A,es.length,m)) (by simp[results,Tryz.results96,go_sem,y0,y1,y2,y3]) rfl (ExPost.yes HE.out ⟨_,rfl,e2,e3,e4⟩)
   ·have HE:=yH (show R= .error (80,atT ts') by rw[←HRR.out];unfold piecesP;rw[htk,if_neg htx])
    have HSg:=yH (psign_not V g (a+1) ts' [41] ⟨#[41]⟩ (yH rfl) wr HSt.out htx)
    clear htk htx
    go_wp2_with (go_at_call 134;(with_reducible refine HSg.out.mono ?_);rintro e w2 ⟨rfl,g2⟩)
    exact⟨rfl,ExPost.no HE.out rfl (call_gr HUr.out hgl (grown_trans HUg.out g2))⟩
end Go.Proofs.YtfekhbeaphpelaaGreatDoor
