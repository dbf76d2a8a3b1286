/- The law on all that pace tells. -/

import Derived.Test.YtjhjdiaomnpkmaaGreatDoorZ41
set_option maxRecDepth 100000
set_option maxHeartbeats 8000000
set_option linter.unusedVariables false
set_option linter.unusedSimpArgs false
namespace Go.Proofs.YtjhjdiaomnpkmaaGreatDoor
open Go.RowKit Go.Lib
section
variable {f c m o b la at_ sw:Int} {t:List UInt8} {R:List Int} {S:ByteArray}
theorem rdec15_at(hS:B t=S)(hf:CfFit (f,c,m,o,b,t)){A:Option Addr}{n k:Nat}{tg now:Int}(ht:i64 tg)(hA:A=none→k=0){la' at' sw':Int}{R':List Int}{g:Bool}(hq:decP (f,c,m,o,b,t) (la,at_,R,sw) tg now=(la',at',R',sw'))(hg:goP (f,c,m,o,b,t) (la,at_,R,sw) tg now=g)(w:World)(hr:Rel w w)(hp:PaAt w (la,at_,R,sw) A n k):
  Calls Tryz.prog 16 #[.agg #[.int .i64 f,.int .i64 c,.int .i64 m,.int .i64 o,.int .i64 b,.string S],.agg #[.int .i64 la,.int .i64 at_,.slice A n k,.int .i64 sw],.int .i64 tg,.int .i64 now] w fun e w'=>∃(A':Option Addr)(n' k':Nat),e= .returned (.tuple #[.agg #[.int .i64 la',.int .i64 at',.slice A' n' k',.int .i64 sw'],.bool g])∧Hid (R'.length=n')∧Hid (IntsIn w' A' k' R')∧Hid (Rel w w'):=by
 refine(rdec15_any (f,c,m,o,b,t) S (la,at_,R,sw) A n k tg now w hS hf ht hr hp hA).mono ?_
 rintro e w' ⟨A',n',k',he,h1,h2,h3⟩
 rw[hq,hg] at he
 rw[hq] at h1 h2
 exact⟨A',n',k',he,yH h1,yH h2,yH h3⟩
end
theorem pkr15_as(c n y:Int)(h:Hid (pk c n=y))(hc:i64 c)(hn:0<n)(hn':n≤9223372036854775807)(w:World)(hr:Rel w w):
  Calls Tryz.prog 14 #[.int .i64 c,.int .i64 n] w fun e w'=>e= .returned (.int .i64 y)∧Hid (Rel w w'):=
 (pk15_as c n y h hc hn hn' w).mono fun e w' h=>⟨h.1,yH (h.2▸hr)⟩
theorem rready15_as(f c m o b la at_ sw:Int)(S:ByteArray)(t:List UInt8)(L:List Int)(A:Option Addr)(n k:Nat)(w:World)(hr:Rel w w):
  Calls Tryz.prog 13 #[.agg #[.int .i64 f,.int .i64 c,.int .i64 m,.int .i64 o,.int .i64 b,.string S],.agg #[.int .i64 la,.int .i64 at_,.slice A n k,.int .i64 sw]] w fun e w'=>e= .returned (.int .i64 (readyP (f,c,m,o,b,t) (la,at_,L,sw)))∧Hid (Rel w w'):=by
 have h:=rready_any f c m o b S la at_ sw A n k w hr
 exact h.mono fun e w' h=>⟨h.1,yH h.2⟩
theorem conf_two15{w:World}{g:Nat}{f c m o b f1 c1 m1 o1 b1:Int}{S sx:ByteArray}{t u:List UInt8}(hS:B t=S)(hx:B u=sx)(h1:CfFit (f,c,m,o,b,t))(h2:CfFit (f1,c1,m1,o1,b1,u))(h:Bk w g 24 #[.int .i64 f,.int .i64 c,.int .i64 m,.int .i64 o,.int .i64 b,.string S,.int .i64 f1,.int .i64 c1,.int .i64 m1,.int .i64 o1,.int .i64 b1,.string sx])(j:Nat)(hj:j<2):
  ∃(F C M O D:Int)(Z:ByteArray)(v:List UInt8),w.cell? ⟨g,j*6,none⟩=some (.int .i64 F)∧w.cell? ⟨g,j*6+1,none⟩=some (.int .i64 C)∧w.cell? ⟨g,j*6+2,none⟩=some (.int .i64 M)∧w.cell? ⟨g,j*6+3,none⟩=some (.int .i64 O)∧w.cell? ⟨g,j*6+4,none⟩=some (.int .i64 D)∧w.cell? ⟨g,j*6+5,none⟩=some (.string Z)∧B v=Z∧CfFit (F,C,M,O,D,v):=by
 have:j=0∨j=1:=by omega
 rcases this with rfl|rfl
 ·exact⟨f,c,m,o,b,S,t,h.cell 0,h.cell 1,h.cell 2,h.cell 3,h.cell 4,h.cell 5,hS,h1⟩
 ·exact⟨f1,c1,m1,o1,b1,sx,u,h.cell 6,h.cell 7,h.cell 8,h.cell 9,h.cell 10,h.cell 11,hx,h2⟩
theorem pace_two15{w:World}{g:Nat}{la lq at_ sw:Int}{A:Option Addr}{n k:Nat}(h1:i64 la)(h2:i64 lq)(h:Bk w g 27 #[.int .i64 la,.int .i64 at_,.slice A n k,.int .i64 sw,.int .i64 lq,.int .i64 at_,.slice A n k,.int .i64 sw])(j:Nat)(hj:j<2):
  ∃lx:Int,w.cell? ⟨g,j*4,none⟩=some (.int .i64 lx)∧w.cell? ⟨g,j*4+1,none⟩=some (.int .i64 at_)∧w.cell? ⟨g,j*4+2,none⟩=some (.slice A n k)∧w.cell? ⟨g,j*4+3,none⟩=some (.int .i64 sw)∧i64 lx:=by
 have:j=0∨j=1:=by omega
 rcases this with rfl|rfl
 ·exact⟨la,h.cell 0,h.cell 1,h.cell 2,h.cell 3,h1⟩
 ·exact⟨lq,h.cell 4,h.cell 5,h.cell 6,h.cell 7,h2⟩
theorem asks_two15{w:World}{g:Nat}{tg now yz yk:Int}(h1:i64 tg)(h2:i64 now)(h3:i64 yz)(h4:i64 yk)(h:Bk w g 34 #[.int .i64 tg,.int .i64 now,.int .i64 yz,.int .i64 yk])(j:Nat)(hj:j<2):
  ∃yt yn:Int,w.cell? ⟨g,j*2,none⟩=some (.int .i64 yt)∧w.cell? ⟨g,j*2+1,none⟩=some (.int .i64 yn)∧i64 yt∧i64 yn:=by
 have:j=0∨j=1:=by omega
 rcases this with rfl|rfl
 ·exact⟨tg,now,h.cell 0,h.cell 1,h1,h2⟩
 ·exact⟨yz,yk,h.cell 2,h.cell 3,h3,h4⟩
theorem wrap_i64_in(n:Int):i64 (IntKind.i64.wrap n):=by
 rw[IntKind.wrap_i64]
 exact⟨by omega,by omega⟩
theorem PaAt.last{w:World}{la lx at_ sw:Int}{L:List Int}{A:Option Addr}{n k:Nat}(h:PaAt w (la,at_,L,sw) A n k)(hx:i64 lx):PaAt w (lx,at_,L,sw) A n k:=⟨h.1,⟨hx,h.2.1.2.1,h.2.1.2.2⟩,h.2.2⟩
theorem PaceTells_at(H3:ConfOk3)(H:PaceOk)(r0 r1 r2 r3 r4 r5:Int)(f1 c1 m1 o1 b1:Int)(u:List UInt8)(sx:ByteArray)(hx:B u=sx)(hfx:CfFit (f1,c1,m1,o1,b1,u))(la at_ sw:Int)(L:List Int)(A:Option Addr)(n k:Nat)(tg now:Int)(ht:i64 tg)(hnow:i64 now)(w:World)(hr:Rel w w)(hp:PaAt w (la,at_,L,sw) A n k)(hA:A=none→k=0)(h0:i64 r0)(h1:i64 r1)(h2:i64 r2)(h3:i64 r3)(h4:i64 r4)(h5:i64 r5):
  Calls Tryz.prog 3 #[.agg #[.int .i64 r0,.int .i64 r1,.int .i64 r2,.int .i64 r3,.int .i64 r4,.int .i64 r5],.agg #[.int .i64 f1,.int .i64 c1,.int .i64 m1,.int .i64 o1,.int .i64 b1,.string sx],.agg #[.int .i64 la,.int .i64 at_,.slice A n k,.int .i64 sw],.int .i64 tg,.int .i64 now] w fun e w'=>e= .returned (.bool true)∧Rel w w':=by
 have HR:=yH hr
 obtain⟨f,c,m,o,b,t,S,hS,hz,hf,_,hC⟩:=conf15_open r0 r1 r2 r3 r4 r5 h0 h1 h2 h3 h4 h5
 have HCo:=yH hC
 have HAw:=yH (fun(w:World)(hr:Rel w w)=>awake15_any H w hr)
 have HH:=yH H
 have HF2:=yH (fun(w:World)(g:Nat)(h:Bk w g 24 #[.int .i64 f,.int .i64 c,.int .i64 m,.int .i64 o,.int .i64 b,.string S,.int .i64 f1,.int .i64 c1,.int .i64 m1,.int .i64 o1,.int .i64 b1,.string sx])(j:Nat)(hj:j<2)=>conf_two15 hS hx hf hfx h j hj)
 have HPa:=yH hp
 have HAk:=yH hA
 have hT1:=yH (yH ht).out
 have hN1:=yH hnow
 have hkm:n≤k∧k≤maxLen:=⟨by have h1:=hp.2.2.1;have h2:L.length=n:=hp.1;rw[←h2];exact h1,hp.2.2.2.1⟩
 obtain⟨hk0,hk1⟩:=hkm
 unfold maxLen at hk1
 have HLn:=yH (show L.length=n from hp.1)
 have HLa:=yH (show i64 la from hp.2.1.1)
 obtain⟨q1,hq1⟩:∃q,pk tg 2000=q:=⟨_,rfl⟩
 have HQ1:=yH (yH hq1)
 obtain⟨yk,hyk⟩:∃q,pk now 1000=q:=⟨_,rfl⟩
 have HQ2:=yH (yH hyk)
 have hyb:=pk_bd now 1000 (by omega)
 rw[hyk] at hyb
 have HYK:=yH (show i64 yk from⟨by omega,by omega⟩)
 have KG:=yH (fun(w:World)(hr:Rel w w)(hp:PaAt w (la,at_,L,sw) A n k)=>pright15 H (show rightP (la,at_,L,sw)=rightP (la,at_,L,sw) from rfl) w hr hp)
 have RG0:=fun(w:World)(hr:Rel w w)(hi:IntsIn w A k L)=>rright15_any la at_ sw L A n k hp.1 w hr hi
 obtain⟨RP,hRP⟩:∃q,rightP (la,at_,L,sw)=q:=⟨_,rfl⟩
 rw[hRP] at KG RG0
 have RG:=yH (fun(w:World)(hr:Rel w w)(hi:PaAt w (la,at_,L,sw) A n k)=>(RG0 w hr hi.2.2).mono fun e w' h=>(⟨h.1,yH h.2⟩:e= .returned (.bool RP)∧Hid (Rel w w')))
 clear hC h0 h1 h2 h3 h4 h5 H hS hz hf hx hfx hp hA ht hnow hr hq1 hyk hyb RG0 hRP
 go_enter Tryz.func3,Tryz.ntmps3
 go_upto_region 1 with (fail)
 have HB0:=yH (((Bk.new w 22 #[.int .i64 r0,.int .i64 r1,.int .i64 r2,.int .i64 r3,.int .i64 r4,.int .i64 r5]).alloc (.cells #[.int .i64 f1,.int .i64 c1,.int .i64 m1,.int .i64 o1,.int .i64 b1,.string sx] 24)).alloc (.cells #[.int .i64 la,.int .i64 at_,.slice A n k,.int .i64 sw] 27))
 have HA0:=yH ((Bk.new (w.alloc (.cells #[.int .i64 r0,.int .i64 r1,.int .i64 r2,.int .i64 r3,.int .i64 r4,.int .i64 r5] 22)) 24 #[.int .i64 f1,.int .i64 c1,.int .i64 m1,.int .i64 o1,.int .i64 b1,.string sx]).alloc (.cells #[.int .i64 la,.int .i64 at_,.slice A n k,.int .i64 sw] 27))
 have HP0:=yH (Bk.new ((w.alloc (.cells #[.int .i64 r0,.int .i64 r1,.int .i64 r2,.int .i64 r3,.int .i64 r4,.int .i64 r5] 22)).alloc (.cells #[.int .i64 f1,.int .i64 c1,.int .i64 m1,.int .i64 o1,.int .i64 b1,.string sx] 24)) 27 #[.int .i64 la,.int .i64 at_,.slice A n k,.int .i64 sw])
 have R0:=yH (((HR.out.alloc (.cells #[.int .i64 r0,.int .i64 r1,.int .i64 r2,.int .i64 r3,.int .i64 r4,.int .i64 r5] 22)).alloc (.cells #[.int .i64 f1,.int .i64 c1,.int .i64 m1,.int .i64 o1,.int .i64 b1,.string sx] 24)).alloc (.cells #[.int .i64 la,.int .i64 at_,.slice A n k,.int .i64 sw] 27))
 rw[World.size_alloc] at HA0
 rw[World.size_alloc,World.size_alloc] at HP0
 obtain⟨W0,hW0⟩:∃W,((w.alloc (.cells #[.int .i64 r0,.int .i64 r1,.int .i64 r2,.int .i64 r3,.int .i64 r4,.int .i64 r5] 22)).alloc (.cells #[.int .i64 f1,.int .i64 c1,.int .i64 m1,.int .i64 o1,.int .i64 b1,.string sx] 24)).alloc (.cells #[.int .i64 la,.int .i64 at_,.slice A n k,.int .i64 sw] 27)=W:=⟨_,rfl⟩
 obtain⟨gP,hgP⟩:∃g,w.heap.size+1+1=g:=⟨_,rfl⟩
 obtain⟨gA,hgA⟩:∃g,w.heap.size+1=g:=⟨_,rfl⟩
 rw[hW0] at HB0 HA0 R0 HP0
 rw[hgP] at HP0
 rw[hgA] at HA0
 try rw[hW0]
 try rw[hgP]
 try rw[hgA]
 obtain⟨gR,hgR⟩:∃g,w.heap.size=g:=⟨_,rfl⟩
 rw[hgR] at HB0
 try rw[hgR]
 clear hW0 hgA hgR hgP
 go_upto_region 2 with (go_at_call 8;(with_reducible refine(HAw.out W0 R0.out.self).mono ?_);rintro e w1 ⟨rfl,h1⟩;have R1:=yH (R0.out.trans h1);have HB1:=yH (HB0.out.rel h1);have HA1:=yH (HA0.out.rel h1);have HP1:=yH (HP0.out.rel h1);clear h1)
 clear R0 HB0 HA0 HP0 HAw
 refine wp_region_held_drew (S:=(fun w'=>Rel w1 w')) (by kernel_rfl) R1.out.self.drew (fun hH=> ?_)
 refine yL [0,2,5] (by kernel_rfl) hH (fun _ _ _ _ _=>id) ?_
 iterate 3
  refine yS rfl rfl (by rfl) ?_ ?_ ?_
  rotate_left
  ·intro w' (h:Rel w1 w');obtain⟨⟨y_0,y_1,y_2,y_3,y_4,y_5⟩,_⟩:=six_of (HB1.out.rel h);obtain⟨⟨x0,x1,x2,x3,x4,x5⟩,_⟩:=six_of (HA1.out.rel h);go_simp;try with_reducible rfl
  try simp only[Act.put,yA,yB,yC]
 refine yZ ?_
 refine held_one (j:=1) (by kernel_rfl) rfl (fun K hK=> ?_)
 try simp only[yD,yE,yF]
 rw[if_pos (by rfl)]
 go_simp
 go_at_call 9
 (with_reducible refine(HCo.out _ hH.self).mono ?_)
 rintro e w7 ⟨rfl,r7⟩
 refine hK.out _ _ (hH.trans r7.out) (fun hH=> ?_)
 clear hK K
 try simp only[Act.put,yA,yB,yC]
 refine held_one (j:=3) (by kernel_rfl) rfl (fun K hK=> ?_)
 try simp only[yD,yE,yF]
 rw[if_pos (by rfl)]
 go_simp
 refine hK.out _ _ (hH.alloc _) (fun hH=> ?_)
 clear hK K
 try simp only[Act.put,yA,yB,yC]
 refine yW 4 28 rfl rfl (by kernel_rfl) (by rfl) hH ?_ (fun _ _ _=>id) ?_ ?_
 rotate_left
 ·intro w' (h:Rel w1 w');obtain⟨⟨y_0,y_1,y_2,y_3,y_4,y_5⟩,_⟩:=six_of (HB1.out.rel h);obtain⟨⟨x0,x1,x2,x3,x4,x5⟩,_⟩:=six_of (HA1.out.rel h);go_simp;try with_reducible rfl
 try simp only[Act.put,yA,yB,yC]
 refine wpAnyH_done (by kernel_rfl) ?_ _
 have HS7:=yH (Bk.new w7 24 #[.int .i64 f,.int .i64 c,.int .i64 m,.int .i64 o,.int .i64 b,.string S,.int .i64 f1,.int .i64 c1,.int .i64 m1,.int .i64 o1,.int .i64 b1,.string sx])
 have R7:=yH (R1.out.trans hH)
 have HP7:=yH (HP1.out.rel hH)
 obtain⟨gS,hgS⟩:∃g,w7.heap.size=g:=⟨_,rfl⟩
 obtain⟨wB,hwB⟩:∃W,w7.alloc (.cells #[.int .i64 f,.int .i64 c,.int .i64 m,.int .i64 o,.int .i64 b,.string S,.int .i64 f1,.int .i64 c1,.int .i64 m1,.int .i64 o1,.int .i64 b1,.string sx] 24)=W:=⟨_,rfl⟩
 rw[hwB] at HS7 R7 HP7
 rw[hgS] at HS7
 try rw[hwB]
 try rw[hgS]
 clear hwB hgS hH r7 HB1 HA1 HP1 R1 HCo
 have UB:=yH R7.out.self
 go_wp2_with (fail)
 go_loopw [29] (fun i wr=>∃j:Nat,i= .int .i64 (j:Int)∧j≤2∧Hid (Rel wB wr)) (fun i _=>2-(RowKit.intOf i).toNat)
 case atStart=>exact⟨0,rfl,by omega,UB⟩
 case round=>
  obtain⟨j,rfl,hj,HRb⟩:=hrel
  obtain⟨w3,hw3⟩:∃w3,w3=wr:=⟨_,rfl⟩
  subst hw3
  by_cases hlt:j<2
  rotate_left 1
  ·obtain rfl:j=2:=by omega
   go_wp2_with (fail)
   go_ret
   exact⟨rfl,R7.out.trans HRb.out⟩
  have hij:(j:Int)<2:=by omega
  obtain⟨fl,ce,mp,co,bd,Z,v,x0,x1,x2,x3,x4,x5,hZv,hfv⟩:=HF2.out w3 gS (HS7.out.rel HRb.out) j hlt
  have HZv:=yH hZv
  have HFv:=yH hfv
  have KY0:=fun(w:World)(hr:Rel w w)(hp:PaAt w (la,at_,L,sw) A n k)=>pready15 HH.out hZv hfv (show readyP (fl,ce,mp,co,bd,v) (la,at_,L,sw)=readyP (fl,ce,mp,co,bd,v) (la,at_,L,sw) from rfl) w hr hp
  have RY0:=fun(w:World)(hr:Rel w w)=>rready15_as fl ce mp co bd la at_ sw Z v L A n k w hr
  obtain⟨RE,hRE⟩:∃q,readyP (fl,ce,mp,co,bd,v) (la,at_,L,sw)=q:=⟨_,rfl⟩
  rw[hRE] at KY0 RY0
  have KY:=yH KY0
  have RY:=yH RY0
  clear hZv hfv KY0 RY0 hRE
  go_upto_region 5 with (fail)
  have ALW9:=yH (HRb.out.self.alloc (.cells #[.int .i64 fl,.int .i64 ce,.int .i64 mp,.int .i64 co,.int .i64 bd,.string Z] 24))
  have HX9:=yH (Bk.new w3 24 #[.int .i64 fl,.int .i64 ce,.int .i64 mp,.int .i64 co,.int .i64 bd,.string Z])
  have R9b:=yH (HRb.out.trans ALW9.out)
  obtain⟨W9,hW9⟩:∃W,w3.alloc (.cells #[.int .i64 fl,.int .i64 ce,.int .i64 mp,.int .i64 co,.int .i64 bd,.string Z] 24)=W:=⟨_,rfl⟩
  obtain⟨gX,hgX⟩:∃g,w3.heap.size=g:=⟨_,rfl⟩
  rw[hW9] at HX9 R9b
  rw[hgX] at HX9
  try rw[hW9]
  try rw[hgX]
  clear hW9 hgX ALW9
  have UB9:=yH R9b.out.self
  have R9:=yH (R7.out.trans R9b.out)
  have HP9:=yH (HP7.out.rel R9b.out)
  clear x0 x1 x2 x3 x4 x5
  by_cases h9:9<n
  ·have g9:decide ((9:Int)<(n:Int))=true:=decide_eq_true (by omega)
   have g9':decide (9<n)=true:=decide_eq_true h9
   refine wp_region_held_drew (S:=(fun w'=>Rel W9 w')) (by kernel_rfl) UB9.out.drew (fun hH=> ?_)
   refine yL [0,1,2,3,4,5,6,7,8,9,10,11,12,13,14,15,16,17,18,19] (by kernel_rfl) hH (fun _ _ _ _ _=>id) ?_
   iterate 5
    refine yS rfl rfl (by rfl) ?_ ?_ ?_
    rotate_left
    ·intro w' (h:Rel W9 w');obtain⟨⟨x0,x1,x2,x3,x4,x5⟩,_⟩:=six_of (HX9.out.rel h);obtain⟨⟨p0,p1,p2,p3⟩,_⟩:=four_of (HP9.out.rel h);go_simp;try with_reducible rfl
    try simp only[Act.put,yA,yB,yC]
   iterate 5
    refine yV rfl rfl (by rfl) ?_
    try simp only[Act.put,yA,yB,yC]
   iterate 2
    refine yS rfl rfl (by rfl) ?_ ?_ ?_
    rotate_left
    ·intro w' (h:Rel W9 w');obtain⟨⟨x0,x1,x2,x3,x4,x5⟩,_⟩:=six_of (HX9.out.rel h);obtain⟨⟨p0,p1,p2,p3⟩,_⟩:=four_of (HP9.out.rel h);go_simp;try with_reducible rfl
    try simp only[Act.put,yA,yB,yC]
   iterate 7
    refine yV rfl rfl (by rfl) ?_
    try simp only[Act.put,yA,yB,yC]
   refine yS rfl rfl (by rfl) ?_ ?_ ?_
   rotate_left
   ·intro w' (h:Rel W9 w');obtain⟨⟨x0,x1,x2,x3,x4,x5⟩,_⟩:=six_of (HX9.out.rel h);obtain⟨⟨p0,p1,p2,p3⟩,_⟩:=four_of (HP9.out.rel h);go_simp;try with_reducible rfl
   try simp only[Act.put,yA,yB,yC]
   refine yZ ?_
   refine wpAnyH_done (by kernel_rfl) ?_ _
   obtain⟨p0,p1,p2,p3⟩:=(four_of (HP9.out.rel hH)).1
   go_wp2_with (fail)
   go_ret
   exact⟨rfl,R9.out.trans hH⟩
  have g9:decide ((9:Int)<(n:Int))=false:=decide_eq_false (by omega)
  have g9':decide (9<n)=false:=decide_eq_false h9
  have e1:(RP !=RP)=false:=by simp
  have e2:(RE !=RE)=false:=by simp
  refine wp_region_held_drew (S:=(fun w'=>Rel W9 w')) (by kernel_rfl) UB9.out.drew (fun hH=> ?_)
  refine yL [0,1,2,3,4,5,7] (by kernel_rfl) hH (fun _ _ _ _ _=>id) ?_
  iterate 7
   refine yS rfl rfl (by rfl) ?_ ?_ ?_
   rotate_left
   ·intro w' (h:Rel W9 w');obtain⟨⟨x0,x1,x2,x3,x4,x5⟩,_⟩:=six_of (HX9.out.rel h);obtain⟨⟨p0,p1,p2,p3⟩,_⟩:=four_of (HP9.out.rel h);go_simp;try with_reducible rfl
   try simp only[Act.put,yA,yB,yC]
  refine yZ ?_
  refine held_one (j:=6) (by kernel_rfl) rfl (fun K hK=> ?_)
  try simp only[yD,yE,yF]
  rw[if_pos (by rfl)]
  go_simp
  go_at_call 10
  (with_reducible refine(KG.out _ (UB9.out.trans hH).self (HPa.out.rel (R9.out.trans hH))).mono ?_)
  rintro e wq ⟨rfl,rq⟩
  refine hK.out _ _ (hH.trans rq.out) (fun hH=> ?_)
  clear hK K
  try simp only[Act.put,yA,yB,yC]
  refine held_one (j:=8) (by kernel_rfl) rfl (fun K hK=> ?_)
  try simp only[yD,yE,yF]
  rw[if_pos (by rfl)]
  go_simp
  go_at_call 11
  (with_reducible refine(RG.out _ (UB9.out.trans hH).self (HPa.out.rel (R9.out.trans hH))).mono ?_)
  rintro e wq ⟨rfl,rq⟩
  refine hK.out _ _ (hH.trans rq.out) (fun hH=> ?_)
  clear hK K
  try simp only[Act.put,yA,yB,yC]
  refine yL [9,10,11,12,13,15,16] (by kernel_rfl) hH (fun _ _ _ _ _=>id) ?_
  iterate 7
   refine yS rfl rfl (by rfl) ?_ ?_ ?_
   rotate_left
   ·intro w' (h:Rel W9 w');obtain⟨⟨x0,x1,x2,x3,x4,x5⟩,_⟩:=six_of (HX9.out.rel h);obtain⟨⟨p0,p1,p2,p3⟩,_⟩:=four_of (HP9.out.rel h);go_simp;try with_reducible rfl
   try simp only[Act.put,yA,yB,yC]
  refine yZ ?_
  refine held_one (j:=14) (by kernel_rfl) rfl (fun K hK=> ?_)
  try simp only[yD,yE,yF]
  rw[if_pos (by rfl)]
  go_simp
  go_at_call 12
  (with_reducible refine(KY.out _ (UB9.out.trans hH).self (HPa.out.rel (R9.out.trans hH))).mono ?_)
  rintro e wq ⟨rfl,rq⟩
  refine hK.out _ _ (hH.trans rq.out) (fun hH=> ?_)
  clear hK K
  try simp only[Act.put,yA,yB,yC]
  refine held_one (j:=17) (by kernel_rfl) rfl (fun K hK=> ?_)
  try simp only[yD,yE,yF]
  rw[if_pos (by rfl)]
  go_simp
  go_at_call 13
  (with_reducible refine(RY.out _ (UB9.out.trans hH).self).mono ?_)
  rintro e wq ⟨rfl,rq⟩
  refine hK.out _ _ (hH.trans rq.out) (fun hH=> ?_)
  clear hK K
  try simp only[Act.put,yA,yB,yC]
  refine yL [18,19] (by kernel_rfl) hH (fun _ _ _ _ _=>id) ?_
  iterate 2
   refine yS rfl rfl (by rfl) ?_ ?_ ?_
   rotate_left
   ·intro w' (h:Rel W9 w');obtain⟨⟨x0,x1,x2,x3,x4,x5⟩,_⟩:=six_of (HX9.out.rel h);obtain⟨⟨p0,p1,p2,p3⟩,_⟩:=four_of (HP9.out.rel h);go_simp;try with_reducible rfl
   try simp only[Act.put,yA,yB,yC]
  refine yZ ?_
  refine wpAnyH_done (by kernel_rfl) ?_ _
  obtain⟨wA,hwA⟩:∃W,W=wq:=⟨_,rfl⟩
  subst hwA
  have RAb:=yH (R9b.out.trans hH)
  have HXA:=yH (HX9.out.rel hH)
  have HPA:=yH (HP9.out.rel hH)
  clear hH rq KG RG KY RY R9b HX9 HP9 UB9 R9 e1 e2
  obtain⟨⟨p0,p1,p2,p3⟩,_⟩:=four_of HPA.out
  go_upto_region 8 with (fail)
  have ALWQ:=yH (RAb.out.self.alloc (.cells #[.int .i64 la,.int .i64 at_,.slice A n k,.int .i64 sw] 27))
  have HQ7:=yH (Bk.new wA 27 #[.int .i64 la,.int .i64 at_,.slice A n k,.int .i64 sw])
  have RQb:=yH (RAb.out.trans ALWQ.out)
  have HXQ:=yH (HXA.out.rel ALWQ.out)
  have HPQ:=yH (HPA.out.rel ALWQ.out)
  have NXQ:=yH (Nat.ne_of_lt HXA.out.lt)
  have NPQ:=yH (Nat.ne_of_lt HPA.out.lt)
  have SQ:=yH RAb.out.size
  obtain⟨WQ,hWQ⟩:∃W,wA.alloc (.cells #[.int .i64 la,.int .i64 at_,.slice A n k,.int .i64 sw] 27)=W:=⟨_,rfl⟩
  obtain⟨gQ,hgQ⟩:∃g,wA.heap.size=g:=⟨_,rfl⟩
  rw[hWQ] at HQ7 RQb HXQ HPQ
  rw[hgQ] at HQ7 NXQ NPQ SQ
  try rw[hWQ]
  try rw[hgQ]
  clear hWQ hgQ ALWQ
  clear HXA HPA RAb p0 p1 p2 p3
  obtain⟨⟨q_0,q_1,q_2,q_3⟩,⟨qf0,qf1,qf2,qf3⟩⟩:=four_of HQ7.out
  go_upto_if 64 with (fail)
  go_cut [] (fun wx=>∃lq:Int,i64 lq∧Rel wB wx∧Bk wx gX 24 #[.int .i64 fl,.int .i64 ce,.int .i64 mp,.int .i64 co,.int .i64 bd,.string Z]∧Bk wx gP 27 #[.int .i64 la,.int .i64 at_,.slice A n k,.int .i64 sw]∧Bk wx gQ 27 #[.int .i64 lq,.int .i64 at_,.slice A n k,.int .i64 sw])
  case first=>
   by_cases hn0:n=0
   ·have z1:decide ((0:Int)<(n:Int))=false:=decide_eq_false (by omega)
    have z2:decide (0<n)=false:=decide_eq_false (by omega)
    go_wp2_with (fail)
    go_meet
    exact⟨la,HLa.out,RQb.out,HXQ.out,HPQ.out,HQ7.out⟩
   ·have z1:decide ((0:Int)<(n:Int))=true:=decide_eq_true (by omega)
    have z2:decide (0<n)=true:=decide_eq_true (by omega)
    have hl1:=HLn.out
    obtain⟨e,hen⟩:∃e,n=e+1:=⟨n-1,by omega⟩
    have hel:e<L.length:=by omega
    obtain⟨g,off,rfl,hc⟩:=ints_row (HPa.out.rel (R7.out.trans RQb.out)).2.2 (show 0<L.length by omega)
    have px:WQ.cell? ⟨g,off+e,none⟩=some (.int .i64 L[e]):=hc e hel
    obtain⟨x,hx⟩:∃x,L[e]=x:=⟨_,rfl⟩
    have hxi:i64 x:=by rw[←hx];exact HPa.out.2.2.2.2.1 _ (List.getElem_mem hel)
    rw[hx] at px
    have HXI:=yH hxi
    have i1:(n:Int)-1=(e:Int):=by omega
    have i2:(0:Int)≤(e:Int):=by omega
    have i3:(e:Int)<(n:Int):=by omega
    clear hl1 hen hel hc hx hxi
    go_wp2_with (fail)
    go_meet
    exact⟨x,HXI.out,RQb.out.setCell (p:=⟨gQ,0,none⟩) SQ.out (.int .i64 x),HXQ.out.far (p:=⟨gQ,0,none⟩) NXQ.out (.int .i64 x),HPQ.out.far (p:=⟨gQ,0,none⟩) NPQ.out (.int .i64 x),HQ7.out.set_ 0 (.int .i64 x)⟩
  obtain⟨lq,hlq,hR8,hX8,hP8,hQ8⟩:=hcut
  have HLq:=yH hlq
  have R8:=yH hR8
  have HX8:=yH hX8
  have HP8:=yH hP8
  have HQ8:=yH hQ8
  clear hlq hR8 hX8 hP8 hQ8 q_0 q_1 q_2 q_3 qf0 qf1 qf2 qf3 RQb HXQ HPQ HQ7 NXQ NPQ SQ
  obtain⟨⟨p0,p1,p2,p3⟩,_⟩:=four_of HP8.out
  obtain⟨⟨q_0,q_1,q_2,q_3⟩,_⟩:=four_of HQ8.out
  go_upto_block 2 with (fail)
  have ALwI:=yH (R8.out.self.alloc (.cells #[.int .i64 la,.int .i64 at_,.slice A n k,.int .i64 sw,.int .i64 lq,.int .i64 at_,.slice A n k,.int .i64 sw] 27))
  have HT8:=yH (Bk.new wc 27 #[.int .i64 la,.int .i64 at_,.slice A n k,.int .i64 sw,.int .i64 lq,.int .i64 at_,.slice A n k,.int .i64 sw])
  have RI:=yH (R8.out.trans ALwI.out)
  have HXI:=yH (HX8.out.rel ALwI.out)
  have HPI:=yH (HP8.out.rel ALwI.out)
  obtain⟨wI,hwI⟩:∃W,wc.alloc (.cells #[.int .i64 la,.int .i64 at_,.slice A n k,.int .i64 sw,.int .i64 lq,.int .i64 at_,.slice A n k,.int .i64 sw] 27)=W:=⟨_,rfl⟩
  obtain⟨gT,hgT⟩:∃g,wc.heap.size=g:=⟨_,rfl⟩
  rw[hwI] at HT8 RI HXI HPI
  rw[hgT] at HT8
  try rw[hwI]
  try rw[hgT]
  clear hwI hgT ALwI
  clear HX8 HP8 HQ8 R8 p0 p1 p2 p3 q_0 q_1 q_2 q_3
  have UI:=yH RI.out.self
  have PAI:=yH (HPa.out.rel (R7.out.trans RI.out))
  go_wp2_with (fail)
  go_loopw [78] (fun i wr=>∃q:Nat,i= .int .i64 (q:Int)∧q≤2∧Hid (Rel wI wr)) (fun i _=>2-(RowKit.intOf i).toNat)
  case atStart=>exact⟨0,rfl,by omega,UI⟩
  case round=>
   obtain⟨q,rfl,hq,HRq⟩:=hrel
   obtain⟨w5,hw5⟩:∃w3,w3=wr:=⟨_,rfl⟩
   subst hw5
   by_cases hltq:q<2
   rotate_left 1
   ·obtain rfl:q=2:=by omega
    go_wp2_with (fail)
    go_roundw
    case rel=>exact⟨j+1,by go_num,by omega,yH (RI.out.trans HRq.out)⟩
    case measure=>simp[RowKit.intOf];omega
   have hiq:(q:Int)<2:=by omega
   obtain⟨lx,c0,c1',c2',c3,hlx⟩:=pace_two15 HLa.out HLq.out (HT8.out.rel HRq.out) q hltq
   have HLx:=yH hlx
   clear hlx
   go_upto_region 13 with (fail)
   clear c0 c1' c2' c3
   have ALWC:=yH (HRq.out.self.alloc (.cells #[.int .i64 lx,.int .i64 at_,.slice A n k,.int .i64 sw] 27))
   have HZC:=yH (Bk.new w5 27 #[.int .i64 lx,.int .i64 at_,.slice A n k,.int .i64 sw])
   have RC:=yH (HRq.out.trans ALWC.out)
   obtain⟨WC,hWC⟩:∃W,w5.alloc (.cells #[.int .i64 lx,.int .i64 at_,.slice A n k,.int .i64 sw] 27)=W:=⟨_,rfl⟩
   obtain⟨gZ,hgZ⟩:∃g,w5.heap.size=g:=⟨_,rfl⟩
   rw[hWC] at HZC RC
   rw[hgZ] at HZC
   try rw[hWC]
   try rw[hgZ]
   clear hWC hgZ ALWC
   have HXC:=yH (HXI.out.rel RC.out)
   have UC:=yH RC.out.self
   have PAC:=yH ((PAI.out.rel RC.out).last HLx.out)
   obtain⟨yz,hyz⟩:∃z,IntKind.i64.wrap (fl+q1)=z:=⟨_,rfl⟩
   have HYZ:=yH (show i64 yz from hyz▸wrap_i64_in _)
   refine wp_region_held_drew (S:=(fun w'=>Rel WC w')) (by kernel_rfl) UC.out.drew (fun hH=> ?_)
   refine yL [0,1,2,3,4,5,8,13] (by kernel_rfl) hH (fun _ _ _ _ _=>id) ?_
   iterate 8
    refine yS rfl rfl (by rfl) ?_ ?_ ?_
    rotate_left
    ·intro w' (h:Rel WC w');obtain⟨⟨x0,x1,x2,x3,x4,x5⟩,_⟩:=six_of (HXC.out.rel h);go_simp;try with_reducible rfl
    try simp only[Act.put,yA,yB,yC]
   refine yZ ?_
   refine held_one (j:=6) (by kernel_rfl) rfl (fun K hK=> ?_)
   try simp only[yD,yE,yF]
   rw[if_pos (by rfl)]
   go_simp
   go_at_call 14
   (with_reducible refine(pkr15_as tg 2000 q1 HQ1.out hT1.out (by omega) (by omega) _ (UC.out.trans hH).self).mono ?_)
   rintro e wp ⟨rfl,rp⟩
   refine hK.out _ _ (hH.trans rp.out) (fun hH=> ?_)
   clear hK K
   try simp only[Act.put,yA,yB,yC]
   refine yW 7 89 rfl rfl (by kernel_rfl) (by rfl) hH ?_ (fun _ _ _=>id) ?_ ?_
   rotate_left
   ·intro w' (h:Rel WC w');obtain⟨⟨x0,x1,x2,x3,x4,x5⟩,_⟩:=six_of (HXC.out.rel h);go_simp;try with_reducible rfl
   try simp only[Act.put,yA,yB,yC]
   refine held_one (j:=9) (by kernel_rfl) rfl (fun K hK=> ?_)
   try simp only[yD,yE,yF]
   rw[if_pos (by rfl)]
   go_simp
   go_at_call 14
   (with_reducible refine(pkr15_as now 1000 yk HQ2.out hN1.out (by omega) (by omega) _ (UC.out.trans hH).self).mono ?_)
   rintro e wq2 ⟨rfl,rp2⟩
   refine hK.out _ _ (hH.trans rp2.out) (fun hH=> ?_)
   clear hK K
   try simp only[Act.put,yA,yB,yC]
   refine yW 10 92 rfl rfl (by kernel_rfl) (by rfl) hH ?_ (fun _ _ _=>id) ?_ ?_
   rotate_left
   ·intro w' (h:Rel WC w');obtain⟨⟨x0,x1,x2,x3,x4,x5⟩,_⟩:=six_of (HXC.out.rel h);go_simp;try with_reducible rfl
   try simp only[Act.put,yA,yB,yC]
   refine held_one (j:=11) (by kernel_rfl) rfl (fun K hK=> ?_)
   try simp only[yD,yE,yF]
   rw[if_pos (by rfl)]
   go_simp
   refine hK.out _ _ (hH.alloc _) (fun hH=> ?_)
   clear hK K
   try simp only[Act.put,yA,yB,yC]
   refine yW 12 94 rfl rfl (by kernel_rfl) (by rfl) hH ?_ (fun _ _ _=>id) ?_ ?_
   rotate_left
   ·intro w' (h:Rel WC w');obtain⟨⟨x0,x1,x2,x3,x4,x5⟩,_⟩:=six_of (HXC.out.rel h);go_simp;try with_reducible rfl
   try simp only[Act.put,yA,yB,yC]
   refine wpAnyH_done (by kernel_rfl) ?_ _
   have HYc:=yH (Bk.new wq2 34 #[.int .i64 tg,.int .i64 now,.int .i64 yz,.int .i64 yk])
   have RYc:=yH (UC.out.trans hH)
   obtain⟨gY,hgY⟩:∃g,wq2.heap.size=g:=⟨_,rfl⟩
   obtain⟨wD,hwD⟩:∃W,wq2.alloc (.cells #[.int .i64 tg,.int .i64 now,.int .i64 yz,.int .i64 yk] 34)=W:=⟨_,rfl⟩
   rw[hwD] at HYc RYc
   rw[hgY] at HYc
   try rw[hwD]
   try rw[hgY]
   clear hwD hgY hH rp rp2 hyz
   have UD:=yH RYc.out.self
   have HXD:=yH (HXC.out.rel RYc.out)
   have HZD:=yH (HZC.out.rel RYc.out)
   have PAD:=yH (PAC.out.rel RYc.out)
   clear HXC HZC PAC UC
   go_wp2_with (fail)
   go_loopw [95] (fun i wr=>∃s:Nat,i= .int .i64 (s:Int)∧s≤2∧Hid (Rel wD wr)) (fun i _=>2-(RowKit.intOf i).toNat)
   case atStart=>exact⟨0,rfl,by omega,UD⟩
   case round=>
    obtain⟨s,rfl,hs,HRs⟩:=hrel
    obtain⟨w6,hw6⟩:∃w3,w3=wr:=⟨_,rfl⟩
    subst hw6
    by_cases hlts:s<2
    rotate_left 1
    ·obtain rfl:s=2:=by omega
     go_wp2_with (fail)
     go_roundw
     case rel=>exact⟨q+1,by go_num,by omega,yH (RC.out.trans (RYc.out.trans HRs.out))⟩
     case measure=>simp[RowKit.intOf];omega
    have his:(s:Int)<2:=by omega
    obtain⟨yt,yn,c0,c1',hyt,hyn⟩:=asks_two15 hT1.out hN1.out HYZ.out HYK.out (HYc.out.rel HRs.out) s hlts
    obtain⟨⟨la2,at2,L2,sw2⟩,hd⟩:∃z,decP (fl,ce,mp,co,bd,v) (lx,at_,L,sw) yt yn=z:=⟨_,rfl⟩
    obtain⟨g,hg⟩:∃z,goP (fl,ce,mp,co,bd,v) (lx,at_,L,sw) yt yn=z:=⟨_,rfl⟩
    have KD:=yH (fun(w:World)(hr:Rel w w)(hp:PaAt w (lx,at_,L,sw) A n k)=>pdec15 HH.out HZv.out HFv.out hyt hyn hd hg w hr hp)
    have RD:=yH (fun(w:World)(hr:Rel w w)(hp:PaAt w (lx,at_,L,sw) A n k)=>rdec15_at HZv.out HFv.out hyt HAk.out hd hg w hr hp)
    have e5:(g !=g)=false:=by simp
    clear hyt hyn hd hg
    go_upto_region 16 with (fail)
    clear c0 c1'
    have ALY:=yH (HRs.out.self.alloc (.cells #[.int .i64 yt,.int .i64 yn] 34))
    have HY6:=yH (Bk.new w6 34 #[.int .i64 yt,.int .i64 yn])
    obtain⟨gV,hgV⟩:∃g,w6.heap.size=g:=⟨_,rfl⟩
    obtain⟨w7',hw7'⟩:∃W,w6.alloc (.cells #[.int .i64 yt,.int .i64 yn] 34)=W:=⟨_,rfl⟩
    rw[hw7'] at HY6 ALY
    rw[hgV] at HY6
    try rw[hw7']
    try rw[hgV]
    clear hw7' hgV
    have R16:=yH (HRs.out.trans ALY.out)
    obtain⟨⟨x0,x1,x2,x3,x4,x5⟩,_⟩:=six_of (HXD.out.rel R16.out)
    obtain⟨⟨p0,p1,p2,p3⟩,_⟩:=four_of (HZD.out.rel R16.out)
    have y0:=HY6.out.cell 0
    have y1:=HY6.out.cell 1
    replace y0:w7'.cell? ⟨gV,0,none⟩=some (.int .i64 yt):=y0
    replace y1:w7'.cell? ⟨gV,1,none⟩=some (.int .i64 yn):=y1
    go_upto_region 17 with (go_at_call 15;(with_reducible refine(KD.out w7' R16.out.self (PAD.out.rel R16.out)).mono ?_);rintro e w8 ⟨A1,n1,k1,rfl,hP1,h8⟩)
    have R17a:=yH (R16.out.trans h8.out)
    have HY7:=yH (HY6.out.rel h8.out)
    clear x0 x1 x2 x3 x4 x5 p0 p1 p2 p3 y0 y1 h8 HY6 KD
    have ALw9:=yH (R17a.out.self.alloc (.cells #[.int .i64 la2,.int .i64 at2,.slice A1 n1 k1,.int .i64 sw2] 27))
    have HA8:=yH (Bk.new w8 27 #[.int .i64 la2,.int .i64 at2,.slice A1 n1 k1,.int .i64 sw2])
    have R17:=yH (R17a.out.trans ALw9.out)
    have HY8:=yH (HY7.out.rel ALw9.out)
    have hP2:=yH (hP1.out.rel ALw9.out)
    obtain⟨w9,hw9⟩:∃W,w8.alloc (.cells #[.int .i64 la2,.int .i64 at2,.slice A1 n1 k1,.int .i64 sw2] 27)=W:=⟨_,rfl⟩
    obtain⟨gE,hgE⟩:∃g,w8.heap.size=g:=⟨_,rfl⟩
    rw[hw9] at HA8 R17 HY8 hP2
    rw[hgE] at HA8
    try rw[hw9]
    try rw[hgE]
    clear hw9 hgE ALw9
    obtain⟨⟨x0,x1,x2,x3,x4,x5⟩,_⟩:=six_of (HXD.out.rel R17.out)
    obtain⟨⟨p0,p1,p2,p3⟩,_⟩:=four_of (HZD.out.rel R17.out)
    have y0:w9.cell? ⟨gV,0,none⟩=some (.int .i64 yt):=HY8.out.cell 0
    have y1:w9.cell? ⟨gV,1,none⟩=some (.int .i64 yn):=HY8.out.cell 1
    go_upto_region 18 with (go_at_call 16;(with_reducible refine(RD.out w9 R17.out.self (PAD.out.rel R17.out)).mono ?_);rintro e w10 ⟨A2,n2,k2,rfl,hn2,hI2,h10⟩)
    have R18a:=yH (R17.out.trans h10.out)
    have HA9:=yH (HA8.out.rel h10.out)
    have hP3:=yH (hP2.out.rel h10.out)
    obtain rfl:n1=n2:=(show L2.length=n1 from hP3.out.1).symm.trans hn2.out
    clear x0 x1 x2 x3 x4 x5 p0 p1 p2 p3 y0 y1 h10 HY7 HY8 HA8 hP1 hP2 RD
    have ALw11:=yH (R18a.out.self.alloc (.cells #[.int .i64 la2,.int .i64 at2,.slice A2 n1 k2,.int .i64 sw2] 27))
    have HB10:=yH (Bk.new w10 27 #[.int .i64 la2,.int .i64 at2,.slice A2 n1 k2,.int .i64 sw2])
    have R18:=yH (R18a.out.trans ALw11.out)
    have HA10:=yH (HA9.out.rel ALw11.out)
    have hP4:=yH (hP3.out.rel ALw11.out)
    have hI3:=yH (hI2.out.rel ALw11.out)
    obtain⟨w11,hw11⟩:∃W,w10.alloc (.cells #[.int .i64 la2,.int .i64 at2,.slice A2 n1 k2,.int .i64 sw2] 27)=W:=⟨_,rfl⟩
    obtain⟨gF,hgF⟩:∃g,w10.heap.size=g:=⟨_,rfl⟩
    rw[hw11] at HB10 R18 HA10 hP4 hI3
    rw[hgF] at HB10
    try rw[hw11]
    try rw[hgF]
    clear hw11 hgF ALw11
    obtain⟨⟨p0,p1,p2,p3⟩,_⟩:=four_of HA10.out
    obtain⟨⟨q_0,q_1,q_2,q_3⟩,_⟩:=four_of HB10.out
    have KS:=yH (rsame15_yes la2 at2 sw2 L2 A1 A2 n1 k1 k2 hn2.out w11 R18.out.self hP4.out.2.2 hI3.out)
    go_wp2_with (go_at_call 17;(with_reducible refine KS.out.mono ?_);rintro e w12 ⟨rfl,h12⟩;have R19:=yH (R18.out.trans h12);clear h12)
    go_roundw
    case rel=>exact⟨s+1,by go_num,by omega,yH R19.out⟩
    case measure=>simp[RowKit.intOf];omega
end Go.Proofs.YtjhjdiaomnpkmaaGreatDoor
