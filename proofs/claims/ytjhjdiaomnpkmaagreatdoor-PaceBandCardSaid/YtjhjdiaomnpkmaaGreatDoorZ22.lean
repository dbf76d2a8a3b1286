/- The landed swings. -/

import Derived.Test.YtjhjdiaomnpkmaaGreatDoorZ13
set_option maxRecDepth 100000
set_option maxHeartbeats 8000000
set_option linter.unusedVariables false
set_option linter.unusedSimpArgs false
namespace Go.Proofs.YtjhjdiaomnpkmaaGreatDoor
open Go.RowKit Go.Lib
theorem swings_few{L:List Int}{t:Int}(h:L.length<3):swingsP L t=false:=by
 cases e:swingsP L t with
 |false=>rfl
 |true=>have:=swings_len e;omega
theorem pace_box15{w0 w:World}(hr:Rel w0 w)(la at_ sw:Int)(V:Value):∃g,w.heap.size=g∧∃W,w.alloc (.cells #[.int .i64 la,.int .i64 at_,V,.int .i64 sw] 27)=W∧Hid (Bk W g 27 #[.int .i64 la,.int .i64 at_,V,.int .i64 sw])∧Hid (Rel w0 W)∧Hid (Rel w W→True):=
 ⟨_,rfl,_,rfl,yH (Bk.new _ _ _),yH (hr.alloc _),yH (fun _=>trivial)⟩
theorem lswings15_few(la at_ sw:Int)(A:Option Addr)(n k:Nat)(h3:n<3)(tg:Int)(w:World)(hr:Rel w w):
  Calls Tryz.prog 31 #[.agg #[.int .i64 la,.int .i64 at_,.slice A n k,.int .i64 sw],.int .i64 tg] w fun e w'=>e= .returned (.int .i64 0)∧Hid (Rel w w'):=by
 have HC0:=yH (hr.alloc (.cells #[.int .i64 la,.int .i64 at_,.slice A n k,.int .i64 sw] 27))
 have d3:decide ((n:Int)<3)=true:=decide_eq_true (by omega)
 obtain⟨gp,hgp,W,hW,HP,HR,_⟩:=pace_box15 hr la at_ sw (.slice A n k)
 rw[hW] at HC0
 clear hr
 go_enter Tryz.func31,Tryz.ntmps31
 go_upto_region 1 with (fail)
 try rw[hW]
 try rw[hgp]
 clear hW hgp
 obtain⟨⟨p0,p1,p2,p3⟩,_⟩:=four_of HP.out
 refine wp_region_held_drew (S:=(fun w'=>Rel w w'∧w'.cell? ⟨gp,0,none⟩=some (.int .i64 la)∧w'.cell? ⟨gp,1,none⟩=some (.int .i64 at_)∧w'.cell? ⟨gp,2,none⟩=some (.slice A n k)∧w'.cell? ⟨gp,3,none⟩=some (.int .i64 sw))) (by kernel_rfl) ⟨HR.out.drew,p0,p1,p2,p3⟩ (fun hH=> ?_)
 refine yL [0,1,2,3,4,5,6,7,8,9,10,11,12,13,14,15,16,17,18,19,20,21,22] (by kernel_rfl) hH (fun _ _ _ _ _=>id) ?_
 iterate 5
  refine yS rfl rfl (by rfl) ?_ ?_ ?_
  rotate_left
  ·rintro w' ⟨s0,s1,s2,s3,s4⟩;go_simp;try with_reducible rfl
  try simp only[Act.put,yA,yB,yC]
 iterate 6
  refine yV rfl rfl (by rfl) ?_
  try simp only[Act.put,yA,yB,yC]
 iterate 2
  refine yS rfl rfl (by rfl) ?_ ?_ ?_
  rotate_left
  ·rintro w' ⟨s0,s1,s2,s3,s4⟩;go_simp;try with_reducible rfl
  try simp only[Act.put,yA,yB,yC]
 iterate 9
  refine yV rfl rfl (by rfl) ?_
  try simp only[Act.put,yA,yB,yC]
 refine yS rfl rfl (by rfl) ?_ ?_ ?_
 rotate_left
 ·rintro w' ⟨s0,s1,s2,s3,s4⟩;go_simp;try with_reducible rfl
 try simp only[Act.put,yA,yB,yC]
 refine yZ ?_
 refine wpAnyH_done (by kernel_rfl) ?_ _
 go_wp2_with (fail)
 go_ret
 exact⟨rfl,yH hH.1⟩
theorem lswings15_a(la at_ sw tg:Int)(w:World)(g off k:Nat)(x y z:Int)(hc:w.cell? ⟨g,off,none⟩=some (.int .i64 x)∧w.cell? ⟨g,off+1,none⟩=some (.int .i64 y)∧w.cell? ⟨g,off+2,none⟩=some (.int .i64 z))(h:(tg !=y)=true)(hr:Rel w w):
  Calls Tryz.prog 31 #[.agg #[.int .i64 la,.int .i64 at_,.slice (some ⟨g,off,none⟩) 3 k,.int .i64 sw],.int .i64 tg] w fun e w'=>e= .returned (.int .i64 0)∧Hid (Rel w w'):=by
 have HC0:=yH (hr.alloc (.cells #[.int .i64 la,.int .i64 at_,.slice (some ⟨g,off,none⟩) 3 k,.int .i64 sw] 27))
 obtain⟨hc0,hc1,hc2⟩:=hc
 have hlt:=blk_of_cell hc0
 have C0:=yH ((HC0.out.2.cell (p:=⟨g,off,none⟩) hlt).trans hc0)
 have C1:=yH ((HC0.out.2.cell (p:=⟨g,off+1,none⟩) hlt).trans hc1)
 have C2:=yH ((HC0.out.2.cell (p:=⟨g,off+2,none⟩) hlt).trans hc2)
 clear hc0 hc1 hc2 hlt
 obtain⟨gp,hgp,W,hW,HP,HR,_⟩:=pace_box15 hr la at_ sw (.slice (some ⟨g,off,none⟩) 3 k)
 rw[hW] at HC0 C0 C1 C2
 clear hr
 go_enter Tryz.func31,Tryz.ntmps31
 go_upto_region 1 with (fail)
 try rw[hW]
 try rw[hgp]
 clear hW hgp
 obtain⟨⟨p0,p1,p2,p3⟩,_⟩:=four_of HP.out
 have r0:=C0.out
 have r1:=C1.out
 have r2:=C2.out
 refine wp_region_held_drew (S:=(fun w'=>Rel w w'∧w'.cell? ⟨gp,0,none⟩=some (.int .i64 la)∧w'.cell? ⟨gp,1,none⟩=some (.int .i64 at_)∧w'.cell? ⟨gp,2,none⟩=some (.slice (some ⟨g,off,none⟩) 3 k)∧w'.cell? ⟨gp,3,none⟩=some (.int .i64 sw)∧w'.cell? ⟨g,off,none⟩=some (.int .i64 x)∧w'.cell? ⟨g,off+1,none⟩=some (.int .i64 y)∧w'.cell? ⟨g,off+2,none⟩=some (.int .i64 z))) (by kernel_rfl) ⟨HR.out.drew,p0,p1,p2,p3,r0,r1,r2⟩ (fun hH=> ?_)
 refine yL [0,1,2,3,4,5,6,7,8,9,10,11,12,13,14,15,16,17,18,19,20,21,22] (by kernel_rfl) hH (fun _ _ _ _ _=>id) ?_
 iterate 13
  refine yS rfl rfl (by rfl) ?_ ?_ ?_
  rotate_left
  ·rintro w' ⟨s0,s1,s2,s3,s4,s5,s6,s7⟩;go_simp;try with_reducible rfl
  try simp only[Act.put,yA,yB,yC]
 iterate 9
  refine yV rfl rfl (by rfl) ?_
  try simp only[Act.put,yA,yB,yC]
 refine yS rfl rfl (by rfl) ?_ ?_ ?_
 rotate_left
 ·rintro w' ⟨s0,s1,s2,s3,s4,s5,s6,s7⟩;go_simp;try with_reducible rfl
 try simp only[Act.put,yA,yB,yC]
 refine yZ ?_
 refine wpAnyH_done (by kernel_rfl) ?_ _
 go_wp2_with (fail)
 go_ret
 exact⟨rfl,yH hH.1⟩
theorem lswings15_b(la at_ sw tg:Int)(w:World)(g off k:Nat)(x y z:Int)(hc:w.cell? ⟨g,off,none⟩=some (.int .i64 x)∧w.cell? ⟨g,off+1,none⟩=some (.int .i64 y)∧w.cell? ⟨g,off+2,none⟩=some (.int .i64 z))(h:(tg !=y)=false)(h2:(z !=x)=true)(hr:Rel w w):
  Calls Tryz.prog 31 #[.agg #[.int .i64 la,.int .i64 at_,.slice (some ⟨g,off,none⟩) 3 k,.int .i64 sw],.int .i64 tg] w fun e w'=>e= .returned (.int .i64 0)∧Hid (Rel w w'):=by
 have HC0:=yH (hr.alloc (.cells #[.int .i64 la,.int .i64 at_,.slice (some ⟨g,off,none⟩) 3 k,.int .i64 sw] 27))
 obtain⟨hc0,hc1,hc2⟩:=hc
 have hlt:=blk_of_cell hc0
 have C0:=yH ((HC0.out.2.cell (p:=⟨g,off,none⟩) hlt).trans hc0)
 have C1:=yH ((HC0.out.2.cell (p:=⟨g,off+1,none⟩) hlt).trans hc1)
 have C2:=yH ((HC0.out.2.cell (p:=⟨g,off+2,none⟩) hlt).trans hc2)
 clear hc0 hc1 hc2 hlt
 obtain⟨gp,hgp,W,hW,HP,HR,_⟩:=pace_box15 hr la at_ sw (.slice (some ⟨g,off,none⟩) 3 k)
 rw[hW] at HC0 C0 C1 C2
 clear hr
 go_enter Tryz.func31,Tryz.ntmps31
 go_upto_region 1 with (fail)
 try rw[hW]
 try rw[hgp]
 clear hW hgp
 obtain⟨⟨p0,p1,p2,p3⟩,_⟩:=four_of HP.out
 have r0:=C0.out
 have r1:=C1.out
 have r2:=C2.out
 refine wp_region_held_drew (S:=(fun w'=>Rel w w'∧w'.cell? ⟨gp,0,none⟩=some (.int .i64 la)∧w'.cell? ⟨gp,1,none⟩=some (.int .i64 at_)∧w'.cell? ⟨gp,2,none⟩=some (.slice (some ⟨g,off,none⟩) 3 k)∧w'.cell? ⟨gp,3,none⟩=some (.int .i64 sw)∧w'.cell? ⟨g,off,none⟩=some (.int .i64 x)∧w'.cell? ⟨g,off+1,none⟩=some (.int .i64 y)∧w'.cell? ⟨g,off+2,none⟩=some (.int .i64 z))) (by kernel_rfl) ⟨HR.out.drew,p0,p1,p2,p3,r0,r1,r2⟩ (fun hH=> ?_)
 refine yL [0,1,2,3,4,5,6,7,8,9,10,11,12,13,14,15,16,17,18,19,20,21,22] (by kernel_rfl) hH (fun _ _ _ _ _=>id) ?_
 iterate 23
  refine yS rfl rfl (by rfl) ?_ ?_ ?_
  rotate_left
  ·rintro w' ⟨s0,s1,s2,s3,s4,s5,s6,s7⟩;go_simp;try with_reducible rfl
  try simp only[Act.put,yA,yB,yC]
 refine yZ ?_
 refine wpAnyH_done (by kernel_rfl) ?_ _
 go_wp2_with (fail)
 go_ret
 exact⟨rfl,yH hH.1⟩
theorem lswings15_c(la at_ sw tg:Int)(w:World)(g off k:Nat)(x y z:Int)(hc:w.cell? ⟨g,off,none⟩=some (.int .i64 x)∧w.cell? ⟨g,off+1,none⟩=some (.int .i64 y)∧w.cell? ⟨g,off+2,none⟩=some (.int .i64 z))(h:(tg !=y)=false)(h2:(z !=x)=false)(hs0:0≤sw)(hs6:sw≤6)(hr:Rel w w):
  Calls Tryz.prog 31 #[.agg #[.int .i64 la,.int .i64 at_,.slice (some ⟨g,off,none⟩) 3 k,.int .i64 sw],.int .i64 tg] w fun e w'=>e= .returned (.int .i64 (min (sw+1) 6))∧Hid (Rel w w'):=by
 have HC0:=yH (hr.alloc (.cells #[.int .i64 la,.int .i64 at_,.slice (some ⟨g,off,none⟩) 3 k,.int .i64 sw] 27))
 obtain⟨hc0,hc1,hc2⟩:=hc
 have hlt:=blk_of_cell hc0
 have C0:=yH ((HC0.out.2.cell (p:=⟨g,off,none⟩) hlt).trans hc0)
 have C1:=yH ((HC0.out.2.cell (p:=⟨g,off+1,none⟩) hlt).trans hc1)
 have C2:=yH ((HC0.out.2.cell (p:=⟨g,off+2,none⟩) hlt).trans hc2)
 clear hc0 hc1 hc2 hlt
 obtain⟨gp,hgp,W,hW,HP,HR,_⟩:=pace_box15 hr la at_ sw (.slice (some ⟨g,off,none⟩) 3 k)
 rw[hW] at HC0 C0 C1 C2
 clear hr
 go_enter Tryz.func31,Tryz.ntmps31
 go_upto_region 1 with (fail)
 try rw[hW]
 try rw[hgp]
 clear hW hgp
 obtain⟨⟨p0,p1,p2,p3⟩,_⟩:=four_of HP.out
 have r0:=C0.out
 have r1:=C1.out
 have r2:=C2.out
 refine wp_region_held_drew (S:=(fun w'=>Rel w w'∧w'.cell? ⟨gp,0,none⟩=some (.int .i64 la)∧w'.cell? ⟨gp,1,none⟩=some (.int .i64 at_)∧w'.cell? ⟨gp,2,none⟩=some (.slice (some ⟨g,off,none⟩) 3 k)∧w'.cell? ⟨gp,3,none⟩=some (.int .i64 sw)∧w'.cell? ⟨g,off,none⟩=some (.int .i64 x)∧w'.cell? ⟨g,off+1,none⟩=some (.int .i64 y)∧w'.cell? ⟨g,off+2,none⟩=some (.int .i64 z))) (by kernel_rfl) ⟨HR.out.drew,p0,p1,p2,p3,r0,r1,r2⟩ (fun hH=> ?_)
 refine yL [0,1,2,3,4,5,6,7,8,9,10,11,12,13,14,15,16,17,18,19,20,21,22] (by kernel_rfl) hH (fun _ _ _ _ _=>id) ?_
 iterate 23
  refine yS rfl rfl (by rfl) ?_ ?_ ?_
  rotate_left
  ·rintro w' ⟨s0,s1,s2,s3,s4,s5,s6,s7⟩;go_simp;try with_reducible rfl
  try simp only[Act.put,yA,yB,yC]
 refine yZ ?_
 refine wpAnyH_done (by kernel_rfl) ?_ _
 go_wp2_with (fail)
 all_goals
  go_ret
  exact⟨ret_int (by omega),yH hH.1⟩
theorem lswings15_any(la at_ sw tg:Int)(L:List Int)(A:Option Addr)(n k:Nat)(hn:L.length=n)(h3:n≤3)(hs0:0≤sw)(hs6:sw≤6)(w:World)(hr:Rel w w)(hi:IntsIn w A k L):
  Calls Tryz.prog 31 #[.agg #[.int .i64 la,.int .i64 at_,.slice A n k,.int .i64 sw],.int .i64 tg] w fun e w'=>e= .returned (.int .i64 (if swingsP L tg then min (sw+1) 6 else 0))∧Hid (Rel w w'):=by
 by_cases hlt:n<3
 ·rw[swings_few (by omega),if_neg (by decide)]
  exact lswings15_few la at_ sw A n k hlt tg w hr
 ·match L,hn with
  |[x,y,z],hn=>
   obtain rfl:3=n:=hn
   obtain⟨g,off,rfl,hc⟩:=ints_row hi (by simp)
   have hc3:w.cell? ⟨g,off,none⟩=some (.int .i64 x)∧w.cell? ⟨g,off+1,none⟩=some (.int .i64 y)∧w.cell? ⟨g,off+2,none⟩=some (.int .i64 z):=⟨hc 0 (by simp),hc 1 (by simp),hc 2 (by simp)⟩
   have e:swingsP [x,y,z] tg=decide (y=tg∧z=x):=rfl
   by_cases h1:y=tg
   ·by_cases h2:z=x
    ·rw[e,decide_eq_true ⟨h1,h2⟩,if_pos rfl]
     exact lswings15_c la at_ sw tg w g off k x y z hc3 (by simp[h1]) (by simp[h2]) hs0 hs6 hr
    ·rw[e,decide_eq_false (fun q=>h2 q.2),if_neg (by decide)]
     exact lswings15_b la at_ sw tg w g off k x y z hc3 (by simp[h1]) (by simpa using h2) hr
   ·rw[e,decide_eq_false (fun q=>h1 q.1),if_neg (by decide)]
    exact lswings15_a la at_ sw tg w g off k x y z hc3 (by simpa using fun q=>h1 q.symm) hr
  |[],hn=>exact absurd (show 0<3 by decide) (by rw[←hn] at hlt;exact hlt)
  |[_],hn=>exact absurd (show 1<3 by decide) (by rw[←hn] at hlt;exact hlt)
  |[_,_],hn=>exact absurd (show 2<3 by decide) (by rw[←hn] at hlt;exact hlt)
  |_::_::_::_::_,hn=>exact absurd (hn▸h3) (by simp)
theorem int_info15:(Tryz.prog.info? 3).map (fun i=>(i.zero,i.size,i.bytes))=some (some (.int .i64 0),1,8):=by kernel_rfl
theorem one_cell15(n:Int):∀u∈[Value.int .i64 n],u.oneCell'=true:=by
 intro u hu;rw[List.mem_singleton] at hu;subst hu;rfl
theorem news15(w:World)(v:Value)(T:TypeId):∀j u,[v][j]?=some u→(w.alloc (.cells #[v] T)).cell? ((⟨w.heap.size,0,none⟩:Addr).add j)=some u:=by
 intro j u h
 match j with
 |0=>injection h with h;subst h;exact(Bk.new w T #[v]).cell 0
 |j+1=>cases h
theorem olds15{w w':World}{g off:Nat}{L:List Int}(hr:Rel w w')(hc:∀i (hi:i<L.length),w.cell? ⟨g,off+i,none⟩=some (.int .i64 L[i])):∀b:Addr,some (⟨g,off,none⟩:Addr)=some b→∀j u,(L.map fun x=>Value.int .i64 x)[j]?=some u→w'.cell? (b.add j)=some u:=by
 intro b hb j u hu
 injection hb with hb
 subst hb
 rw[List.getElem?_map] at hu
 by_cases hj:j<L.length
 ·rw[List.getElem?_eq_getElem hj] at hu
  injection hu with hu
  subst hu
  have h0:=hc j hj
  have e:=(hr.2.cell (p:=⟨g,off+j,none⟩) (by have:=blk_of_cell h0;exact this)).trans h0
  rw[addr_at];exact e
 ·rw[List.getElem?_eq_none (by omega)] at hu;cases hu
theorem lbehind15_0(A:Option Addr)(k:Nat)(tg:Int)(hz:∀u∈([tg]:List Int),i64 u)(hk:0≤k∧k≤maxLen)(w:World)(hr:Rel w w):
  Calls Tryz.prog 30 #[.slice A 0 k,.int .i64 tg] w fun e w'=>∃A' k',e= .returned (.slice A' 1 k')∧Hid (IntsIn w' A' k' [tg])∧Hid (∀a,A'=some a→w.heap.size≤a.block∧a.block<w'.heap.size)∧Hid (Rel w w'):=by
 have HZ:=yH hz
 obtain⟨hk0,hk1⟩:=hk
 unfold maxLen at hk1
 have HL:=yH (hr.alloc (.cells #[.int .i64 tg] 3))
 obtain⟨i0,hi,hz0,hz1,hz2⟩:=info_parts int_info15
 clear hr hz
 go_enter Tryz.func30,Tryz.ntmps30
 go_upto_region 3 with (fail)
 go_wp2_with (at_builtin;(refine wpList_append_grows _ rfl (.tmp 17) (.tmp 19) 25 rfl 3 i0 (.int .i64 0) 1 8 Tryz.underlying25 hi hz0 hz1 hz2 rfl (by decide) A 0 0 (([]:List Int).map fun x=>Value.int .i64 x) rfl (fun _=>⟨rfl,rfl⟩) rfl (fun b _ j u hu=>by cases hu) ⟨w.heap.size,0,none⟩ 1 1 [.int .i64 tg] rfl rfl (news15 w (.int .i64 tg) 3) (one_cell15 tg) (by decide) (by decide) (by decide) ?_);intro v' w' hown hgrow)
 have hown2:w'.ownsRow (w.alloc (.cells #[.int .i64 tg] 3)).heap.size 3 1 v' ([tg]:List Int).length (([tg]:List Int).map fun x=>Value.int .i64 x):=hown
 obtain⟨A',k',rfl,hin,hbl⟩:=row_ints15 hown2 HZ.out
 have HI:=yH hin
 have HB:=yH (fun a ha=>(⟨Nat.le_trans (show w.heap.size≤(w.alloc (.cells #[.int .i64 tg] 3)).heap.size by rw[World.size_alloc];omega) (hbl a ha).1,(hbl a ha).2⟩:w.heap.size≤a.block∧a.block<w'.heap.size))
 have HR2:=yH (HL.out.grown hgrow (fun k e=>by cases e))
 clear hown hown2 hgrow hin hbl
 go_ret
 exact⟨A',k',rfl,HI,HB,HR2⟩
theorem lbehind15_1(x:Int)(g off:Nat)(k:Nat)(tg:Int)(hz:∀u∈([x,tg]:List Int),i64 u)(hk:1≤k∧k≤maxLen)(w:World)(hr:Rel w w)(hc:∀i (hi:i<([x]:List Int).length),w.cell? ⟨g,off+i,none⟩=some (.int .i64 ([x]:List Int)[i])):
  Calls Tryz.prog 30 #[.slice (some ⟨g,off,none⟩) 1 k,.int .i64 tg] w fun e w'=>∃A' k',e= .returned (.slice A' 2 k')∧Hid (IntsIn w' A' k' [x,tg])∧Hid (∀a,A'=some a→w.heap.size≤a.block∧a.block<w'.heap.size)∧Hid (Rel w w'):=by
 have HZ:=yH hz
 obtain⟨hk0,hk1⟩:=hk
 unfold maxLen at hk1
 have HL:=yH (hr.alloc (.cells #[.int .i64 tg] 3))
 have HO:=yH (olds15 (L:=[x]) HL.out hc)
 obtain⟨i0,hi,hz0,hz1,hz2⟩:=info_parts int_info15
 clear hr hz hc
 go_enter Tryz.func30,Tryz.ntmps30
 go_upto_region 3 with (fail)
 go_wp2_with (at_builtin;(refine wpList_append_grows _ rfl (.tmp 17) (.tmp 19) 25 rfl 3 i0 (.int .i64 0) 1 8 Tryz.underlying25 hi hz0 hz1 hz2 rfl (by decide) (some ⟨g,off,none⟩) 1 1 (([x]:List Int).map fun x=>Value.int .i64 x) rfl (fun e=>by cases e) rfl HO.out ⟨w.heap.size,0,none⟩ 1 1 [.int .i64 tg] rfl rfl (news15 w (.int .i64 tg) 3) (one_cell15 tg) (by decide) (by decide) (by decide) ?_);intro v' w' hown hgrow)
 have hown2:w'.ownsRow (w.alloc (.cells #[.int .i64 tg] 3)).heap.size 3 1 v' ([x,tg]:List Int).length (([x,tg]:List Int).map fun x=>Value.int .i64 x):=hown
 obtain⟨A',k',rfl,hin,hbl⟩:=row_ints15 hown2 HZ.out
 have HI:=yH hin
 have HB:=yH (fun a ha=>(⟨Nat.le_trans (show w.heap.size≤(w.alloc (.cells #[.int .i64 tg] 3)).heap.size by rw[World.size_alloc];omega) (hbl a ha).1,(hbl a ha).2⟩:w.heap.size≤a.block∧a.block<w'.heap.size))
 have HR2:=yH (HL.out.grown hgrow (fun k e=>by cases e))
 clear hown hown2 hgrow hin hbl
 go_ret
 exact⟨A',k',rfl,HI,HB,HR2⟩
theorem lbehind15_2(x y:Int)(g off:Nat)(k:Nat)(tg:Int)(hz:∀u∈([x,y,tg]:List Int),i64 u)(hk:2≤k∧k≤maxLen)(w:World)(hr:Rel w w)(hc:∀i (hi:i<([x,y]:List Int).length),w.cell? ⟨g,off+i,none⟩=some (.int .i64 ([x,y]:List Int)[i])):
  Calls Tryz.prog 30 #[.slice (some ⟨g,off,none⟩) 2 k,.int .i64 tg] w fun e w'=>∃A' k',e= .returned (.slice A' 3 k')∧Hid (IntsIn w' A' k' [x,y,tg])∧Hid (∀a,A'=some a→w.heap.size≤a.block∧a.block<w'.heap.size)∧Hid (Rel w w'):=by
 have HZ:=yH hz
 obtain⟨hk0,hk1⟩:=hk
 unfold maxLen at hk1
 have HL:=yH (hr.alloc (.cells #[.int .i64 tg] 3))
 have HO:=yH (olds15 (L:=[x,y]) HL.out hc)
 obtain⟨i0,hi,hz0,hz1,hz2⟩:=info_parts int_info15
 clear hr hz hc
 go_enter Tryz.func30,Tryz.ntmps30
 go_upto_region 3 with (fail)
 go_wp2_with (at_builtin;(refine wpList_append_grows _ rfl (.tmp 17) (.tmp 19) 25 rfl 3 i0 (.int .i64 0) 1 8 Tryz.underlying25 hi hz0 hz1 hz2 rfl (by decide) (some ⟨g,off,none⟩) 2 2 (([x,y]:List Int).map fun x=>Value.int .i64 x) rfl (fun e=>by cases e) rfl HO.out ⟨w.heap.size,0,none⟩ 1 1 [.int .i64 tg] rfl rfl (news15 w (.int .i64 tg) 3) (one_cell15 tg) (by decide) (by decide) (by decide) ?_);intro v' w' hown hgrow)
 have hown2:w'.ownsRow (w.alloc (.cells #[.int .i64 tg] 3)).heap.size 3 1 v' ([x,y,tg]:List Int).length (([x,y,tg]:List Int).map fun x=>Value.int .i64 x):=hown
 obtain⟨A',k',rfl,hin,hbl⟩:=row_ints15 hown2 HZ.out
 have HI:=yH hin
 have HB:=yH (fun a ha=>(⟨Nat.le_trans (show w.heap.size≤(w.alloc (.cells #[.int .i64 tg] 3)).heap.size by rw[World.size_alloc];omega) (hbl a ha).1,(hbl a ha).2⟩:w.heap.size≤a.block∧a.block<w'.heap.size))
 have HR2:=yH (HL.out.grown hgrow (fun k e=>by cases e))
 clear hown hown2 hgrow hin hbl
 go_ret
 exact⟨A',k',rfl,HI,HB,HR2⟩
theorem lbehind15_3(x y z:Int)(g off:Nat)(k:Nat)(tg:Int)(hz:∀u∈([y,z,tg]:List Int),i64 u)(hk:3≤k∧k≤maxLen)(w:World)(hr:Rel w w)(hc:∀i (hi:i<([x,y,z]:List Int).length),w.cell? ⟨g,off+i,none⟩=some (.int .i64 ([x,y,z]:List Int)[i])):
  Calls Tryz.prog 30 #[.slice (some ⟨g,off,none⟩) 3 k,.int .i64 tg] w fun e w'=>∃A' k',e= .returned (.slice A' 3 k')∧Hid (IntsIn w' A' k' [y,z,tg])∧Hid (∀a,A'=some a→w.heap.size≤a.block∧a.block<w'.heap.size)∧Hid (Rel w w'):=by
 have HZ:=yH hz
 obtain⟨hk0,hk1⟩:=hk
 unfold maxLen at hk1
 have HL:=yH (hr.alloc (.cells #[.int .i64 tg] 3))
 have HO:=yH (olds15 (L:=[y,z]) (off:=off+1) HL.out (fun i hi=>by
  have hi:i<2:=hi
  have hs:i=0∨i=1:=by omega
  rcases hs with rfl|rfl
  ·exact hc 1 (by simp)
  ·exact hc 2 (by simp)))
 obtain⟨i0,hi,hz0,hz1,hz2⟩:=info_parts int_info15
 clear hr hz hc
 go_enter Tryz.func30,Tryz.ntmps30
 go_upto_region 3 with (fail)
 go_wp2_with (at_builtin;(refine wpList_append_grows _ rfl (.tmp 17) (.tmp 19) 25 rfl 3 i0 (.int .i64 0) 1 8 Tryz.underlying25 hi hz0 hz1 hz2 rfl (by decide) (some ⟨g,off+1,none⟩) 2 2 (([y,z]:List Int).map fun x=>Value.int .i64 x) rfl (fun e=>by cases e) rfl HO.out ⟨w.heap.size,0,none⟩ 1 1 [.int .i64 tg] rfl rfl (news15 w (.int .i64 tg) 3) (one_cell15 tg) (by decide) (by decide) (by decide) ?_);intro v' w' hown hgrow)
 have hown2:w'.ownsRow (w.alloc (.cells #[.int .i64 tg] 3)).heap.size 3 1 v' ([y,z,tg]:List Int).length (([y,z,tg]:List Int).map fun x=>Value.int .i64 x):=hown
 obtain⟨A',k',rfl,hin,hbl⟩:=row_ints15 hown2 HZ.out
 have HI:=yH hin
 have HB:=yH (fun a ha=>(⟨Nat.le_trans (show w.heap.size≤(w.alloc (.cells #[.int .i64 tg] 3)).heap.size by rw[World.size_alloc];omega) (hbl a ha).1,(hbl a ha).2⟩:w.heap.size≤a.block∧a.block<w'.heap.size))
 have HR2:=yH (HL.out.grown hgrow (fun k e=>by cases e))
 clear hown hown2 hgrow hin hbl
 go_ret
 exact⟨A',k',rfl,HI,HB,HR2⟩
theorem lbehind15_any(L:List Int)(A:Option Addr)(n k:Nat)(hn:L.length=n)(h3:n≤3)(tg:Int)(ht:i64 tg)(w:World)(hr:Rel w w)(hi:IntsIn w A k L):
  Calls Tryz.prog 30 #[.slice A n k,.int .i64 tg] w fun e w'=>∃A' n' k',e= .returned (.slice A' n' k')∧(lastR (L++[tg])).length=n'∧Hid (IntsIn w' A' k' (lastR (L++[tg])))∧Hid (∀a,A'=some a→w.heap.size≤a.block∧a.block<w'.heap.size)∧Hid (Rel w w'):=by
 have hk:n≤k∧k≤maxLen:=⟨by rw[←hn];exact hi.1,hi.2.1⟩
 have hz:∀z∈lastR (L++[tg]),i64 z:=fun z hz=>by
  rcases List.mem_append.1 (lastR_mem hz) with h|h
  ·exact hi.2.2.1 z h
  ·rw[List.mem_singleton] at h;subst h;exact ht
 match L,hn with
 |[],hn=>
  obtain rfl:0=n:=hn
  exact(lbehind15_0 A k tg hz hk w hr).mono fun e w' ⟨A',k',h⟩=>⟨A',1,k',h.1,rfl,h.2⟩
 |[x],hn=>
  obtain rfl:1=n:=hn
  obtain⟨g,off,rfl,hc⟩:=ints_row hi (by simp)
  exact(lbehind15_1 x g off k tg hz hk w hr hc).mono fun e w' ⟨A',k',h⟩=>⟨A',2,k',h.1,rfl,h.2⟩
 |[x,y],hn=>
  obtain rfl:2=n:=hn
  obtain⟨g,off,rfl,hc⟩:=ints_row hi (by simp)
  exact(lbehind15_2 x y g off k tg hz hk w hr hc).mono fun e w' ⟨A',k',h⟩=>⟨A',3,k',h.1,rfl,h.2⟩
 |[x,y,z],hn=>
  obtain rfl:3=n:=hn
  obtain⟨g,off,rfl,hc⟩:=ints_row hi (by simp)
  exact(lbehind15_3 x y z g off k tg hz hk w hr hc).mono fun e w' ⟨A',k',h⟩=>⟨A',3,k',h.1,rfl,h.2⟩
 |_::_::_::_::_,hn=>exact absurd (hn▸h3) (by simp)
end Go.Proofs.YtjhjdiaomnpkmaaGreatDoor
