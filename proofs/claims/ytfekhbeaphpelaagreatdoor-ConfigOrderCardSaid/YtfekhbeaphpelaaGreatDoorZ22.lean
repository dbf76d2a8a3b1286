/- The landed operations of layer 11 that take two; The landed operations of layer 11 that take two: min, max, above; The landed operations of layer 11 that lead: else, unless, jump; The map of operations; what is looked up in it does what its number says. -/

import Derived.Test.YtfekhbeaphpelaaGreatDoorZ21
set_option maxRecDepth 100000
set_option maxHeartbeats 8000000
namespace Go.Proofs.YtfekhbeaphpelaaGreatDoor
open Go.RowKit Go.Lib
set_option linter.unusedVariables false
set_option linter.unusedSimpArgs false
theorem ltwo_none(b D:Nat)(ov:Value)(nx st:Int)(w0 w:World)(hr:Rel w0 w)(h:Mh w w0.heap.size D b ov nx st []):
  Calls Tryz.prog 157 #[.pointer (some ⟨b,0,none⟩)] w fun r w'=>r= .returned (.tuple #[.agg #[.int .i64 0,.bool false],.agg #[.int .i64 0,.bool false],.int .i64 100])∧Rel w w':=by
 have hne:w.heap.size≠w.heap.size+1:=by omega
 have hDw:=h.2.2.1
 have hlt:=h.lt
 have hw0:w0.heap.size≤w.heap.size:=hr.size
 have HA:=yH ((hr.self.alloc (.cells #[.int .i64 0,.bool false] 111)).alloc (.cells #[.int .i64 0,.bool false] 111))
 have HK:=yH (((Kt.refl b w).alloc (.cells #[.int .i64 0,.bool false] 111)).alloc (.cells #[.int .i64 0,.bool false] 111))
 have HX2:=yH ((Bk.new w 111 #[.int .i64 0,.bool false]).alloc (.cells #[.int .i64 0,.bool false] 111))
 have HX3:=yH (Bk.snd w #[.int .i64 0,.bool false] #[.int .i64 0,.bool false] 111 111)
 have HM:=yH (h.rel HA.out)
 have HR:=yH (hr.trans HA.out)
 obtain⟨W,hW⟩:∃W,(w.alloc (.cells #[.int .i64 0,.bool false] 111)).alloc (.cells #[.int .i64 0,.bool false] 111)=W:=⟨_,rfl⟩
 rw[hW] at HA HK HX2 HX3 HM HR
 clear hr h
 go_enter Tryz.func157,Tryz.ntmps157
 go_upto_region 4 with (go_at_call 154;(with_reducible refine(ltake_nil b D ov nx st w0 W HR.out HM.out).mono ?_);rintro e w1 ⟨rfl,h1⟩;have R1:=yH (HA.out.trans h1);have Y2:=yH (HX2.out.rel h1);have Y3:=yH (HX3.out.rel h1);obtain⟨⟨c0,c1⟩,c2,c3⟩:=(HX3.out.rel h1).two;obtain⟨⟨d0,d1⟩,d2,d3⟩:=(HX2.out.rel h1).two;clear h1)
 have Z3:=yH (Y3.out.put (.int .i64 0) (.bool false))
 have Z2:=yH ((Y2.out.far (p:=⟨w.heap.size+1,0,none⟩) hne (.int .i64 0)).far (p:=⟨w.heap.size+1,1,none⟩) hne (.bool false))
 have RV:=yH (R1.out.box (g:=w.heap.size+1) (by omega) (.int .i64 0) (.bool false))
 obtain⟨V,hV⟩:∃V,(w1.setCell ⟨w.heap.size+1,0,none⟩ (.int .i64 0)).setCell ⟨w.heap.size+1,1,none⟩ (.bool false)=V:=⟨_,rfl⟩
 rw[hV] at Z3 Z2 RV
 try rw[hV]
 clear hV c0 c1 c2 c3 d0 d1 d2 d3
 obtain⟨⟨v0,v1⟩,v2,v3⟩:=Z2.out.two
 obtain⟨⟨u0,u1⟩,u2,u3⟩:=Z3.out.two
 refine wp_region_held_drew (S:=(fun w'=>Bk w' w.heap.size 111 #[.int .i64 0,.bool false]∧Bk w' (w.heap.size+1) 111 #[.int .i64 0,.bool false])) (by kernel_rfl) ⟨Z2.out,Z3.out⟩ (fun hHeld=> ?_)
 refine yL [0,1,2] (by kernel_rfl) hHeld (fun _ _ _ _ _=>id) ?_
 iterate 3
  refine yS rfl rfl (by rfl) ?_ ?_ ?_
  rotate_left
  ·intro w' (h:Bk w' w.heap.size 111 #[.int .i64 0,.bool false]∧Bk w' (w.heap.size+1) 111 #[.int .i64 0,.bool false]);obtain⟨⟨z0,z1⟩,_⟩:=h.1.two;obtain⟨⟨y0,y1⟩,_⟩:=h.2.two;go_simp;try with_reducible rfl
  try simp only[Act.put,yA,yB,yC]
 refine yZ ?_
 obtain⟨⟨z0,z1⟩,z2,z3⟩:=hHeld.1.two
 obtain⟨⟨y0,y1⟩,y2,y3⟩:=hHeld.2.two
 refine held_one (j:=3) (by kernel_rfl) rfl (fun K hK=> ?_)
 try simp only[yD,yE,yF]
 rw[if_pos (by rfl)]
 go_simp
 refine hK.out _ _ ⟨hHeld.1.put _ _,(hHeld.2.far (p:=⟨w.heap.size,0,none⟩) hne.symm _).far (p:=⟨w.heap.size,1,none⟩) hne.symm _⟩ (fun hHeld=> ?_)
 clear hK K
 clear z0 z1 z2 z3 y0 y1 y2 y3
 try simp only[Act.put,yA,yB,yC]
 obtain⟨⟨z0,z1⟩,z2,z3⟩:=hHeld.1.two
 obtain⟨⟨y0,y1⟩,y2,y3⟩:=hHeld.2.two
 refine held_one (j:=4) (by kernel_rfl) rfl (fun K hK=> ?_)
 try simp only[yD,yE,yF]
 rw[if_pos (by rfl)]
 go_simp
 refine hK.out _ _ ⟨(hHeld.1.far (p:=⟨(w.heap.size+1),0,none⟩) hne _).far (p:=⟨(w.heap.size+1),1,none⟩) hne _,hHeld.2.put _ _⟩ (fun hHeld=> ?_)
 clear hK K
 clear z0 z1 z2 z3 y0 y1 y2 y3
 try simp only[Act.put,yA,yB,yC]
 refine yW 5 4 rfl rfl (by kernel_rfl) (by rfl) hHeld ?_ (fun _ _ _=>id) ?_ ?_
 rotate_left
 ·intro w' (h:Bk w' w.heap.size 111 #[.int .i64 0,.bool false]∧Bk w' (w.heap.size+1) 111 #[.int .i64 0,.bool false]);obtain⟨⟨z0,z1⟩,_⟩:=h.1.two;obtain⟨⟨y0,y1⟩,_⟩:=h.2.two;go_simp;try with_reducible rfl
 try simp only[Act.put,yA,yB,yC]
 refine wpAnyH_done (by kernel_rfl) ?_ _
 obtain⟨⟨r0,r1⟩,_⟩:=hHeld.1.two
 obtain⟨⟨s0,s1⟩,_⟩:=hHeld.2.two
 go_wp2_with (fail)
 exact bodyPost_ret (v:= .tuple #[.agg #[.int .i64 0,.bool false],.agg #[.int .i64 0,.bool false],.int .i64 100]) (by simp[results,Tryz.results157,go_sem,r0,r1,s0,s1]) rfl ⟨rfl,(RV.out.drew.box (Nat.le_refl _) _ _).box (by omega) _ _⟩
theorem ltwo_one(b D:Nat)(ov:Value)(nx st:Int)(y:Ce)(p:Int)(q:Bool)(hv:Hid (CV1 y= .agg #[.int .i64 p,.bool q]))(w0 w:World)(hr:Rel w0 w)(h:Mh w w0.heap.size D b ov nx st ([]++[y])):
  Calls Tryz.prog 157 #[.pointer (some ⟨b,0,none⟩)] w fun r w'=>r= .returned (.tuple #[.agg #[.int .i64 0,.bool false],.agg #[.int .i64 p,.bool q],.int .i64 100])∧Mh w' w0.heap.size D b ov nx st []∧Rel w0 w'∧Kt b w w':=by
 have hne:w.heap.size≠w.heap.size+1:=by omega
 have hDw:=h.2.2.1
 have hlt:=h.lt
 have hw0:w0.heap.size≤w.heap.size:=hr.size
 have HA:=yH ((hr.self.alloc (.cells #[.int .i64 0,.bool false] 111)).alloc (.cells #[.int .i64 0,.bool false] 111))
 have HK:=yH (((Kt.refl b w).alloc (.cells #[.int .i64 0,.bool false] 111)).alloc (.cells #[.int .i64 0,.bool false] 111))
 have HX2:=yH ((Bk.new w 111 #[.int .i64 0,.bool false]).alloc (.cells #[.int .i64 0,.bool false] 111))
 have HX3:=yH (Bk.snd w #[.int .i64 0,.bool false] #[.int .i64 0,.bool false] 111 111)
 have HM:=yH (h.rel HA.out)
 have HR:=yH (hr.trans HA.out)
 obtain⟨W,hW⟩:∃W,(w.alloc (.cells #[.int .i64 0,.bool false] 111)).alloc (.cells #[.int .i64 0,.bool false] 111)=W:=⟨_,rfl⟩
 rw[hW] at HA HK HX2 HX3 HM HR
 clear hr h
 go_enter Tryz.func157,Tryz.ntmps157
 go_upto_region 4 with (first
  |(go_at_call 154;(with_reducible refine(ltake_as b D ov nx st [] y p q hv w0 W HR.out HM.out).mono ?_);rintro e w1 ⟨rfl,m1,r1,k1⟩;have R1:=yH (r1.box (g:=w.heap.size+1) (by omega) (.int .i64 p) (.bool q));have M1:=yH ((m1.far (p:=⟨w.heap.size+1,0,none⟩) (Nat.le_succ_of_le hDw) (.int .i64 p)).far (p:=⟨w.heap.size+1,1,none⟩) (Nat.le_succ_of_le hDw) (.bool q));have K1:=yH ((HK.out.trans k1).box (g:=w.heap.size+1) (Nat.le_succ _) (.int .i64 p) (.bool q));have Y2:=yH (((k1.bk HX2.out (by omega)).far (p:=⟨w.heap.size+1,0,none⟩) hne (.int .i64 p)).far (p:=⟨w.heap.size+1,1,none⟩) hne (.bool q));have Y3:=yH ((k1.bk HX3.out (by omega)).put (.int .i64 p) (.bool q));obtain⟨⟨c0,c1⟩,c2,c3⟩:=(k1.bk HX3.out (by omega)).two;clear m1 r1 k1)
  |(go_at_call 154;(with_reducible refine(ltake_nil b D ov nx st w0 _ R1.out M1.out).mono ?_);rintro e w3 ⟨rfl,h3⟩;have R3:=yH (R1.out.trans h3);have M3:=yH (M1.out.rel h3);have K3:=yH (K1.out.trans (Kt.rel h3));have Z2:=yH (Y2.out.rel h3);have Z3:=yH (Y3.out.rel h3);obtain⟨⟨d0,d1⟩,d2,d3⟩:=(Y2.out.rel h3).two;clear h3))
 have Z2:=yH (Z2.out.put (.int .i64 0) (.bool false))
 have Z3:=yH ((Z3.out.far (p:=⟨w.heap.size,0,none⟩) hne.symm (.int .i64 0)).far (p:=⟨w.heap.size,1,none⟩) hne.symm (.bool false))
 have RV:=yH (R3.out.box (g:=w.heap.size) hw0 (.int .i64 0) (.bool false))
 have MV:=yH ((M3.out.far (p:=⟨w.heap.size,0,none⟩) hDw (.int .i64 0)).far (p:=⟨w.heap.size,1,none⟩) hDw (.bool false))
 have KV:=yH (K3.out.box (g:=w.heap.size) (Nat.le_refl _) (.int .i64 0) (.bool false))
 obtain⟨V,hV⟩:∃V,(w3.setCell ⟨w.heap.size,0,none⟩ (.int .i64 0)).setCell ⟨w.heap.size,1,none⟩ (.bool false)=V:=⟨_,rfl⟩
 rw[hV] at Z3 Z2 RV MV KV
 try rw[hV]
 clear hV c0 c1 c2 c3 d0 d1 d2 d3
 obtain⟨⟨v0,v1⟩,v2,v3⟩:=Z2.out.two
 obtain⟨⟨u0,u1⟩,u2,u3⟩:=Z3.out.two
 refine wp_region_held_drew (S:=(fun w'=>Bk w' w.heap.size 111 #[.int .i64 0,.bool false]∧Bk w' (w.heap.size+1) 111 #[.int .i64 p,.bool q])) (by kernel_rfl) ⟨Z2.out,Z3.out⟩ (fun hHeld=> ?_)
 refine yL [0,1,2] (by kernel_rfl) hHeld (fun _ _ _ _ _=>id) ?_
 iterate 3
  refine yS rfl rfl (by rfl) ?_ ?_ ?_
  rotate_left
  ·intro w' (h:Bk w' w.heap.size 111 #[.int .i64 0,.bool false]∧Bk w' (w.heap.size+1) 111 #[.int .i64 p,.bool q]);obtain⟨⟨z0,z1⟩,_⟩:=h.1.two;obtain⟨⟨y0,y1⟩,_⟩:=h.2.two;go_simp;try with_reducible rfl
  try simp only[Act.put,yA,yB,yC]
 refine yZ ?_
 obtain⟨⟨z0,z1⟩,z2,z3⟩:=hHeld.1.two
 obtain⟨⟨y0,y1⟩,y2,y3⟩:=hHeld.2.two
 refine held_one (j:=3) (by kernel_rfl) rfl (fun K hK=> ?_)
 try simp only[yD,yE,yF]
 rw[if_pos (by rfl)]
 go_simp
 refine hK.out _ _ ⟨hHeld.1.put _ _,(hHeld.2.far (p:=⟨w.heap.size,0,none⟩) hne.symm _).far (p:=⟨w.heap.size,1,none⟩) hne.symm _⟩ (fun hHeld=> ?_)
 clear hK K
 clear z0 z1 z2 z3 y0 y1 y2 y3
 try simp only[Act.put,yA,yB,yC]
 obtain⟨⟨z0,z1⟩,z2,z3⟩:=hHeld.1.two
 obtain⟨⟨y0,y1⟩,y2,y3⟩:=hHeld.2.two
 refine held_one (j:=4) (by kernel_rfl) rfl (fun K hK=> ?_)
 try simp only[yD,yE,yF]
 rw[if_pos (by rfl)]
 go_simp
 refine hK.out _ _ ⟨(hHeld.1.far (p:=⟨(w.heap.size+1),0,none⟩) hne _).far (p:=⟨(w.heap.size+1),1,none⟩) hne _,hHeld.2.put _ _⟩ (fun hHeld=> ?_)
 clear hK K
 clear z0 z1 z2 z3 y0 y1 y2 y3
 try simp only[Act.put,yA,yB,yC]
 refine yW 5 4 rfl rfl (by kernel_rfl) (by rfl) hHeld ?_ (fun _ _ _=>id) ?_ ?_
 rotate_left
 ·intro w' (h:Bk w' w.heap.size 111 #[.int .i64 0,.bool false]∧Bk w' (w.heap.size+1) 111 #[.int .i64 p,.bool q]);obtain⟨⟨z0,z1⟩,_⟩:=h.1.two;obtain⟨⟨y0,y1⟩,_⟩:=h.2.two;go_simp;try with_reducible rfl
 try simp only[Act.put,yA,yB,yC]
 refine wpAnyH_done (by kernel_rfl) ?_ _
 obtain⟨⟨r0,r1⟩,_⟩:=hHeld.1.two
 obtain⟨⟨s0,s1⟩,_⟩:=hHeld.2.two
 go_wp2_with (fail)
 exact bodyPost_ret (v:= .tuple #[.agg #[.int .i64 0,.bool false],.agg #[.int .i64 p,.bool q],.int .i64 100]) (by simp[results,Tryz.results157,go_sem,r0,r1,s0,s1]) rfl ⟨rfl,((((MV.out.rel (RV.out.self.drew)).far (p:=⟨w.heap.size,0,none⟩) hDw _).far (p:=⟨w.heap.size,1,none⟩) hDw _).far (p:=⟨w.heap.size+1,0,none⟩) (Nat.le_succ_of_le hDw) _).far (p:=⟨w.heap.size+1,1,none⟩) (Nat.le_succ_of_le hDw) _,(RV.out.drew.box (g:=w.heap.size) hw0 _ _).box (g:=w.heap.size+1) (by omega) _ _,((KV.out.drew).box (g:=w.heap.size) (Nat.le_refl _) _ _).box (g:=w.heap.size+1) (Nat.le_succ _) _ _⟩
theorem ltwo_two(b D:Nat)(ov:Value)(nx st:Int)(R:List Ce)(x:Ce)(m:Int)(v:Bool)(hu:Hid (CV1 x= .agg #[.int .i64 m,.bool v]))(y:Ce)(p:Int)(q:Bool)(hv:Hid (CV1 y= .agg #[.int .i64 p,.bool q]))(w0 w:World)(hr:Rel w0 w)(h:Mh w w0.heap.size D b ov nx st ((R++[x])++[y])):
  Calls Tryz.prog 157 #[.pointer (some ⟨b,0,none⟩)] w fun r w'=>r= .returned (.tuple #[.agg #[.int .i64 m,.bool v],.agg #[.int .i64 p,.bool q],.int .i64 0])∧Mh w' w0.heap.size D b ov nx st R∧Rel w0 w'∧Kt b w w':=by
 have hne:w.heap.size≠w.heap.size+1:=by omega
 have hDw:=h.2.2.1
 have hlt:=h.lt
 have hw0:w0.heap.size≤w.heap.size:=hr.size
 have HA:=yH ((hr.self.alloc (.cells #[.int .i64 0,.bool false] 111)).alloc (.cells #[.int .i64 0,.bool false] 111))
 have HK:=yH (((Kt.refl b w).alloc (.cells #[.int .i64 0,.bool false] 111)).alloc (.cells #[.int .i64 0,.bool false] 111))
 have HX2:=yH ((Bk.new w 111 #[.int .i64 0,.bool false]).alloc (.cells #[.int .i64 0,.bool false] 111))
 have HX3:=yH (Bk.snd w #[.int .i64 0,.bool false] #[.int .i64 0,.bool false] 111 111)
 have HM:=yH (h.rel HA.out)
 have HR:=yH (hr.trans HA.out)
 obtain⟨W,hW⟩:∃W,(w.alloc (.cells #[.int .i64 0,.bool false] 111)).alloc (.cells #[.int .i64 0,.bool false] 111)=W:=⟨_,rfl⟩
 rw[hW] at HA HK HX2 HX3 HM HR
 clear hr h
 go_enter Tryz.func157,Tryz.ntmps157
 go_upto_region 4 with (first
  |(go_at_call 154;(with_reducible refine(ltake_as b D ov nx st (R++[x]) y p q hv w0 W HR.out HM.out).mono ?_);rintro e w1 ⟨rfl,m1,r1,k1⟩;have R1:=yH (r1.box (g:=w.heap.size+1) (by omega) (.int .i64 p) (.bool q));have M1:=yH ((m1.far (p:=⟨w.heap.size+1,0,none⟩) (Nat.le_succ_of_le hDw) (.int .i64 p)).far (p:=⟨w.heap.size+1,1,none⟩) (Nat.le_succ_of_le hDw) (.bool q));have K1:=yH ((HK.out.trans k1).box (g:=w.heap.size+1) (Nat.le_succ _) (.int .i64 p) (.bool q));have Y2:=yH (((k1.bk HX2.out (by omega)).far (p:=⟨w.heap.size+1,0,none⟩) hne (.int .i64 p)).far (p:=⟨w.heap.size+1,1,none⟩) hne (.bool q));have Y3:=yH ((k1.bk HX3.out (by omega)).put (.int .i64 p) (.bool q));obtain⟨⟨c0,c1⟩,c2,c3⟩:=(k1.bk HX3.out (by omega)).two;clear m1 r1 k1)
  |(go_at_call 154;(with_reducible refine(ltake_as b D ov nx st R x m v hu w0 _ R1.out M1.out).mono ?_);rintro e w3 ⟨rfl,m3,r3,k3⟩;have R3:=yH r3;have M3:=yH m3;have K3:=yH (K1.out.trans k3);have Z2:=yH (k3.bk Y2.out (by omega));have Z3:=yH (k3.bk Y3.out (by omega));obtain⟨⟨d0,d1⟩,d2,d3⟩:=(k3.bk Y2.out (by omega)).two;clear m3 r3 k3))
 have Z2:=yH (Z2.out.put (.int .i64 m) (.bool v))
 have Z3:=yH ((Z3.out.far (p:=⟨w.heap.size,0,none⟩) hne.symm (.int .i64 m)).far (p:=⟨w.heap.size,1,none⟩) hne.symm (.bool v))
 have RV:=yH (R3.out.box (g:=w.heap.size) hw0 (.int .i64 m) (.bool v))
 have MV:=yH ((M3.out.far (p:=⟨w.heap.size,0,none⟩) hDw (.int .i64 m)).far (p:=⟨w.heap.size,1,none⟩) hDw (.bool v))
 have KV:=yH (K3.out.box (g:=w.heap.size) (Nat.le_refl _) (.int .i64 m) (.bool v))
 obtain⟨V,hV⟩:∃V,(w3.setCell ⟨w.heap.size,0,none⟩ (.int .i64 m)).setCell ⟨w.heap.size,1,none⟩ (.bool v)=V:=⟨_,rfl⟩
 rw[hV] at Z3 Z2 RV MV KV
 try rw[hV]
 clear hV c0 c1 c2 c3 d0 d1 d2 d3
 obtain⟨⟨v0,v1⟩,v2,v3⟩:=Z2.out.two
 obtain⟨⟨u0,u1⟩,u2,u3⟩:=Z3.out.two
 refine wp_region_held_drew (S:=(fun w'=>Bk w' w.heap.size 111 #[.int .i64 m,.bool v]∧Bk w' (w.heap.size+1) 111 #[.int .i64 p,.bool q])) (by kernel_rfl) ⟨Z2.out,Z3.out⟩ (fun hHeld=> ?_)
 refine yL [0,1,2] (by kernel_rfl) hHeld (fun _ _ _ _ _=>id) ?_
 iterate 3
  refine yS rfl rfl (by rfl) ?_ ?_ ?_
  rotate_left
  ·intro w' (h:Bk w' w.heap.size 111 #[.int .i64 m,.bool v]∧Bk w' (w.heap.size+1) 111 #[.int .i64 p,.bool q]);obtain⟨⟨z0,z1⟩,_⟩:=h.1.two;obtain⟨⟨y0,y1⟩,_⟩:=h.2.two;go_simp;try with_reducible rfl
  try simp only[Act.put,yA,yB,yC]
 refine yZ ?_
 obtain⟨⟨z0,z1⟩,z2,z3⟩:=hHeld.1.two
 obtain⟨⟨y0,y1⟩,y2,y3⟩:=hHeld.2.two
 refine held_one (j:=3) (by kernel_rfl) rfl (fun K hK=> ?_)
 try simp only[yD,yE,yF]
 rw[if_pos (by rfl)]
 go_simp
 refine hK.out _ _ ⟨hHeld.1.put _ _,(hHeld.2.far (p:=⟨w.heap.size,0,none⟩) hne.symm _).far (p:=⟨w.heap.size,1,none⟩) hne.symm _⟩ (fun hHeld=> ?_)
 clear hK K
 clear z0 z1 z2 z3 y0 y1 y2 y3
 try simp only[Act.put,yA,yB,yC]
 obtain⟨⟨z0,z1⟩,z2,z3⟩:=hHeld.1.two
 obtain⟨⟨y0,y1⟩,y2,y3⟩:=hHeld.2.two
 refine held_one (j:=4) (by kernel_rfl) rfl (fun K hK=> ?_)
 try simp only[yD,yE,yF]
 rw[if_pos (by rfl)]
 go_simp
 refine hK.out _ _ ⟨(hHeld.1.far (p:=⟨(w.heap.size+1),0,none⟩) hne _).far (p:=⟨(w.heap.size+1),1,none⟩) hne _,hHeld.2.put _ _⟩ (fun hHeld=> ?_)
 clear hK K
 clear z0 z1 z2 z3 y0 y1 y2 y3
 try simp only[Act.put,yA,yB,yC]
 refine yW 5 4 rfl rfl (by kernel_rfl) (by rfl) hHeld ?_ (fun _ _ _=>id) ?_ ?_
 rotate_left
 ·intro w' (h:Bk w' w.heap.size 111 #[.int .i64 m,.bool v]∧Bk w' (w.heap.size+1) 111 #[.int .i64 p,.bool q]);obtain⟨⟨z0,z1⟩,_⟩:=h.1.two;obtain⟨⟨y0,y1⟩,_⟩:=h.2.two;go_simp;try with_reducible rfl
 try simp only[Act.put,yA,yB,yC]
 refine wpAnyH_done (by kernel_rfl) ?_ _
 obtain⟨⟨r0,r1⟩,_⟩:=hHeld.1.two
 obtain⟨⟨s0,s1⟩,_⟩:=hHeld.2.two
 go_wp2_with (fail)
 exact bodyPost_ret (v:= .tuple #[.agg #[.int .i64 m,.bool v],.agg #[.int .i64 p,.bool q],.int .i64 0]) (by simp[results,Tryz.results157,go_sem,r0,r1,s0,s1]) rfl ⟨rfl,((((MV.out.rel (RV.out.self.drew)).far (p:=⟨w.heap.size,0,none⟩) hDw _).far (p:=⟨w.heap.size,1,none⟩) hDw _).far (p:=⟨w.heap.size+1,0,none⟩) (Nat.le_succ_of_le hDw) _).far (p:=⟨w.heap.size+1,1,none⟩) (Nat.le_succ_of_le hDw) _,(RV.out.drew.box (g:=w.heap.size) hw0 _ _).box (g:=w.heap.size+1) (by omega) _ _,((KV.out.drew).box (g:=w.heap.size) (Nat.le_refl _) _ _).box (g:=w.heap.size+1) (Nat.le_succ _) _ _⟩
theorem two_nil(op:Int):twoM op ([],0)=([],100):=by unfold twoM;rw[take_none];exact put_err (s:=(takeM (([]:List Ce),(100:Int))).2) (by decide) _
theorem two_one(op:Int)(t:Ce):twoM op ([]++[t],0)=([],100):=by unfold twoM;rw[take_last];exact put_err (s:=(takeM (([]:List Ce),(0:Int))).2) (by decide) _
theorem two_two(op:Int)(R:List Ce)(x y:Ce):twoM op ((R++[x])++[y],0)=putM (R,0) (twoC op x y):=by unfold twoM;rw[take_last];simp only;rw[take_last]
theorem lchoose_any(fn:FuncId)(hfn:∀(args:Array Value) (w:World),(callFunc fn args).run Tryz.prog w= .ok (.enter fn args) w)(f:Int→Int→Int)(HF:∀(x y:Int) (w:World),Calls Tryz.prog fn #[.int .i64 x,.int .i64 y] w fun r w'=>r= .returned (.int .i64 (f x y))∧w=w')(op:Int)
  (ho:∀x y:Int,twoC op (some x) (some y)=some (f x y)) (ho':∀x y:Ce,x=none∨y=none→twoC op x y=none) (b D:Nat) (ov:Value) (nx st:Int) (S T:List Ce) (er:Int) (hm:Hid (twoM op (S,0)=(T,er))) (w0 w:World) (hr:Rel w0 w) (h:Mh w w0.heap.size D b ov nx st S):
  Calls Tryz.prog 151 #[.pointer (some ⟨b,0,none⟩),.func (.func fn) #[] #[]] w (LP w0 b ov nx st w T er):=by
 have HR:=yH hr
 clear hr
 rcases stack_ways S with rfl|⟨S1,y,rfl⟩
 ·have HM:=yH h
  have hm:=hm.out
  rw[two_nil] at hm
  injection hm with e1 e2
  subst e1 e2
  clear h
  go_enter Tryz.func151,Tryz.ntmps151
  go_wp2_with (go_at_call 157;(with_reducible refine(ltwo_none b D ov nx st w0 w HR.out HM.out).mono ?_);rintro e w1 ⟨rfl,h1⟩;have R1:=yH h1)
  go_ret
  exact LP.same HR.out HM.out ((R1.out.alloc _).alloc _) rfl (by decide)
 rcases stack_ways S1 with rfl|⟨R,x,rfl⟩
 ·have HM:=yH h
  have hm:=hm.out
  rw[two_one] at hm
  injection hm with e1 e2
  subst e1 e2
  obtain⟨p,q,hpq⟩:=ce_val y
  have HV:=yH hpq
  clear h hpq
  go_enter Tryz.func151,Tryz.ntmps151
  go_wp2_with (go_at_call 157;(with_reducible refine(ltwo_one b D ov nx st y p q HV w0 w HR.out HM.out).mono ?_);rintro e w1 ⟨rfl,m1,r1,k1⟩;have R1:=yH r1;have M1:=yH m1;have K1:=yH k1;clear r1 m1 k1)
  go_ret
  exact⟨rfl,(R1.out.alloc _).alloc _,Kr.trans (Kt.kr K1.out) (Kr.rel ((R1.out.self.alloc _).alloc _)),D,_,M1.out.rel ((R1.out.self.alloc _).alloc _),fun h0=>absurd h0 (by decide)⟩
 have HM:=yH h
 have hm:=hm.out
 rw[two_two] at hm
 clear h
 rcases x with _|x<;>rcases y with _|y
 ·have HP:=yH (show putM (R,0) none=(T,er) by rw[←hm,ho' _ _ (by simp)])
  clear hm ho ho' HF
  go_enter Tryz.func151,Tryz.ntmps151
  go_wp2_with (first
   |(go_at_call 157;(with_reducible refine(ltwo_two b D ov nx st R none 0 false (yH rfl) none 0 false (yH rfl) w0 w HR.out HM.out).mono ?_);rintro e w1 ⟨rfl,m1,r1,k1⟩;have R1:=yH r1;have M1:=yH m1;have K1:=yH k1;clear r1 m1 k1)
   |(go_at_call 155;(with_reducible refine(lput_as b D ov nx st R T er none 0 false (yH rfl) HP w0 _ ((R1.out.alloc _).alloc _) (M1.out.rel ((R1.out.self.alloc _).alloc _))).mono ?_);rintro e w3 ⟨rfl,h3⟩))
  go_ret
  exact LP.back (Kr.trans (Kt.kr K1.out) (Kr.rel ((R1.out.self.alloc _).alloc _))) h3 rfl
 ·have HP:=yH (show putM (R,0) none=(T,er) by rw[←hm,ho' _ _ (by simp)])
  clear hm ho ho' HF
  go_enter Tryz.func151,Tryz.ntmps151
  go_wp2_with (first
   |(go_at_call 157;(with_reducible refine(ltwo_two b D ov nx st R none 0 false (yH rfl) (some y) y true (yH rfl) w0 w HR.out HM.out).mono ?_);rintro e w1 ⟨rfl,m1,r1,k1⟩;have R1:=yH r1;have M1:=yH m1;have K1:=yH k1;clear r1 m1 k1)
   |(go_at_call 155;(with_reducible refine(lput_as b D ov nx st R T er none 0 false (yH rfl) HP w0 _ ((R1.out.alloc _).alloc _) (M1.out.rel ((R1.out.self.alloc _).alloc _))).mono ?_);rintro e w3 ⟨rfl,h3⟩))
  go_ret
  exact LP.back (Kr.trans (Kt.kr K1.out) (Kr.rel ((R1.out.self.alloc _).alloc _))) h3 rfl
 ·have HP:=yH (show putM (R,0) none=(T,er) by rw[←hm,ho' _ _ (by simp)])
  clear hm ho ho' HF
  go_enter Tryz.func151,Tryz.ntmps151
  go_wp2_with (first
   |(go_at_call 157;(with_reducible refine(ltwo_two b D ov nx st R (some x) x true (yH rfl) none 0 false (yH rfl) w0 w HR.out HM.out).mono ?_);rintro e w1 ⟨rfl,m1,r1,k1⟩;have R1:=yH r1;have M1:=yH m1;have K1:=yH k1;clear r1 m1 k1)
   |(go_at_call 155;(with_reducible refine(lput_as b D ov nx st R T er none 0 false (yH rfl) HP w0 _ ((R1.out.alloc _).alloc _) (M1.out.rel ((R1.out.self.alloc _).alloc _))).mono ?_);rintro e w3 ⟨rfl,h3⟩))
  go_ret
  exact LP.back (Kr.trans (Kt.kr K1.out) (Kr.rel ((R1.out.self.alloc _).alloc _))) h3 rfl
 ·have hv:=ho x y
  have HFv:=yH (HF x y)
  generalize f x y=v at*
  have HP:=yH (show putM (R,0) (some v)=(T,er) by rw[←hm,hv])
  clear hm ho ho' HF hv
  go_enter Tryz.func151,Tryz.ntmps151
  go_wp2_with (first
   |(go_at_call 157;(with_reducible refine(ltwo_two b D ov nx st R (some x) x true (yH rfl) (some y) y true (yH rfl) w0 w HR.out HM.out).mono ?_);rintro e w1 ⟨rfl,m1,r1,k1⟩;have R1:=yH r1;have M1:=yH m1;have K1:=yH k1;clear r1 m1 k1)
   |(go_at_call 169;(with_reducible refine(lamount_any v _ _ ((R1.out.alloc _).alloc _)).mono ?_);rintro e w2 ⟨rfl,h2⟩;have R2:=yH (((R1.out.self.alloc _).alloc _).trans h2))
   |(go_at_call 155;(with_reducible refine(lput_as b D ov nx st R T er (some v) v true (yH rfl) HP w0 _ (R1.out.trans R2.out) (M1.out.rel R2.out)).mono ?_);rintro e w3 ⟨rfl,h3⟩)
   |((with_reducible refine(HFv.out _).mono ?_);rintro e w4 ⟨rfl,rfl⟩))
  go_ret
  exact LP.back (Kr.trans (Kt.kr K1.out) (Kr.rel R2.out)) h3 rfl
theorem lmin1_any(x y:Int)(w:World):
  Calls Tryz.prog 152 #[.int .i64 x,.int .i64 y] w fun r w'=>r= .returned (.int .i64 (min x y))∧w=w':=by
 go_enter Tryz.func152,Tryz.ntmps152
 go_wp2_with (fail)
 all_goals
  go_ret
  exact⟨ret_int (by omega),rfl⟩
theorem llesser_any(b D:Nat)(ov:Value)(nx st:Int)(S T:List Ce)(er:Int)(o n:Int)(s:ByteArray)(hm:Hid (twoM 7 (S,0)=(T,er)))(w0 w:World)(hr:Rel w0 w)(h:Mh w w0.heap.size D b ov nx st S):
  Calls Tryz.prog 122 #[.pointer (some ⟨b,0,none⟩),.agg #[.int .i64 o,.int .i64 n,.string s]] w (LP w0 b ov nx st w T er):=by
 have HA:=yH (hr.self.alloc (.cells #[.int .i64 o,.int .i64 n,.string s] 140))
 have HC:=yH (lchoose_any 152 (fun _ _=>rfl) min lmin1_any 7 (fun _ _=>rfl) (fun x y h=>by rcases h with rfl|rfl<;>(try cases x)<;>(try cases y)<;>rfl) b D ov nx st S T er hm w0 _ (hr.trans HA.out) (h.rel HA.out))
 obtain⟨W,hW⟩:∃W,w.alloc (.cells #[.int .i64 o,.int .i64 n,.string s] 140)=W:=⟨_,rfl⟩
 rw[hW] at HA HC
 clear hr h
 go_enter Tryz.func122,Tryz.ntmps122
 go_wp2_with (go_at_call 151;(with_reducible refine HC.out.mono ?_);rintro e w1 ⟨rfl,h1⟩)
 go_ret
 exact LP.back (Kr.rel HA.out) h1 rfl
theorem lmax1_any(x y:Int)(w:World):
  Calls Tryz.prog 153 #[.int .i64 x,.int .i64 y] w fun r w'=>r= .returned (.int .i64 (max x y))∧w=w':=by
 go_enter Tryz.func153,Tryz.ntmps153
 go_wp2_with (fail)
 all_goals
  go_ret
  exact⟨ret_int (by omega),rfl⟩
theorem lgreater_any(b D:Nat)(ov:Value)(nx st:Int)(S T:List Ce)(er:Int)(o n:Int)(s:ByteArray)(hm:Hid (twoM 8 (S,0)=(T,er)))(w0 w:World)(hr:Rel w0 w)(h:Mh w w0.heap.size D b ov nx st S):
  Calls Tryz.prog 123 #[.pointer (some ⟨b,0,none⟩),.agg #[.int .i64 o,.int .i64 n,.string s]] w (LP w0 b ov nx st w T er):=by
 have HA:=yH (hr.self.alloc (.cells #[.int .i64 o,.int .i64 n,.string s] 140))
 have HC:=yH (lchoose_any 153 (fun _ _=>rfl) max lmax1_any 8 (fun _ _=>rfl) (fun x y h=>by rcases h with rfl|rfl<;>(try cases x)<;>(try cases y)<;>rfl) b D ov nx st S T er hm w0 _ (hr.trans HA.out) (h.rel HA.out))
 obtain⟨W,hW⟩:∃W,w.alloc (.cells #[.int .i64 o,.int .i64 n,.string s] 140)=W:=⟨_,rfl⟩
 rw[hW] at HA HC
 clear hr h
 go_enter Tryz.func123,Tryz.ntmps123
 go_wp2_with (go_at_call 151;(with_reducible refine HC.out.mono ?_);rintro e w1 ⟨rfl,h1⟩)
 go_ret
 exact LP.back (Kr.rel HA.out) h1 rfl
theorem LP.first{w0 w W w':World}{b:Nat}{ov:Value}{nx st er:Int}{T:List Ce}{e:Ending}(hr:Rel w W)(h:LP w0 b ov nx st W T er e w'):LP w0 b ov nx st w T er e w':=⟨h.1,h.2.1,Kr.trans (Kr.rel hr) h.2.2.1,h.2.2.2⟩
theorem labove_any(b D:Nat)(ov:Value)(nx st:Int)(S T:List Ce)(er:Int)(o n:Int)(s:ByteArray)(hm:Hid (twoM 11 (S,0)=(T,er)))(w0 w:World)(hr:Rel w0 w)(h:Mh w w0.heap.size D b ov nx st S):
  Calls Tryz.prog 126 #[.pointer (some ⟨b,0,none⟩),.agg #[.int .i64 o,.int .i64 n,.string s]] w (LP w0 b ov nx st w T er):=by
 have HI:=yH (hr.self.alloc (.cells #[.int .i64 o,.int .i64 n,.string s] 140))
 have hr:=hr.trans HI.out
 have h:=h.rel HI.out
 obtain⟨W,hW⟩:∃W,w.alloc (.cells #[.int .i64 o,.int .i64 n,.string s] 140)=W:=⟨_,rfl⟩
 rw[hW] at HI hr h
 have HR:=yH hr
 clear hr
 rcases stack_ways S with rfl|⟨S1,y,rfl⟩
 ·have HM:=yH h
  have hm:=hm.out
  rw[two_nil] at hm
  injection hm with e1 e2
  subst e1 e2
  clear h
  go_enter Tryz.func126,Tryz.ntmps126
  go_wp2_with (go_at_call 157;(with_reducible refine(ltwo_none b D ov nx st w0 W HR.out HM.out).mono ?_);rintro e w1 ⟨rfl,h1⟩;have R1:=yH h1)
  go_ret
  exact LP.first HI.out (LP.same HR.out HM.out ((R1.out.alloc _).alloc _) rfl (by decide))
 rcases stack_ways S1 with rfl|⟨R,x,rfl⟩
 ·have HM:=yH h
  have hm:=hm.out
  rw[two_one] at hm
  injection hm with e1 e2
  subst e1 e2
  obtain⟨p,q,hpq⟩:=ce_val y
  have HV:=yH hpq
  clear h hpq
  go_enter Tryz.func126,Tryz.ntmps126
  go_wp2_with (go_at_call 157;(with_reducible refine(ltwo_one b D ov nx st y p q HV w0 W HR.out HM.out).mono ?_);rintro e w1 ⟨rfl,m1,r1,k1⟩;have R1:=yH r1;have M1:=yH m1;have K1:=yH k1;clear r1 m1 k1)
  go_ret
  exact LP.first HI.out (⟨rfl,(R1.out.alloc _).alloc _,Kr.trans (Kt.kr K1.out) (Kr.rel ((R1.out.self.alloc _).alloc _)),D,_,M1.out.rel ((R1.out.self.alloc _).alloc _),fun h0=>absurd h0 (by decide)⟩)
 have HM:=yH h
 have hm:=hm.out
 rw[two_two] at hm
 clear h
 rcases x with _|x<;>rcases y with _|y
 ·have HP:=yH (show putM (R,0) (some 0)=(T,er) by rw[←hm];first|rfl|(unfold twoC;simp[hxy]))
  clear hm
  go_enter Tryz.func126,Tryz.ntmps126
  go_wp2_with (first
   |(go_at_call 157;(with_reducible refine(ltwo_two b D ov nx st R none 0 false (yH rfl) none 0 false (yH rfl) w0 W HR.out HM.out).mono ?_);rintro e w1 ⟨rfl,m1,r1,k1⟩;have R1:=yH r1;have M1:=yH m1;have K1:=yH k1;clear r1 m1 k1)
   |(go_at_call 156;(with_reducible refine(lso_any false 0 (yH rfl) w0 _ ((R1.out.alloc _).alloc _)).mono ?_);rintro e w2 ⟨rfl,h2⟩;have R2:=yH (((R1.out.self.alloc _).alloc _).trans h2))
   |(go_at_call 155;(with_reducible refine(lput_as b D ov nx st R T er (some 0) 0 true (yH rfl) HP w0 _ (R1.out.trans R2.out) (M1.out.rel R2.out)).mono ?_);rintro e w3 ⟨rfl,h3⟩))
  go_ret
  exact LP.first HI.out (LP.back (Kr.trans (Kt.kr K1.out) (Kr.rel R2.out)) h3 rfl)
 ·have HP:=yH (show putM (R,0) (some 0)=(T,er) by rw[←hm];first|rfl|(unfold twoC;simp[hxy]))
  clear hm
  go_enter Tryz.func126,Tryz.ntmps126
  go_wp2_with (first
   |(go_at_call 157;(with_reducible refine(ltwo_two b D ov nx st R none 0 false (yH rfl) (some y) y true (yH rfl) w0 W HR.out HM.out).mono ?_);rintro e w1 ⟨rfl,m1,r1,k1⟩;have R1:=yH r1;have M1:=yH m1;have K1:=yH k1;clear r1 m1 k1)
   |(go_at_call 156;(with_reducible refine(lso_any false 0 (yH rfl) w0 _ ((R1.out.alloc _).alloc _)).mono ?_);rintro e w2 ⟨rfl,h2⟩;have R2:=yH (((R1.out.self.alloc _).alloc _).trans h2))
   |(go_at_call 155;(with_reducible refine(lput_as b D ov nx st R T er (some 0) 0 true (yH rfl) HP w0 _ (R1.out.trans R2.out) (M1.out.rel R2.out)).mono ?_);rintro e w3 ⟨rfl,h3⟩))
  go_ret
  exact LP.first HI.out (LP.back (Kr.trans (Kt.kr K1.out) (Kr.rel R2.out)) h3 rfl)
 ·have HP:=yH (show putM (R,0) (some 0)=(T,er) by rw[←hm];first|rfl|(unfold twoC;simp[hxy]))
  clear hm
  go_enter Tryz.func126,Tryz.ntmps126
  go_wp2_with (first
   |(go_at_call 157;(with_reducible refine(ltwo_two b D ov nx st R (some x) x true (yH rfl) none 0 false (yH rfl) w0 W HR.out HM.out).mono ?_);rintro e w1 ⟨rfl,m1,r1,k1⟩;have R1:=yH r1;have M1:=yH m1;have K1:=yH k1;clear r1 m1 k1)
   |(go_at_call 156;(with_reducible refine(lso_any false 0 (yH rfl) w0 _ ((R1.out.alloc _).alloc _)).mono ?_);rintro e w2 ⟨rfl,h2⟩;have R2:=yH (((R1.out.self.alloc _).alloc _).trans h2))
   |(go_at_call 155;(with_reducible refine(lput_as b D ov nx st R T er (some 0) 0 true (yH rfl) HP w0 _ (R1.out.trans R2.out) (M1.out.rel R2.out)).mono ?_);rintro e w3 ⟨rfl,h3⟩))
  go_ret
  exact LP.first HI.out (LP.back (Kr.trans (Kt.kr K1.out) (Kr.rel R2.out)) h3 rfl)
 ·by_cases hxy:y<x
  ·have t1:decide (y<x)=true:=decide_eq_true hxy
   have HP:=yH (show putM (R,0) (some 1)=(T,er) by rw[←hm];first|rfl|(unfold twoC;simp[hxy]))
   clear hm hxy
   go_enter Tryz.func126,Tryz.ntmps126
   go_wp2_with (first
    |(go_at_call 157;(with_reducible refine(ltwo_two b D ov nx st R (some x) x true (yH rfl) (some y) y true (yH rfl) w0 W HR.out HM.out).mono ?_);rintro e w1 ⟨rfl,m1,r1,k1⟩;have R1:=yH r1;have M1:=yH m1;have K1:=yH k1;clear r1 m1 k1)
    |(go_at_call 156;(with_reducible refine(lso_any true 1 (yH rfl) w0 _ ((R1.out.alloc _).alloc _)).mono ?_);rintro e w2 ⟨rfl,h2⟩;have R2:=yH (((R1.out.self.alloc _).alloc _).trans h2))
    |(go_at_call 155;(with_reducible refine(lput_as b D ov nx st R T er (some 1) 1 true (yH rfl) HP w0 _ (R1.out.trans R2.out) (M1.out.rel R2.out)).mono ?_);rintro e w3 ⟨rfl,h3⟩))
   go_ret
   exact LP.first HI.out (LP.back (Kr.trans (Kt.kr K1.out) (Kr.rel R2.out)) h3 rfl)
  ·have t1:decide (y<x)=false:=decide_eq_false hxy
   have HP:=yH (show putM (R,0) (some 0)=(T,er) by rw[←hm];first|rfl|(unfold twoC;simp[hxy]))
   clear hm hxy
   go_enter Tryz.func126,Tryz.ntmps126
   go_wp2_with (first
    |(go_at_call 157;(with_reducible refine(ltwo_two b D ov nx st R (some x) x true (yH rfl) (some y) y true (yH rfl) w0 W HR.out HM.out).mono ?_);rintro e w1 ⟨rfl,m1,r1,k1⟩;have R1:=yH r1;have M1:=yH m1;have K1:=yH k1;clear r1 m1 k1)
    |(go_at_call 156;(with_reducible refine(lso_any false 0 (yH rfl) w0 _ ((R1.out.alloc _).alloc _)).mono ?_);rintro e w2 ⟨rfl,h2⟩;have R2:=yH (((R1.out.self.alloc _).alloc _).trans h2))
    |(go_at_call 155;(with_reducible refine(lput_as b D ov nx st R T er (some 0) 0 true (yH rfl) HP w0 _ (R1.out.trans R2.out) (M1.out.rel R2.out)).mono ?_);rintro e w3 ⟨rfl,h3⟩))
   go_ret
   exact LP.first HI.out (LP.back (Kr.trans (Kt.kr K1.out) (Kr.rel R2.out)) h3 rfl)
def OX(w0:World)(b:Nat)(ov:Value)(st:Int)(w:World)(m:Nat×Ms)(e:Ending)(w':World):Prop:=
 e= .returned (.int .i64 m.2.2)∧Rel w0 w'∧Kl b w w'∧∃D S nx,Mh w' w0.heap.size D b ov nx st S∧(m.2.2=0→nx=(m.1:Int)∧S=m.2.1)
theorem LP.ox{w0 w w':World}{b i:Nat}{ov:Value}{st er:Int}{T:List Ce}{m:Nat×Ms}{e:Ending}(h:LP w0 b ov ((i+1:Nat):Int) st w T er e w')(hm:m=(i+1,(T,er))):OX w0 b ov st w m e w':=by
 subst hm
 obtain⟨h1,h2,h3,D,S,h4,h5⟩:=h
 exact⟨h1,h2,h3,D,S,_,h4,fun h0=>⟨rfl,h5 h0⟩⟩
theorem lstep_else(os:List Of)(n:Int)(nm:List UInt8)(i:Nat)(s:Ms):stepM os (9,n,nm) i s=match (takeM s).1 with|some v=>(n.toNat,putM (takeM s).2 (some v))|none=>(i+1,(takeM s).2):=rfl
theorem lstep_unless(os:List Of)(n:Int)(nm:List UInt8)(i:Nat)(s:Ms):stepM os (12,n,nm) i s=match (takeM s).1 with|some v=>if v=0 then (n.toNat,(takeM s).2) else (i+1,(takeM s).2)|none=>(n.toNat,(takeM s).2):=rfl
theorem lstep_jump(os:List Of)(n:Int)(nm:List UInt8)(i:Nat)(s:Ms):stepM os (13,n,nm) i s=(n.toNat,s):=rfl
structure Tk (w0 w W w1 V:World) (D b:Nat) (ov:Value) (nx st:Int) (S:List Ce) (p:Int) (q:Bool) (o n:Int) (s:ByteArray):Prop where
 r:Rel w0 V
 m:Mh V w0.heap.size D b ov nx st S
 k:Kl b w V
 x:Bk V w.heap.size 140 #[.int .i64 o,.int .i64 n,.string s]
 y:Bk V w1.heap.size 111 #[.int .i64 p,.bool q]
 ne:w1.heap.size≠b
theorem Tk.of{w0 w W w1:World}{D b:Nat}{ov:Value}{nx st:Int}{S:List Ce}{p:Int}{q:Bool}{o n:Int}{s:ByteArray}(hlt:b<w.heap.size)(hWw:Rel w W)(hx:Bk W w.heap.size 140 #[.int .i64 o,.int .i64 n,.string s])(m1:Mh w1 w0.heap.size D b ov nx st S)(r1:Rel w0 w1)(k1:Kt b W w1)(V:World)(hV:w1.alloc (.cells #[.int .i64 p,.bool q] 111)=V):
  Tk w0 w W w1 V D b ov nx st S p q o n s:=by
 subst hV
 have hb:=m1.lt
 exact⟨r1.alloc _,m1.rel (r1.self.alloc _),Kr.trans (Kr.rel hWw) (Kr.trans (Kt.kr k1) (Kr.rel (r1.self.alloc _))),(k1.bk hx (by omega)).alloc _,Bk.new _ _ _,by omega⟩
theorem ljump_any(b D:Nat)(ov:Value)(st:Int)(S:List Ce)(m:Nat×Ms)(os:List Of)(i:Nat)(o n:Int)(nm:List UInt8)(s:ByteArray)(hn:0≤n)(hm:stepM os (13,n,nm) i (S,0)=m)(w0 w:World)(hr:Rel w0 w)(h:Mh w w0.heap.size D b ov ((i+1:Nat):Int) st S):
  Calls Tryz.prog 128 #[.pointer (some ⟨b,0,none⟩),.agg #[.int .i64 o,.int .i64 n,.string s]] w (OX w0 b ov st w m):=by
 rw[lstep_jump] at hm
 subst hm
 have hlt:=h.lt
 have HI:=yH (hr.self.alloc (.cells #[.int .i64 o,.int .i64 n,.string s] 140))
 have HX:=yH (Bk.new w 140 #[.int .i64 o,.int .i64 n,.string s])
 have HM:=yH (h.rel HI.out)
 have HR:=yH (hr.trans HI.out)
 obtain⟨W,hW⟩:∃W,w.alloc (.cells #[.int .i64 o,.int .i64 n,.string s] 140)=W:=⟨_,rfl⟩
 rw[hW] at HI HX HM HR
 clear hr h
 obtain⟨⟨x0,x1,x2⟩,_⟩:=three_of HX.out
 obtain⟨A,c,hb⟩:=HM.out.cells
 obtain⟨⟨b0,b1,b2,b3⟩,f0,f1,f2,f3⟩:=hb.four
 clear hb
 go_enter Tryz.func128,Tryz.ntmps128
 go_wp2_with (fail)
 go_ret
 exact⟨rfl,HR.out.setCell (p:=⟨b,1,none⟩) HM.out.1 _,Kr.trans (Kr.rel HI.out) ((Kr.refl _ b W).set (p:=⟨b,1,none⟩) rfl _),D,_,_,HM.out.next n,fun _=>⟨(Int.toNat_of_nonneg hn).symm,rfl⟩⟩
theorem lunless_any(b D:Nat)(ov:Value)(st:Int)(S:List Ce)(m:Nat×Ms)(os:List Of)(i:Nat)(o n:Int)(nm:List UInt8)(s:ByteArray)(hn:0≤n)(hm:stepM os (12,n,nm) i (S,0)=m)(w0 w:World)(hr:Rel w0 w)(h:Mh w w0.heap.size D b ov ((i+1:Nat):Int) st S):
  Calls Tryz.prog 127 #[.pointer (some ⟨b,0,none⟩),.agg #[.int .i64 o,.int .i64 n,.string s]] w (OX w0 b ov st w m):=by
 rcases stack_ways S with rfl|⟨R,t,rfl⟩
 ·skip
  have hlt:=h.lt
  have HI:=yH (hr.self.alloc (.cells #[.int .i64 o,.int .i64 n,.string s] 140))
  have HX:=yH (Bk.new w 140 #[.int .i64 o,.int .i64 n,.string s])
  have HM:=yH (h.rel HI.out)
  have HR:=yH (hr.trans HI.out)
  obtain⟨W,hW⟩:∃W,w.alloc (.cells #[.int .i64 o,.int .i64 n,.string s] 140)=W:=⟨_,rfl⟩
  rw[hW] at HI HX HM HR
  clear hr h
  rw[lstep_unless,take_none] at hm
  subst hm
  go_enter Tryz.func127,Tryz.ntmps127
  go_wp2_with (go_at_call 154;(with_reducible refine(ltake_nil b D ov _ st w0 W HR.out HM.out).mono ?_);rintro e w1 ⟨rfl,h1⟩;have R1:=yH h1;have M1:=yH (HM.out.rel h1);clear h1)
  go_ret
  exact⟨rfl,(HR.out.trans R1.out).alloc _,Kr.trans (Kr.rel HI.out) (Kr.rel (R1.out.alloc _)),D,_,_,M1.out.rel (R1.out.self.alloc _),fun h0=>absurd (show(100:Int)=0 from h0) (by decide)⟩
 ·rw[lstep_unless,take_last] at hm
  simp only at hm
  have hlt:=h.lt
  have HI:=yH (hr.self.alloc (.cells #[.int .i64 o,.int .i64 n,.string s] 140))
  have HX:=yH (Bk.new w 140 #[.int .i64 o,.int .i64 n,.string s])
  have HM:=yH (h.rel HI.out)
  have HR:=yH (hr.trans HI.out)
  obtain⟨W,hW⟩:∃W,w.alloc (.cells #[.int .i64 o,.int .i64 n,.string s] 140)=W:=⟨_,rfl⟩
  rw[hW] at HI HX HM HR
  clear hr h
  rcases t with _|v
  ·simp only at hm
   subst hm
   go_enter Tryz.func127,Tryz.ntmps127
   go_upto_region 2 with (go_at_call 154;(with_reducible refine(ltake_as b D ov _ st R none 0 false (yH rfl) w0 W HR.out HM.out).mono ?_);rintro e w1 ⟨rfl,m1,r1,k1⟩;have TK:=yH (Tk.of (p:=0) (q:=false) hlt HI.out HX.out m1 r1 k1 _ rfl);clear m1 r1 k1)
   obtain⟨V,hV⟩:∃V,w1.alloc (.cells #[.int .i64 0,.bool false] 111)=V:=⟨_,rfl⟩
   rw[hV] at TK
   try rw[hV]
   clear hV
   have hxV:=TK.out.x
   obtain⟨⟨x0,x1,x2⟩,_⟩:=three_of hxV
   obtain⟨⟨y0,y1⟩,_⟩:=TK.out.y.two
   obtain⟨A,c,hb⟩:=TK.out.m.cells
   obtain⟨⟨b0,b1,b2,b3⟩,f0,f1,f2,f3⟩:=hb.four
   clear hb hxV
   go_wp2_with (fail)
   go_ret
   exact⟨rfl,TK.out.r.setCell (p:=⟨b,1,none⟩) TK.out.m.1 _,Kr.set TK.out.k (p:=⟨b,1,none⟩) rfl _,D,_,_,TK.out.m.next n,fun _=>⟨(Int.toNat_of_nonneg hn).symm,rfl⟩⟩
  ·simp only at hm
   by_cases hv:v=0
   ·rw[if_pos hv] at hm
    subst hm hv
    go_enter Tryz.func127,Tryz.ntmps127
    go_upto_region 2 with (go_at_call 154;(with_reducible refine(ltake_as b D ov _ st R (some 0) 0 true (yH rfl) w0 W HR.out HM.out).mono ?_);rintro e w1 ⟨rfl,m1,r1,k1⟩;have TK:=yH (Tk.of (p:=0) (q:=true) hlt HI.out HX.out m1 r1 k1 _ rfl);clear m1 r1 k1)
    obtain⟨V,hV⟩:∃V,w1.alloc (.cells #[.int .i64 0,.bool true] 111)=V:=⟨_,rfl⟩
    rw[hV] at TK
    try rw[hV]
    clear hV
    have hxV:=TK.out.x
    obtain⟨⟨x0,x1,x2⟩,_⟩:=three_of hxV
    obtain⟨⟨y0,y1⟩,_⟩:=TK.out.y.two
    obtain⟨A,c,hb⟩:=TK.out.m.cells
    obtain⟨⟨b0,b1,b2,b3⟩,f0,f1,f2,f3⟩:=hb.four
    clear hb hxV
    go_wp2_with (fail)
    go_ret
    exact⟨rfl,TK.out.r.setCell (p:=⟨b,1,none⟩) TK.out.m.1 _,Kr.set TK.out.k (p:=⟨b,1,none⟩) rfl _,D,_,_,TK.out.m.next n,fun _=>⟨(Int.toNat_of_nonneg hn).symm,rfl⟩⟩
   ·rw[if_neg hv] at hm
    subst hm
    have hvb:(v==0)=false:=by simpa using hv
    go_enter Tryz.func127,Tryz.ntmps127
    go_upto_region 2 with (go_at_call 154;(with_reducible refine(ltake_as b D ov _ st R (some v) v true (yH rfl) w0 W HR.out HM.out).mono ?_);rintro e w1 ⟨rfl,m1,r1,k1⟩;have TK:=yH (Tk.of (p:=v) (q:=true) hlt HI.out HX.out m1 r1 k1 _ rfl);clear m1 r1 k1)
    obtain⟨V,hV⟩:∃V,w1.alloc (.cells #[.int .i64 v,.bool true] 111)=V:=⟨_,rfl⟩
    rw[hV] at TK
    try rw[hV]
    clear hV
    have hxV:=TK.out.x
    obtain⟨⟨x0,x1,x2⟩,_⟩:=three_of hxV
    obtain⟨⟨y0,y1⟩,_⟩:=TK.out.y.two
    obtain⟨A,c,hb⟩:=TK.out.m.cells
    obtain⟨⟨b0,b1,b2,b3⟩,f0,f1,f2,f3⟩:=hb.four
    clear hb hxV
    go_wp2_with (fail)
    go_ret
    exact⟨rfl,TK.out.r,TK.out.k,D,_,_,TK.out.m,fun _=>⟨rfl,rfl⟩⟩
theorem lelse_any(b D:Nat)(ov:Value)(st:Int)(S:List Ce)(m:Nat×Ms)(os:List Of)(i:Nat)(o n:Int)(nm:List UInt8)(s:ByteArray)(hn:0≤n)(hm:stepM os (9,n,nm) i (S,0)=m)(w0 w:World)(hr:Rel w0 w)(h:Mh w w0.heap.size D b ov ((i+1:Nat):Int) st S):
  Calls Tryz.prog 124 #[.pointer (some ⟨b,0,none⟩),.agg #[.int .i64 o,.int .i64 n,.string s]] w (OX w0 b ov st w m):=by
 rcases stack_ways S with rfl|⟨R,t,rfl⟩
 ·skip
  have hlt:=h.lt
  have HI:=yH (hr.self.alloc (.cells #[.int .i64 o,.int .i64 n,.string s] 140))
  have HX:=yH (Bk.new w 140 #[.int .i64 o,.int .i64 n,.string s])
  have HM:=yH (h.rel HI.out)
  have HR:=yH (hr.trans HI.out)
  obtain⟨W,hW⟩:∃W,w.alloc (.cells #[.int .i64 o,.int .i64 n,.string s] 140)=W:=⟨_,rfl⟩
  rw[hW] at HI HX HM HR
  clear hr h
  rw[lstep_else,take_none] at hm
  subst hm
  go_enter Tryz.func124,Tryz.ntmps124
  go_wp2_with (go_at_call 154;(with_reducible refine(ltake_nil b D ov _ st w0 W HR.out HM.out).mono ?_);rintro e w1 ⟨rfl,h1⟩;have R1:=yH h1;have M1:=yH (HM.out.rel h1);clear h1)
  go_ret
  exact⟨rfl,(HR.out.trans R1.out).alloc _,Kr.trans (Kr.rel HI.out) (Kr.rel (R1.out.alloc _)),D,_,_,M1.out.rel (R1.out.self.alloc _),fun h0=>absurd (show(100:Int)=0 from h0) (by decide)⟩
 ·rw[lstep_else,take_last] at hm
  simp only at hm
  have hlt:=h.lt
  have HI:=yH (hr.self.alloc (.cells #[.int .i64 o,.int .i64 n,.string s] 140))
  have HX:=yH (Bk.new w 140 #[.int .i64 o,.int .i64 n,.string s])
  have HM:=yH (h.rel HI.out)
  have HR:=yH (hr.trans HI.out)
  obtain⟨W,hW⟩:∃W,w.alloc (.cells #[.int .i64 o,.int .i64 n,.string s] 140)=W:=⟨_,rfl⟩
  rw[hW] at HI HX HM HR
  clear hr h
  rcases t with _|v
  ·simp only at hm
   subst hm
   go_enter Tryz.func124,Tryz.ntmps124
   go_wp2_with (go_at_call 154;(with_reducible refine(ltake_as b D ov _ st R none 0 false (yH rfl) w0 W HR.out HM.out).mono ?_);rintro e w1 ⟨rfl,m1,r1,k1⟩;have TK:=yH (Tk.of (p:=0) (q:=false) hlt HI.out HX.out m1 r1 k1 _ rfl);clear m1 r1 k1)
   go_ret
   exact⟨rfl,TK.out.r,TK.out.k,D,_,_,TK.out.m,fun _=>⟨rfl,rfl⟩⟩
  ·simp only at hm
   obtain⟨⟨T,er⟩,hTe⟩:∃Te,putM (R,0) (some v)=Te:=⟨_,rfl⟩
   have HP:=yH hTe
   rw[hTe] at hm
   subst hm
   clear hTe
   go_enter Tryz.func124,Tryz.ntmps124
   go_upto_region 4 with (go_at_call 154;(with_reducible refine(ltake_as b D ov _ st R (some v) v true (yH rfl) w0 W HR.out HM.out).mono ?_);rintro e w1 ⟨rfl,m1,r1,k1⟩;have TK:=yH (Tk.of (p:=v) (q:=true) hlt HI.out HX.out m1 r1 k1 _ rfl);clear m1 r1 k1)
   obtain⟨V,hV⟩:∃V,w1.alloc (.cells #[.int .i64 v,.bool true] 111)=V:=⟨_,rfl⟩
   rw[hV] at TK
   try rw[hV]
   clear hV
   have hxV:=TK.out.x
   obtain⟨⟨x0,x1,x2⟩,_⟩:=three_of hxV
   obtain⟨⟨y0,y1⟩,_⟩:=TK.out.y.two
   obtain⟨A,c,hb⟩:=TK.out.m.cells
   obtain⟨⟨b0,b1,b2,b3⟩,f0,f1,f2,f3⟩:=hb.four
   clear hb hxV
   have RU:=yH (TK.out.r.setCell (p:=⟨b,1,none⟩) TK.out.m.1 (.int .i64 n))
   have MU:=yH (TK.out.m.next n)
   have KU:=yH (Kr.set TK.out.k (p:=⟨b,1,none⟩) rfl (.int .i64 n))
   have YU:=yH (TK.out.y.far (p:=⟨b,1,none⟩) TK.out.ne (.int .i64 n))
   go_upto_region 5 with (fail)
   obtain⟨U,hU⟩:∃U,V.setCell ⟨b,1,none⟩ (.int .i64 n)=U:=⟨_,rfl⟩
   rw[hU] at RU MU KU YU
   try rw[hU]
   clear hU
   obtain⟨⟨z0,z1⟩,_⟩:=YU.out.two
   go_wp2_with (go_at_call 155;(with_reducible refine(lput_as b D ov n st R T er (some v) v true (yH rfl) HP w0 U RU.out MU.out).mono ?_);rintro e w3 ⟨rfl,r3,k3,D3,S3,m3,e3⟩)
   go_ret
   exact⟨rfl,r3,Kr.trans KU.out k3,D3,S3,n,m3,fun h0=>⟨(Int.toNat_of_nonneg hn).symm,e3 h0⟩⟩
def lopsL(b:Nat):List (Int×Value):=[(13,.func (.func 128) #[.pointer (some ⟨b,0,none⟩)] #[]),(12,.func (.func 127) #[.pointer (some ⟨b,0,none⟩)] #[]),(11,.func (.func 126) #[.pointer (some ⟨b,0,none⟩)] #[]),(10,.func (.func 125) #[.pointer (some ⟨b,0,none⟩)] #[]),(9,.func (.func 124) #[.pointer (some ⟨b,0,none⟩)] #[]),(8,.func (.func 123) #[.pointer (some ⟨b,0,none⟩)] #[]),(7,.func (.func 122) #[.pointer (some ⟨b,0,none⟩)] #[]),(6,.func (.func 121) #[.pointer (some ⟨b,0,none⟩)] #[]),(5,.func (.func 120) #[.pointer (some ⟨b,0,none⟩)] #[]),(4,.func (.func 119) #[.pointer (some ⟨b,0,none⟩)] #[]),(3,.func (.func 118) #[.pointer (some ⟨b,0,none⟩)] #[]),(2,.func (.func 117) #[.pointer (some ⟨b,0,none⟩)] #[]),(1,.func (.func 116) #[.pointer (some ⟨b,0,none⟩)] #[])]
theorem loperations_any(b:Nat)(w0 w:World)(hr:Rel w0 w):
  Calls Tryz.prog 88 #[.pointer (some ⟨b,0,none⟩)] w fun r w'=>∃q,r= .returned (.map (some q))∧w.heap.size≤q∧MapIs w' q (lopsL b)∧Rel w w':=by
 have hmm:= @run_makeMap Tryz.prog
 have hmf:∀(fn:Fn) (first cap:Array Value) (w:World),(Instr.makeFunc fn first cap).run Tryz.prog w= .ok (.func fn first cap) w:=fun _ _ _ _=>rfl
 have m0:=MapIs.made w
 have hw:w.heap.size≤w.heap.size:=Nat.le_refl _
 have r0:=hr.self.alloc (.map #[] 0)
 clear hr
 go_enter Tryz.func88,Tryz.ntmps88
 go_wp2_with (first
  |(refine wp_entry _ rfl _ _ _ 142 rfl 144 Tryz.underlying142 _ _ rfl m0 (show(0:Nat)<maxLen by decide) 1 (.func (.func 116) #[.pointer (some ⟨b,0,none⟩)] #[]) rfl (by decide) rfl ?_;intro w1 m1 g1;have r1:=Rel.grown r0 g1 (fun k hk=>by injection hk with hk;rw[←hk];exact hw);clear m0 g1 r0)
  |(refine wp_entry _ rfl _ _ _ 142 rfl 144 Tryz.underlying142 _ _ rfl m1 (show(1:Nat)<maxLen by decide) 2 (.func (.func 117) #[.pointer (some ⟨b,0,none⟩)] #[]) rfl (by decide) rfl ?_;intro w2 m2 g2;have r2:=Rel.grown r1 g2 (fun k hk=>by injection hk with hk;rw[←hk];exact hw);clear m1 g2 r1)
  |(refine wp_entry _ rfl _ _ _ 142 rfl 144 Tryz.underlying142 _ _ rfl m2 (show(2:Nat)<maxLen by decide) 3 (.func (.func 118) #[.pointer (some ⟨b,0,none⟩)] #[]) rfl (by decide) rfl ?_;intro w3 m3 g3;have r3:=Rel.grown r2 g3 (fun k hk=>by injection hk with hk;rw[←hk];exact hw);clear m2 g3 r2)
  |(refine wp_entry _ rfl _ _ _ 142 rfl 144 Tryz.underlying142 _ _ rfl m3 (show(3:Nat)<maxLen by decide) 4 (.func (.func 119) #[.pointer (some ⟨b,0,none⟩)] #[]) rfl (by decide) rfl ?_;intro w4 m4 g4;have r4:=Rel.grown r3 g4 (fun k hk=>by injection hk with hk;rw[←hk];exact hw);clear m3 g4 r3)
  |(refine wp_entry _ rfl _ _ _ 142 rfl 144 Tryz.underlying142 _ _ rfl m4 (show(4:Nat)<maxLen by decide) 5 (.func (.func 120) #[.pointer (some ⟨b,0,none⟩)] #[]) rfl (by decide) rfl ?_;intro w5 m5 g5;have r5:=Rel.grown r4 g5 (fun k hk=>by injection hk with hk;rw[←hk];exact hw);clear m4 g5 r4)
  |(refine wp_entry _ rfl _ _ _ 142 rfl 144 Tryz.underlying142 _ _ rfl m5 (show(5:Nat)<maxLen by decide) 6 (.func (.func 121) #[.pointer (some ⟨b,0,none⟩)] #[]) rfl (by decide) rfl ?_;intro w6 m6 g6;have r6:=Rel.grown r5 g6 (fun k hk=>by injection hk with hk;rw[←hk];exact hw);clear m5 g6 r5)
  |(refine wp_entry _ rfl _ _ _ 142 rfl 144 Tryz.underlying142 _ _ rfl m6 (show(6:Nat)<maxLen by decide) 7 (.func (.func 122) #[.pointer (some ⟨b,0,none⟩)] #[]) rfl (by decide) rfl ?_;intro w7 m7 g7;have r7:=Rel.grown r6 g7 (fun k hk=>by injection hk with hk;rw[←hk];exact hw);clear m6 g7 r6)
  |(refine wp_entry _ rfl _ _ _ 142 rfl 144 Tryz.underlying142 _ _ rfl m7 (show(7:Nat)<maxLen by decide) 8 (.func (.func 123) #[.pointer (some ⟨b,0,none⟩)] #[]) rfl (by decide) rfl ?_;intro w8 m8 g8;have r8:=Rel.grown r7 g8 (fun k hk=>by injection hk with hk;rw[←hk];exact hw);clear m7 g8 r7)
  |(refine wp_entry _ rfl _ _ _ 142 rfl 144 Tryz.underlying142 _ _ rfl m8 (show(8:Nat)<maxLen by decide) 9 (.func (.func 124) #[.pointer (some ⟨b,0,none⟩)] #[]) rfl (by decide) rfl ?_;intro w9 m9 g9;have r9:=Rel.grown r8 g9 (fun k hk=>by injection hk with hk;rw[←hk];exact hw);clear m8 g9 r8)
  |(refine wp_entry _ rfl _ _ _ 142 rfl 144 Tryz.underlying142 _ _ rfl m9 (show(9:Nat)<maxLen by decide) 10 (.func (.func 125) #[.pointer (some ⟨b,0,none⟩)] #[]) rfl (by decide) rfl ?_;intro w10 m10 g10;have r10:=Rel.grown r9 g10 (fun k hk=>by injection hk with hk;rw[←hk];exact hw);clear m9 g10 r9)
  |(refine wp_entry _ rfl _ _ _ 142 rfl 144 Tryz.underlying142 _ _ rfl m10 (show(10:Nat)<maxLen by decide) 11 (.func (.func 126) #[.pointer (some ⟨b,0,none⟩)] #[]) rfl (by decide) rfl ?_;intro w11 m11 g11;have r11:=Rel.grown r10 g11 (fun k hk=>by injection hk with hk;rw[←hk];exact hw);clear m10 g11 r10)
  |(refine wp_entry _ rfl _ _ _ 142 rfl 144 Tryz.underlying142 _ _ rfl m11 (show(11:Nat)<maxLen by decide) 12 (.func (.func 127) #[.pointer (some ⟨b,0,none⟩)] #[]) rfl (by decide) rfl ?_;intro w12 m12 g12;have r12:=Rel.grown r11 g12 (fun k hk=>by injection hk with hk;rw[←hk];exact hw);clear m11 g12 r11)
  |(refine wp_entry _ rfl _ _ _ 142 rfl 144 Tryz.underlying142 _ _ rfl m12 (show(12:Nat)<maxLen by decide) 13 (.func (.func 128) #[.pointer (some ⟨b,0,none⟩)] #[]) rfl (by decide) rfl ?_;intro w13 m13 g13;have r13:=Rel.grown r12 g13 (fun k hk=>by injection hk with hk;rw[←hk];exact hw);clear m12 g13 r12))
 go_ret
 exact⟨_,rfl,hw,m13,r13⟩
def OpIs(b:Nat)(os:List Of)(A':Option Addr)(c':Nat)(i:Nat)(o n:Int)(nm:List UInt8)(fn:FuncId):Prop:=
 ∀(D:Nat) (st:Int) (S:List Ce) (w0 w:World),Rel w0 w→Mh w w0.heap.size D b (.slice A' os.length c') ((i+1:Nat):Int) st S→OffArg w A' c' os→
  Calls Tryz.prog fn #[.pointer (some ⟨b,0,none⟩),.agg #[.int .i64 o,.int .i64 n,.string (B nm)]] w (OX w0 b (.slice A' os.length c') st w (stepM os (o,n,nm) i (S,0)))
theorem lops_any(H:EvalOk)(b:Nat)(os:List Of)(hok:offsOk os=true)(A':Option Addr)(c':Nat)(len i:Nat)(o n:Int)(nm:List UInt8)(hin:inOk len i (o,n,nm)=true):
  ∃fn:FuncId,look (lopsL b) o=some (.func (.func fn) #[.pointer (some ⟨b,0,none⟩)] #[])∧(∀(args:Array Value) (w:World),(callFunc fn args).run Tryz.prog w= .ok (.enter fn args) w)∧OpIs b os A' c' i o n nm fn:=by
 have hin0:=hin
 rw[inOk_eq] at hin
 simp only[Bool.and_eq_true,decide_eq_true_eq] at hin
 obtain⟨⟨h1,h2⟩,h3⟩:=hin
 have hn0:0≤n:=by
  have:0≤leastO i o:=by unfold leastO;split<;>omega
  omega
 have ways:o=1∨o=2∨o=3∨o=4∨o=5∨o=6∨o=7∨o=8∨o=9∨o=10∨o=11∨o=12∨o=13:=by omega
 have hx:∀(o:Int),o=1→mostO len o=1000000000000:=by rintro o rfl;rfl
 rcases ways with rfl|rfl|rfl|rfl|rfl|rfl|rfl|rfl|rfl|rfl|rfl|rfl|rfl
 ·exact⟨116,rfl,fun _ _=>rfl,fun D st S w0 w hr h ho=>by
   obtain⟨⟨T,er⟩,hTe⟩:∃Te,putM (S,0) (some n)=Te:=⟨_,rfl⟩
   exact(lpush_any H b D _ _ st S T er os A' c' (yH rfl) hok 1 n (B nm) ⟨hn0,by have:=hx 1 rfl;omega⟩ (yH hTe) w0 w hr h ho).mono fun e w' hh=>LP.ox hh (show(i+1,putM (S,0) (some n))=_ by rw[hTe])⟩
 ·exact⟨117,rfl,fun _ _=>rfl,fun D st S w0 w hr h ho=>by
   obtain⟨⟨T,er⟩,hTe⟩:∃Te,putM (S,0) (rk os 0)=Te:=⟨_,rfl⟩
   exact(llowest_any H b D _ _ st S T er os A' c' (yH rfl) hok 2 n (B nm) (yH hTe) w0 w hr h ho).mono fun e w' hh=>LP.ox hh (show(i+1,putM (S,0) (rk os 0))=_ by rw[hTe])⟩
 ·exact⟨118,rfl,fun _ _=>rfl,fun D st S w0 w hr h ho=>by
   obtain⟨⟨T,er⟩,hTe⟩:∃Te,putM (S,0) (rk os 1)=Te:=⟨_,rfl⟩
   exact(lsecond_any H b D _ _ st S T er os A' c' (yH rfl) hok 3 n (B nm) (yH hTe) w0 w hr h ho).mono fun e w' hh=>LP.ox hh (show(i+1,putM (S,0) (rk os 1))=_ by rw[hTe])⟩
 ·exact⟨119,rfl,fun _ _=>rfl,fun D st S w0 w hr h ho=>by
   obtain⟨⟨T,er⟩,hTe⟩:∃Te,putM (S,0) (fromO os nm)=Te:=⟨_,rfl⟩
   exact(lfrom_any H b D _ _ st S T er os A' c' (yH rfl) hok 4 n (B nm) nm rfl (by simpa using h3) (yH hTe) w0 w hr h ho).mono fun e w' hh=>LP.ox hh (show(i+1,putM (S,0) (fromO os nm))=_ by rw[hTe])⟩
 ·exact⟨120,rfl,fun _ _=>rfl,fun D st S w0 w hr h ho=>by
   obtain⟨⟨T,er⟩,hTe⟩:∃Te,minusM (takeM (S,0)).2 (takeM (S,0)).1 (fun v=>subR v n)=Te:=⟨_,rfl⟩
   exact(lless_any b D _ _ st S T er 5 n (B nm) (yH hTe) w0 w hr h).mono fun e w' hh=>LP.ox hh (show(i+1,minusM (takeM (S,0)).2 (takeM (S,0)).1 (fun v=>subR v n))=_ by rw[hTe])⟩
 ·exact⟨121,rfl,fun _ _=>rfl,fun D st S w0 w hr h ho=>by
   obtain⟨⟨T,er⟩,hTe⟩:∃Te,minusM (takeM (S,0)).2 (takeM (S,0)).1 (fun v=>cutR v n)=Te:=⟨_,rfl⟩
   exact(lcutop_any b D _ _ st S T er 6 n (B nm) (yH hTe) w0 w hr h).mono fun e w' hh=>LP.ox hh (show(i+1,minusM (takeM (S,0)).2 (takeM (S,0)).1 (fun v=>cutR v n))=_ by rw[hTe])⟩
 ·exact⟨122,rfl,fun _ _=>rfl,fun D st S w0 w hr h ho=>by
   obtain⟨⟨T,er⟩,hTe⟩:∃Te,twoM 7 (S,0)=Te:=⟨_,rfl⟩
   exact(llesser_any b D _ _ st S T er 7 n (B nm) (yH hTe) w0 w hr h).mono fun e w' hh=>LP.ox hh (show(i+1,twoM 7 (S,0))=_ by rw[hTe])⟩
 ·exact⟨123,rfl,fun _ _=>rfl,fun D st S w0 w hr h ho=>by
   obtain⟨⟨T,er⟩,hTe⟩:∃Te,twoM 8 (S,0)=Te:=⟨_,rfl⟩
   exact(lgreater_any b D _ _ st S T er 8 n (B nm) (yH hTe) w0 w hr h).mono fun e w' hh=>LP.ox hh (show(i+1,twoM 8 (S,0))=_ by rw[hTe])⟩
 ·exact⟨124,rfl,fun _ _=>rfl,fun D st S w0 w hr h ho=>by
   exact lelse_any b D _ st S _ os i 9 n nm (B nm) hn0 rfl w0 w hr h⟩
 ·exact⟨125,rfl,fun _ _=>rfl,fun D st S w0 w hr h ho=>by
   obtain⟨⟨T,er⟩,hTe⟩:∃Te,putM (S,0) (some (if n<(os.length:Int) then 1 else 0))=Te:=⟨_,rfl⟩
   exact(lmore_any b D _ _ st S T er os A' c' (yH rfl) 10 n (B nm) (yH hTe) w0 w hr h).mono fun e w' hh=>LP.ox hh (show(i+1,putM (S,0) (some (if n<(os.length:Int) then 1 else 0)))=_ by rw[hTe])⟩
 ·exact⟨126,rfl,fun _ _=>rfl,fun D st S w0 w hr h ho=>by
   obtain⟨⟨T,er⟩,hTe⟩:∃Te,twoM 11 (S,0)=Te:=⟨_,rfl⟩
   exact(labove_any b D _ _ st S T er 11 n (B nm) (yH hTe) w0 w hr h).mono fun e w' hh=>LP.ox hh (show(i+1,twoM 11 (S,0))=_ by rw[hTe])⟩
 ·exact⟨127,rfl,fun _ _=>rfl,fun D st S w0 w hr h ho=>by
   exact lunless_any b D _ st S _ os i 12 n nm (B nm) hn0 rfl w0 w hr h⟩
 ·exact⟨128,rfl,fun _ _=>rfl,fun D st S w0 w hr h ho=>by
   exact ljump_any b D _ st S _ os i 13 n nm (B nm) hn0 rfl w0 w hr h⟩
end Go.Proofs.YtfekhbeaphpelaaGreatDoor
