/- The landed operations of layer 11 that c. -/

import Derived.Test.YtfekhbeaphpelaaGreatDoorY19
set_option maxRecDepth 100000
set_option maxHeartbeats 8000000
set_option linter.unusedVariables false
set_option linter.unusedSimpArgs false
namespace Go.Proofs.YtfekhbeaphpelaaGreatDoor
open Go.RowKit Go.Lib
theorem ltake_nil(b D:Nat)(ov:Value)(nx st:Int)(w0 w:World)(hr:Rel w0 w)(h:Mh w w0.heap.size D b ov nx st []):
  Calls Tryz.prog 154 #[.pointer (some ⟨b,0,none⟩)] w fun r w'=>r= .returned (.tuple #[.agg #[yI 0,.bool false],yI 100])∧Rel w w':=ltake_none b D ov nx st w0 w hr h
theorem ltake_as(b D:Nat)(ov:Value)(nx st:Int)(S:List Ce)(t:Ce)(p:Int)(q:Bool)(hv:Hid (CV1 t= .agg #[yI p,.bool q]))(w0 w:World)(hr:Rel w0 w)(h:Mh w w0.heap.size D b ov nx st (S++[t])):
  Calls Tryz.prog 154 #[.pointer (some ⟨b,0,none⟩)] w fun r w'=>r= .returned (.tuple #[.agg #[yI p,.bool q],yI 0])∧Mh w' w0.heap.size D b ov nx st S∧Rel w0 w'∧Kt b w w':=by
 rw[←hv.out];exact ltake_some b D ov nx st S t w0 w hr h
theorem take_last'{S T R:List Ce}{t:Ce}{er:Int}{F:Ms→Ce→Ms}(hm:Hid (F (takeM (R++[t],0)).2 (takeM (R++[t],0)).1=(T,er))):F (R,0) t=(T,er):=by
 have e:=hm.out
 rw[take_last] at e
 exact e
theorem lchange_any(fn:FuncId)(hfn:∀(args:Array Value)(w:World),(callFunc fn args).run Tryz.prog w= .ok (.enter fn args) w)(g:Nat)(cs:Array Value)(f:Int→Rs)(P E:Int→Int)(hPE:∀v,(E v=0∧f v= .ok (some (P v)))∨(E v≠0∧f v= .error (E v)))
  (HF:∀(v:Int)(w:World),Bk w g 140 cs→Calls Tryz.prog fn #[yI v,.pointer (some ⟨g,0,none⟩)] w fun r w'=>r= .returned (.tuple #[yI (P v),yI (E v)])∧w=w')
  (b D:Nat) (ov:Value) (nx st:Int) (S T:List Ce) (er:Int) (hm:Hid (minusM (takeM (S,0)).2 (takeM (S,0)).1 f=(T,er))) (w0 w:World) (hr:Rel w0 w) (h:Mh w w0.heap.size D b ov nx st S) (hg:Bk w g 140 cs) (hgb:g≠b):
  Calls Tryz.prog 146 #[.pointer (some ⟨b,0,none⟩),.func (.func fn) #[] #[.pointer (some ⟨g,0,none⟩)]] w (LP w0 b ov nx st w T er):=by
 have HR:=yH hr
 have HG:=yH hg
 clear hr hg
 rcases stack_ways S with rfl|⟨R,t,rfl⟩
 ·have HM:=yH h
  have hm:=hm.out
  rw[take_none] at hm
  have e0:minusM (([]:List Ce),(100:Int)) none f=([],100):=put_err (s:=([],100)) (by decide) none
  rw[show minusM (none,(([]:List Ce),(100:Int))).2 ((none:Ce),(([]:List Ce),(100:Int))).1 f=([],100) from e0] at hm
  injection hm with e1 e2
  subst e1 e2
  clear h
  go_enter Tryz.func146,Tryz.ntmps146
  go_wp2_with (go_at_call 154;(with_reducible refine(ltake_nil b D ov nx st w0 w HR.out HM.out).mono ?_);rintro e w1 ⟨rfl,h1⟩;have R1:=yH h1)
  go_ret
  exact LP.same HR.out HM.out (R1.out.alloc _) rfl (by decide)
 ·have HM:=yH h
  have hm:=take_last' (S:=R) (F:=fun s c=>minusM s c f) hm
  clear h
  cases t with
  |none=>
   have HP:=yH (show putM (R,0) none=(T,er) from hm)
   clear hm
   go_enter Tryz.func146,Tryz.ntmps146
   go_wp2_with (first
    |(go_at_call 154;(with_reducible refine(ltake_as b D ov nx st R none 0 false (yH rfl) w0 w HR.out HM.out).mono ?_);rintro e w1 ⟨rfl,m1,r1,k1⟩;have R1:=yH r1;have M1:=yH m1;have K1:=yH k1;clear r1 m1 k1)
    |(go_at_call 155;(with_reducible refine(lput_as b D ov nx st R T er none 0 false (yH rfl) HP w0 _ (R1.out.alloc _) (M1.out.rel (R1.out.self.alloc _))).mono ?_);rintro e w3 ⟨rfl,h3⟩))
   go_ret
   exact LP.back (Kr.trans (Kt.kr K1.out) (Kr.rel (R1.out.self.alloc _))) h3 rfl
  |some v=>
   have hf:=hPE v
   have HFv:=yH (HF v)
   generalize P v=p at*
   generalize E v=q at*
   clear HF
   rcases hf with ⟨rfl,hf⟩|⟨hq,hf⟩
   ·have HP:=yH (show putM (R,0) (some p)=(T,er) by rw[←hm];exact(minus_ok hf).symm)
    clear hm hf
    go_enter Tryz.func146,Tryz.ntmps146
    go_wp2_with (first
     |(go_at_call 154;(with_reducible refine(ltake_as b D ov nx st R (some v) v true (yH rfl) w0 w HR.out HM.out).mono ?_);rintro e w1 ⟨rfl,m1,r1,k1⟩;have R1:=yH r1;have M1:=yH m1;have K1:=yH k1;clear r1 m1 k1)
     |(go_at_call 155;(with_reducible refine(lput_as b D ov nx st R T er (some p) p true (yH rfl) HP w0 _ (R1.out.alloc _) (M1.out.rel (R1.out.self.alloc _))).mono ?_);rintro e w3 ⟨rfl,h3⟩)
     |((with_reducible refine(HFv.out _ ((K1.out.bk HG.out hgb).alloc _)).mono ?_);rintro e w2 ⟨rfl,rfl⟩))
    go_ret
    exact LP.back (Kr.trans (Kt.kr K1.out) (Kr.rel (R1.out.self.alloc _))) h3 rfl
   ·have hqb:(q==0)=false:=by simpa using hq
    have hqn:(q !=0)=true:=by simpa using hq
    have HP:=yH (show(R,q)=(T,er) by rw[←hm];exact(minus_bad hf).symm)
    clear hm hf
    go_enter Tryz.func146,Tryz.ntmps146
    go_wp2_with (first
     |(go_at_call 154;(with_reducible refine(ltake_as b D ov nx st R (some v) v true (yH rfl) w0 w HR.out HM.out).mono ?_);rintro e w1 ⟨rfl,m1,r1,k1⟩;have R1:=yH r1;have M1:=yH m1;have K1:=yH k1;clear r1 m1 k1)
     |((with_reducible refine(HFv.out _ ((K1.out.bk HG.out hgb).alloc _)).mono ?_);rintro e w2 ⟨rfl,rfl⟩))
    go_ret
    have e0:=HP.out
    injection e0 with e1 e2
    subst e1 e2
    exact⟨rfl,R1.out.alloc _,Kr.trans (Kt.kr K1.out) (Kr.rel (R1.out.self.alloc _)),D,_,M1.out.rel (R1.out.self.alloc _),fun _=>rfl⟩
theorem sub_ways(n v:Int):(two2 v n (v-n)=0∧subR v n= .ok (some (two1 v n (v-n))))∨(two2 v n (v-n)≠0∧subR v n= .error (two2 v n (v-n))):=by
 unfold subR
 by_cases h:two2 v n (v-n)=0
 ·exact .inl ⟨h,by rw[if_pos h]⟩
 ·exact .inr ⟨h,by rw[if_neg h]⟩
def cutP(n v:Int):Int:=if part2 v n false=0 then two1 v (part1 v n false) (v-part1 v n false) else 0
def cutE(n v:Int):Int:=if part2 v n false=0 then two2 v (part1 v n false) (v-part1 v n false) else part2 v n false
theorem cut_ways(n v:Int):(cutE n v=0∧cutR v n= .ok (some (cutP n v)))∨(cutE n v≠0∧cutR v n= .error (cutE n v)):=by
 unfold cutR cutE cutP
 by_cases h:part2 v n false=0
 ·rw[if_pos h,if_pos h,if_pos h];exact sub_ways _ _
 ·rw[if_neg h,if_neg h,if_neg h];exact .inr ⟨h,rfl⟩
theorem lless1_any(g:Nat)(o n:Int)(s:ByteArray)(v:Int)(w:World)(hg:Bk w g 140 #[yI o,yI n,.string s]):
  Calls Tryz.prog 147 #[yI v,.pointer (some ⟨g,0,none⟩)] w fun r w'=>r= .returned (.tuple #[yI (two1 v n (v-n)),yI (two2 v n (v-n))])∧w=w':=by
 have HS:=yH (m9sub_any v n w)
 generalize two1 v n (v-n)=p1 at*
 generalize two2 v n (v-n)=p2 at*
 unfold Two at HS
 obtain⟨⟨x0,x1,x2⟩,_⟩:=three_of hg
 clear hg
 go_enter Tryz.func147,Tryz.ntmps147
 go_wp2_with (go_at_call 148;(with_reducible refine HS.out.mono ?_);rintro e w1 ⟨rfl,rfl⟩)
 go_ret2
 exact⟨rfl,rfl⟩
theorem lcut1_any(g:Nat)(o n:Int)(s:ByteArray)(v:Int)(w:World)(hg:Bk w g 140 #[yI o,yI n,.string s]):
  Calls Tryz.prog 149 #[yI v,.pointer (some ⟨g,0,none⟩)] w fun r w'=>r= .returned (.tuple #[yI (cutP n v),yI (cutE n v)])∧w=w':=by
 have HP:=yH (m9part_any v n false w)
 unfold cutP cutE
 generalize part1 v n false=p1 at*
 obtain⟨⟨x0,x1,x2⟩,_⟩:=three_of hg
 clear hg
 by_cases h:part2 v n false=0
 ·rw[if_pos h,if_pos h]
  rw[h] at HP
  have HS:=yH (m9sub_any v p1 w)
  generalize two1 v p1 (v-p1)=t1 at*
  generalize two2 v p1 (v-p1)=t2 at*
  unfold Two at HS HP
  clear h
  go_enter Tryz.func149,Tryz.ntmps149
  go_wp2_with (first
   |(go_at_call 150;(with_reducible refine HP.out.mono ?_);rintro e w1 ⟨rfl,rfl⟩)
   |(go_at_call 148;(with_reducible refine HS.out.mono ?_);rintro e w1 ⟨rfl,rfl⟩))
  go_ret2
  exact⟨rfl,rfl⟩
 ·rw[if_neg h,if_neg h]
  generalize part2 v n false=p2 at*
  have hb:(p2==0)=false:=by simpa using h
  have hn:(p2 !=0)=true:=by simpa using h
  unfold Two at HP
  go_enter Tryz.func149,Tryz.ntmps149
  go_wp2_with (go_at_call 150;(with_reducible refine HP.out.mono ?_);rintro e w1 ⟨rfl,rfl⟩)
  go_ret2
  exact⟨rfl,rfl⟩
theorem lless_any(b D:Nat)(ov:Value)(nx st:Int)(S T:List Ce)(er:Int)(o n:Int)(s:ByteArray)(hm:Hid (minusM (takeM (S,0)).2 (takeM (S,0)).1 (fun v=>subR v n)=(T,er)))(w0 w:World)(hr:Rel w0 w)(h:Mh w w0.heap.size D b ov nx st S):
  Calls Tryz.prog 120 #[.pointer (some ⟨b,0,none⟩),.agg #[yI o,yI n,.string s]] w (LP w0 b ov nx st w T er):=by
 have hmf:∀(fn:Fn)(first cap:Array Value)(w:World),(Instr.makeFunc fn first cap).run Tryz.prog w= .ok (.func fn first cap) w:=fun _ _ _ _=>rfl
 have hlt:=h.lt
 have HA:=yH (hr.self.alloc (.cells #[yI o,yI n,.string s] 140))
 have HX:=yH (Bk.new w 140 #[yI o,yI n,.string s])
 have HC:=yH (lchange_any 147 (fun _ _=>rfl) w.heap.size #[yI o,yI n,.string s] (fun v=>subR v n) (fun v=>two1 v n (v-n)) (fun v=>two2 v n (v-n)) (sub_ways n) (fun v w' hg=>lless1_any w.heap.size o n s v w' hg) b D ov nx st S T er hm w0 _ (hr.trans HA.out) (h.rel HA.out) HX.out (by omega))
 obtain⟨W,hW⟩:∃W,w.alloc (.cells #[yI o,yI n,.string s] 140)=W:=⟨_,rfl⟩
 rw[hW] at HA HC
 clear hr h HX
 go_enter Tryz.func120,Tryz.ntmps120
 go_wp2_with (go_at_call 146;(with_reducible refine HC.out.mono ?_);rintro e w1 ⟨rfl,h1⟩)
 go_ret
 exact LP.back (Kr.rel HA.out) h1 rfl
theorem lcutop_any(b D:Nat)(ov:Value)(nx st:Int)(S T:List Ce)(er:Int)(o n:Int)(s:ByteArray)(hm:Hid (minusM (takeM (S,0)).2 (takeM (S,0)).1 (fun v=>cutR v n)=(T,er)))(w0 w:World)(hr:Rel w0 w)(h:Mh w w0.heap.size D b ov nx st S):
  Calls Tryz.prog 121 #[.pointer (some ⟨b,0,none⟩),.agg #[yI o,yI n,.string s]] w (LP w0 b ov nx st w T er):=by
 have hmf:∀(fn:Fn)(first cap:Array Value)(w:World),(Instr.makeFunc fn first cap).run Tryz.prog w= .ok (.func fn first cap) w:=fun _ _ _ _=>rfl
 have hlt:=h.lt
 have HA:=yH (hr.self.alloc (.cells #[yI o,yI n,.string s] 140))
 have HX:=yH (Bk.new w 140 #[yI o,yI n,.string s])
 have HC:=yH (lchange_any 149 (fun _ _=>rfl) w.heap.size #[yI o,yI n,.string s] (fun v=>cutR v n) (cutP n) (cutE n) (cut_ways n) (fun v w' hg=>lcut1_any w.heap.size o n s v w' hg) b D ov nx st S T er hm w0 _ (hr.trans HA.out) (h.rel HA.out) HX.out (by omega))
 obtain⟨W,hW⟩:∃W,w.alloc (.cells #[yI o,yI n,.string s] 140)=W:=⟨_,rfl⟩
 rw[hW] at HA HC
 clear hr h HX
 go_enter Tryz.func121,Tryz.ntmps121
 go_wp2_with (go_at_call 146;(with_reducible refine HC.out.mono ?_);rintro e w1 ⟨rfl,h1⟩)
 go_ret
 exact LP.back (Kr.rel HA.out) h1 rfl
theorem ltwo_none(b D:Nat)(ov:Value)(nx st:Int)(w0 w:World)(hr:Rel w0 w)(h:Mh w w0.heap.size D b ov nx st []):
  Calls Tryz.prog 157 #[.pointer (some ⟨b,0,none⟩)] w fun r w'=>r= .returned (.tuple #[.agg #[yI 0,.bool false],.agg #[yI 0,.bool false],yI 100])∧Rel w w':=by
 have hne:w.heap.size≠w.heap.size+1:=by omega
 have hDw:=h.2.2.1
 have hlt:=h.lt
 have hw0:w0.heap.size≤w.heap.size:=hr.size
 have HA:=yH ((hr.self.alloc (.cells #[yI 0,.bool false] 111)).alloc (.cells #[yI 0,.bool false] 111))
 have HK:=yH (((Kt.refl b w).alloc (.cells #[yI 0,.bool false] 111)).alloc (.cells #[yI 0,.bool false] 111))
 have HX2:=yH ((Bk.new w 111 #[yI 0,.bool false]).alloc (.cells #[yI 0,.bool false] 111))
 have HX3:=yH (Bk.snd w #[yI 0,.bool false] #[yI 0,.bool false] 111 111)
 have HM:=yH (h.rel HA.out)
 have HR:=yH (hr.trans HA.out)
 obtain⟨W,hW⟩:∃W,(w.alloc (.cells #[yI 0,.bool false] 111)).alloc (.cells #[yI 0,.bool false] 111)=W:=⟨_,rfl⟩
 rw[hW] at HA HK HX2 HX3 HM HR
 clear hr h
 go_enter Tryz.func157,Tryz.ntmps157
 go_upto_region 4 with (go_at_call 154;(with_reducible refine(ltake_nil b D ov nx st w0 W HR.out HM.out).mono ?_);rintro e w1 ⟨rfl,h1⟩;have R1:=yH (HA.out.trans h1);have Y2:=yH (HX2.out.rel h1);have Y3:=yH (HX3.out.rel h1);obtain⟨⟨c0,c1⟩,c2,c3⟩:=(HX3.out.rel h1).two;obtain⟨⟨d0,d1⟩,d2,d3⟩:=(HX2.out.rel h1).two;clear h1)
 have Z3:=yH (Y3.out.put (yI 0) (.bool false))
 have Z2:=yH ((Y2.out.far (p:=⟨w.heap.size+1,0,none⟩) hne (yI 0)).far (p:=⟨w.heap.size+1,1,none⟩) hne (.bool false))
 have RV:=yH (R1.out.box (g:=w.heap.size+1) (by omega) (yI 0) (.bool false))
 obtain⟨V,hV⟩:∃V,(w1.setCell ⟨w.heap.size+1,0,none⟩ (yI 0)).setCell ⟨w.heap.size+1,1,none⟩ (.bool false)=V:=⟨_,rfl⟩
 rw[hV] at Z3 Z2 RV
 try rw[hV]
 clear hV c0 c1 c2 c3 d0 d1 d2 d3
 obtain⟨⟨v0,v1⟩,v2,v3⟩:=Z2.out.two
 obtain⟨⟨u0,u1⟩,u2,u3⟩:=Z3.out.two
 refine wp_region_held_drew (S:=(fun w'=>Bk w' w.heap.size 111 #[yI 0,.bool false]∧Bk w' (w.heap.size+1) 111 #[yI 0,.bool false])) (by kernel_rfl) ⟨Z2.out,Z3.out⟩ (fun hH=> ?_)
 refine yL [0,1,2] (by kernel_rfl) hH (fun _ _ _ _ _=>id) ?_
 iterate 3
  refine yS rfl rfl (by rfl) ?_ ?_ ?_
  rotate_left
  ·intro w' (h:Bk w' w.heap.size 111 #[yI 0,.bool false]∧Bk w' (w.heap.size+1) 111 #[yI 0,.bool false]);obtain⟨⟨z0,z1⟩,_⟩:=h.1.two;obtain⟨⟨y0,y1⟩,_⟩:=h.2.two;go_simp;try with_reducible rfl
  try simp only[Act.put,yA,yB,yC]
 refine yZ ?_
 obtain⟨⟨z0,z1⟩,z2,z3⟩:=hH.1.two
 obtain⟨⟨y0,y1⟩,y2,y3⟩:=hH.2.two
 refine held_one (j:=3) (by kernel_rfl) rfl (fun K hK=> ?_)
 try simp only[yD,yE,yF]
 rw[if_pos (by rfl)]
 go_simp
 refine hK.out _ _ ⟨hH.1.put _ _,(hH.2.far (p:=⟨w.heap.size,0,none⟩) hne.symm _).far (p:=⟨w.heap.size,1,none⟩) hne.symm _⟩ (fun hH=> ?_)
 clear hK K
 clear z0 z1 z2 z3 y0 y1 y2 y3
 try simp only[Act.put,yA,yB,yC]
 obtain⟨⟨z0,z1⟩,z2,z3⟩:=hH.1.two
 obtain⟨⟨y0,y1⟩,y2,y3⟩:=hH.2.two
 refine held_one (j:=4) (by kernel_rfl) rfl (fun K hK=> ?_)
 try simp only[yD,yE,yF]
 rw[if_pos (by rfl)]
 go_simp
 refine hK.out _ _ ⟨(hH.1.far (p:=⟨(w.heap.size+1),0,none⟩) hne _).far (p:=⟨(w.heap.size+1),1,none⟩) hne _,hH.2.put _ _⟩ (fun hH=> ?_)
 clear hK K
 clear z0 z1 z2 z3 y0 y1 y2 y3
 try simp only[Act.put,yA,yB,yC]
 refine yW 5 4 rfl rfl (by kernel_rfl) (by rfl) hH ?_ (fun _ _ _=>id) ?_ ?_
 rotate_left
 ·intro w' (h:Bk w' w.heap.size 111 #[yI 0,.bool false]∧Bk w' (w.heap.size+1) 111 #[yI 0,.bool false]);obtain⟨⟨z0,z1⟩,_⟩:=h.1.two;obtain⟨⟨y0,y1⟩,_⟩:=h.2.two;go_simp;try with_reducible rfl
 try simp only[Act.put,yA,yB,yC]
 refine wpAnyH_done (by kernel_rfl) ?_ _
 obtain⟨⟨r0,r1⟩,_⟩:=hH.1.two
 obtain⟨⟨s0,s1⟩,_⟩:=hH.2.two
 go_wp2_with (fail)
 exact bodyPost_ret (v:= .tuple #[.agg #[yI 0,.bool false],.agg #[yI 0,.bool false],yI 100]) (by simp[results,Tryz.results157,go_sem,r0,r1,s0,s1]) rfl ⟨rfl,(RV.out.drew.box (Nat.le_refl _) _ _).box (by omega) _ _⟩
theorem ltwo_one(b D:Nat)(ov:Value)(nx st:Int)(y:Ce)(p:Int)(q:Bool)(hv:Hid (CV1 y= .agg #[yI p,.bool q]))(w0 w:World)(hr:Rel w0 w)(h:Mh w w0.heap.size D b ov nx st ([]++[y])):
  Calls Tryz.prog 157 #[.pointer (some ⟨b,0,none⟩)] w fun r w'=>r= .returned (.tuple #[.agg #[yI 0,.bool false],.agg #[yI p,.bool q],yI 100])∧Mh w' w0.heap.size D b ov nx st []∧Rel w0 w'∧Kt b w w':=by
 have hne:w.heap.size≠w.heap.size+1:=by omega
 have hDw:=h.2.2.1
 have hlt:=h.lt
 have hw0:w0.heap.size≤w.heap.size:=hr.size
 have HA:=yH ((hr.self.alloc (.cells #[yI 0,.bool false] 111)).alloc (.cells #[yI 0,.bool false] 111))
 have HK:=yH (((Kt.refl b w).alloc (.cells #[yI 0,.bool false] 111)).alloc (.cells #[yI 0,.bool false] 111))
 have HX2:=yH ((Bk.new w 111 #[yI 0,.bool false]).alloc (.cells #[yI 0,.bool false] 111))
 have HX3:=yH (Bk.snd w #[yI 0,.bool false] #[yI 0,.bool false] 111 111)
 have HM:=yH (h.rel HA.out)
 have HR:=yH (hr.trans HA.out)
 obtain⟨W,hW⟩:∃W,(w.alloc (.cells #[yI 0,.bool false] 111)).alloc (.cells #[yI 0,.bool false] 111)=W:=⟨_,rfl⟩
 rw[hW] at HA HK HX2 HX3 HM HR
 clear hr h
 go_enter Tryz.func157,Tryz.ntmps157
 go_upto_region 4 with (first
  |(go_at_call 154;(with_reducible refine(ltake_as b D ov nx st [] y p q hv w0 W HR.out HM.out).mono ?_);rintro e w1 ⟨rfl,m1,r1,k1⟩;have R1:=yH (r1.box (g:=w.heap.size+1) (by omega) (yI p) (.bool q));have M1:=yH ((m1.far (p:=⟨w.heap.size+1,0,none⟩) (Nat.le_succ_of_le hDw) (yI p)).far (p:=⟨w.heap.size+1,1,none⟩) (Nat.le_succ_of_le hDw) (.bool q));have K1:=yH ((HK.out.trans k1).box (g:=w.heap.size+1) (Nat.le_succ _) (yI p) (.bool q));have Y2:=yH (((k1.bk HX2.out (by omega)).far (p:=⟨w.heap.size+1,0,none⟩) hne (yI p)).far (p:=⟨w.heap.size+1,1,none⟩) hne (.bool q));have Y3:=yH ((k1.bk HX3.out (by omega)).put (yI p) (.bool q));obtain⟨⟨c0,c1⟩,c2,c3⟩:=(k1.bk HX3.out (by omega)).two;clear m1 r1 k1)
  |(go_at_call 154;(with_reducible refine(ltake_nil b D ov nx st w0 _ R1.out M1.out).mono ?_);rintro e w3 ⟨rfl,h3⟩;have R3:=yH (R1.out.trans h3);have M3:=yH (M1.out.rel h3);have K3:=yH (K1.out.trans (Kt.rel h3));have Z2:=yH (Y2.out.rel h3);have Z3:=yH (Y3.out.rel h3);obtain⟨⟨d0,d1⟩,d2,d3⟩:=(Y2.out.rel h3).two;clear h3))
 have Z2:=yH (Z2.out.put (yI 0) (.bool false))
 have Z3:=yH ((Z3.out.far (p:=⟨w.heap.size,0,none⟩) hne.symm (yI 0)).far (p:=⟨w.heap.size,1,none⟩) hne.symm (.bool false))
 have RV:=yH (R3.out.box (g:=w.heap.size) hw0 (yI 0) (.bool false))
 have MV:=yH ((M3.out.far (p:=⟨w.heap.size,0,none⟩) hDw (yI 0)).far (p:=⟨w.heap.size,1,none⟩) hDw (.bool false))
 have KV:=yH (K3.out.box (g:=w.heap.size) (Nat.le_refl _) (yI 0) (.bool false))
 obtain⟨V,hV⟩:∃V,(w3.setCell ⟨w.heap.size,0,none⟩ (yI 0)).setCell ⟨w.heap.size,1,none⟩ (.bool false)=V:=⟨_,rfl⟩
 rw[hV] at Z3 Z2 RV MV KV
 try rw[hV]
 clear hV c0 c1 c2 c3 d0 d1 d2 d3
 obtain⟨⟨v0,v1⟩,v2,v3⟩:=Z2.out.two
 obtain⟨⟨u0,u1⟩,u2,u3⟩:=Z3.out.two
 refine wp_region_held_drew (S:=(fun w'=>Bk w' w.heap.size 111 #[yI 0,.bool false]∧Bk w' (w.heap.size+1) 111 #[yI p,.bool q])) (by kernel_rfl) ⟨Z2.out,Z3.out⟩ (fun hH=> ?_)
 refine yL [0,1,2] (by kernel_rfl) hH (fun _ _ _ _ _=>id) ?_
 iterate 3
  refine yS rfl rfl (by rfl) ?_ ?_ ?_
  rotate_left
  ·intro w' (h:Bk w' w.heap.size 111 #[yI 0,.bool false]∧Bk w' (w.heap.size+1) 111 #[yI p,.bool q]);obtain⟨⟨z0,z1⟩,_⟩:=h.1.two;obtain⟨⟨y0,y1⟩,_⟩:=h.2.two;go_simp;try with_reducible rfl
  try simp only[Act.put,yA,yB,yC]
 refine yZ ?_
 obtain⟨⟨z0,z1⟩,z2,z3⟩:=hH.1.two
 obtain⟨⟨y0,y1⟩,y2,y3⟩:=hH.2.two
 refine held_one (j:=3) (by kernel_rfl) rfl (fun K hK=> ?_)
 try simp only[yD,yE,yF]
 rw[if_pos (by rfl)]
 go_simp
 refine hK.out _ _ ⟨hH.1.put _ _,(hH.2.far (p:=⟨w.heap.size,0,none⟩) hne.symm _).far (p:=⟨w.heap.size,1,none⟩) hne.symm _⟩ (fun hH=> ?_)
 clear hK K
 clear z0 z1 z2 z3 y0 y1 y2 y3
 try simp only[Act.put,yA,yB,yC]
 obtain⟨⟨z0,z1⟩,z2,z3⟩:=hH.1.two
 obtain⟨⟨y0,y1⟩,y2,y3⟩:=hH.2.two
 refine held_one (j:=4) (by kernel_rfl) rfl (fun K hK=> ?_)
 try simp only[yD,yE,yF]
 rw[if_pos (by rfl)]
 go_simp
 refine hK.out _ _ ⟨(hH.1.far (p:=⟨(w.heap.size+1),0,none⟩) hne _).far (p:=⟨(w.heap.size+1),1,none⟩) hne _,hH.2.put _ _⟩ (fun hH=> ?_)
 clear hK K
 clear z0 z1 z2 z3 y0 y1 y2 y3
 try simp only[Act.put,yA,yB,yC]
 refine yW 5 4 rfl rfl (by kernel_rfl) (by rfl) hH ?_ (fun _ _ _=>id) ?_ ?_
 rotate_left
 ·intro w' (h:Bk w' w.heap.size 111 #[yI 0,.bool false]∧Bk w' (w.heap.size+1) 111 #[yI p,.bool q]);obtain⟨⟨z0,z1⟩,_⟩:=h.1.two;obtain⟨⟨y0,y1⟩,_⟩:=h.2.two;go_simp;try with_reducible rfl
 try simp only[Act.put,yA,yB,yC]
 refine wpAnyH_done (by kernel_rfl) ?_ _
 obtain⟨⟨r0,r1⟩,_⟩:=hH.1.two
 obtain⟨⟨s0,s1⟩,_⟩:=hH.2.two
 go_wp2_with (fail)
 exact bodyPost_ret (v:= .tuple #[.agg #[yI 0,.bool false],.agg #[yI p,.bool q],yI 100]) (by simp[results,Tryz.results157,go_sem,r0,r1,s0,s1]) rfl ⟨rfl,((((MV.out.rel (RV.out.self.drew)).far (p:=⟨w.heap.size,0,none⟩) hDw _).far (p:=⟨w.heap.size,1,none⟩) hDw _).far (p:=⟨w.heap.size+1,0,none⟩) (Nat.le_succ_of_le hDw) _).far (p:=⟨w.heap.size+1,1,none⟩) (Nat.le_succ_of_le hDw) _,(RV.out.drew.box (g:=w.heap.size) hw0 _ _).box (g:=w.heap.size+1) (by omega) _ _,((KV.out.drew).box (g:=w.heap.size) (Nat.le_refl _) _ _).box (g:=w.heap.size+1) (Nat.le_succ _) _ _⟩
theorem ltwo_two(b D:Nat)(ov:Value)(nx st:Int)(R:List Ce)(x:Ce)(m:Int)(v:Bool)(hu:Hid (CV1 x= .agg #[yI m,.bool v]))(y:Ce)(p:Int)(q:Bool)(hv:Hid (CV1 y= .agg #[yI p,.bool q]))(w0 w:World)(hr:Rel w0 w)(h:Mh w w0.heap.size D b ov nx st ((R++[x])++[y])):
  Calls Tryz.prog 157 #[.pointer (some ⟨b,0,none⟩)] w fun r w'=>r= .returned (.tuple #[.agg #[yI m,.bool v],.agg #[yI p,.bool q],yI 0])∧Mh w' w0.heap.size D b ov nx st R∧Rel w0 w'∧Kt b w w':=by
 have hne:w.heap.size≠w.heap.size+1:=by omega
 have hDw:=h.2.2.1
 have hlt:=h.lt
 have hw0:w0.heap.size≤w.heap.size:=hr.size
 have HA:=yH ((hr.self.alloc (.cells #[yI 0,.bool false] 111)).alloc (.cells #[yI 0,.bool false] 111))
 have HK:=yH (((Kt.refl b w).alloc (.cells #[yI 0,.bool false] 111)).alloc (.cells #[yI 0,.bool false] 111))
 have HX2:=yH ((Bk.new w 111 #[yI 0,.bool false]).alloc (.cells #[yI 0,.bool false] 111))
 have HX3:=yH (Bk.snd w #[yI 0,.bool false] #[yI 0,.bool false] 111 111)
 have HM:=yH (h.rel HA.out)
 have HR:=yH (hr.trans HA.out)
 obtain⟨W,hW⟩:∃W,(w.alloc (.cells #[yI 0,.bool false] 111)).alloc (.cells #[yI 0,.bool false] 111)=W:=⟨_,rfl⟩
 rw[hW] at HA HK HX2 HX3 HM HR
 clear hr h
 go_enter Tryz.func157,Tryz.ntmps157
 go_upto_region 4 with (first
  |(go_at_call 154;(with_reducible refine(ltake_as b D ov nx st (R++[x]) y p q hv w0 W HR.out HM.out).mono ?_);rintro e w1 ⟨rfl,m1,r1,k1⟩;have R1:=yH (r1.box (g:=w.heap.size+1) (by omega) (yI p) (.bool q));have M1:=yH ((m1.far (p:=⟨w.heap.size+1,0,none⟩) (Nat.le_succ_of_le hDw) (yI p)).far (p:=⟨w.heap.size+1,1,none⟩) (Nat.le_succ_of_le hDw) (.bool q));have K1:=yH ((HK.out.trans k1).box (g:=w.heap.size+1) (Nat.le_succ _) (yI p) (.bool q));have Y2:=yH (((k1.bk HX2.out (by omega)).far (p:=⟨w.heap.size+1,0,none⟩) hne (yI p)).far (p:=⟨w.heap.size+1,1,none⟩) hne (.bool q));have Y3:=yH ((k1.bk HX3.out (by omega)).put (yI p) (.bool q));obtain⟨⟨c0,c1⟩,c2,c3⟩:=(k1.bk HX3.out (by omega)).two;clear m1 r1 k1)
  |(go_at_call 154;(with_reducible refine(ltake_as b D ov nx st R x m v hu w0 _ R1.out M1.out).mono ?_);rintro e w3 ⟨rfl,m3,r3,k3⟩;have R3:=yH r3;have M3:=yH m3;have K3:=yH (K1.out.trans k3);have Z2:=yH (k3.bk Y2.out (by omega));have Z3:=yH (k3.bk Y3.out (by omega));obtain⟨⟨d0,d1⟩,d2,d3⟩:=(k3.bk Y2.out (by omega)).two;clear m3 r3 k3))
 have Z2:=yH (Z2.out.put (yI m) (.bool v))
 have Z3:=yH ((Z3.out.far (p:=⟨w.heap.size,0,none⟩) hne.symm (yI m)).far (p:=⟨w.heap.size,1,none⟩) hne.symm (.bool v))
 have RV:=yH (R3.out.box (g:=w.heap.size) hw0 (yI m) (.bool v))
 have MV:=yH ((M3.out.far (p:=⟨w.heap.size,0,none⟩) hDw (yI m)).far (p:=⟨w.heap.size,1,none⟩) hDw (.bool v))
 have KV:=yH (K3.out.box (g:=w.heap.size) (Nat.le_refl _) (yI m) (.bool v))
 obtain⟨V,hV⟩:∃V,(w3.setCell ⟨w.heap.size,0,none⟩ (yI m)).setCell ⟨w.heap.size,1,none⟩ (.bool v)=V:=⟨_,rfl⟩
 rw[hV] at Z3 Z2 RV MV KV
 try rw[hV]
 clear hV c0 c1 c2 c3 d0 d1 d2 d3
 obtain⟨⟨v0,v1⟩,v2,v3⟩:=Z2.out.two
 obtain⟨⟨u0,u1⟩,u2,u3⟩:=Z3.out.two
 refine wp_region_held_drew (S:=(fun w'=>Bk w' w.heap.size 111 #[yI m,.bool v]∧Bk w' (w.heap.size+1) 111 #[yI p,.bool q])) (by kernel_rfl) ⟨Z2.out,Z3.out⟩ (fun hH=> ?_)
 refine yL [0,1,2] (by kernel_rfl) hH (fun _ _ _ _ _=>id) ?_
 iterate 3
  refine yS rfl rfl (by rfl) ?_ ?_ ?_
  rotate_left
  ·intro w' (h:Bk w' w.heap.size 111 #[yI m,.bool v]∧Bk w' (w.heap.size+1) 111 #[yI p,.bool q]);obtain⟨⟨z0,z1⟩,_⟩:=h.1.two;obtain⟨⟨y0,y1⟩,_⟩:=h.2.two;go_simp;try with_reducible rfl
  try simp only[Act.put,yA,yB,yC]
 refine yZ ?_
 obtain⟨⟨z0,z1⟩,z2,z3⟩:=hH.1.two
 obtain⟨⟨y0,y1⟩,y2,y3⟩:=hH.2.two
 refine held_one (j:=3) (by kernel_rfl) rfl (fun K hK=> ?_)
 try simp only[yD,yE,yF]
 rw[if_pos (by rfl)]
 go_simp
 refine hK.out _ _ ⟨hH.1.put _ _,(hH.2.far (p:=⟨w.heap.size,0,none⟩) hne.symm _).far (p:=⟨w.heap.size,1,none⟩) hne.symm _⟩ (fun hH=> ?_)
 clear hK K
 clear z0 z1 z2 z3 y0 y1 y2 y3
 try simp only[Act.put,yA,yB,yC]
 obtain⟨⟨z0,z1⟩,z2,z3⟩:=hH.1.two
 obtain⟨⟨y0,y1⟩,y2,y3⟩:=hH.2.two
 refine held_one (j:=4) (by kernel_rfl) rfl (fun K hK=> ?_)
 try simp only[yD,yE,yF]
 rw[if_pos (by rfl)]
 go_simp
 refine hK.out _ _ ⟨(hH.1.far (p:=⟨(w.heap.size+1),0,none⟩) hne _).far (p:=⟨(w.heap.size+1),1,none⟩) hne _,hH.2.put _ _⟩ (fun hH=> ?_)
 clear hK K
 clear z0 z1 z2 z3 y0 y1 y2 y3
 try simp only[Act.put,yA,yB,yC]
 refine yW 5 4 rfl rfl (by kernel_rfl) (by rfl) hH ?_ (fun _ _ _=>id) ?_ ?_
 rotate_left
 ·intro w' (h:Bk w' w.heap.size 111 #[yI m,.bool v]∧Bk w' (w.heap.size+1) 111 #[yI p,.bool q]);obtain⟨⟨z0,z1⟩,_⟩:=h.1.two;obtain⟨⟨y0,y1⟩,_⟩:=h.2.two;go_simp;try with_reducible rfl
 try simp only[Act.put,yA,yB,yC]
 refine wpAnyH_done (by kernel_rfl) ?_ _
 obtain⟨⟨r0,r1⟩,_⟩:=hH.1.two
 obtain⟨⟨s0,s1⟩,_⟩:=hH.2.two
 go_wp2_with (fail)
 exact bodyPost_ret (v:= .tuple #[.agg #[yI m,.bool v],.agg #[yI p,.bool q],yI 0]) (by simp[results,Tryz.results157,go_sem,r0,r1,s0,s1]) rfl ⟨rfl,((((MV.out.rel (RV.out.self.drew)).far (p:=⟨w.heap.size,0,none⟩) hDw _).far (p:=⟨w.heap.size,1,none⟩) hDw _).far (p:=⟨w.heap.size+1,0,none⟩) (Nat.le_succ_of_le hDw) _).far (p:=⟨w.heap.size+1,1,none⟩) (Nat.le_succ_of_le hDw) _,(RV.out.drew.box (g:=w.heap.size) hw0 _ _).box (g:=w.heap.size+1) (by omega) _ _,((KV.out.drew).box (g:=w.heap.size) (Nat.le_refl _) _ _).box (g:=w.heap.size+1) (Nat.le_succ _) _ _⟩
theorem two_nil(op:Int):twoM op ([],0)=([],100):=by unfold twoM;rw[take_none];exact put_err (s:=(takeM (([]:List Ce),(100:Int))).2) (by decide) _
theorem two_one(op:Int)(t:Ce):twoM op ([]++[t],0)=([],100):=by unfold twoM;rw[take_last];exact put_err (s:=(takeM (([]:List Ce),(0:Int))).2) (by decide) _
theorem two_two(op:Int)(R:List Ce)(x y:Ce):twoM op ((R++[x])++[y],0)=putM (R,0) (twoC op x y):=by unfold twoM;rw[take_last];simp only;rw[take_last]
theorem lchoose_any(fn:FuncId)(hfn:∀(args:Array Value)(w:World),(callFunc fn args).run Tryz.prog w= .ok (.enter fn args) w)(f:Int→Int→Int)(HF:∀(x y:Int)(w:World),Calls Tryz.prog fn #[yI x,yI y] w fun r w'=>r= .returned (yI (f x y))∧w=w')(op:Int)
  (ho:∀x y:Int,twoC op (some x) (some y)=some (f x y)) (ho':∀x y:Ce,x=none∨y=none→twoC op x y=none) (b D:Nat) (ov:Value) (nx st:Int) (S T:List Ce) (er:Int) (hm:Hid (twoM op (S,0)=(T,er))) (w0 w:World) (hr:Rel w0 w) (h:Mh w w0.heap.size D b ov nx st S):
  Calls Tryz.prog 151 #[.pointer (some ⟨b,0,none⟩),.func (.func fn) #[] #[]] w (LP w0 b ov nx st w T er):=by
 have HR:=yH hr
 clear hr
 rcases stack_ways S with rfl|⟨S1,y,rfl⟩
 ·have HM:=yH h
  have hm:=hm.out
  rw[two_nil] at hm
  injection hm with e1 e2
  subst e1 e2
  clear h
  go_enter Tryz.func151,Tryz.ntmps151
  go_wp2_with (go_at_call 157;(with_reducible refine(ltwo_none b D ov nx st w0 w HR.out HM.out).mono ?_);rintro e w1 ⟨rfl,h1⟩;have R1:=yH h1)
  go_ret
  exact LP.same HR.out HM.out ((R1.out.alloc _).alloc _) rfl (by decide)
 rcases stack_ways S1 with rfl|⟨R,x,rfl⟩
 ·have HM:=yH h
  have hm:=hm.out
  rw[two_one] at hm
  injection hm with e1 e2
  subst e1 e2
  obtain⟨p,q,hpq⟩:=ce_val y
  have HV:=yH hpq
  clear h hpq
  go_enter Tryz.func151,Tryz.ntmps151
  go_wp2_with (go_at_call 157;(with_reducible refine(ltwo_one b D ov nx st y p q HV w0 w HR.out HM.out).mono ?_);rintro e w1 ⟨rfl,m1,r1,k1⟩;have R1:=yH r1;have M1:=yH m1;have K1:=yH k1;clear r1 m1 k1)
  go_ret
  exact⟨rfl,(R1.out.alloc _).alloc _,Kr.trans (Kt.kr K1.out) (Kr.rel ((R1.out.self.alloc _).alloc _)),D,_,M1.out.rel ((R1.out.self.alloc _).alloc _),fun h0=>absurd h0 (by decide)⟩
 have HM:=yH h
 have hm:=hm.out
 rw[two_two] at hm
 clear h
 rcases x with _|x<;>rcases y with _|y
 ·have HP:=yH (show putM (R,0) none=(T,er) by rw[←hm,ho' _ _ (by simp)])
  clear hm ho ho' HF
  go_enter Tryz.func151,Tryz.ntmps151
  go_wp2_with (first
   |(go_at_call 157;(with_reducible refine(ltwo_two b D ov nx st R none 0 false (yH rfl) none 0 false (yH rfl) w0 w HR.out HM.out).mono ?_);rintro e w1 ⟨rfl,m1,r1,k1⟩;have R1:=yH r1;have M1:=yH m1;have K1:=yH k1;clear r1 m1 k1)
   |(go_at_call 155;(with_reducible refine(lput_as b D ov nx st R T er none 0 false (yH rfl) HP w0 _ ((R1.out.alloc _).alloc _) (M1.out.rel ((R1.out.self.alloc _).alloc _))).mono ?_);rintro e w3 ⟨rfl,h3⟩))
  go_ret
  exact LP.back (Kr.trans (Kt.kr K1.out) (Kr.rel ((R1.out.self.alloc _).alloc _))) h3 rfl
 ·have HP:=yH (show putM (R,0) none=(T,er) by rw[←hm,ho' _ _ (by simp)])
  clear hm ho ho' HF
  go_enter Tryz.func151,Tryz.ntmps151
  go_wp2_with (first
   |(go_at_call 157;(with_reducible refine(ltwo_two b D ov nx st R none 0 false (yH rfl) (some y) y true (yH rfl) w0 w HR.out HM.out).mono ?_);rintro e w1 ⟨rfl,m1,r1,k1⟩;have R1:=yH r1;have M1:=yH m1;have K1:=yH k1;clear r1 m1 k1)
   |(go_at_call 155;(with_reducible refine(lput_as b D ov nx st R T er none 0 false (yH rfl) HP w0 _ ((R1.out.alloc _).alloc _) (M1.out.rel ((R1.out.self.alloc _).alloc _))).mono ?_);rintro e w3 ⟨rfl,h3⟩))
  go_ret
  exact LP.back (Kr.trans (Kt.kr K1.out) (Kr.rel ((R1.out.self.alloc _).alloc _))) h3 rfl
 ·have HP:=yH (show putM (R,0) none=(T,er) by rw[←hm,ho' _ _ (by simp)])
  clear hm ho ho' HF
  go_enter Tryz.func151,Tryz.ntmps151
  go_wp2_with (first
   |(go_at_call 157;(with_reducible refine(ltwo_two b D ov nx st R (some x) x true (yH rfl) none 0 false (yH rfl) w0 w HR.out HM.out).mono ?_);rintro e w1 ⟨rfl,m1,r1,k1⟩;have R1:=yH r1;have M1:=yH m1;have K1:=yH k1;clear r1 m1 k1)
   |(go_at_call 155;(with_reducible refine(lput_as b D ov nx st R T er none 0 false (yH rfl) HP w0 _ ((R1.out.alloc _).alloc _) (M1.out.rel ((R1.out.self.alloc _).alloc _))).mono ?_);rintro e w3 ⟨rfl,h3⟩))
  go_ret
  exact LP.back (Kr.trans (Kt.kr K1.out) (Kr.rel ((R1.out.self.alloc _).alloc _))) h3 rfl
 ·have hv:=ho x y
  have HFv:=yH (HF x y)
  generalize f x y=v at*
  have HP:=yH (show putM (R,0) (some v)=(T,er) by rw[←hm,hv])
  clear hm ho ho' HF hv
  go_enter Tryz.func151,Tryz.ntmps151
  go_wp2_with (first
   |(go_at_call 157;(with_reducible refine(ltwo_two b D ov nx st R (some x) x true (yH rfl) (some y) y true (yH rfl) w0 w HR.out HM.out).mono ?_);rintro e w1 ⟨rfl,m1,r1,k1⟩;have R1:=yH r1;have M1:=yH m1;have K1:=yH k1;clear r1 m1 k1)
   |(go_at_call 169;(with_reducible refine(lamount_any v _ _ ((R1.out.alloc _).alloc _)).mono ?_);rintro e w2 ⟨rfl,h2⟩;have R2:=yH (((R1.out.self.alloc _).alloc _).trans h2))
   |(go_at_call 155;(with_reducible refine(lput_as b D ov nx st R T er (some v) v true (yH rfl) HP w0 _ (R1.out.trans R2.out) (M1.out.rel R2.out)).mono ?_);rintro e w3 ⟨rfl,h3⟩)
   |((with_reducible refine(HFv.out _).mono ?_);rintro e w4 ⟨rfl,rfl⟩))
  go_ret
  exact LP.back (Kr.trans (Kt.kr K1.out) (Kr.rel R2.out)) h3 rfl
theorem lmin1_any(x y:Int)(w:World):
  Calls Tryz.prog 152 #[yI x,yI y] w fun r w'=>r= .returned (yI (min x y))∧w=w':=by
 go_enter Tryz.func152,Tryz.ntmps152
 go_wp2_with (fail)
 all_goals
  go_ret
  exact⟨ret_int (by omega),rfl⟩
theorem llesser_any(b D:Nat)(ov:Value)(nx st:Int)(S T:List Ce)(er:Int)(o n:Int)(s:ByteArray)(hm:Hid (twoM 7 (S,0)=(T,er)))(w0 w:World)(hr:Rel w0 w)(h:Mh w w0.heap.size D b ov nx st S):
  Calls Tryz.prog 122 #[.pointer (some ⟨b,0,none⟩),.agg #[yI o,yI n,.string s]] w (LP w0 b ov nx st w T er):=by
 have HA:=yH (hr.self.alloc (.cells #[yI o,yI n,.string s] 140))
 have HC:=yH (lchoose_any 152 (fun _ _=>rfl) min lmin1_any 7 (fun _ _=>rfl) (fun x y h=>by rcases h with rfl|rfl<;>(try cases x)<;>(try cases y)<;>rfl) b D ov nx st S T er hm w0 _ (hr.trans HA.out) (h.rel HA.out))
 obtain⟨W,hW⟩:∃W,w.alloc (.cells #[yI o,yI n,.string s] 140)=W:=⟨_,rfl⟩
 rw[hW] at HA HC
 clear hr h
 go_enter Tryz.func122,Tryz.ntmps122
 go_wp2_with (go_at_call 151;(with_reducible refine HC.out.mono ?_);rintro e w1 ⟨rfl,h1⟩)
 go_ret
 exact LP.back (Kr.rel HA.out) h1 rfl
theorem lmax1_any(x y:Int)(w:World):
  Calls Tryz.prog 153 #[yI x,yI y] w fun r w'=>r= .returned (yI (max x y))∧w=w':=by
 go_enter Tryz.func153,Tryz.ntmps153
 go_wp2_with (fail)
 all_goals
  go_ret
  exact⟨ret_int (by omega),rfl⟩
theorem lgreater_any(b D:Nat)(ov:Value)(nx st:Int)(S T:List Ce)(er:Int)(o n:Int)(s:ByteArray)(hm:Hid (twoM 8 (S,0)=(T,er)))(w0 w:World)(hr:Rel w0 w)(h:Mh w w0.heap.size D b ov nx st S):
  Calls Tryz.prog 123 #[.pointer (some ⟨b,0,none⟩),.agg #[yI o,yI n,.string s]] w (LP w0 b ov nx st w T er):=by
 have HA:=yH (hr.self.alloc (.cells #[yI o,yI n,.string s] 140))
 have HC:=yH (lchoose_any 153 (fun _ _=>rfl) max lmax1_any 8 (fun _ _=>rfl) (fun x y h=>by rcases h with rfl|rfl<;>(try cases x)<;>(try cases y)<;>rfl) b D ov nx st S T er hm w0 _ (hr.trans HA.out) (h.rel HA.out))
 obtain⟨W,hW⟩:∃W,w.alloc (.cells #[yI o,yI n,.string s] 140)=W:=⟨_,rfl⟩
 rw[hW] at HA HC
 clear hr h
 go_enter Tryz.func123,Tryz.ntmps123
 go_wp2_with (go_at_call 151;(with_reducible refine HC.out.mono ?_);rintro e w1 ⟨rfl,h1⟩)
 go_ret
 exact LP.back (Kr.rel HA.out) h1 rfl
theorem LP.first{w0 w W w':World}{b:Nat}{ov:Value}{nx st er:Int}{T:List Ce}{e:Ending}(hr:Rel w W)(h:LP w0 b ov nx st W T er e w'):LP w0 b ov nx st w T er e w':=⟨h.1,h.2.1,Kr.trans (Kr.rel hr) h.2.2.1,h.2.2.2⟩
theorem labove_any(b D:Nat)(ov:Value)(nx st:Int)(S T:List Ce)(er:Int)(o n:Int)(s:ByteArray)(hm:Hid (twoM 11 (S,0)=(T,er)))(w0 w:World)(hr:Rel w0 w)(h:Mh w w0.heap.size D b ov nx st S):
  Calls Tryz.prog 126 #[.pointer (some ⟨b,0,none⟩),.agg #[yI o,yI n,.string s]] w (LP w0 b ov nx st w T er):=by
 have HI:=yH (hr.self.alloc (.cells #[yI o,yI n,.string s] 140))
 have hr:=hr.trans HI.out
 have h:=h.rel HI.out
 obtain⟨W,hW⟩:∃W,w.alloc (.cells #[yI o,yI n,.string s] 140)=W:=⟨_,rfl⟩
 rw[hW] at HI hr h
 have HR:=yH hr
 clear hr
 rcases stack_ways S with rfl|⟨S1,y,rfl⟩
 ·have HM:=yH h
  have hm:=hm.out
  rw[two_nil] at hm
  injection hm with e1 e2
  subst e1 e2
  clear h
  go_enter Tryz.func126,Tryz.ntmps126
  go_wp2_with (go_at_call 157;(with_reducible refine(ltwo_none b D ov nx st w0 W HR.out HM.out).mono ?_);rintro e w1 ⟨rfl,h1⟩;have R1:=yH h1)
  go_ret
  exact LP.first HI.out (LP.same HR.out HM.out ((R1.out.alloc _).alloc _) rfl (by decide))
 rcases stack_ways S1 with rfl|⟨R,x,rfl⟩
 ·have HM:=yH h
  have hm:=hm.out
  rw[two_one] at hm
  injection hm with e1 e2
  subst e1 e2
  obtain⟨p,q,hpq⟩:=ce_val y
  have HV:=yH hpq
  clear h hpq
  go_enter Tryz.func126,Tryz.ntmps126
  go_wp2_with (go_at_call 157;(with_reducible refine(ltwo_one b D ov nx st y p q HV w0 W HR.out HM.out).mono ?_);rintro e w1 ⟨rfl,m1,r1,k1⟩;have R1:=yH r1;have M1:=yH m1;have K1:=yH k1;clear r1 m1 k1)
  go_ret
  exact LP.first HI.out (⟨rfl,(R1.out.alloc _).alloc _,Kr.trans (Kt.kr K1.out) (Kr.rel ((R1.out.self.alloc _).alloc _)),D,_,M1.out.rel ((R1.out.self.alloc _).alloc _),fun h0=>absurd h0 (by decide)⟩)
 have HM:=yH h
 have hm:=hm.out
 rw[two_two] at hm
 clear h
 rcases x with _|x<;>rcases y with _|y
 ·have HP:=yH (show putM (R,0) (some 0)=(T,er) by rw[←hm];first|rfl|(unfold twoC;simp[hxy]))
  clear hm
  go_enter Tryz.func126,Tryz.ntmps126
  go_wp2_with (first
   |(go_at_call 157;(with_reducible refine(ltwo_two b D ov nx st R none 0 false (yH rfl) none 0 false (yH rfl) w0 W HR.out HM.out).mono ?_);rintro e w1 ⟨rfl,m1,r1,k1⟩;have R1:=yH r1;have M1:=yH m1;have K1:=yH k1;clear r1 m1 k1)
   |(go_at_call 156;(with_reducible refine(lso_any false 0 (yH rfl) w0 _ ((R1.out.alloc _).alloc _)).mono ?_);rintro e w2 ⟨rfl,h2⟩;have R2:=yH (((R1.out.self.alloc _).alloc _).trans h2))
   |(go_at_call 155;(with_reducible refine(lput_as b D ov nx st R T er (some 0) 0 true (yH rfl) HP w0 _ (R1.out.trans R2.out) (M1.out.rel R2.out)).mono ?_);rintro e w3 ⟨rfl,h3⟩))
  go_ret
  exact LP.first HI.out (LP.back (Kr.trans (Kt.kr K1.out) (Kr.rel R2.out)) h3 rfl)
 ·have HP:=yH (show putM (R,0) (some 0)=(T,er) by rw[←hm];first|rfl|(unfold twoC;simp[hxy]))
  clear hm
  go_enter Tryz.func126,Tryz.ntmps126
  go_wp2_with (first
   |(go_at_call 157;(with_reducible refine(ltwo_two b D ov nx st R none 0 false (yH rfl) (some y) y true (yH rfl) w0 W HR.out HM.out).mono ?_);rintro e w1 ⟨rfl,m1,r1,k1⟩;have R1:=yH r1;have M1:=yH m1;have K1:=yH k1;clear r1 m1 k1)
   |(go_at_call 156;(with_reducible refine(lso_any false 0 (yH rfl) w0 _ ((R1.out.alloc _).alloc _)).mono ?_);rintro e w2 ⟨rfl,h2⟩;have R2:=yH (((R1.out.self.alloc _).alloc _).trans h2))
   |(go_at_call 155;(with_reducible refine(lput_as b D ov nx st R T er (some 0) 0 true (yH rfl) HP w0 _ (R1.out.trans R2.out) (M1.out.rel R2.out)).mono ?_);rintro e w3 ⟨rfl,h3⟩))
  go_ret
  exact LP.first HI.out (LP.back (Kr.trans (Kt.kr K1.out) (Kr.rel R2.out)) h3 rfl)
 ·have HP:=yH (show putM (R,0) (some 0)=(T,er) by rw[←hm];first|rfl|(unfold twoC;simp[hxy]))
  clear hm
  go_enter Tryz.func126,Tryz.ntmps126
  go_wp2_with (first
   |(go_at_call 157;(with_reducible refine(ltwo_two b D ov nx st R (some x) x true (yH rfl) none 0 false (yH rfl) w0 W HR.out HM.out).mono ?_);rintro e w1 ⟨rfl,m1,r1,k1⟩;have R1:=yH r1;have M1:=yH m1;have K1:=yH k1;clear r1 m1 k1)
   |(go_at_call 156;(with_reducible refine(lso_any false 0 (yH rfl) w0 _ ((R1.out.alloc _).alloc _)).mono ?_);rintro e w2 ⟨rfl,h2⟩;have R2:=yH (((R1.out.self.alloc _).alloc _).trans h2))
   |(go_at_call 155;(with_reducible refine(lput_as b D ov nx st R T er (some 0) 0 true (yH rfl) HP w0 _ (R1.out.trans R2.out) (M1.out.rel R2.out)).mono ?_);rintro e w3 ⟨rfl,h3⟩))
  go_ret
  exact LP.first HI.out (LP.back (Kr.trans (Kt.kr K1.out) (Kr.rel R2.out)) h3 rfl)
 ·by_cases hxy:y<x
  ·have t1:decide (y<x)=true:=decide_eq_true hxy
   have HP:=yH (show putM (R,0) (some 1)=(T,er) by rw[←hm];first|rfl|(unfold twoC;simp[hxy]))
   clear hm hxy
   go_enter Tryz.func126,Tryz.ntmps126
   go_wp2_with (first
    |(go_at_call 157;(with_reducible refine(ltwo_two b D ov nx st R (some x) x true (yH rfl) (some y) y true (yH rfl) w0 W HR.out HM.out).mono ?_);rintro e w1 ⟨rfl,m1,r1,k1⟩;have R1:=yH r1;have M1:=yH m1;have K1:=yH k1;clear r1 m1 k1)
    |(go_at_call 156;(with_reducible refine(lso_any true 1 (yH rfl) w0 _ ((R1.out.alloc _).alloc _)).mono ?_);rintro e w2 ⟨rfl,h2⟩;have R2:=yH (((R1.out.self.alloc _).alloc _).trans h2))
    |(go_at_call 155;(with_reducible refine(lput_as b D ov nx st R T er (some 1) 1 true (yH rfl) HP w0 _ (R1.out.trans R2.out) (M1.out.rel R2.out)).mono ?_);rintro e w3 ⟨rfl,h3⟩))
   go_ret
   exact LP.first HI.out (LP.back (Kr.trans (Kt.kr K1.out) (Kr.rel R2.out)) h3 rfl)
  ·have t1:decide (y<x)=false:=decide_eq_false hxy
   have HP:=yH (show putM (R,0) (some 0)=(T,er) by rw[←hm];first|rfl|(unfold twoC;simp[hxy]))
   clear hm hxy
   go_enter Tryz.func126,Tryz.ntmps126
   go_wp2_with (first
    |(go_at_call 157;(with_reducible refine(ltwo_two b D ov nx st R (some x) x true (yH rfl) (some y) y true (yH rfl) w0 W HR.out HM.out).mono ?_);rintro e w1 ⟨rfl,m1,r1,k1⟩;have R1:=yH r1;have M1:=yH m1;have K1:=yH k1;clear r1 m1 k1)
    |(go_at_call 156;(with_reducible refine(lso_any false 0 (yH rfl) w0 _ ((R1.out.alloc _).alloc _)).mono ?_);rintro e w2 ⟨rfl,h2⟩;have R2:=yH (((R1.out.self.alloc _).alloc _).trans h2))
    |(go_at_call 155;(with_reducible refine(lput_as b D ov nx st R T er (some 0) 0 true (yH rfl) HP w0 _ (R1.out.trans R2.out) (M1.out.rel R2.out)).mono ?_);rintro e w3 ⟨rfl,h3⟩))
   go_ret
   exact LP.first HI.out (LP.back (Kr.trans (Kt.kr K1.out) (Kr.rel R2.out)) h3 rfl)
def OX(w0:World)(b:Nat)(ov:Value)(st:Int)(w:World)(m:Nat×Ms)(e:Ending)(w':World):Prop:=
 e= .returned (yI m.2.2)∧Rel w0 w'∧Kl b w w'∧∃D S nx,Mh w' w0.heap.size D b ov nx st S∧(m.2.2=0→nx=(m.1:Int)∧S=m.2.1)
theorem LP.ox{w0 w w':World}{b i:Nat}{ov:Value}{st er:Int}{T:List Ce}{m:Nat×Ms}{e:Ending}(h:LP w0 b ov ((i+1:Nat):Int) st w T er e w')(hm:m=(i+1,(T,er))):OX w0 b ov st w m e w':=by
 subst hm
 obtain⟨h1,h2,h3,D,S,h4,h5⟩:=h
 exact⟨h1,h2,h3,D,S,_,h4,fun h0=>⟨rfl,h5 h0⟩⟩
theorem lstep_else(os:List Of)(n:Int)(nm:List UInt8)(i:Nat)(s:Ms):stepM os (9,n,nm) i s=match (takeM s).1 with|some v=>(n.toNat,putM (takeM s).2 (some v))|none=>(i+1,(takeM s).2):=rfl
theorem lstep_unless(os:List Of)(n:Int)(nm:List UInt8)(i:Nat)(s:Ms):stepM os (12,n,nm) i s=match (takeM s).1 with|some v=>if v=0 then (n.toNat,(takeM s).2) else (i+1,(takeM s).2)|none=>(n.toNat,(takeM s).2):=rfl
theorem lstep_jump(os:List Of)(n:Int)(nm:List UInt8)(i:Nat)(s:Ms):stepM os (13,n,nm) i s=(n.toNat,s):=rfl
structure Tk (w0 w W w1 V:World) (D b:Nat) (ov:Value) (nx st:Int) (S:List Ce) (p:Int) (q:Bool) (o n:Int) (s:ByteArray):Prop where
 r:Rel w0 V
 m:Mh V w0.heap.size D b ov nx st S
 k:Kl b w V
 x:Bk V w.heap.size 140 #[yI o,yI n,.string s]
 y:Bk V w1.heap.size 111 #[yI p,.bool q]
 ne:w1.heap.size≠b
theorem Tk.of{w0 w W w1:World}{D b:Nat}{ov:Value}{nx st:Int}{S:List Ce}{p:Int}{q:Bool}{o n:Int}{s:ByteArray}(hlt:b<w.heap.size)(hWw:Rel w W)(hx:Bk W w.heap.size 140 #[yI o,yI n,.string s])(m1:Mh w1 w0.heap.size D b ov nx st S)(r1:Rel w0 w1)(k1:Kt b W w1)(V:World)(hV:w1.alloc (.cells #[yI p,.bool q] 111)=V):
  Tk w0 w W w1 V D b ov nx st S p q o n s:=by
 subst hV
 have hb:=m1.lt
 exact⟨r1.alloc _,m1.rel (r1.self.alloc _),Kr.trans (Kr.rel hWw) (Kr.trans (Kt.kr k1) (Kr.rel (r1.self.alloc _))),(k1.bk hx (by omega)).alloc _,Bk.new _ _ _,by omega⟩
theorem ljump_any(b D:Nat)(ov:Value)(st:Int)(S:List Ce)(m:Nat×Ms)(os:List Of)(i:Nat)(o n:Int)(nm:List UInt8)(s:ByteArray)(hn:0≤n)(hm:stepM os (13,n,nm) i (S,0)=m)(w0 w:World)(hr:Rel w0 w)(h:Mh w w0.heap.size D b ov ((i+1:Nat):Int) st S):
  Calls Tryz.prog 128 #[.pointer (some ⟨b,0,none⟩),.agg #[yI o,yI n,.string s]] w (OX w0 b ov st w m):=by
 rw[lstep_jump] at hm
 subst hm
 have hlt:=h.lt
 have HI:=yH (hr.self.alloc (.cells #[yI o,yI n,.string s] 140))
 have HX:=yH (Bk.new w 140 #[yI o,yI n,.string s])
 have HM:=yH (h.rel HI.out)
 have HR:=yH (hr.trans HI.out)
 obtain⟨W,hW⟩:∃W,w.alloc (.cells #[yI o,yI n,.string s] 140)=W:=⟨_,rfl⟩
 rw[hW] at HI HX HM HR
 clear hr h
 obtain⟨⟨x0,x1,x2⟩,_⟩:=three_of HX.out
 obtain⟨A,c,hb⟩:=HM.out.cells
 obtain⟨⟨b0,b1,b2,b3⟩,f0,f1,f2,f3⟩:=hb.four
 clear hb
 go_enter Tryz.func128,Tryz.ntmps128
 go_wp2_with (fail)
 go_ret
 exact⟨rfl,HR.out.setCell (p:=⟨b,1,none⟩) HM.out.1 _,Kr.trans (Kr.rel HI.out) ((Kr.refl _ b W).set (p:=⟨b,1,none⟩) rfl _),D,_,_,HM.out.next n,fun _=>⟨(Int.toNat_of_nonneg hn).symm,rfl⟩⟩
theorem lunless_any(b D:Nat)(ov:Value)(st:Int)(S:List Ce)(m:Nat×Ms)(os:List Of)(i:Nat)(o n:Int)(nm:List UInt8)(s:ByteArray)(hn:0≤n)(hm:stepM os (12,n,nm) i (S,0)=m)(w0 w:World)(hr:Rel w0 w)(h:Mh w w0.heap.size D b ov ((i+1:Nat):Int) st S):
  Calls Tryz.prog 127 #[.pointer (some ⟨b,0,none⟩),.agg #[yI o,yI n,.string s]] w (OX w0 b ov st w m):=by
 rcases stack_ways S with rfl|⟨R,t,rfl⟩
 ·skip
  have hlt:=h.lt
  have HI:=yH (hr.self.alloc (.cells #[yI o,yI n,.string s] 140))
  have HX:=yH (Bk.new w 140 #[yI o,yI n,.string s])
  have HM:=yH (h.rel HI.out)
  have HR:=yH (hr.trans HI.out)
  obtain⟨W,hW⟩:∃W,w.alloc (.cells #[yI o,yI n,.string s] 140)=W:=⟨_,rfl⟩
  rw[hW] at HI HX HM HR
  clear hr h
  rw[lstep_unless,take_none] at hm
  subst hm
  go_enter Tryz.func127,Tryz.ntmps127
  go_wp2_with (go_at_call 154;(with_reducible refine(ltake_nil b D ov _ st w0 W HR.out HM.out).mono ?_);rintro e w1 ⟨rfl,h1⟩;have R1:=yH h1;have M1:=yH (HM.out.rel h1);clear h1)
  go_ret
  exact⟨rfl,(HR.out.trans R1.out).alloc _,Kr.trans (Kr.rel HI.out) (Kr.rel (R1.out.alloc _)),D,_,_,M1.out.rel (R1.out.self.alloc _),fun h0=>absurd (show(100:Int)=0 from h0) (by decide)⟩
 ·rw[lstep_unless,take_last] at hm
  simp only at hm
  have hlt:=h.lt
  have HI:=yH (hr.self.alloc (.cells #[yI o,yI n,.string s] 140))
  have HX:=yH (Bk.new w 140 #[yI o,yI n,.string s])
  have HM:=yH (h.rel HI.out)
  have HR:=yH (hr.trans HI.out)
  obtain⟨W,hW⟩:∃W,w.alloc (.cells #[yI o,yI n,.string s] 140)=W:=⟨_,rfl⟩
  rw[hW] at HI HX HM HR
  clear hr h
  rcases t with _|v
  ·simp only at hm
   subst hm
   go_enter Tryz.func127,Tryz.ntmps127
   go_upto_region 2 with (go_at_call 154;(with_reducible refine(ltake_as b D ov _ st R none 0 false (yH rfl) w0 W HR.out HM.out).mono ?_);rintro e w1 ⟨rfl,m1,r1,k1⟩;have TK:=yH (Tk.of (p:=0) (q:=false) hlt HI.out HX.out m1 r1 k1 _ rfl);clear m1 r1 k1)
   obtain⟨V,hV⟩:∃V,w1.alloc (.cells #[yI 0,.bool false] 111)=V:=⟨_,rfl⟩
   rw[hV] at TK
   try rw[hV]
   clear hV
   have hxV:=TK.out.x
   obtain⟨⟨x0,x1,x2⟩,_⟩:=three_of hxV
   obtain⟨⟨y0,y1⟩,_⟩:=TK.out.y.two
   obtain⟨A,c,hb⟩:=TK.out.m.cells
   obtain⟨⟨b0,b1,b2,b3⟩,f0,f1,f2,f3⟩:=hb.four
   clear hb hxV
   go_wp2_with (fail)
   go_ret
   exact⟨rfl,TK.out.r.setCell (p:=⟨b,1,none⟩) TK.out.m.1 _,Kr.set TK.out.k (p:=⟨b,1,none⟩) rfl _,D,_,_,TK.out.m.next n,fun _=>⟨(Int.toNat_of_nonneg hn).symm,rfl⟩⟩
  ·simp only at hm
   by_cases hv:v=0
   ·rw[if_pos hv] at hm
    subst hm hv
    go_enter Tryz.func127,Tryz.ntmps127
    go_upto_region 2 with (go_at_call 154;(with_reducible refine(ltake_as b D ov _ st R (some 0) 0 true (yH rfl) w0 W HR.out HM.out).mono ?_);rintro e w1 ⟨rfl,m1,r1,k1⟩;have TK:=yH (Tk.of (p:=0) (q:=true) hlt HI.out HX.out m1 r1 k1 _ rfl);clear m1 r1 k1)
    obtain⟨V,hV⟩:∃V,w1.alloc (.cells #[yI 0,.bool true] 111)=V:=⟨_,rfl⟩
    rw[hV] at TK
    try rw[hV]
    clear hV
    have hxV:=TK.out.x
    obtain⟨⟨x0,x1,x2⟩,_⟩:=three_of hxV
    obtain⟨⟨y0,y1⟩,_⟩:=TK.out.y.two
    obtain⟨A,c,hb⟩:=TK.out.m.cells
    obtain⟨⟨b0,b1,b2,b3⟩,f0,f1,f2,f3⟩:=hb.four
    clear hb hxV
    go_wp2_with (fail)
    go_ret
    exact⟨rfl,TK.out.r.setCell (p:=⟨b,1,none⟩) TK.out.m.1 _,Kr.set TK.out.k (p:=⟨b,1,none⟩) rfl _,D,_,_,TK.out.m.next n,fun _=>⟨(Int.toNat_of_nonneg hn).symm,rfl⟩⟩
   ·rw[if_neg hv] at hm
    subst hm
    have hvb:(v==0)=false:=by simpa using hv
    go_enter Tryz.func127,Tryz.ntmps127
    go_upto_region 2 with (go_at_call 154;(with_reducible refine(ltake_as b D ov _ st R (some v) v true (yH rfl) w0 W HR.out HM.out).mono ?_);rintro e w1 ⟨rfl,m1,r1,k1⟩;have TK:=yH (Tk.of (p:=v) (q:=true) hlt HI.out HX.out m1 r1 k1 _ rfl);clear m1 r1 k1)
    obtain⟨V,hV⟩:∃V,w1.alloc (.cells #[yI v,.bool true] 111)=V:=⟨_,rfl⟩
    rw[hV] at TK
    try rw[hV]
    clear hV
    have hxV:=TK.out.x
    obtain⟨⟨x0,x1,x2⟩,_⟩:=three_of hxV
    obtain⟨⟨y0,y1⟩,_⟩:=TK.out.y.two
    obtain⟨A,c,hb⟩:=TK.out.m.cells
    obtain⟨⟨b0,b1,b2,b3⟩,f0,f1,f2,f3⟩:=hb.four
    clear hb hxV
    go_wp2_with (fail)
    go_ret
    exact⟨rfl,TK.out.r,TK.out.k,D,_,_,TK.out.m,fun _=>⟨rfl,rfl⟩⟩
theorem lelse_any(b D:Nat)(ov:Value)(st:Int)(S:List Ce)(m:Nat×Ms)(os:List Of)(i:Nat)(o n:Int)(nm:List UInt8)(s:ByteArray)(hn:0≤n)(hm:stepM os (9,n,nm) i (S,0)=m)(w0 w:World)(hr:Rel w0 w)(h:Mh w w0.heap.size D b ov ((i+1:Nat):Int) st S):
  Calls Tryz.prog 124 #[.pointer (some ⟨b,0,none⟩),.agg #[yI o,yI n,.string s]] w (OX w0 b ov st w m):=by
 rcases stack_ways S with rfl|⟨R,t,rfl⟩
 ·skip
  have hlt:=h.lt
  have HI:=yH (hr.self.alloc (.cells #[yI o,yI n,.string s] 140))
  have HX:=yH (Bk.new w 140 #[yI o,yI n,.string s])
  have HM:=yH (h.rel HI.out)
  have HR:=yH (hr.trans HI.out)
  obtain⟨W,hW⟩:∃W,w.alloc (.cells #[yI o,yI n,.string s] 140)=W:=⟨_,rfl⟩
  rw[hW] at HI HX HM HR
  clear hr h
  rw[lstep_else,take_none] at hm
  subst hm
  go_enter Tryz.func124,Tryz.ntmps124
  go_wp2_with (go_at_call 154;(with_reducible refine(ltake_nil b D ov _ st w0 W HR.out HM.out).mono ?_);rintro e w1 ⟨rfl,h1⟩;have R1:=yH h1;have M1:=yH (HM.out.rel h1);clear h1)
  go_ret
  exact⟨rfl,(HR.out.trans R1.out).alloc _,Kr.trans (Kr.rel HI.out) (Kr.rel (R1.out.alloc _)),D,_,_,M1.out.rel (R1.out.self.alloc _),fun h0=>absurd (show(100:Int)=0 from h0) (by decide)⟩
 ·rw[lstep_else,take_last] at hm
  simp only at hm
  have hlt:=h.lt
  have HI:=yH (hr.self.alloc (.cells #[yI o,yI n,.string s] 140))
  have HX:=yH (Bk.new w 140 #[yI o,yI n,.string s])
  have HM:=yH (h.rel HI.out)
  have HR:=yH (hr.trans HI.out)
  obtain⟨W,hW⟩:∃W,w.alloc (.cells #[yI o,yI n,.string s] 140)=W:=⟨_,rfl⟩
  rw[hW] at HI HX HM HR
  clear hr h
  rcases t with _|v
  ·simp only at hm
   subst hm
   go_enter Tryz.func124,Tryz.ntmps124
   go_wp2_with (go_at_call 154;(with_reducible refine(ltake_as b D ov _ st R none 0 false (yH rfl) w0 W HR.out HM.out).mono ?_);rintro e w1 ⟨rfl,m1,r1,k1⟩;have TK:=yH (Tk.of (p:=0) (q:=false) hlt HI.out HX.out m1 r1 k1 _ rfl);clear m1 r1 k1)
   go_ret
   exact⟨rfl,TK.out.r,TK.out.k,D,_,_,TK.out.m,fun _=>⟨rfl,rfl⟩⟩
  ·simp only at hm
   obtain⟨⟨T,er⟩,hTe⟩:∃Te,putM (R,0) (some v)=Te:=⟨_,rfl⟩
   have HP:=yH hTe
   rw[hTe] at hm
   subst hm
   clear hTe
   go_enter Tryz.func124,Tryz.ntmps124
   go_upto_region 4 with (go_at_call 154;(with_reducible refine(ltake_as b D ov _ st R (some v) v true (yH rfl) w0 W HR.out HM.out).mono ?_);rintro e w1 ⟨rfl,m1,r1,k1⟩;have TK:=yH (Tk.of (p:=v) (q:=true) hlt HI.out HX.out m1 r1 k1 _ rfl);clear m1 r1 k1)
   obtain⟨V,hV⟩:∃V,w1.alloc (.cells #[yI v,.bool true] 111)=V:=⟨_,rfl⟩
   rw[hV] at TK
   try rw[hV]
   clear hV
   have hxV:=TK.out.x
   obtain⟨⟨x0,x1,x2⟩,_⟩:=three_of hxV
   obtain⟨⟨y0,y1⟩,_⟩:=TK.out.y.two
   obtain⟨A,c,hb⟩:=TK.out.m.cells
   obtain⟨⟨b0,b1,b2,b3⟩,f0,f1,f2,f3⟩:=hb.four
   clear hb hxV
   have RU:=yH (TK.out.r.setCell (p:=⟨b,1,none⟩) TK.out.m.1 (yI n))
   have MU:=yH (TK.out.m.next n)
   have KU:=yH (Kr.set TK.out.k (p:=⟨b,1,none⟩) rfl (yI n))
   have YU:=yH (TK.out.y.far (p:=⟨b,1,none⟩) TK.out.ne (yI n))
   go_upto_region 5 with (fail)
   obtain⟨U,hU⟩:∃U,V.setCell ⟨b,1,none⟩ (yI n)=U:=⟨_,rfl⟩
   rw[hU] at RU MU KU YU
   try rw[hU]
   clear hU
   obtain⟨⟨z0,z1⟩,_⟩:=YU.out.two
   go_wp2_with (go_at_call 155;(with_reducible refine(lput_as b D ov n st R T er (some v) v true (yH rfl) HP w0 U RU.out MU.out).mono ?_);rintro e w3 ⟨rfl,r3,k3,D3,S3,m3,e3⟩)
   go_ret
   exact⟨rfl,r3,Kr.trans KU.out k3,D3,S3,n,m3,fun h0=>⟨(Int.toNat_of_nonneg hn).symm,e3 h0⟩⟩
def lopsL(b:Nat):List (Int×Value):=[(13,.func (.func 128) #[.pointer (some ⟨b,0,none⟩)] #[]),(12,.func (.func 127) #[.pointer (some ⟨b,0,none⟩)] #[]),(11,.func (.func 126) #[.pointer (some ⟨b,0,none⟩)] #[]),(10,.func (.func 125) #[.pointer (some ⟨b,0,none⟩)] #[]),(9,.func (.func 124) #[.pointer (some ⟨b,0,none⟩)] #[]),(8,.func (.func 123) #[.pointer (some ⟨b,0,none⟩)] #[]),(7,.func (.func 122) #[.pointer (some ⟨b,0,none⟩)] #[]),(6,.func (.func 121) #[.pointer (some ⟨b,0,none⟩)] #[]),(5,.func (.func 120) #[.pointer (some ⟨b,0,none⟩)] #[]),(4,.func (.func 119) #[.pointer (some ⟨b,0,none⟩)] #[]),(3,.func (.func 118) #[.pointer (some ⟨b,0,none⟩)] #[]),(2,.func (.func 117) #[.pointer (some ⟨b,0,none⟩)] #[]),(1,.func (.func 116) #[.pointer (some ⟨b,0,none⟩)] #[])]
theorem loperations_any(b:Nat)(w0 w:World)(hr:Rel w0 w):
  Calls Tryz.prog 88 #[.pointer (some ⟨b,0,none⟩)] w fun r w'=>∃q,r= .returned (.map (some q))∧w.heap.size≤q∧MapIs w' q (lopsL b)∧Rel w w':=by
 have hmm:= @run_makeMap Tryz.prog
 have hmf:∀(fn:Fn)(first cap:Array Value)(w:World),(Instr.makeFunc fn first cap).run Tryz.prog w= .ok (.func fn first cap) w:=fun _ _ _ _=>rfl
 have m0:=MapIs.made w
 have hw:w.heap.size≤w.heap.size:=Nat.le_refl _
 have r0:=hr.self.alloc (.map #[] 0)
 clear hr
 go_enter Tryz.func88,Tryz.ntmps88
 go_wp2_with (first
  |(refine wp_entry _ rfl _ _ _ 142 rfl 144 Tryz.underlying142 _ _ rfl m0 (show(0:Nat)<maxLen by decide) 1 (.func (.func 116) #[.pointer (some ⟨b,0,none⟩)] #[]) rfl (by decide) rfl ?_;intro w1 m1 g1;have r1:=Rel.grown r0 g1 (fun k hk=>by injection hk with hk;rw[←hk];exact hw);clear m0 g1 r0)
  |(refine wp_entry _ rfl _ _ _ 142 rfl 144 Tryz.underlying142 _ _ rfl m1 (show(1:Nat)<maxLen by decide) 2 (.func (.func 117) #[.pointer (some ⟨b,0,none⟩)] #[]) rfl (by decide) rfl ?_;intro w2 m2 g2;have r2:=Rel.grown r1 g2 (fun k hk=>by injection hk with hk;rw[←hk];exact hw);clear m1 g2 r1)
  |(refine wp_entry _ rfl _ _ _ 142 rfl 144 Tryz.underlying142 _ _ rfl m2 (show(2:Nat)<maxLen by decide) 3 (.func (.func 118) #[.pointer (some ⟨b,0,none⟩)] #[]) rfl (by decide) rfl ?_;intro w3 m3 g3;have r3:=Rel.grown r2 g3 (fun k hk=>by injection hk with hk;rw[←hk];exact hw);clear m2 g3 r2)
  |(refine wp_entry _ rfl _ _ _ 142 rfl 144 Tryz.underlying142 _ _ rfl m3 (show(3:Nat)<maxLen by decide) 4 (.func (.func 119) #[.pointer (some ⟨b,0,none⟩)] #[]) rfl (by decide) rfl ?_;intro w4 m4 g4;have r4:=Rel.grown r3 g4 (fun k hk=>by injection hk with hk;rw[←hk];exact hw);clear m3 g4 r3)
  |(refine wp_entry _ rfl _ _ _ 142 rfl 144 Tryz.underlying142 _ _ rfl m4 (show(4:Nat)<maxLen by decide) 5 (.func (.func 120) #[.pointer (some ⟨b,0,none⟩)] #[]) rfl (by decide) rfl ?_;intro w5 m5 g5;have r5:=Rel.grown r4 g5 (fun k hk=>by injection hk with hk;rw[←hk];exact hw);clear m4 g5 r4)
  |(refine wp_entry _ rfl _ _ _ 142 rfl 144 Tryz.underlying142 _ _ rfl m5 (show(5:Nat)<maxLen by decide) 6 (.func (.func 121) #[.pointer (some ⟨b,0,none⟩)] #[]) rfl (by decide) rfl ?_;intro w6 m6 g6;have r6:=Rel.grown r5 g6 (fun k hk=>by injection hk with hk;rw[←hk];exact hw);clear m5 g6 r5)
  |(refine wp_entry _ rfl _ _ _ 142 rfl 144 Tryz.underlying142 _ _ rfl m6 (show(6:Nat)<maxLen by decide) 7 (.func (.func 122) #[.pointer (some ⟨b,0,none⟩)] #[]) rfl (by decide) rfl ?_;intro w7 m7 g7;have r7:=Rel.grown r6 g7 (fun k hk=>by injection hk with hk;rw[←hk];exact hw);clear m6 g7 r6)
  |(refine wp_entry _ rfl _ _ _ 142 rfl 144 Tryz.underlying142 _ _ rfl m7 (show(7:Nat)<maxLen by decide) 8 (.func (.func 123) #[.pointer (some ⟨b,0,none⟩)] #[]) rfl (by decide) rfl ?_;intro w8 m8 g8;have r8:=Rel.grown r7 g8 (fun k hk=>by injection hk with hk;rw[←hk];exact hw);clear m7 g8 r7)
  |(refine wp_entry _ rfl _ _ _ 142 rfl 144 Tryz.underlying142 _ _ rfl m8 (show(8:Nat)<maxLen by decide) 9 (.func (.func 124) #[.pointer (some ⟨b,0,none⟩)] #[]) rfl (by decide) rfl ?_;intro w9 m9 g9;have r9:=Rel.grown r8 g9 (fun k hk=>by injection hk with hk;rw[←hk];exact hw);clear m8 g9 r8)
  |(refine wp_entry _ rfl _ _ _ 142 rfl 144 Tryz.underlying142 _ _ rfl m9 (show(9:Nat)<maxLen by decide) 10 (.func (.func 125) #[.pointer (some ⟨b,0,none⟩)] #[]) rfl (by decide) rfl ?_;intro w10 m10 g10;have r10:=Rel.grown r9 g10 (fun k hk=>by injection hk with hk;rw[←hk];exact hw);clear m9 g10 r9)
  |(refine wp_entry _ rfl _ _ _ 142 rfl 144 Tryz.underlying142 _ _ rfl m10 (show(10:Nat)<maxLen by decide) 11 (.func (.func 126) #[.pointer (some ⟨b,0,none⟩)] #[]) rfl (by decide) rfl ?_;intro w11 m11 g11;have r11:=Rel.grown r10 g11 (fun k hk=>by injection hk with hk;rw[←hk];exact hw);clear m10 g11 r10)
  |(refine wp_entry _ rfl _ _ _ 142 rfl 144 Tryz.underlying142 _ _ rfl m11 (show(11:Nat)<maxLen by decide) 12 (.func (.func 127) #[.pointer (some ⟨b,0,none⟩)] #[]) rfl (by decide) rfl ?_;intro w12 m12 g12;have r12:=Rel.grown r11 g12 (fun k hk=>by injection hk with hk;rw[←hk];exact hw);clear m11 g12 r11)
  |(refine wp_entry _ rfl _ _ _ 142 rfl 144 Tryz.underlying142 _ _ rfl m12 (show(12:Nat)<maxLen by decide) 13 (.func (.func 128) #[.pointer (some ⟨b,0,none⟩)] #[]) rfl (by decide) rfl ?_;intro w13 m13 g13;have r13:=Rel.grown r12 g13 (fun k hk=>by injection hk with hk;rw[←hk];exact hw);clear m12 g13 r12))
 go_ret
 exact⟨_,rfl,hw,m13,r13⟩
def OpIs(b:Nat)(os:List Of)(A':Option Addr)(c':Nat)(i:Nat)(o n:Int)(nm:List UInt8)(fn:FuncId):Prop:=
 ∀(D:Nat)(st:Int)(S:List Ce)(w0 w:World),Rel w0 w→Mh w w0.heap.size D b (.slice A' os.length c') ((i+1:Nat):Int) st S→OffArg w A' c' os→
  Calls Tryz.prog fn #[.pointer (some ⟨b,0,none⟩),.agg #[yI o,yI n,.string (B nm)]] w (OX w0 b (.slice A' os.length c') st w (stepM os (o,n,nm) i (S,0)))
theorem lops_any(H:EvalOk)(b:Nat)(os:List Of)(hok:offsOk os=true)(A':Option Addr)(c':Nat)(len i:Nat)(o n:Int)(nm:List UInt8)(hin:inOk len i (o,n,nm)=true):
  ∃fn:FuncId,look (lopsL b) o=some (.func (.func fn) #[.pointer (some ⟨b,0,none⟩)] #[])∧(∀(args:Array Value)(w:World),(callFunc fn args).run Tryz.prog w= .ok (.enter fn args) w)∧OpIs b os A' c' i o n nm fn:=by
 have hin0:=hin
 rw[inOk_eq] at hin
 simp only[Bool.and_eq_true,decide_eq_true_eq] at hin
 obtain⟨⟨h1,h2⟩,h3⟩:=hin
 have hn0:0≤n:=by
  have:0≤leastO i o:=by unfold leastO;split<;>omega
  omega
 have ways:o=1∨o=2∨o=3∨o=4∨o=5∨o=6∨o=7∨o=8∨o=9∨o=10∨o=11∨o=12∨o=13:=by omega
 have hx:∀(o:Int),o=1→mostO len o=1000000000000:=by rintro o rfl;rfl
 rcases ways with rfl|rfl|rfl|rfl|rfl|rfl|rfl|rfl|rfl|rfl|rfl|rfl|rfl
 ·exact⟨116,rfl,fun _ _=>rfl,fun D st S w0 w hr h ho=>by
   obtain⟨⟨T,er⟩,hTe⟩:∃Te,putM (S,0) (some n)=Te:=⟨_,rfl⟩
   exact(lpush_any H b D _ _ st S T er os A' c' (yH rfl) hok 1 n (B nm) ⟨hn0,by have:=hx 1 rfl;omega⟩ (yH hTe) w0 w hr h ho).mono fun e w' hh=>LP.ox hh (show(i+1,putM (S,0) (some n))=_ by rw[hTe])⟩
 ·exact⟨117,rfl,fun _ _=>rfl,fun D st S w0 w hr h ho=>by
   obtain⟨⟨T,er⟩,hTe⟩:∃Te,putM (S,0) (rk os 0)=Te:=⟨_,rfl⟩
   exact(llowest_any H b D _ _ st S T er os A' c' (yH rfl) hok 2 n (B nm) (yH hTe) w0 w hr h ho).mono fun e w' hh=>LP.ox hh (show(i+1,putM (S,0) (rk os 0))=_ by rw[hTe])⟩
 ·exact⟨118,rfl,fun _ _=>rfl,fun D st S w0 w hr h ho=>by
   obtain⟨⟨T,er⟩,hTe⟩:∃Te,putM (S,0) (rk os 1)=Te:=⟨_,rfl⟩
   exact(lsecond_any H b D _ _ st S T er os A' c' (yH rfl) hok 3 n (B nm) (yH hTe) w0 w hr h ho).mono fun e w' hh=>LP.ox hh (show(i+1,putM (S,0) (rk os 1))=_ by rw[hTe])⟩
 ·exact⟨119,rfl,fun _ _=>rfl,fun D st S w0 w hr h ho=>by
   obtain⟨⟨T,er⟩,hTe⟩:∃Te,putM (S,0) (fromO os nm)=Te:=⟨_,rfl⟩
   exact(lfrom_any H b D _ _ st S T er os A' c' (yH rfl) hok 4 n (B nm) nm rfl (by simpa using h3) (yH hTe) w0 w hr h ho).mono fun e w' hh=>LP.ox hh (show(i+1,putM (S,0) (fromO os nm))=_ by rw[hTe])⟩
 ·exact⟨120,rfl,fun _ _=>rfl,fun D st S w0 w hr h ho=>by
   obtain⟨⟨T,er⟩,hTe⟩:∃Te,minusM (takeM (S,0)).2 (takeM (S,0)).1 (fun v=>subR v n)=Te:=⟨_,rfl⟩
   exact(lless_any b D _ _ st S T er 5 n (B nm) (yH hTe) w0 w hr h).mono fun e w' hh=>LP.ox hh (show(i+1,minusM (takeM (S,0)).2 (takeM (S,0)).1 (fun v=>subR v n))=_ by rw[hTe])⟩
 ·exact⟨121,rfl,fun _ _=>rfl,fun D st S w0 w hr h ho=>by
   obtain⟨⟨T,er⟩,hTe⟩:∃Te,minusM (takeM (S,0)).2 (takeM (S,0)).1 (fun v=>cutR v n)=Te:=⟨_,rfl⟩
   exact(lcutop_any b D _ _ st S T er 6 n (B nm) (yH hTe) w0 w hr h).mono fun e w' hh=>LP.ox hh (show(i+1,minusM (takeM (S,0)).2 (takeM (S,0)).1 (fun v=>cutR v n))=_ by rw[hTe])⟩
 ·exact⟨122,rfl,fun _ _=>rfl,fun D st S w0 w hr h ho=>by
   obtain⟨⟨T,er⟩,hTe⟩:∃Te,twoM 7 (S,0)=Te:=⟨_,rfl⟩
   exact(llesser_any b D _ _ st S T er 7 n (B nm) (yH hTe) w0 w hr h).mono fun e w' hh=>LP.ox hh (show(i+1,twoM 7 (S,0))=_ by rw[hTe])⟩
 ·exact⟨123,rfl,fun _ _=>rfl,fun D st S w0 w hr h ho=>by
   obtain⟨⟨T,er⟩,hTe⟩:∃Te,twoM 8 (S,0)=Te:=⟨_,rfl⟩
   exact(lgreater_any b D _ _ st S T er 8 n (B nm) (yH hTe) w0 w hr h).mono fun e w' hh=>LP.ox hh (show(i+1,twoM 8 (S,0))=_ by rw[hTe])⟩
 ·exact⟨124,rfl,fun _ _=>rfl,fun D st S w0 w hr h ho=>by
   exact lelse_any b D _ st S _ os i 9 n nm (B nm) hn0 rfl w0 w hr h⟩
 ·exact⟨125,rfl,fun _ _=>rfl,fun D st S w0 w hr h ho=>by
   obtain⟨⟨T,er⟩,hTe⟩:∃Te,putM (S,0) (some (if n<(os.length:Int) then 1 else 0))=Te:=⟨_,rfl⟩
   exact(lmore_any b D _ _ st S T er os A' c' (yH rfl) 10 n (B nm) (yH hTe) w0 w hr h).mono fun e w' hh=>LP.ox hh (show(i+1,putM (S,0) (some (if n<(os.length:Int) then 1 else 0)))=_ by rw[hTe])⟩
 ·exact⟨126,rfl,fun _ _=>rfl,fun D st S w0 w hr h ho=>by
   obtain⟨⟨T,er⟩,hTe⟩:∃Te,twoM 11 (S,0)=Te:=⟨_,rfl⟩
   exact(labove_any b D _ _ st S T er 11 n (B nm) (yH hTe) w0 w hr h).mono fun e w' hh=>LP.ox hh (show(i+1,twoM 11 (S,0))=_ by rw[hTe])⟩
 ·exact⟨127,rfl,fun _ _=>rfl,fun D st S w0 w hr h ho=>by
   exact lunless_any b D _ st S _ os i 12 n nm (B nm) hn0 rfl w0 w hr h⟩
 ·exact⟨128,rfl,fun _ _=>rfl,fun D st S w0 w hr h ho=>by
   exact ljump_any b D _ st S _ os i 13 n nm (B nm) hn0 rfl w0 w hr h⟩
end Go.Proofs.YtfekhbeaphpelaaGreatDoor

namespace Go.Proofs.YtfekhbeaphpelaaGreatDoor
open Go.Lib
def Lies(c:List In)(p:Nat)(s:List In):Prop:=∀i (h:i<s.length),c[p+i]?=some s[i]
theorem Lies.left{c:List In}{p:Nat}{a b:List In}(h:Lies c p (a++b)):Lies c p a:=fun i hi=>by
 rw[h i (by rw[List.length_append];omega),List.getElem_append_left hi]
theorem Lies.right{c:List In}{p:Nat}{a b:List In}(h:Lies c p (a++b)){n:Nat}(hn:a.length=n):Lies c (p+n) b:=fun i hi=>by
 subst hn
 rw[Nat.add_assoc,h (a.length+i) (by rw[List.length_append];omega),List.getElem_append_right (by omega)]
 simp
theorem Lies.head{c:List In}{p:Nat}{x:In}{b:List In}(h:Lies c p (x::b)):c[p]?=some x:=by
 have:=h 0 (by simp)
 simpa using this
theorem Lies.tail{c:List In}{p:Nat}{x:In}{b:List In}(h:Lies c p (x::b)):Lies c (p+1) b:=fun i hi=>by
 have:=h (i+1) (by simpa using hi)
 rw[Nat.add_assoc,Nat.add_comm 1 i,this];rfl
theorem lies_all(c:List In):Lies c 0 c:=fun i hi=>by rw[Nat.zero_add,List.getElem?_eq_getElem hi]
def SegOk(l:List Of)(c:List In)(p q:Nat)(S:List Ce)(v:Ce):Prop:=∀n,∃n',goM l c p (S,0) n=goM l c q (S++[v],0) n'
def SegBad(l:List Of)(c:List In)(p:Nat)(S:List Ce)(e:Int):Prop:=e≠0∧∀n,∃S' n',goM l c p (S,0) n=((S',e),n')
def Seg(l:List Of)(c:List In)(p q:Nat)(S:List Ce)(r:Rs):Prop:=match r with
 | .ok v=>SegOk l c p q S v
 | .error e=>SegBad l c p S e
def bindR(r:Rs)(F:Ce→Rs):Rs:=match r with| .error e=> .error e| .ok v=>F v
theorem bind_ok(v:Ce)(F:Ce→Rs):bindR (.ok v) F=F v:=rfl
section
variable {l:List Of} {c:List In} (hf:Fwd c)
include hf
theorem seg_put{p:Nat}{x:In}{S:List Ce}{v:Ce}(hx:c[p]?=some x)(hS:S.length<100)(h:stepM l x p (S,0)=(p+1,putM (S,0) v)):Seg l c p (p+1) S (.ok v):=fun n=>
 ⟨n+1,by rw[go_step hf hx,h,put_room hS]⟩
theorem seg_one{p q:Nat}{x:In}{S:List Ce}{r:Rs}{F:Ce→Rs}(hS:S.length<100)(h1:Seg l c p q S r)(hx:c[q]?=some x)
  (h:∀v,(∀w,F v= .ok w→stepM l x q (S++[v],0)=(q+1,putM (S,0) w))∧(∀e,F v= .error e→e≠0∧∃S',stepM l x q (S++[v],0)=(q+1,(S',e)))):
  Seg l c p (q+1) S (bindR r F):=by
 cases r with
 |error e=>exact h1
 |ok v=>
  have h1:SegOk l c p q S v:=h1
  obtain⟨ha,hb⟩:=h v
  rw[bind_ok]
  cases hF:F v with
  |ok w=>
   intro n
   obtain⟨n1,e1⟩:=h1 n
   exact⟨n1+1,by rw[e1,go_step hf hx,ha w hF,put_room hS]⟩
  |error e=>
   obtain⟨he,S',hs⟩:=hb e hF
   refine⟨he,fun n=> ?_⟩
   obtain⟨n1,e1⟩:=h1 n
   exact⟨S',n1+1,by rw[e1,go_step hf hx,hs,go_err _ _ _ _ _ he]⟩
theorem seg_two{p q t:Nat}{x:In}{S:List Ce}{r r':Rs}{F:Ce→Ce→Ce}(hS:S.length<99)(h1:Seg l c p q S r)(h2:∀v,r= .ok v→Seg l c q t (S++[v]) r')(hx:c[t]?=some x)
  (h:∀a b,stepM l x t (S++[a]++[b],0)=(t+1,putM (S,0) (F a b))):
  Seg l c p (t+1) S (bindR r fun a=>bindR r' fun b=> .ok (F a b)):=by
 cases r with
 |error e=>exact h1
 |ok a=>
  have h1:SegOk l c p q S a:=h1
  have h2:=h2 a rfl
  cases r' with
  |error e=>
   obtain⟨he,h2⟩:=h2
   refine⟨he,fun n=> ?_⟩
   obtain⟨n1,e1⟩:=h1 n
   obtain⟨S',n2,e2⟩:=h2 n1
   exact⟨S',n2,by rw[e1,e2]⟩
  |ok b=>
   have h2:SegOk l c q t (S++[a]) b:=h2
   intro n
   obtain⟨n1,e1⟩:=h1 n
   obtain⟨n2,e2⟩:=h2 n1
   exact⟨n2+1,by rw[e1,e2,go_step hf hx,h,put_room (by omega)]⟩
end
theorem step_two{l:List Of}{o n:Int}{nm:List UInt8}{t:Nat}{S:List Ce}(ho:o=7∨o=8∨o=11)(a b:Ce):stepM l (o,n,nm) t (S++[a]++[b],0)=(t+1,putM (S,0) (twoC o a b)):=by
 have e:twoM o (S++[a]++[b],0)=putM (S,0) (twoC o a b):=by unfold twoM;rw[take_last];simp only;rw[take_last]
 rcases ho with rfl|rfl|rfl<;>exact congrArg (Prod.mk (t+1)) e
theorem step_less{l:List Of}{n:Int}{nm:List UInt8}{t:Nat}{S:List Ce}(v:Ce):stepM l (5,n,nm) t (S++[v],0)=(t+1,minusM (S,0) v (fun u=>subR u n)):=by
 have e:stepM l (5,n,nm) t (S++[v],0)=(t+1,minusM (takeM (S++[v],0)).2 (takeM (S++[v],0)).1 (fun u=>subR u n)):=rfl
 rw[e,take_last]
theorem step_cut{l:List Of}{n:Int}{nm:List UInt8}{t:Nat}{S:List Ce}(v:Ce):stepM l (6,n,nm) t (S++[v],0)=(t+1,minusM (S,0) v (fun u=>cutR u n)):=by
 have e:stepM l (6,n,nm) t (S++[v],0)=(t+1,minusM (takeM (S++[v],0)).2 (takeM (S++[v],0)).1 (fun u=>cutR u n)):=rfl
 rw[e,take_last]
def mapR(f:Int→Rs)(v:Ce):Rs:=match v with|none=> .ok none|some u=>f u
theorem minus_ways{f:Int→Rs}(hf:∀u e,f u= .error e→e=10)(S:List Ce)(v:Ce):
  (∀w,mapR f v= .ok w→minusM (S,0) v f=putM (S,0) w)∧(∀e,mapR f v= .error e→e≠0∧∃S',minusM (S,0) v f=(S',e)):=by
 cases v with
 |none=>exact⟨fun w h=>(by injection h with h;subst h;rfl),fun e h=>by cases h⟩
 |some u=>exact⟨fun w h=>minus_ok h,fun e h=>⟨by have:=hf u e h;omega,S,minus_bad h⟩⟩
theorem step_else{l:List Of}{n:Int}{nm:List UInt8}{t:Nat}{S:List Ce}(hS:S.length<100)(v:Ce):stepM l (9,n,nm) t (S++[v],0)=(match v with|some u=>(n.toNat,(S++[some u],0))|none=>(t+1,(S,0))):=by
 have e:stepM l (9,n,nm) t (S++[v],0)=(match (takeM (S++[v],0)).1 with|some u=>(n.toNat,putM (takeM (S++[v],0)).2 (some u))|none=>(t+1,(takeM (S++[v],0)).2)):=rfl
 rw[e,take_last]
 cases v with
 |none=>rfl
 |some u=>simp only;rw[put_room hS]
theorem step_unless{l:List Of}{n:Int}{nm:List UInt8}{t:Nat}{S:List Ce}(b:Bool):stepM l (12,n,nm) t (S++[some (if b then 1 else 0)],0)=(if b then t+1 else n.toNat,(S,0)):=by
 have e:stepM l (12,n,nm) t (S++[some (if b then 1 else 0)],0)=(match (takeM (S++[some (if b then 1 else 0)],0)).1 with|some v=>if v=0 then (n.toNat,(takeM (S++[some (if b then 1 else 0)],0)).2) else (t+1,(takeM (S++[some (if b then 1 else 0)],0)).2)|none=>(n.toNat,(takeM (S++[some (if b then 1 else 0)],0)).2)):=rfl
 rw[e,take_last]
 cases b<;>rfl
theorem step_jump{l:List Of}{n:Int}{nm:List UInt8}{t:Nat}(s:Ms):stepM l (13,n,nm) t s=(n.toNat,s):=rfl
def orR(r r':Rs):Rs:=bindR r fun v=>match v with|some u=> .ok (some u)|none=>r'
def boolR(r:Except Int Bool):Rs:=match r with| .error e=> .error e| .ok b=> .ok (some (if b then 1 else 0))
def anyR(l:List Of)(d:Nat)(x:Ex):Rs:=if isCond x.k then boolR (condN l d x) else toldN l d x
theorem anyR_cond{l:List Of}{d:Nat}{x:Ex}(h:isCond x.k=true):anyR l d x=boolR (condN l d x):=by unfold anyR;rw[if_pos h]
theorem anyR_told{l:List Of}{d:Nat}{x:Ex}(h:isCond x.k=false):anyR l d x=toldN l d x:=by unfold anyR;rw[h];rfl
def ifR(r:Except Int Bool)(a b:Rs):Rs:=match r with| .error e=> .error e| .ok true=>a| .ok false=>b
theorem seg_else{l:List Of}{c:List In}(hf:Fwd c){p q t:Nat}{n:Int}{nm:List UInt8}{S:List Ce}{r r':Rs}(hS:S.length<100)(h1:Seg l c p q S r)(hx:c[q]?=some (9,n,nm))(hn:n.toNat=t)(h2:Seg l c (q+1) t S r'):Seg l c p t S (orR r r'):=by
 subst hn
 cases r with
 |error e=>exact h1
 |ok v=>
  have h1:SegOk l c p q S v:=h1
  cases v with
  |some u=>
   intro n0
   obtain⟨n1,e1⟩:=h1 n0
   exact⟨n1+1,by rw[e1,go_step hf hx,step_else hS]⟩
  |none=>
   show Seg l c p n.toNat S r'
   cases r' with
   |error e=>
    obtain⟨he,h2⟩:=h2
    refine⟨he,fun n0=> ?_⟩
    obtain⟨n1,e1⟩:=h1 n0
    obtain⟨S',n2,e2⟩:=h2 (n1+1)
    exact⟨S',n2,by rw[e1,go_step hf hx,step_else hS];exact e2⟩
   |ok w=>
    intro n0
    obtain⟨n1,e1⟩:=h1 n0
    obtain⟨n2,e2⟩:=(h2:SegOk l c (q+1) n.toNat S w) (n1+1)
    exact⟨n2,by rw[e1,go_step hf hx,step_else hS];exact e2⟩
theorem seg_if{l:List Of}{c:List In}(hf:Fwd c){p q u t z:Nat}{n n':Int}{nm nm':List UInt8}{S:List Ce}{rc:Except Int Bool}{ra rb:Rs}(h1:Seg l c p q S (boolR rc))(hx:c[q]?=some (12,n,nm))(hn:n.toNat=u)
  (ha:Seg l c (q+1) t S ra) (hj:c[t]?=some (13,n',nm')) (hn':n'.toNat=z) (hb:Seg l c u z S rb):Seg l c p z S (ifR rc ra rb):=by
 subst hn hn'
 cases rc with
 |error e=>exact h1
 |ok b=>
  have h1:SegOk l c p q S (some (if b then 1 else 0)):=h1
  cases b with
  |false=>
   show Seg l c p n'.toNat S rb
   cases rb with
   |error e=>
    obtain⟨he,h2⟩:=hb
    refine⟨he,fun n0=> ?_⟩
    obtain⟨n1,e1⟩:=h1 n0
    obtain⟨S',n2,e2⟩:=h2 (n1+1)
    exact⟨S',n2,by rw[e1,go_step hf hx,step_unless];exact e2⟩
   |ok w=>
    intro n0
    obtain⟨n1,e1⟩:=h1 n0
    obtain⟨n2,e2⟩:=(hb:SegOk l c n.toNat n'.toNat S w) (n1+1)
    exact⟨n2,by rw[e1,go_step hf hx,step_unless];exact e2⟩
  |true=>
   show Seg l c p n'.toNat S ra
   cases ra with
   |error e=>
    obtain⟨he,h2⟩:=ha
    refine⟨he,fun n0=> ?_⟩
    obtain⟨n1,e1⟩:=h1 n0
    obtain⟨S',n2,e2⟩:=h2 (n1+1)
    exact⟨S',n2,by rw[e1,go_step hf hx,step_unless];exact e2⟩
   |ok w=>
    intro n0
    obtain⟨n1,e1⟩:=h1 n0
    obtain⟨n2,e2⟩:=(ha:SegOk l c (q+1) t S w) (n1+1)
    exact⟨n2+1,by rw[e1,go_step hf hx,step_unless];simp only[if_true];rw[e2,go_step hf hj,step_jump]⟩
theorem list1{xs:List Ex}(h:(1:Int)=(xs.length:Int)):∃y,xs=[y]:=by
 match xs,h with
 |[y],_=>exact⟨y,rfl⟩
 |[],h=>simp at h
 |_::_::_,h=>simp at h;omega
theorem list2{xs:List Ex}(h:(2:Int)=(xs.length:Int)):∃x y,xs=[x,y]:=by
 match xs,h with
 |[x,y],_=>exact⟨x,y,rfl⟩
 |[],h=>simp at h
 |[_],h=>simp at h
 |_::_::_::_,h=>simp at h;omega
theorem list3{xs:List Ex}(h:(3:Int)=(xs.length:Int)):∃z x y,xs=[z,x,y]:=by
 match xs,h with
 |[z,x,y],_=>exact⟨z,x,y,rfl⟩
 |[],h=>simp at h
 |[_],h=>simp at h
 |[_,_],h=>simp at h
 |_::_::_::_::_,h=>simp at h;omega
theorem fine_zero(x:Ex):fine 0 x=false:=by cases x;rfl
theorem seg_code{l:List Of}{c:List In}(hf:Fwd c):∀(d:Nat)(x:Ex),fine d x=true→∀(p:Nat)(S:List Ce),Lies c p (cod x p)→S.length+d≤99→Seg l c p (p+clen x) S (anyR l d x):=by
 intro d
 induction d with
 |zero=>intro x h;rw[fine_zero] at h;cases h
 |succ d ih=>
  intro x h p S hl hS
  cases x with
  |mk k n nm xs=>
   obtain⟨h1,h2,h3,h4,h5⟩:=fine_parts h
   have hk:=kind_list (by omega:0≤argsN k)
   have kid:∀(y:Ex),y∈xs→∀(q:Nat)(T:List Ce),Lies c q (cod y q)→T.length+d≤99→Seg l c q (q+clen y) T (anyR l d y):=fun y hy q T hq hT=>ih y (fine_mem h hy) q T hq hT
   have len:∀(y:Ex),y∈xs→∀q,(cod y q).length=clen y:=fun y hy q=>cod_len d y (fine_mem h hy) q
   have told:∀(i:Nat)(hi:i<xs.length),(k=10→i≠0)→anyR l d xs[i]=toldN l d xs[i]:=fun i hi hn=>anyR_told (by
    rw[(h5 i hi).1]
    by_cases e:k=10
    ·simp[hn e]
    ·simp[e])
   have none0:(0:Int)=(xs.length:Int)→xs=[]:=fun e=>List.length_eq_zero_iff.1 (by omega)
   rcases hk with rfl|rfl|rfl|rfl|rfl|rfl|rfl|rfl|rfl|rfl|rfl|rfl
   ·obtain rfl:=none0 h1
    rw[anyR_told rfl,told_one _ _ _ rfl]
    rw[cod_op (by decide) (by decide),cods_nil,List.nil_append] at hl
    exact seg_put hf hl.head (by omega) rfl
   ·obtain rfl:=none0 h1
    rw[anyR_told rfl,told_two _ _ _ rfl]
    rw[cod_op (by decide) (by decide),cods_nil,List.nil_append] at hl
    exact seg_put hf hl.head (by omega) rfl
   ·obtain rfl:=none0 h1
    rw[anyR_told rfl,told_from _ _ _ rfl]
    rw[cod_op (by decide) (by decide),cods_nil,List.nil_append] at hl
    exact seg_put hf hl.head (by omega) rfl
   ·obtain rfl:=none0 h1
    rw[anyR_told rfl,told_fix _ _ _ rfl]
    rw[cod_op (by decide) (by decide),cods_nil,List.nil_append] at hl
    exact seg_put hf hl.head (by omega) rfl
   ·obtain⟨y,rfl⟩:=list1 h1
    have ty:=told 0 (by simp) (by omega)
    have e:toldN l (d+1) (.mk 5 n nm [y])=bindR (toldN l d y) (mapR fun u=>subR u n):=by
     rw[told_less5]
     cases toldN l d y with
     |error e=>rfl
     |ok v=>cases v<;>rfl
    rw[anyR_told rfl,e,clen_mk,clens_cons,clens_nil,if_neg (by decide)]
    rw[cod_op (by decide) (by decide),cods_cons,cods_nil,List.append_nil] at hl
    have h6:=kid y (by simp) p S hl.left (by omega)
    rw[show anyR l d y=toldN l d y from ty] at h6
    have h7:=seg_one hf (by omega) h6 (hl.right (len y (by simp) p)).head (F:=mapR fun u=>subR u n) (fun v=>by
     obtain⟨ha,hb⟩:=minus_ways (f:=fun u=>subR u n) (fun u e he=>sub_err _ _ _ he) S v
     refine⟨fun w hw=> ?_,fun e he=> ?_⟩
     ·rw[show opK 5=5 from rfl,step_less,ha w hw]
     ·obtain⟨h0,S',hs⟩:=hb e he
      exact⟨h0,S',by rw[show opK 5=5 from rfl,step_less,hs]⟩)
    rw[show p+clen y+1=p+(clen y+0+1) by omega] at h7
    exact h7
   ·obtain⟨y,rfl⟩:=list1 h1
    have ty:=told 0 (by simp) (by omega)
    have e:toldN l (d+1) (.mk 6 n nm [y])=bindR (toldN l d y) (mapR fun u=>cutR u n):=by
     rw[told_cut6]
     cases toldN l d y with
     |error e=>rfl
     |ok v=>cases v<;>rfl
    rw[anyR_told rfl,e,clen_mk,clens_cons,clens_nil,if_neg (by decide)]
    rw[cod_op (by decide) (by decide),cods_cons,cods_nil,List.append_nil] at hl
    have h6:=kid y (by simp) p S hl.left (by omega)
    rw[show anyR l d y=toldN l d y from ty] at h6
    have h7:=seg_one hf (by omega) h6 (hl.right (len y (by simp) p)).head (F:=mapR fun u=>cutR u n) (fun v=>by
     obtain⟨ha,hb⟩:=minus_ways (f:=fun u=>cutR u n) (fun u e he=>cut_err _ _ _ he) S v
     refine⟨fun w hw=> ?_,fun e he=> ?_⟩
     ·rw[show opK 6=6 from rfl,step_cut,ha w hw]
     ·obtain⟨h0,S',hs⟩:=hb e he
      exact⟨h0,S',by rw[show opK 6=6 from rfl,step_cut,hs]⟩)
    rw[show p+clen y+1=p+(clen y+0+1) by omega] at h7
    exact h7
   ·obtain⟨x,y,rfl⟩:=list2 h1
    have tx:=told 0 (by simp) (by omega)
    have ty:=told 1 (by simp) (by omega)
    have e:toldN l (d+1) (.mk 7 n nm [x,y])=bindR (toldN l d x) fun a=>bindR (toldN l d y) fun b=> .ok (twoC 7 a b):=by
     rw[told_both _ _ _ _ _ _ _ (by decide)]
     cases toldN l d x with
     |error e=>rfl
     |ok a=>cases toldN l d y<;>rfl
    rw[anyR_told rfl,e,clen_mk,clens_cons,clens_cons,clens_nil,if_neg (by decide)]
    rw[cod_op (by decide) (by decide),cods_cons,cods_cons,cods_nil,List.append_nil,List.append_assoc] at hl
    have h6:=kid x (by simp) p S hl.left (by omega)
    rw[show anyR l d x=toldN l d x from tx] at h6
    have hl2:=hl.right (len x (by simp) p)
    have h7:=seg_two hf (F:=twoC 7) (r':=toldN l d y) (by omega) h6 (fun v _=>by
     have:=kid y (by simp) (p+clen x) (S++[v]) hl2.left (by simp;omega)
     rwa [show anyR l d y=toldN l d y from ty] at this) (hl2.right (len y (by simp) _)).head (fun a b=>step_two (by decide) a b)
    rw[show p+clen x+clen y+1=p+(clen x+(clen y+0)+1) by omega] at h7
    exact h7
   ·obtain⟨x,y,rfl⟩:=list2 h1
    have tx:=told 0 (by simp) (by omega)
    have ty:=told 1 (by simp) (by omega)
    have e:toldN l (d+1) (.mk 8 n nm [x,y])=bindR (toldN l d x) fun a=>bindR (toldN l d y) fun b=> .ok (twoC 8 a b):=by
     rw[told_both _ _ _ _ _ _ _ (by decide)]
     cases toldN l d x with
     |error e=>rfl
     |ok a=>cases toldN l d y<;>rfl
    rw[anyR_told rfl,e,clen_mk,clens_cons,clens_cons,clens_nil,if_neg (by decide)]
    rw[cod_op (by decide) (by decide),cods_cons,cods_cons,cods_nil,List.append_nil,List.append_assoc] at hl
    have h6:=kid x (by simp) p S hl.left (by omega)
    rw[show anyR l d x=toldN l d x from tx] at h6
    have hl2:=hl.right (len x (by simp) p)
    have h7:=seg_two hf (F:=twoC 8) (r':=toldN l d y) (by omega) h6 (fun v _=>by
     have:=kid y (by simp) (p+clen x) (S++[v]) hl2.left (by simp;omega)
     rwa [show anyR l d y=toldN l d y from ty] at this) (hl2.right (len y (by simp) _)).head (fun a b=>step_two (by decide) a b)
    rw[show p+clen x+clen y+1=p+(clen x+(clen y+0)+1) by omega] at h7
    exact h7
   ·obtain⟨x,y,rfl⟩:=list2 h1
    have tx:=told 0 (by simp) (by omega)
    have ty:=told 1 (by simp) (by omega)
    have e:toldN l (d+1) (.mk 9 n nm [x,y])=orR (toldN l d x) (toldN l d y):=by
     rw[told_else]
     cases toldN l d x with
     |error e=>rfl
     |ok a=>cases a<;>rfl
    rw[anyR_told rfl,e,clen_mk,clens_cons,clens_cons,clens_nil,if_neg (by decide)]
    rw[cod_else,joinE,len x (by simp),len y (by simp)] at hl
    have h6:=kid x (by simp) p S hl.left (by omega)
    rw[show anyR l d x=toldN l d x from tx] at h6
    have hl2:=hl.right (len x (by simp) p)
    have h7:=kid y (by simp) (p+clen x+1) S hl2.tail (by omega)
    rw[show anyR l d y=toldN l d y from ty] at h7
    rw[show p+(clen x+(clen y+0)+1)=p+clen x+1+clen y by omega]
    exact seg_else hf (by omega) h6 hl2.head (by omega) h7
   ·obtain⟨z,x,y,rfl⟩:=list3 h1
    have cz:isCond z.k=true:=(h5 0 (by simp)).1
    have tx:=told 1 (by simp) (by omega)
    have ty:=told 2 (by simp) (by omega)
    have e:toldN l (d+1) (.mk 10 n nm [z,x,y])=ifR (condN l d z) (toldN l d x) (toldN l d y):=by
     rw[told_if]
     cases condN l d z with
     |error e=>rfl
     |ok a=>cases a<;>rfl
    rw[anyR_told rfl,e,clen_mk,clens_cons,clens_cons,clens_cons,clens_nil,if_pos rfl]
    rw[cod_if,joinI,len z (by simp),len x (by simp),len y (by simp)] at hl
    have h6:=kid z (by simp) p S hl.left (by omega)
    rw[anyR_cond cz] at h6
    have hl2:=hl.right (len z (by simp) p)
    have h7:=kid x (by simp) (p+clen z+1) S hl2.tail.left (by omega)
    rw[show anyR l d x=toldN l d x from tx] at h7
    have hl3:=hl2.tail.right (len x (by simp) _)
    have h8:=kid y (by simp) (p+clen z+1+clen x+1) S (by
     have:=hl3.tail
     rwa [show p+clen z+2+clen x=p+clen z+1+clen x+1 by omega] at this) (by omega)
    rw[show anyR l d y=toldN l d y from ty] at h8
    rw[show p+(clen z+(clen x+(clen y+0))+2)=p+clen z+1+clen x+1+clen y by omega]
    exact seg_if hf h6 hl2.head (by omega) h7 hl3.head (by omega) h8
   ·obtain rfl:=none0 h1
    rw[anyR_cond rfl,cond_more]
    rw[cod_op (by decide) (by decide),cods_nil,List.nil_append] at hl
    refine seg_put hf hl.head (by omega) ?_
    show(p+1,putM (S,0) (some (if n<(l.length:Int) then 1 else 0)))=_
    by_cases hn:n<(l.length:Int)<;>simp[hn]
   ·obtain⟨x,y,rfl⟩:=list2 h1
    have tx:=told 0 (by simp) (by omega)
    have ty:=told 1 (by simp) (by omega)
    have cx:isCond x.k=false:=(h5 0 (by simp)).1
    have cy:isCond y.k=false:=(h5 1 (by simp)).1
    have mx:=(told_less l d (d+1) (by omega) x (fine_mem h (y:=x) (by simp))).1 cx
    have my:=(told_less l d (d+1) (by omega) y (fine_mem h (y:=y) (by simp))).1 cy
    have e:boolR (condN l (d+1) (.mk 12 n nm [x,y]))=bindR (toldN l d x) fun a=>bindR (toldN l d y) fun b=> .ok (twoC 11 a b):=by
     rw[cond_above,mx,my]
     cases toldN l d x with
     |error e=>rfl
     |ok a=>
      cases toldN l d y with
      |error e=>rfl
      |ok b=>
       cases a with
       |none=>rfl
       |some a=>
        cases b with
        |none=>rfl
        |some b=>
         show Except.ok (some (if decide (b<a)=true then 1 else 0))=Except.ok (some (if b<a then 1 else 0))
         by_cases hb:b<a<;>simp[hb]
    rw[anyR_cond rfl,e,clen_mk,clens_cons,clens_cons,clens_nil,if_neg (by decide)]
    rw[cod_op (by decide) (by decide),cods_cons,cods_cons,cods_nil,List.append_nil,List.append_assoc] at hl
    have h6:=kid x (by simp) p S hl.left (by omega)
    rw[show anyR l d x=toldN l d x from tx] at h6
    have hl2:=hl.right (len x (by simp) p)
    have h7:=seg_two hf (F:=twoC 11) (r':=toldN l d y) (by omega) h6 (fun v _=>by
     have:=kid y (by simp) (p+clen x) (S++[v]) hl2.left (by simp;omega)
     rwa [show anyR l d y=toldN l d y from ty] at this) (hl2.right (len y (by simp) _)).head (fun a b=>step_two (by decide) a b)
    rw[show p+clen x+clen y+1=p+(clen x+(clen y+0)+1) by omega] at h7
    exact h7
theorem seg_run{l:List Of}{c:List In}{r:Rs}(h:Seg l c 0 c.length [] r):endR (goM l c 0 ([],0) 0).1=r:=by
 cases r with
 |error e=>
  obtain⟨he,h⟩:=h
  obtain⟨S',n',e1⟩:=h 0
  rw[e1];unfold endR;rw[if_neg he]
 |ok v=>
  obtain⟨n',e1⟩:=(h:SegOk l c 0 c.length [] v) 0
  rw[e1,go_end _ _ _ _ _ (Nat.le_refl _)];rfl
theorem rt_fine{x:Ex}(h:rightX x=true):fine 32 x=true∧isCond x.k=false:=by
 unfold rightX at h
 simp only[Bool.and_eq_true,Bool.not_eq_true'] at h
 exact⟨h.1.1.1,h.1.1.2⟩
theorem eval_not{l:List Of}(h:offsOk l=false)(x:Ex):evalS l x= .error 1:=by unfold evalS;rw[h];rfl
theorem run_not{l:List Of}(h:offsOk l=false)(c:List In):runS l c= .error 1∧stepsS l c=0:=by unfold runS stepsS;rw[h];exact⟨rfl,rfl⟩
theorem run_same(l:List Of){x:Ex}(h:rightX x=true):runS l (cod x 0)=evalS l x:=by
 obtain⟨h1,h2⟩:=rt_fine h
 obtain⟨h3,h4,_⟩:=right_code h
 cases ho:offsOk l with
 |false=>rw[eval_not ho,(run_not ho _).1]
 |true=>
  rw[(run_yes ho h3).1,eval_yes ho h,←anyR_told (l:=l) (d:=32) h2]
  apply seg_run
  have:=seg_code (l:=l) (fwd_of h3) 32 x h1 0 [] (lies_all _) (by simp)
  rwa [Nat.zero_add,←h4] at this
end Go.Proofs.YtfekhbeaphpelaaGreatDoor

namespace Go.Proofs.YtfekhbeaphpelaaGreatDoor
open Go.RowKit Go.Lib
def RunOk:Prop:=∀(A A':Option Addr)(c c':Nat)(l:List In)(os:List Of)(w0 w:World),Rel w0 w→InsArg w A c l→OffArg w A' c' os→
  Calls Tryz.prog 46 #[.slice A l.length c,.slice A' os.length c'] w fun r w'=>r= .returned (RV (runS os l))∧Rel w0 w'
end Go.Proofs.YtfekhbeaphpelaaGreatDoor
