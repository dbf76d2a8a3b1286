/- The landed parser. -/

import Derived.Test.YtjhjdiaomnpkmaaGreatDoorZ06
set_option maxRecDepth 100000
set_option maxHeartbeats 8000000
set_option linter.unusedVariables false
set_option linter.unusedSimpArgs false
namespace Go.Proofs.YtjhjdiaomnpkmaaGreatDoor
open Go.RowKit Go.Lib
theorem parg_yes(d:Nat)(E:ExprOk d)(V U:World)(g gx a:Nat)(had:a+d=32)(x:Ex)(ts:List Tok)(hx:x.l.length≤2)(y:Ex)(r:List Tok)(hr:exprT d false ts= .ok (y,r))(w:World)(h:InP V U w g gx a x ts):
  Calls Tryz.prog 90 #[.pointer (some ⟨g,0,none⟩),.pointer (some ⟨gx,0,none⟩)] w (PcPost V U g gx a (stepP (exprT d) .ar x ts)):=by
 obtain⟨i0,hi,hz0,hz1,hz2'⟩:=info_parts ex_info
 have HI:=yH h
 have HR:=yH (show stepP (exprT d) .ar x ts= .ok (x.push y,r) by unfold stepP;rw[hr])
 have HR0:=yH hr
 obtain⟨hs,hg,hU,hG,A,c,es,hX⟩:=h
 have HD:=yH (hs.V.1.self.drew)
 have HDA:=yH (hs.V.1.self.alloc (.cells #[.int .i64 0,.int .i64 0,.string ⟨#[]⟩,.slice none 0 0] 54)).drew
 have HXX:=yH hX
 obtain⟨n,hn⟩:∃n,es.length=n:=⟨_,rfl⟩
 have HLen:=yH hn
 have hn2:n≤2:=by rw[←hn,hX.2.2.1];exact hx
 have hgx:=hX.lt
 have HK:=yH hX.1
 have hbk:=hX.1
 rw[hn] at HK hbk
 obtain⟨⟨c0,c1,c2,c3⟩,f0,f1,f2,f3⟩:=hbk.four
 have HS:=yH hs
 clear hr hs hX hbk hG hn
 go_enter Tryz.func90,Tryz.ntmps90
 go_wp2_with (fail)
 refine wp_region_any (by kernel_rfl) ?_
 change wpAny _ _ _ _ _ _ _ w.drew
 refine yM [0,1,2,4] (by kernel_rfl) (fun _ _ _ _ _=>id) ?_
 iterate 4
  refine yT rfl rfl (by rfl) ?_ ?_ ?_
  rotate_left
  ·intro w';go_simp;try with_reducible rfl
  try simp only[Act.put,yA,yB,yC]
 refine yZ ?_
 refine till_take (i:=3) (v:= ?_) (S:=fun w'=>w'.cell? ⟨gx,3,none⟩=some (.slice A n c)) (some 7) rfl rfl (by kernel_rfl) (by kernel_rfl) (by kernel_rfl) (fun _ _ _ h=>h) (Or.inl ⟨by rfl, ?_⟩) c3 ?_
 rotate_left 1
 ·intro w' hSw;go_simp;try with_reducible rfl
 try simp only[Act.put,yA,yB,yC]
 refine till_move (q:=6) (v:= ?_) (some 10) rfl rfl (by kernel_rfl) (by kernel_rfl) (by kernel_rfl) (by kernel_rfl) (fun _ _ _ h=>h) (Or.inl ⟨by rfl, ?_⟩) ?_
 rotate_left 1
 ·intro w';go_simp;try with_reducible rfl
 try simp only[Act.put,yA,yB,yC]
 refine till_two (j:=5) (k:=7) (by kernel_rfl) rfl rfl (fun K hK=> ?_) (fun K hK=> ?_)
 ·skip
  try simp only[yD,yE,yF]
  rw[if_pos (by rfl)]
  go_simp
  go_at_call 76
  (with_reducible refine(ex_yes E had (HS.out.rel HD.out) HR0.out).mono ?_)
  rintro e w2 ⟨vx,rfl,ex,s2,g2⟩
  have K2:=HK.out.drew.grown g2 (fun e=>by injection e;omega)
  have HM:=yH (mid_one HI.out HXX.out HD.out g2 s2 ex (.cells #[.int .i64 0,.int .i64 0,.string ⟨#[]⟩,.slice none 0 0] 54))
  have HZb:=yH (Bk.new w2 54 #[.int .i64 0,.int .i64 0,.string ⟨#[]⟩,.slice none 0 0])
  refine hK.out _ _ (K2.cell 3) ?_
  clear hK K
  try simp only[Act.put,yA,yB,yC]
  refine till_one (j:=7) (by kernel_rfl) rfl (fun K hK=> ?_)
  try simp only[yD,yE,yF]
  go_simp
  refine hK.out _ _ ((K2.alloc (.cells #[.int .i64 0,.int .i64 0,.string ⟨#[]⟩,.slice none 0 0] 54)).cell 3) ?_
  clear hK K
  try simp only[Act.put,yA,yB,yC]
  rw[HLen.out] at HM
  refine till_late (j:=8) (by kernel_rfl) rfl (by kernel_rfl) (fun K hK=> ?_)
  try simp only[yD,yE,yF]
  rw[if_pos (by rfl)]
  refine wp_append_lies _ _ _ _ rfl (gx+1) 54 i0 _ 4 56 Tryz.underlying52 hi hz0 hz1 hz2' rfl (by decide) (.slice A n c) n (cellsEs es) rfl HM.out.own ⟨w2.heap.size,0,none⟩ 1 1 (cellsE (0,0,[],none,0,0)) rfl rfl (World.news_of_block HZb.out) (cellsE_one _) (by decide) (by unfold maxLen;omega) (by omega) HM.out.base _ (by rfl) ?_
  intro g' cap w3 hown3 hgrow hat hlt3
  have HP:=yH (And.intro hown3 (And.intro hgrow hat))
  obtain⟨⟨y0,y1,y2,y3⟩,v0,v1,v2,v3⟩:=own_last hown3 HLen.out
  have K3:=HM.out.box hgrow
  obtain⟨⟨x0,x1,x2,x3⟩,u0,u1,u2,u3⟩:=K3.four
  have hgg: ¬g'=gx:=HM.out.apart hown3
  have hgg': ¬gx=g':=fun e=>hgg e.symm
  clear hown3 hgrow hat K3
  refine hK.out _ _ ?_
  clear hK K
  try simp only[Act.put,yA,yB,yC]
  refine till_rest (by kernel_rfl) ?_
  refine yM [9,11,12] (by kernel_rfl) (fun _ _ _ _ _=>id) ?_
  refine yT rfl rfl (by rfl) ?_ ?_ ?_
  rotate_left
  ·intro w';go_simp;rw[if_pos (show(n:Int)<(n:Int)+1 by omega)]
  try simp only[Act.put,yA,yB,yC]
  iterate 2
   refine yT rfl rfl (by rfl) ?_ ?_ ?_
   rotate_left
   ·intro w';go_simp;try with_reducible rfl
   try simp only[Act.put,yA,yB,yC]
  refine yZ ?_
  refine any_two (j:=10) (k:=13) (by kernel_rfl) rfl rfl (fun K hK=> ?_) (fun K hK=> ?_)
  ·skip
   try simp only[yD,yE,yF]
   go_simp
   refine hK _ _ ?_
   clear hK K
   try simp only[Act.put,yA,yB,yC]
   refine any_one (j:=13) (by kernel_rfl) rfl (fun K hK=> ?_)
   try simp only[yD,yE,yF]
   go_simp
   refine hK _ _ ?_
   clear hK K
   try simp only[Act.put,yA,yB,yC]
   refine any_done (by kernel_rfl) ?_ _
   go_end0
   refine PcPost.yes HR.out rfl ?_
   have HPu:=(HM.out.pushed HP.out HLen.out).1
   have HPv:=fun W h=>HM.out.push HP.out HLen.out hx W h
   unfold put4 at HPu
   exact HPv _ HPu
  ·skip
   try simp only[yD,yE,yF]
   go_simp
   refine hK _ _ ?_
   clear hK K
   try simp only[Act.put,yA,yB,yC]
   refine any_one (j:=10) (by kernel_rfl) rfl (fun K hK=> ?_)
   try simp only[yD,yE,yF]
   go_simp
   refine hK _ _ ?_
   clear hK K
   try simp only[Act.put,yA,yB,yC]
   refine any_done (by kernel_rfl) ?_ _
   go_end0
   refine PcPost.yes HR.out rfl ?_
   have HPu:=(HM.out.pushed HP.out HLen.out).2
   have HPv:=fun W h=>HM.out.push HP.out HLen.out hx W h
   unfold put4 at HPu
   exact HPv _ HPu
 ·skip
  try simp only[yD,yE,yF]
  go_simp
  refine hK.out _ _ ((HK.out.alloc (.cells #[.int .i64 0,.int .i64 0,.string ⟨#[]⟩,.slice none 0 0] 54)).drew.cell 3) ?_
  clear hK K
  try simp only[Act.put,yA,yB,yC]
  refine till_one (j:=5) (by kernel_rfl) rfl (fun K hK=> ?_)
  try simp only[yD,yE,yF]
  rw[if_pos (by rfl)]
  go_simp
  go_at_call 76
  (with_reducible refine(ex_yes E had (HS.out.rel HDA.out) HR0.out).mono ?_)
  rintro e w2 ⟨vx,rfl,ex,s2,g2⟩
  have K2:=(HK.out.alloc (.cells #[.int .i64 0,.int .i64 0,.string ⟨#[]⟩,.slice none 0 0] 54)).drew.grown g2 (fun e=>by injection e;omega)
  have HM:=yH (mid_two HI.out HXX.out HDA.out g2 s2 ex rfl)
  have HZb:=yH ((Bk.new w 54 #[.int .i64 0,.int .i64 0,.string ⟨#[]⟩,.slice none 0 0]).drew.grown g2 (fun e=>by injection e;have:=HS.out.lt;omega))
  refine hK.out _ _ (K2.cell 3) ?_
  clear hK K
  try simp only[Act.put,yA,yB,yC]
  rw[HLen.out] at HM
  refine till_late (j:=8) (by kernel_rfl) rfl (by kernel_rfl) (fun K hK=> ?_)
  try simp only[yD,yE,yF]
  rw[if_pos (by rfl)]
  refine wp_append_lies _ _ _ _ rfl (gx+1) 54 i0 _ 4 56 Tryz.underlying52 hi hz0 hz1 hz2' rfl (by decide) (.slice A n c) n (cellsEs es) rfl HM.out.own ⟨w.heap.size,0,none⟩ 1 1 (cellsE (0,0,[],none,0,0)) rfl rfl (World.news_of_block HZb.out) (cellsE_one _) (by decide) (by unfold maxLen;omega) (by omega) HM.out.base _ (by rfl) ?_
  intro g' cap w3 hown3 hgrow hat hlt3
  have HP:=yH (And.intro hown3 (And.intro hgrow hat))
  obtain⟨⟨y0,y1,y2,y3⟩,v0,v1,v2,v3⟩:=own_last hown3 HLen.out
  have K3:=HM.out.box hgrow
  obtain⟨⟨x0,x1,x2,x3⟩,u0,u1,u2,u3⟩:=K3.four
  have hgg: ¬g'=gx:=HM.out.apart hown3
  have hgg': ¬gx=g':=fun e=>hgg e.symm
  clear hown3 hgrow hat K3
  refine hK.out _ _ ?_
  clear hK K
  try simp only[Act.put,yA,yB,yC]
  refine till_rest (by kernel_rfl) ?_
  refine yM [9,11,12] (by kernel_rfl) (fun _ _ _ _ _=>id) ?_
  refine yT rfl rfl (by rfl) ?_ ?_ ?_
  rotate_left
  ·intro w';go_simp;rw[if_pos (show(n:Int)<(n:Int)+1 by omega)]
  try simp only[Act.put,yA,yB,yC]
  iterate 2
   refine yT rfl rfl (by rfl) ?_ ?_ ?_
   rotate_left
   ·intro w';go_simp;try with_reducible rfl
   try simp only[Act.put,yA,yB,yC]
  refine yZ ?_
  refine any_two (j:=10) (k:=13) (by kernel_rfl) rfl rfl (fun K hK=> ?_) (fun K hK=> ?_)
  ·skip
   try simp only[yD,yE,yF]
   go_simp
   refine hK _ _ ?_
   clear hK K
   try simp only[Act.put,yA,yB,yC]
   refine any_one (j:=13) (by kernel_rfl) rfl (fun K hK=> ?_)
   try simp only[yD,yE,yF]
   go_simp
   refine hK _ _ ?_
   clear hK K
   try simp only[Act.put,yA,yB,yC]
   refine any_done (by kernel_rfl) ?_ _
   go_end0
   refine PcPost.yes HR.out rfl ?_
   have HPu:=(HM.out.pushed HP.out HLen.out).1
   have HPv:=fun W h=>HM.out.push HP.out HLen.out hx W h
   unfold put4 at HPu
   exact HPv _ HPu
  ·skip
   try simp only[yD,yE,yF]
   go_simp
   refine hK _ _ ?_
   clear hK K
   try simp only[Act.put,yA,yB,yC]
   refine any_one (j:=10) (by kernel_rfl) rfl (fun K hK=> ?_)
   try simp only[yD,yE,yF]
   go_simp
   refine hK _ _ ?_
   clear hK K
   try simp only[Act.put,yA,yB,yC]
   refine any_done (by kernel_rfl) ?_ _
   go_end0
   refine PcPost.yes HR.out rfl ?_
   have HPu:=(HM.out.pushed HP.out HLen.out).2
   have HPv:=fun W h=>HM.out.push HP.out HLen.out hx W h
   unfold put4 at HPu
   exact HPv _ HPu
theorem parg_no(d:Nat)(E:ExprOk d)(V U:World)(g gx a:Nat)(had:a+d=32)(x:Ex)(ts:List Tok)(hx:x.l.length≤2)(e0:Int×Int)(hr:exprT d false ts= .error e0)(w:World)(h:InP V U w g gx a x ts):
  Calls Tryz.prog 90 #[.pointer (some ⟨g,0,none⟩),.pointer (some ⟨gx,0,none⟩)] w (PcPost V U g gx a (stepP (exprT d) .ar x ts)):=by
 obtain⟨i0,hi,hz0,hz1,hz2'⟩:=info_parts ex_info
 have HI:=yH h
 have HR:=yH (show stepP (exprT d) .ar x ts= .error e0 by unfold stepP;rw[hr])
 have HR0:=yH hr
 obtain⟨hs,hg,hU,hG,A,c,es,hX⟩:=h
 have HD:=yH (hs.V.1.self.drew)
 have HDA:=yH (hs.V.1.self.alloc (.cells #[.int .i64 0,.int .i64 0,.string ⟨#[]⟩,.slice none 0 0] 54)).drew
 have HXX:=yH hX
 obtain⟨n,hn⟩:∃n,es.length=n:=⟨_,rfl⟩
 have HLen:=yH hn
 have hn2:n≤2:=by rw[←hn,hX.2.2.1];exact hx
 have hgx:=hX.lt
 have HK:=yH hX.1
 have hbk:=hX.1
 rw[hn] at HK hbk
 obtain⟨⟨c0,c1,c2,c3⟩,f0,f1,f2,f3⟩:=hbk.four
 have HS:=yH hs
 clear hr hs hX hbk hG hn
 go_enter Tryz.func90,Tryz.ntmps90
 go_wp2_with (fail)
 refine wp_region_any (by kernel_rfl) ?_
 change wpAny _ _ _ _ _ _ _ w.drew
 refine yM [0,1,2,4] (by kernel_rfl) (fun _ _ _ _ _=>id) ?_
 iterate 4
  refine yT rfl rfl (by rfl) ?_ ?_ ?_
  rotate_left
  ·intro w';go_simp;try with_reducible rfl
  try simp only[Act.put,yA,yB,yC]
 refine yZ ?_
 refine till_take (i:=3) (v:= ?_) (S:=fun w'=>w'.cell? ⟨gx,3,none⟩=some (.slice A n c)) (some 7) rfl rfl (by kernel_rfl) (by kernel_rfl) (by kernel_rfl) (fun _ _ _ h=>h) (Or.inl ⟨by rfl, ?_⟩) c3 ?_
 rotate_left 1
 ·intro w' hSw;go_simp;try with_reducible rfl
 try simp only[Act.put,yA,yB,yC]
 refine till_move (q:=6) (v:= ?_) (some 10) rfl rfl (by kernel_rfl) (by kernel_rfl) (by kernel_rfl) (by kernel_rfl) (fun _ _ _ h=>h) (Or.inl ⟨by rfl, ?_⟩) ?_
 rotate_left 1
 ·intro w';go_simp;try with_reducible rfl
 try simp only[Act.put,yA,yB,yC]
 refine till_two (j:=5) (k:=7) (by kernel_rfl) rfl rfl (fun K hK=> ?_) (fun K hK=> ?_)
 ·skip
  try simp only[yD,yE,yF]
  rw[if_pos (by rfl)]
  go_simp
  go_at_call 76
  (with_reducible refine(ex_no E had (HS.out.rel HD.out) HR0.out).mono ?_)
  rintro e w2 ⟨rfl,g2⟩
  exact⟨rfl,PcPost.no HR.out rfl (grown_trans HI.out.2.2.2.1 (grown_trans (grown_rel (some g) HD.out) g2))⟩
 ·skip
  try simp only[yD,yE,yF]
  go_simp
  refine hK.out _ _ ((HK.out.alloc (.cells #[.int .i64 0,.int .i64 0,.string ⟨#[]⟩,.slice none 0 0] 54)).drew.cell 3) ?_
  clear hK K
  try simp only[Act.put,yA,yB,yC]
  refine till_one (j:=5) (by kernel_rfl) rfl (fun K hK=> ?_)
  try simp only[yD,yE,yF]
  rw[if_pos (by rfl)]
  go_simp
  go_at_call 76
  (with_reducible refine(ex_no E had (HS.out.rel HDA.out) HR0.out).mono ?_)
  rintro e w2 ⟨rfl,g2⟩
  exact⟨rfl,PcPost.no HR.out rfl (grown_trans HI.out.2.2.2.1 (grown_trans (grown_rel (some g) HDA.out) g2))⟩
theorem pwhen_yes(d:Nat)(E:ExprOk d)(V U:World)(g gx a:Nat)(had:a+d=32)(x:Ex)(ts:List Tok)(hx:x.l.length≤2)(y:Ex)(r:List Tok)(hr:exprT d true ts= .ok (y,r))(w:World)(h:InP V U w g gx a x ts):
  Calls Tryz.prog 93 #[.pointer (some ⟨g,0,none⟩),.pointer (some ⟨gx,0,none⟩)] w (PcPost V U g gx a (stepP (exprT d) .wh x ts)):=by
 obtain⟨i0,hi,hz0,hz1,hz2'⟩:=info_parts ex_info
 have HI:=yH h
 have HR:=yH (show stepP (exprT d) .wh x ts= .ok (x.push y,r) by unfold stepP;rw[hr])
 have HR0:=yH hr
 obtain⟨hs,hg,hU,hG,A,c,es,hX⟩:=h
 have HD:=yH (hs.V.1.self.drew)
 have HDA:=yH (hs.V.1.self.alloc (.cells #[.int .i64 0,.int .i64 0,.string ⟨#[]⟩,.slice none 0 0] 54)).drew
 have HXX:=yH hX
 obtain⟨n,hn⟩:∃n,es.length=n:=⟨_,rfl⟩
 have HLen:=yH hn
 have hn2:n≤2:=by rw[←hn,hX.2.2.1];exact hx
 have hgx:=hX.lt
 have HK:=yH hX.1
 have hbk:=hX.1
 rw[hn] at HK hbk
 obtain⟨⟨c0,c1,c2,c3⟩,f0,f1,f2,f3⟩:=hbk.four
 have HS:=yH hs
 clear hr hs hX hbk hG hn
 go_enter Tryz.func93,Tryz.ntmps93
 go_wp2_with (fail)
 refine wp_region_any (by kernel_rfl) ?_
 change wpAny _ _ _ _ _ _ _ w.drew
 refine yM [0,1,2,4] (by kernel_rfl) (fun _ _ _ _ _=>id) ?_
 iterate 4
  refine yT rfl rfl (by rfl) ?_ ?_ ?_
  rotate_left
  ·intro w';go_simp;try with_reducible rfl
  try simp only[Act.put,yA,yB,yC]
 refine yZ ?_
 refine till_take (i:=3) (v:= ?_) (S:=fun w'=>w'.cell? ⟨gx,3,none⟩=some (.slice A n c)) (some 7) rfl rfl (by kernel_rfl) (by kernel_rfl) (by kernel_rfl) (fun _ _ _ h=>h) (Or.inl ⟨by rfl, ?_⟩) c3 ?_
 rotate_left 1
 ·intro w' hSw;go_simp;try with_reducible rfl
 try simp only[Act.put,yA,yB,yC]
 refine till_move (q:=6) (v:= ?_) (some 10) rfl rfl (by kernel_rfl) (by kernel_rfl) (by kernel_rfl) (by kernel_rfl) (fun _ _ _ h=>h) (Or.inl ⟨by rfl, ?_⟩) ?_
 rotate_left 1
 ·intro w';go_simp;try with_reducible rfl
 try simp only[Act.put,yA,yB,yC]
 refine till_two (j:=5) (k:=7) (by kernel_rfl) rfl rfl (fun K hK=> ?_) (fun K hK=> ?_)
 ·skip
  try simp only[yD,yE,yF]
  rw[if_pos (by rfl)]
  go_simp
  go_at_call 111
  (with_reducible refine(cond_yes E had (HS.out.rel HD.out) HR0.out).mono ?_)
  rintro e w2 ⟨vx,rfl,ex,s2,g2⟩
  have K2:=HK.out.drew.grown g2 (fun e=>by injection e;omega)
  have HM:=yH (mid_one HI.out HXX.out HD.out g2 s2 ex (.cells #[.int .i64 0,.int .i64 0,.string ⟨#[]⟩,.slice none 0 0] 54))
  have HZb:=yH (Bk.new w2 54 #[.int .i64 0,.int .i64 0,.string ⟨#[]⟩,.slice none 0 0])
  refine hK.out _ _ (K2.cell 3) ?_
  clear hK K
  try simp only[Act.put,yA,yB,yC]
  refine till_one (j:=7) (by kernel_rfl) rfl (fun K hK=> ?_)
  try simp only[yD,yE,yF]
  go_simp
  refine hK.out _ _ ((K2.alloc (.cells #[.int .i64 0,.int .i64 0,.string ⟨#[]⟩,.slice none 0 0] 54)).cell 3) ?_
  clear hK K
  try simp only[Act.put,yA,yB,yC]
  rw[HLen.out] at HM
  refine till_late (j:=8) (by kernel_rfl) rfl (by kernel_rfl) (fun K hK=> ?_)
  try simp only[yD,yE,yF]
  rw[if_pos (by rfl)]
  refine wp_append_lies _ _ _ _ rfl (gx+1) 54 i0 _ 4 56 Tryz.underlying52 hi hz0 hz1 hz2' rfl (by decide) (.slice A n c) n (cellsEs es) rfl HM.out.own ⟨w2.heap.size,0,none⟩ 1 1 (cellsE (0,0,[],none,0,0)) rfl rfl (World.news_of_block HZb.out) (cellsE_one _) (by decide) (by unfold maxLen;omega) (by omega) HM.out.base _ (by rfl) ?_
  intro g' cap w3 hown3 hgrow hat hlt3
  have HP:=yH (And.intro hown3 (And.intro hgrow hat))
  obtain⟨⟨y0,y1,y2,y3⟩,v0,v1,v2,v3⟩:=own_last hown3 HLen.out
  have K3:=HM.out.box hgrow
  obtain⟨⟨x0,x1,x2,x3⟩,u0,u1,u2,u3⟩:=K3.four
  have hgg: ¬g'=gx:=HM.out.apart hown3
  have hgg': ¬gx=g':=fun e=>hgg e.symm
  clear hown3 hgrow hat K3
  refine hK.out _ _ ?_
  clear hK K
  try simp only[Act.put,yA,yB,yC]
  refine till_rest (by kernel_rfl) ?_
  refine yM [9,11,12] (by kernel_rfl) (fun _ _ _ _ _=>id) ?_
  refine yT rfl rfl (by rfl) ?_ ?_ ?_
  rotate_left
  ·intro w';go_simp;rw[if_pos (show(n:Int)<(n:Int)+1 by omega)]
  try simp only[Act.put,yA,yB,yC]
  iterate 2
   refine yT rfl rfl (by rfl) ?_ ?_ ?_
   rotate_left
   ·intro w';go_simp;try with_reducible rfl
   try simp only[Act.put,yA,yB,yC]
  refine yZ ?_
  refine any_two (j:=10) (k:=13) (by kernel_rfl) rfl rfl (fun K hK=> ?_) (fun K hK=> ?_)
  ·skip
   try simp only[yD,yE,yF]
   go_simp
   refine hK _ _ ?_
   clear hK K
   try simp only[Act.put,yA,yB,yC]
   refine any_one (j:=13) (by kernel_rfl) rfl (fun K hK=> ?_)
   try simp only[yD,yE,yF]
   go_simp
   refine hK _ _ ?_
   clear hK K
   try simp only[Act.put,yA,yB,yC]
   refine any_done (by kernel_rfl) ?_ _
   go_end0
   refine PcPost.yes HR.out rfl ?_
   have HPu:=(HM.out.pushed HP.out HLen.out).1
   have HPv:=fun W h=>HM.out.push HP.out HLen.out hx W h
   unfold put4 at HPu
   exact HPv _ HPu
  ·skip
   try simp only[yD,yE,yF]
   go_simp
   refine hK _ _ ?_
   clear hK K
   try simp only[Act.put,yA,yB,yC]
   refine any_one (j:=10) (by kernel_rfl) rfl (fun K hK=> ?_)
   try simp only[yD,yE,yF]
   go_simp
   refine hK _ _ ?_
   clear hK K
   try simp only[Act.put,yA,yB,yC]
   refine any_done (by kernel_rfl) ?_ _
   go_end0
   refine PcPost.yes HR.out rfl ?_
   have HPu:=(HM.out.pushed HP.out HLen.out).2
   have HPv:=fun W h=>HM.out.push HP.out HLen.out hx W h
   unfold put4 at HPu
   exact HPv _ HPu
 ·skip
  try simp only[yD,yE,yF]
  go_simp
  refine hK.out _ _ ((HK.out.alloc (.cells #[.int .i64 0,.int .i64 0,.string ⟨#[]⟩,.slice none 0 0] 54)).drew.cell 3) ?_
  clear hK K
  try simp only[Act.put,yA,yB,yC]
  refine till_one (j:=5) (by kernel_rfl) rfl (fun K hK=> ?_)
  try simp only[yD,yE,yF]
  rw[if_pos (by rfl)]
  go_simp
  go_at_call 111
  (with_reducible refine(cond_yes E had (HS.out.rel HDA.out) HR0.out).mono ?_)
  rintro e w2 ⟨vx,rfl,ex,s2,g2⟩
  have K2:=(HK.out.alloc (.cells #[.int .i64 0,.int .i64 0,.string ⟨#[]⟩,.slice none 0 0] 54)).drew.grown g2 (fun e=>by injection e;omega)
  have HM:=yH (mid_two HI.out HXX.out HDA.out g2 s2 ex rfl)
  have HZb:=yH ((Bk.new w 54 #[.int .i64 0,.int .i64 0,.string ⟨#[]⟩,.slice none 0 0]).drew.grown g2 (fun e=>by injection e;have:=HS.out.lt;omega))
  refine hK.out _ _ (K2.cell 3) ?_
  clear hK K
  try simp only[Act.put,yA,yB,yC]
  rw[HLen.out] at HM
  refine till_late (j:=8) (by kernel_rfl) rfl (by kernel_rfl) (fun K hK=> ?_)
  try simp only[yD,yE,yF]
  rw[if_pos (by rfl)]
  refine wp_append_lies _ _ _ _ rfl (gx+1) 54 i0 _ 4 56 Tryz.underlying52 hi hz0 hz1 hz2' rfl (by decide) (.slice A n c) n (cellsEs es) rfl HM.out.own ⟨w.heap.size,0,none⟩ 1 1 (cellsE (0,0,[],none,0,0)) rfl rfl (World.news_of_block HZb.out) (cellsE_one _) (by decide) (by unfold maxLen;omega) (by omega) HM.out.base _ (by rfl) ?_
  intro g' cap w3 hown3 hgrow hat hlt3
  have HP:=yH (And.intro hown3 (And.intro hgrow hat))
  obtain⟨⟨y0,y1,y2,y3⟩,v0,v1,v2,v3⟩:=own_last hown3 HLen.out
  have K3:=HM.out.box hgrow
  obtain⟨⟨x0,x1,x2,x3⟩,u0,u1,u2,u3⟩:=K3.four
  have hgg: ¬g'=gx:=HM.out.apart hown3
  have hgg': ¬gx=g':=fun e=>hgg e.symm
  clear hown3 hgrow hat K3
  refine hK.out _ _ ?_
  clear hK K
  try simp only[Act.put,yA,yB,yC]
  refine till_rest (by kernel_rfl) ?_
  refine yM [9,11,12] (by kernel_rfl) (fun _ _ _ _ _=>id) ?_
  refine yT rfl rfl (by rfl) ?_ ?_ ?_
  rotate_left
  ·intro w';go_simp;rw[if_pos (show(n:Int)<(n:Int)+1 by omega)]
  try simp only[Act.put,yA,yB,yC]
  iterate 2
   refine yT rfl rfl (by rfl) ?_ ?_ ?_
   rotate_left
   ·intro w';go_simp;try with_reducible rfl
   try simp only[Act.put,yA,yB,yC]
  refine yZ ?_
  refine any_two (j:=10) (k:=13) (by kernel_rfl) rfl rfl (fun K hK=> ?_) (fun K hK=> ?_)
  ·skip
   try simp only[yD,yE,yF]
   go_simp
   refine hK _ _ ?_
   clear hK K
   try simp only[Act.put,yA,yB,yC]
   refine any_one (j:=13) (by kernel_rfl) rfl (fun K hK=> ?_)
   try simp only[yD,yE,yF]
   go_simp
   refine hK _ _ ?_
   clear hK K
   try simp only[Act.put,yA,yB,yC]
   refine any_done (by kernel_rfl) ?_ _
   go_end0
   refine PcPost.yes HR.out rfl ?_
   have HPu:=(HM.out.pushed HP.out HLen.out).1
   have HPv:=fun W h=>HM.out.push HP.out HLen.out hx W h
   unfold put4 at HPu
   exact HPv _ HPu
  ·skip
   try simp only[yD,yE,yF]
   go_simp
   refine hK _ _ ?_
   clear hK K
   try simp only[Act.put,yA,yB,yC]
   refine any_one (j:=10) (by kernel_rfl) rfl (fun K hK=> ?_)
   try simp only[yD,yE,yF]
   go_simp
   refine hK _ _ ?_
   clear hK K
   try simp only[Act.put,yA,yB,yC]
   refine any_done (by kernel_rfl) ?_ _
   go_end0
   refine PcPost.yes HR.out rfl ?_
   have HPu:=(HM.out.pushed HP.out HLen.out).2
   have HPv:=fun W h=>HM.out.push HP.out HLen.out hx W h
   unfold put4 at HPu
   exact HPv _ HPu
theorem pwhen_no(d:Nat)(E:ExprOk d)(V U:World)(g gx a:Nat)(had:a+d=32)(x:Ex)(ts:List Tok)(hx:x.l.length≤2)(e0:Int×Int)(hr:exprT d true ts= .error e0)(w:World)(h:InP V U w g gx a x ts):
  Calls Tryz.prog 93 #[.pointer (some ⟨g,0,none⟩),.pointer (some ⟨gx,0,none⟩)] w (PcPost V U g gx a (stepP (exprT d) .wh x ts)):=by
 obtain⟨i0,hi,hz0,hz1,hz2'⟩:=info_parts ex_info
 have HI:=yH h
 have HR:=yH (show stepP (exprT d) .wh x ts= .error e0 by unfold stepP;rw[hr])
 have HR0:=yH hr
 obtain⟨hs,hg,hU,hG,A,c,es,hX⟩:=h
 have HD:=yH (hs.V.1.self.drew)
 have HDA:=yH (hs.V.1.self.alloc (.cells #[.int .i64 0,.int .i64 0,.string ⟨#[]⟩,.slice none 0 0] 54)).drew
 have HXX:=yH hX
 obtain⟨n,hn⟩:∃n,es.length=n:=⟨_,rfl⟩
 have HLen:=yH hn
 have hn2:n≤2:=by rw[←hn,hX.2.2.1];exact hx
 have hgx:=hX.lt
 have HK:=yH hX.1
 have hbk:=hX.1
 rw[hn] at HK hbk
 obtain⟨⟨c0,c1,c2,c3⟩,f0,f1,f2,f3⟩:=hbk.four
 have HS:=yH hs
 clear hr hs hX hbk hG hn
 go_enter Tryz.func93,Tryz.ntmps93
 go_wp2_with (fail)
 refine wp_region_any (by kernel_rfl) ?_
 change wpAny _ _ _ _ _ _ _ w.drew
 refine yM [0,1,2,4] (by kernel_rfl) (fun _ _ _ _ _=>id) ?_
 iterate 4
  refine yT rfl rfl (by rfl) ?_ ?_ ?_
  rotate_left
  ·intro w';go_simp;try with_reducible rfl
  try simp only[Act.put,yA,yB,yC]
 refine yZ ?_
 refine till_take (i:=3) (v:= ?_) (S:=fun w'=>w'.cell? ⟨gx,3,none⟩=some (.slice A n c)) (some 7) rfl rfl (by kernel_rfl) (by kernel_rfl) (by kernel_rfl) (fun _ _ _ h=>h) (Or.inl ⟨by rfl, ?_⟩) c3 ?_
 rotate_left 1
 ·intro w' hSw;go_simp;try with_reducible rfl
 try simp only[Act.put,yA,yB,yC]
 refine till_move (q:=6) (v:= ?_) (some 10) rfl rfl (by kernel_rfl) (by kernel_rfl) (by kernel_rfl) (by kernel_rfl) (fun _ _ _ h=>h) (Or.inl ⟨by rfl, ?_⟩) ?_
 rotate_left 1
 ·intro w';go_simp;try with_reducible rfl
 try simp only[Act.put,yA,yB,yC]
 refine till_two (j:=5) (k:=7) (by kernel_rfl) rfl rfl (fun K hK=> ?_) (fun K hK=> ?_)
 ·skip
  try simp only[yD,yE,yF]
  rw[if_pos (by rfl)]
  go_simp
  go_at_call 111
  (with_reducible refine(cond_no E had (HS.out.rel HD.out) HR0.out).mono ?_)
  rintro e w2 ⟨rfl,g2⟩
  exact⟨rfl,PcPost.no HR.out rfl (grown_trans HI.out.2.2.2.1 (grown_trans (grown_rel (some g) HD.out) g2))⟩
 ·skip
  try simp only[yD,yE,yF]
  go_simp
  refine hK.out _ _ ((HK.out.alloc (.cells #[.int .i64 0,.int .i64 0,.string ⟨#[]⟩,.slice none 0 0] 54)).drew.cell 3) ?_
  clear hK K
  try simp only[Act.put,yA,yB,yC]
  refine till_one (j:=5) (by kernel_rfl) rfl (fun K hK=> ?_)
  try simp only[yD,yE,yF]
  rw[if_pos (by rfl)]
  go_simp
  go_at_call 111
  (with_reducible refine(cond_no E had (HS.out.rel HDA.out) HR0.out).mono ?_)
  rintro e w2 ⟨rfl,g2⟩
  exact⟨rfl,PcPost.no HR.out rfl (grown_trans HI.out.2.2.2.1 (grown_trans (grown_rel (some g) HDA.out) g2))⟩
def fnOf:Pc→FuncId
 | .ar=>90
 | .wh=>93
 | .na=>89
 | .am=>91
 | .pa=>92
 | .co=>124
def pvOf(g:Nat)(p:Pc):Value:= .func (.func (fnOf p)) #[.pointer (some ⟨g,0,none⟩)] #[]
theorem piece_any(d:Nat)(E:ExprOk d)(V U:World)(g gx a:Nat)(had:a+d=32)(p:Pc)(x:Ex)(ts:List Tok)(hx:x.l.length≤2)(w:World)(h:InP V U w g gx a x ts):
  Calls Tryz.prog (fnOf p) #[.pointer (some ⟨g,0,none⟩),.pointer (some ⟨gx,0,none⟩)] w (PcPost V U g gx a (stepP (exprT d) p x ts)):=by
 cases p with
 |ar=>
  cases hr:exprT d false ts with
  |error e0=>exact parg_no d E V U g gx a had x ts hx e0 hr w h
  |ok q=>obtain⟨y,r⟩:=q;exact parg_yes d E V U g gx a had x ts hx y r hr w h
 |wh=>
  cases hr:exprT d true ts with
  |error e0=>exact pwhen_no d E V U g gx a had x ts hx e0 hr w h
  |ok q=>obtain⟨y,r⟩:=q;exact pwhen_yes d E V U g gx a had x ts hx y r hr w h
 |na=>exact pname_any V U g gx a x ts (exprT d) w h
 |am=>exact pamount_any V U g gx a x ts (exprT d) w h
 |pa=>exact ppart_any V U g gx a x ts (exprT d) w h
 |co=>exact pcount_any V U g gx a x ts (exprT d) w h
theorem piece_yes{d:Nat}(E:ExprOk d){V U:World}{g gx a:Nat}(had:a+d=32)(p:Pc){x y:Ex}{ts r:List Tok}(hx:x.l.length≤2)(hr:stepP (exprT d) p x ts= .ok (y,r)){w:World}(h:InP V U w g gx a x ts):
  Calls Tryz.prog (fnOf p) #[.pointer (some ⟨g,0,none⟩),.pointer (some ⟨gx,0,none⟩)] w fun e w'=>e= .returned (.tuple #[])∧InP V U w' g gx a y r:=by
 have:=piece_any d E V U g gx a had p x ts hx w h
 rw[hr] at this
 exact this
theorem piece_no{d:Nat}(E:ExprOk d){V U:World}{g gx a:Nat}(had:a+d=32)(p:Pc){x:Ex}{ts:List Tok}(hx:x.l.length≤2){e0:Int×Int}(hr:stepP (exprT d) p x ts= .error e0){w:World}(h:InP V U w g gx a x ts):
  Calls Tryz.prog (fnOf p) #[.pointer (some ⟨g,0,none⟩),.pointer (some ⟨gx,0,none⟩)] w fun e w'=>e=FLT e0.1 e0.2∧U.grownBy w' (some g):=by
 have:=piece_any d E V U g gx a had p x ts hx w h
 rw[hr] at this
 exact this
theorem step_len{f:Bool→List Tok→Told Ex}{p:Pc}{x y:Ex}{ts r:List Tok}(h:stepP f p x ts= .ok (y,r)):y.l.length≤x.l.length+1:=by
 unfold stepP at h
 cases p<;>simp only at h<;>split at h<;>(try cases h)<;>simp[Ex.push,Ex.num,Ex.name,Ex.l]
theorem XP.done{gx:Nat}{w:World}{x:Ex}{A:Option Addr}{c:Nat}{es:List El}(h:XP gx w x A c es)(W:World)(hs:w.heap.size≤W.heap.size)(hW:∀q,gx<q→q<w.heap.size→W.heap[q]?=w.heap[q]?)(S:Nat→Prop)(hS:∀q,gx<q→S q):ExAt S W (x.k,x.n,x.nm,A,es.length,c) x:=by
 obtain⟨h1,h2,h3,h4,h5,h6,h7,h8⟩:=h
 obtain⟨k,n,nm,l⟩:=x
 have h3:es.length=l.length:=h3
 have hrow:RowE (fun q=>gx<q) w A es:=ElsOwn.toks (base:=gx+1) (n:=es.length) (c:=c) (by unfold ElsOwn;exact h2) rfl (fun q hq=>by have:=(h2.lt q hq).1;omega)
 have hx:ExAt S W (k,n,nm,A,l.length,c) (.mk k n nm l):= .mk k n nm A c l es h5 h6 h7 h3 (hrow.mono hs fun q hq hl=>⟨hS q hq,hW q hq hl⟩) (fun i hi hi'=>(h4 i hi hi').mono hs fun q hq hl=>⟨hS q hq.1,hW q hq.1 hl⟩)
 rw[h3]
 exact hx
def btwP(j:Nat):UInt8:=if j=0 then 40 else 44
theorem btwP_or(j:Nat):btwP j=40∨btwP j=41∨btwP j=44:=by unfold btwP;split<;>simp
def LoopP(V U wr:World)(g gx a d:Nat)(ps:List Pc)(R:Told Ex)(j:Nat)(x:Ex)(ts:List Tok):Prop:=
 InP V U wr g gx a x ts∧piecesP (exprT d) (ps.drop j) (btwP j) x ts=R∧x.l.length≤j
theorem loop_start{V w:World}{g a d:Nat}{ts:List Tok}(h:StP V w g ts a)(ha:a+1≤100)(k:Int)(hk:i64 k)(ps:List Pc)(R:Told Ex)(hR:piecesP (exprT d) ps 40 (.mk k 0 [] []) ts=R):
  LoopP V (w.alloc (.cells #[.int .i64 0,.int .i64 0,.string ⟨#[]⟩,.slice none 0 0] 54)) (((w.setCell ⟨g,1,none⟩ (.int .i64 (a+1))).alloc (.cells #[.int .i64 0,.int .i64 0,.string ⟨#[]⟩,.slice none 0 0] 54)).alloc (.cells #[.int .i64 k,.int .i64 0,.string ⟨#[]⟩,.slice none 0 0] 54)) g (w.heap.size+1) (a+1) d ps R 0 (.mk k 0 [] []) ts:=by
 obtain⟨s1,s2⟩:=h.around (a+1) ha
 have R1:=s1.V.1.self.alloc (.cells #[.int .i64 0,.int .i64 0,.string ⟨#[]⟩,.slice none 0 0] 54)
 have R2:=R1.self.alloc (.cells #[.int .i64 k,.int .i64 0,.string ⟨#[]⟩,.slice none 0 0] 54)
 have hz:((w.setCell ⟨g,1,none⟩ (.int .i64 (a+1))).alloc (.cells #[.int .i64 0,.int .i64 0,.string ⟨#[]⟩,.slice none 0 0] 54)).heap.size=w.heap.size+1:=by rw[World.size_alloc,World.size_setCell]
 have hB:=Bk.new ((w.setCell ⟨g,1,none⟩ (.int .i64 (a+1))).alloc (.cells #[.int .i64 0,.int .i64 0,.string ⟨#[]⟩,.slice none 0 0] 54)) 54 #[.int .i64 k,.int .i64 0,.string ⟨#[]⟩,.slice none 0 0]
 rw[hz] at hB
 have hl:=h.lt
 refine⟨⟨s1.rel (R1.trans R2),by rw[World.size_alloc];omega,by rw[World.size_alloc];exact Nat.le_refl _, ?_,none,0,[],hB,World.ownsRow_nil _ _ _ _,rfl,fun i hi=>absurd hi (by simp),hk,⟨show(-9223372036854775808:Int)≤0 by decide,show(0:Int)≤9223372036854775807 by decide⟩,Nat.zero_le _,Nat.zero_le _⟩,hR,Nat.zero_le _⟩
 refine⟨rfl,rfl,rfl,by rw[World.size_alloc,World.size_alloc,World.size_alloc,World.size_setCell];omega,fun q hq hn=> ?_⟩
 rw[World.size_alloc] at hq
 rw[Below.heap_alloc _ _ _ (by rw[hz];omega)]
 rcases Nat.lt_or_ge q w.heap.size with hlt|hge
 ·rw[Below.heap_alloc _ _ _ (by rw[World.size_setCell];exact hlt),Below.heap_setCell _ _ _ _ (fun e=>hn (by rw[e])),Below.heap_alloc _ _ _ hlt]
 ·obtain rfl:q=w.heap.size:=by omega
  have e1:=Bk.new (w.setCell ⟨g,1,none⟩ (.int .i64 (a+1))) 54 #[.int .i64 0,.int .i64 0,.string ⟨#[]⟩,.slice none 0 0]
  rw[World.size_setCell] at e1
  exact Eq.trans e1 (Bk.new w 54 #[.int .i64 0,.int .i64 0,.string ⟨#[]⟩,.slice none 0 0]).symm
theorem call_end{V w U W:World}{g a:Nat}{x:Ex}{ts:List Tok}{A:Option Addr}{m:Nat}{es:List El}(hgl:g<w.heap.size)(hVw:V.heap.size≤w.heap.size)(hUr:Rel w U)(hzU:U.heap.size=w.heap.size+1)(h:InP V U W g (w.heap.size+1) (a+1) x ts)(hX:XP (w.heap.size+1) W x A m es)(ha:a≤100)(hz:Bk W w.heap.size 54 #[.int .i64 0,.int .i64 0,.string ⟨#[]⟩,.slice none 0 0])(W':World)
  (hW:((((W.setCell ⟨g,1,none⟩ (.int .i64 a)).setCell ⟨w.heap.size,0,none⟩ (.int .i64 x.k)).setCell ⟨w.heap.size,1,none⟩ (.int .i64 x.n)).setCell ⟨w.heap.size,2,none⟩ (.string (B x.nm))).setCell ⟨w.heap.size,3,none⟩ (.slice A es.length m)=W'):
  Bk W' w.heap.size 54 #[.int .i64 x.k,.int .i64 x.n,.string (B x.nm),.slice A es.length m]∧ExAt (fun k=>w.heap.size≤k) W' (x.k,x.n,x.nm,A,es.length,m) x∧StP V W' g ts a∧w.grownBy W' (some g):=by
 obtain⟨s1,s2⟩:=h.1.around a ha
 have gp:=put4_grown (W.setCell ⟨g,1,none⟩ (.int .i64 a)) w.heap.size (.int .i64 x.k) (.int .i64 x.n) (.string (B x.nm)) (.slice A es.length m)
 have hb:=(hz.far (p:=⟨g,1,none⟩) (by simp only;omega) (.int .i64 a)).put4 (.int .i64 x.k) (.int .i64 x.n) (.string (B x.nm)) (.slice A es.length m)
 rw[hW] at gp hb
 have z1:=s2.size
 have z2:=gp.size
 rw[World.size_setCell] at z1 z2
 refine⟨hb,hX.done W' (by omega) (fun q hq hl=> ?_) _ (fun q hq=>by omega),s1.grown gp (fun e=>by injection e;omega) (fun k e=>by cases e;exact hVw), ?_⟩
 ·exact(gp.block q (by rw[World.size_setCell];omega) (fun e=>by injection e;omega)).trans (s2.block q hl (fun e=>by injection e;omega))
 ·exact grown_of (grown_trans (grown_rel (some g) hUr) (grown_trans h.2.2.2.1 s2)) gp (fun k e=>by cases e;exact Nat.le_refl _)
theorem call_gr{w U W:World}{g:Nat}(hU:Rel w U)(hg:g<w.heap.size)(h:U.grownBy W (some g)):w.grownBy W (some g):=grown_trans (grown_rel (some g) hU) h
theorem ppcall_any(d:Nat)(E:ExprOk d)(V:World)(g a:Nat)(had:a+1+d=32)(k:Int)(hk:i64 k)(ps:List Pc)(hp:ps.length≤3)(q c:Nat)(ts:List Tok)(w:World)(h:StP V w g ts a)(hq:Bk w q 123 (ps.map (pvOf g)).toArray):
  Calls Tryz.prog 88 #[.pointer (some ⟨g,0,none⟩),.int .i64 k,.slice (some ⟨q,0,none⟩) ps.length c] w (ExPost V g a w (piecesP (exprT d) ps 40 (.mk k 0 [] []) ts)):=by
 obtain⟨R,hR⟩:∃R,piecesP (exprT d) ps 40 (.mk k 0 [] []) ts=R:=⟨_,rfl⟩
 rw[hR]
 have HI0:=yH (loop_start h (by omega) k hk ps R hR)
 obtain⟨A0,c0,r0,hg0,_,_,_,_,_,hb0⟩:=h
 have hqg:q≠g:=hq.ne hb0 (by decide)
 have hgl:=hb0.lt
 obtain⟨⟨b0,b1⟩,f0,f1⟩:=hb0.two
 have HZ:=yH (Bk.new w 54 #[.int .i64 0,.int .i64 0,.string ⟨#[]⟩,.slice none 0 0])
 have HQ:=yH (hq.alloc (.cells #[.int .i64 0,.int .i64 0,.string ⟨#[]⟩,.slice none 0 0] 54))
 have HR0:=yH r0
 have HVg:=yH hg0
 have hw1:IntKind.i64.wrap ((a:Int)+1)=(a:Int)+1:=IntWalk.i64_in _ (by omega)
 obtain⟨n,hn⟩:∃n,ps.length=n:=⟨_,rfl⟩
 have HN:=yH hn
 rw[hn] at hp⊢
 obtain⟨U,hU⟩:∃U,w.alloc (.cells #[.int .i64 0,.int .i64 0,.string ⟨#[]⟩,.slice none 0 0] 54)=U:=⟨_,rfl⟩
 have hzU:U.heap.size=w.heap.size+1:=by rw[←hU];exact World.size_alloc ..
 rw[hU] at HI0 HZ HQ
 have HUr:=yH (show Rel w U by rw[←hU];exact r0.self.alloc _)
 clear hq hb0 r0 hg0 hR hn hU
 go_enter Tryz.func88,Tryz.ntmps88
 go_wp2_with (fail)
 go_loopw [8,22] (fun b i wr=>∃(j:Nat)(C:ByteArray)(x:Ex)(ts':List Tok),j≤n∧i= .int .i64 (j:Int)∧b= .string C∧Hid (C=B [btwP j])∧Hid (LoopP V U wr g (w.heap.size+1) (a+1) d ps R j x ts')) (fun _ i _=>n-(RowKit.intOf i).toNat)
 case atStart=>exact⟨0,⟨#[40]⟩,.mk k 0 [] [],ts,by omega,rfl,rfl,yH rfl,HI0⟩
 case round=>
  obtain⟨j,C,x,ts',hj,rfl,rfl,HC,HL⟩:=hrel
  have HIn:=yH HL.out.1
  have HSt:=yH HL.out.1.1
  have hxl:x.l.length≤j:=HL.out.2.2
  have HQr:Hid (Bk wr q 123 (ps.map (pvOf g)).toArray):=yH (HQ.out.grown HIn.out.2.2.2.1 (fun e=>by injection e;omega))
  have HUg:=yH HIn.out.2.2.2.1
  by_cases hlt:j<n
  ·obtain⟨p,hp'⟩:∃p,ps[j]?=some p:=⟨ps[j]'(by rw[HN.out];exact hlt),List.getElem?_eq_getElem _⟩
   have hcell:wr.cell? ⟨q,j,none⟩=some (pvOf g p):=by
    rw[HQr.out.cell,List.getElem?_toArray,List.getElem?_map,hp'];rfl
   have hdr:ps.drop j=p::ps.drop (j+1):=by
    obtain⟨h1,h2⟩:=List.getElem?_eq_some_iff.1 hp'
    rw[List.drop_eq_getElem_cons h1,h2]
   have HRR:=yH (show piecesP (exprT d) (p::ps.drop (j+1)) (btwP j) x ts'=R by rw[←hdr];exact HL.out.2.1)
   have htk:=sign_take (btwP_or j) ts' HSt.out.fine.head.1
   clear hdr hp'
   by_cases htx:(hdT ts').2.1=[btwP j]
   ·have HT:=yH (show takeT 4 [btwP j] ts'= .ok (hdT ts',ts'.tail) by rw[htk,if_pos htx])
    have HSg:=yH (psign_yes V g (a+1) ts' [btwP j] C HC wr HSt.out htx (by simp))
    clear htk htx
    cases hst:stepP (exprT d) p x ts'.tail with
    |error e0=>
     have HE:=yH (show R= .error e0 by rw[←HRR.out];unfold piecesP;rw[HT.out];simp only[hst])
     have HPc:=yH (fun(w2:World)(h:InP V U w2 g (w.heap.size+1) (a+1) x ts'.tail)=>piece_no E had p (by omega) hst h)
     clear hst
     cases p
     all_goals
      unfold pvOf fnOf at hcell
      unfold fnOf at HPc
      go_wp2_with (first
          |(go_at_call 109;(with_reducible refine HSg.out.mono ?_);rintro e w2 ⟨rfl,s2,g2⟩;have HI2:=yH (HIn.out.step g2 s2);clear s2 g2)
          |((first|go_at_call 90|go_at_call 93|go_at_call 89|go_at_call 91|go_at_call 92|go_at_call 124);(with_reducible refine(HPc.out _ HI2.out).mono ?_);rintro e w3 ⟨rfl,g3⟩))
      exact⟨rfl,ExPost.no HE.out rfl (call_gr HUr.out hgl g3)⟩
    |ok qq=>
     obtain⟨y,r2⟩:=qq
     have HE:=yH (show piecesP (exprT d) (ps.drop (j+1)) (btwP (j+1)) y r2=R by rw[←HRR.out,piecesP,HT.out];simp only[hst];rfl)
     have HPc:=yH (fun(w2:World)(h:InP V U w2 g (w.heap.size+1) (a+1) x ts'.tail)=>piece_yes E had p (by omega) hst h)
     have HYl:=yH (show y.l.length≤j+1 from by have:=step_len hst;omega)
     clear hst
     cases p
     all_goals
      unfold pvOf fnOf at hcell
      unfold fnOf at HPc
      go_wp2_with (first
          |(go_at_call 109;(with_reducible refine HSg.out.mono ?_);rintro e w2 ⟨rfl,s2,g2⟩;have HI2:=yH (HIn.out.step g2 s2);clear s2 g2)
          |((first|go_at_call 90|go_at_call 93|go_at_call 89|go_at_call 91|go_at_call 92|go_at_call 124);(with_reducible refine(HPc.out _ HI2.out).mono ?_);rintro e w3 ⟨rfl,i3⟩;have HI3:=yH i3;clear i3))
      go_roundw
      case rel=>exact⟨j+1,_,y,r2,by omega,by go_num,rfl,yH rfl,yH ⟨HI3.out,HE.out,HYl.out⟩⟩
      case measure=>simp[RowKit.intOf];omega
   ·have HE:=yH (show R= .error (80,atT ts') by rw[←HRR.out];unfold piecesP;rw[htk,if_neg htx])
    have HSg:=yH (psign_not V g (a+1) ts' [btwP j] C HC wr HSt.out htx)
    clear htk htx
    go_wp2_with (go_at_call 109;(with_reducible refine HSg.out.mono ?_);rintro e w2 ⟨rfl,g2⟩)
    exact⟨rfl,ExPost.no HE.out rfl (call_gr HUr.out hgl (grown_trans HUg.out g2))⟩
  ·obtain rfl:j=n:=by omega
   have HRR:=yH (show piecesP (exprT d) [] (btwP j) x ts'=R by rw[←HL.out.2.1,List.drop_eq_nil_of_le (by rw[HN.out];exact Nat.le_refl _)])
   have htk:=sign_take (.inr (.inl rfl)) ts' HSt.out.fine.head.1
   by_cases htx:(hdT ts').2.1=[41]
   ·have HE:=yH (show R= .ok (x,ts'.tail) by rw[←HRR.out];unfold piecesP;rw[htk,if_pos htx])
    have HSg:=yH (psign_yes V g (a+1) ts' [41] ⟨#[41]⟩ (yH rfl) wr HSt.out htx (by simp))
    clear htk htx
    have hw2:IntKind.i64.wrap ((a:Int)+1-1)=(a:Int):=by rw[show(a:Int)+1-1=a by omega];exact IntWalk.i64_in _ (by omega)
    go_wp2_with (go_at_call 109;(with_reducible refine HSg.out.mono ?_);rintro e w2 ⟨rfl,s2,g2⟩;have HI2:=yH (HIn.out.step g2 s2);obtain⟨⟨A',c',_,_,_,_,_,_,_,hb2⟩,_,_,hg2,A,m,es,hX2⟩:=HI2.out;obtain⟨⟨_,c1⟩,_,u1⟩:=hb2.two;obtain⟨⟨x0,x1,x2,x3⟩,_⟩:=hX2.1.four;obtain⟨⟨z0,z1,z2,z3⟩,v0,v1,v2,v3⟩:=(HZ.out.grown hg2 (fun e=>by injection e;omega)).four;have hgne: ¬g=w.heap.size:=(by omega);have hgne': ¬w.heap.size=g:=(by omega);have hgnx: ¬g=w.heap.size+1:=(by omega);have hgnx': ¬w.heap.size+1=g:=(by omega);have HX2:=yH hX2;have HZ2:=yH (HZ.out.grown hg2 (fun e=>by injection e;omega));clear s2 g2 hX2 hb2 hg2)
    obtain⟨e1,e2,e3,e4⟩:=call_end hgl HR0.out.size HUr.out hzU HI2.out HX2.out (by omega) HZ2.out _ rfl
    obtain⟨⟨y0,y1,y2,y3⟩,_⟩:=e1.four
    refine bodyPost_ret (v:=EV (x.k,x.n,x.nm,A,es.length,m)) (by simp[results,Tryz.results88,go_sem,y0,y1,y2,y3]) rfl (ExPost.yes HE.out ⟨_,rfl,e2,e3,e4⟩)
   ·have HE:=yH (show R= .error (80,atT ts') by rw[←HRR.out];unfold piecesP;rw[htk,if_neg htx])
    have HSg:=yH (psign_not V g (a+1) ts' [41] ⟨#[41]⟩ (yH rfl) wr HSt.out htx)
    clear htk htx
    go_wp2_with (go_at_call 109;(with_reducible refine HSg.out.mono ?_);rintro e w2 ⟨rfl,g2⟩)
    exact⟨rfl,ExPost.no HE.out rfl (call_gr HUr.out hgl (grown_trans HUg.out g2))⟩
end Go.Proofs.YtjhjdiaomnpkmaaGreatDoor
