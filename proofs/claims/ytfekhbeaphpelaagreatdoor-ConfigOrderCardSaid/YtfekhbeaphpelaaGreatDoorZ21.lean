/- The landed machine in memory: offers, the next place, steps, its stack; one taken, one put; (Stage 14's: Eval is asked of expressions without others in them alone: all that run asks.) What the laws of layer 9 lean on: what the program is asked, and the law's awake; (Stage 14's: Eval of expressions without others in them.) The landed operations of layer 11 that ask the offers; The program's answers of layer 1 that layer 9 asks for; The landed operations of layer 11 that change one: less, cut. -/

import Derived.Test.YtfekhbeaphpelaaGreatDoorZ20
set_option maxRecDepth 100000
set_option maxHeartbeats 8000000
namespace Go.Proofs.YtfekhbeaphpelaaGreatDoor
open Go.RowKit Go.Lib
set_option linter.unusedVariables false
set_option linter.unusedSimpArgs false
theorem MapIs.heap{w w':World}{b:Nat}{l:List (Int×Value)}(h:MapIs w b l)(e:w'.heap[b]?=w.heap[b]?):MapIs w' b l:=by
 obtain⟨D,⟨es,clock,h1,h2⟩,h3⟩:=h
 exact⟨D,⟨es,clock,e.trans h1,h2⟩,h3⟩
theorem MapIs.kr{w w':World}{q b:Nat}{T:TypeId}{l:List (Int×Value)}(h:MapIs w q l)(hk:Kr T b w w')(hq:q≠b):MapIs w' q l:=by
 obtain⟨es,clock,hb⟩:=h.block
 exact h.heap ((hk q _ hb (fun e=>hq (by injection e)) (fun _ _ e=>by cases e)).trans hb.symm)
theorem lm_ne:(111:TypeId)≠109:=by decide
abbrev Kl(b:Nat)(w w':World):Prop:=Kr 111 b w w'
def Mh(w:World)(C D b:Nat)(ov:Value)(nx st:Int)(S:List Ce):Prop:=
 C≤b∧b<D∧D≤w.heap.size∧S.length≤100∧∃A c,Bk w b 109 #[ov,.int .i64 nx,.int .i64 st,.slice A S.length c]∧StkOwn 111 w C (.slice A S.length c) S∧∀g,(Value.slice A S.length c).ownBlock=some g→g<D
section
variable {w w':World} {C D b:Nat} {ov:Value} {nx st:Int} {S:List Ce}
theorem Mh.of{A:Option Addr}{L c:Nat}(h1:C≤b)(h2:b<D)(h3:D≤w.heap.size)(h4:L≤100)(hL:S.length=L)(hb:Bk w b 109 #[ov,.int .i64 nx,.int .i64 st,.slice A L c])(ho:StkOwn 111 w C (.slice A L c) S)
  (hr:∀g,(Value.slice A L c).ownBlock=some g→g<D):Mh w C D b ov nx st S:=by
 subst hL
 exact⟨h1,h2,h3,h4,A,c,hb,ho,hr⟩
theorem Mh.lt(h:Mh w C D b ov nx st S):b<w.heap.size:=by have:=h.2.1;have:=h.2.2.1;omega
theorem Mh.rel(h:Mh w C D b ov nx st S)(hr:Rel w w'):Mh w' C D b ov nx st S:=by
 obtain⟨h1,h2,h3,h4,A,c,hb,ho,h5⟩:=h
 exact⟨h1,h2,by have:=hr.size;omega,h4,A,c,hb.rel hr,ho.rel hr,h5⟩
theorem Mh.wide(h:Mh w C D b ov nx st S){E:Nat}(h1:D≤E)(h2:E≤w.heap.size):Mh w C E b ov nx st S:=by
 obtain⟨g1,g2,g3,g4,A,c,hb,ho,g5⟩:=h
 exact⟨g1,by omega,h2,g4,A,c,hb,ho,fun g hg=>by have:=g5 g hg;omega⟩
theorem Mh.far(h:Mh w C D b ov nx st S){p:Addr}(hp:D≤p.block)(u:Value):Mh (w.setCell p u) C D b ov nx st S:=by
 obtain⟨h1,h2,h3,h4,A,c,hb,ho,h5⟩:=h
 exact⟨h1,h2,by rw[World.size_setCell];exact h3,h4,A,c,hb.far (p:=p) (by omega) u,own_set ho.row (fun e=>by have:=h5 _ e.symm;omega) u,h5⟩
theorem Mh.cells(h:Mh w C D b ov nx st S):∃A c,Bk w b 109 #[ov,.int .i64 nx,.int .i64 st,.slice A S.length c]:=by
 obtain⟨h1,h2,h3,h4,A,c,hb,ho,h5⟩:=h
 exact⟨A,c,hb⟩
theorem Mh.next(h:Mh w C D b ov nx st S)(n:Int):Mh (w.setCell ⟨b,1,none⟩ (.int .i64 n)) C D b ov n st S:=by
 obtain⟨h1,h2,h3,h4,A,c,hb,ho,h5⟩:=h
 exact⟨h1,h2,by rw[World.size_setCell];exact h3,h4,A,c,hb.set_ 1 _,own_set ho.row (own_ne ho.row hb lm_ne) _,h5⟩
theorem Mh.step(h:Mh w C D b ov nx st S)(n:Int):Mh (w.setCell ⟨b,2,none⟩ (.int .i64 n)) C D b ov nx n S:=by
 obtain⟨h1,h2,h3,h4,A,c,hb,ho,h5⟩:=h
 exact⟨h1,h2,by rw[World.size_setCell];exact h3,h4,A,c,hb.set_ 2 _,own_set ho.row (own_ne ho.row hb lm_ne) _,h5⟩
end
theorem told_info:(Tryz.prog.info? 111).map (fun i=>(i.zero,i.size,i.bytes))=some (some (.agg #[.int .i64 0,.bool false]),2,16):=by kernel_rfl
abbrev CV1(c:Ce):Value:= .agg #[.int .i64 (c.getD 0),.bool c.isSome]
theorem ltake_none(b D:Nat)(ov:Value)(nx st:Int)(w0 w:World)(hr:Rel w0 w)(h:Mh w w0.heap.size D b ov nx st []):
  Calls Tryz.prog 154 #[.pointer (some ⟨b,0,none⟩)] w fun r w'=>r= .returned (.tuple #[CV1 none,.int .i64 100])∧Rel w w':=by
 have HA:=yH (hr.self.alloc (.cells #[.int .i64 0,.bool false] 111))
 have HX:=yH (Bk.new w 111 #[.int .i64 0,.bool false])
 have hM:=h.rel HA.out
 obtain⟨W,hW⟩:∃W,w.alloc (.cells #[.int .i64 0,.bool false] 111)=W:=⟨_,rfl⟩
 rw[hW] at HA HX hM
 obtain⟨A,c,hb⟩:=hM.cells
 obtain⟨⟨b0,b1,b2,b3⟩,_⟩:=hb.four
 simp only[List.length_nil] at b3
 obtain⟨⟨x0,x1⟩,x2,x3⟩:=HX.out.two
 obtain⟨⟨r0,r1⟩,_⟩:=(HX.out.put (.int .i64 0) (.bool false)).two
 clear hr h hM hb
 go_enter Tryz.func154,Tryz.ntmps154
 go_wp2_with (fail)
 exact bodyPost_ret (v:= .tuple #[.agg #[.int .i64 0,.bool false],.int .i64 100]) (by simp[results,Tryz.results154,go_sem,r0,r1]) rfl ⟨rfl,HA.out.box (Nat.le_refl _) _ _⟩
theorem ltake_some(b D:Nat)(ov:Value)(nx st:Int)(S:List Ce)(t:Ce)(w0 w:World)(hr:Rel w0 w)(h:Mh w w0.heap.size D b ov nx st (S++[t])):
  Calls Tryz.prog 154 #[.pointer (some ⟨b,0,none⟩)] w fun r w'=>r= .returned (.tuple #[CV1 t,.int .i64 0])∧Mh w' w0.heap.size D b ov nx st S∧Rel w0 w'∧Kt b w w':=by
 have HA:=yH (hr.alloc (.cells #[.int .i64 0,.bool false] 111))
 have HK:=yH ((Kt.refl b w).alloc (.cells #[.int .i64 0,.bool false] 111))
 have HX:=yH (Bk.new w 111 #[.int .i64 0,.bool false])
 have hDw:=h.2.2.1
 have hM:=h.rel (hr.self.alloc (.cells #[.int .i64 0,.bool false] 111))
 have hw0:w0.heap.size≤w.heap.size:=hr.size
 obtain⟨W,hW⟩:∃W,w.alloc (.cells #[.int .i64 0,.bool false] 111)=W:=⟨_,rfl⟩
 rw[hW] at HA HK HX hM
 obtain⟨⟨x0,x1⟩,x2,x3⟩:=HX.out.two
 obtain⟨hC,hbD,hDW,hS,A,c,hb,ho,hrow⟩:=hM
 have hl:(S++[t]).length=S.length+1:=by simp
 rw[hl] at hb ho hrow hS
 obtain⟨g,cap,hv,hg0,hgl,hcap,t0,t1,ht⟩:=ho.top
 obtain⟨L,hL⟩:∃L,S.length=L:=⟨_,rfl⟩
 rw[hL] at hv t0 t1 ht hb hcap hS
 injection hv with e1 e2 e3
 subst e1
 subst e3
 have hgD:g<D:=hrow g rfl
 have HLn:=yH hL
 have HB:=yH hb
 have HT:=yH (show StkOwn 111 W w0.heap.size (.slice (some ⟨g,0,none⟩) L c) S from ht)
 obtain⟨tn,htn⟩:∃tn,t.getD 0=tn:=⟨_,rfl⟩
 obtain⟨tb,htb⟩:∃tb,t.isSome=tb:=⟨_,rfl⟩
 rw[htn] at t0
 rw[htb] at t1
 have HTn:=yH (show CV1 t= .agg #[.int .i64 tn,.bool tb] by rw[←htn,←htb])
 obtain⟨⟨b0,b1,b2,b3⟩,f0,f1,f2,f3⟩:=HB.out.four
 have q1:IntKind.i64.wrap ((L:Nat):Int)=((L:Nat):Int):=IntWalk.i64_in _ (by omega)
 have l0:(0:Int)≤(L:Int):=by omega
 have l1:(L:Int)<(L:Int)+1:=by omega
 have l2:L≤c:=by omega
 have l3:decide ((L:Int)<0)=false:=decide_eq_false (by omega)
 have hwb:w.heap.size≠b:=by omega
 clear hl hL ht htn htb hr h hb ho hrow
 go_enter Tryz.func154,Tryz.ntmps154
 go_upto_region 5 with (fail)
 have HBV:=yH (HB.out.alloc (.cells #[.int .i64 tn,.bool tb] 111))
 have HTV:=yH (HT.out.alloc (.cells #[.int .i64 tn,.bool tb] 111))
 have HXV:=yH (HX.out.alloc (.cells #[.int .i64 tn,.bool tb] 111))
 have HNV:=yH (Bk.new W 111 #[.int .i64 tn,.bool tb])
 have HAV:=yH (HA.out.alloc (.cells #[.int .i64 tn,.bool tb] 111))
 have HKV:=yH (HK.out.alloc (.cells #[.int .i64 tn,.bool tb] 111))
 have hWb:W.heap.size≠b:=by omega
 have hWw:W.heap.size≠w.heap.size:=by rw[←hW,World.size_alloc];omega
 have hDV:D≤(W.alloc (.cells #[.int .i64 tn,.bool tb] 111)).heap.size:=by rw[World.size_alloc];omega
 obtain⟨V,hV⟩:∃V,W.alloc (.cells #[.int .i64 tn,.bool tb] 111)=V:=⟨_,rfl⟩
 rw[hV] at HBV HTV HXV HNV HAV HKV hDV
 try rw[hV]
 obtain⟨⟨v0,v1,v2,v3⟩,u0,u1,u2,u3⟩:=HBV.out.four
 have HXU:=yH (HXV.out.far (p:=⟨b,3,none⟩) hwb (.slice (some ⟨g,0,none⟩) L c))
 have HNU:=yH (HNV.out.far (p:=⟨b,3,none⟩) hWb (.slice (some ⟨g,0,none⟩) L c))
 have HBU:=yH (show Bk (V.setCell ⟨b,3,none⟩ (.slice (some ⟨g,0,none⟩) L c)) b 109 #[ov,.int .i64 nx,.int .i64 st,.slice (some ⟨g,0,none⟩) L c] from HBV.out.set_ 3 (.slice (some ⟨g,0,none⟩) L c))
 have HTU:=yH (show StkOwn 111 (V.setCell ⟨b,3,none⟩ (.slice (some ⟨g,0,none⟩) L c)) w0.heap.size _ S from own_set (StkOwn.row HTV.out) (own_ne (StkOwn.row HTV.out) HBV.out lm_ne) _)
 have HAU:=yH (HAV.out.setCell (p:=⟨b,3,none⟩) hC (.slice (some ⟨g,0,none⟩) L c))
 have HKU:=yH (HKV.out.set (p:=⟨b,3,none⟩) rfl (.slice (some ⟨g,0,none⟩) L c))
 have hDU:D≤(V.setCell ⟨b,3,none⟩ (.slice (some ⟨g,0,none⟩) L c)).heap.size:=by rw[World.size_setCell];exact hDV
 go_upto_region 6 with (fail)
 obtain⟨U,hU⟩:∃U,V.setCell ⟨b,3,none⟩ (.slice (some ⟨g,0,none⟩) L c)=U:=⟨_,rfl⟩
 rw[hU] at HXU HNU HBU HTU HAU HKU hDU
 try rw[hU]
 have HMU:=yH (Mh.of hC hbD hDU (show L≤100 by omega) HLn.out HBU.out HTU.out (fun k e=>by
  have:g=k:=by simpa [Value.ownBlock] using e
  omega))
 obtain⟨⟨m0,m1⟩,_⟩:=HNU.out.two
 obtain⟨⟨k0,k1⟩,k2,k3⟩:=HXU.out.two
 obtain⟨⟨r0,r1⟩,_⟩:=(HXU.out.put (.int .i64 tn) (.bool tb)).two
 clear hV
 go_wp2_with (fail)
 exact bodyPost_ret (v:= .tuple #[.agg #[.int .i64 tn,.bool tb],.int .i64 0]) (by simp[results,Tryz.results154,go_sem,r0,r1]) rfl ⟨by rw[HTn.out],(HMU.out.far (p:=⟨w.heap.size,0,none⟩) hDw _).far (p:=⟨w.heap.size,1,none⟩) hDw _,HAU.out.box hw0 _ _,HKU.out.box (Nat.le_refl _) _ _⟩
theorem lput_done{w w':World}{C b g c c' L:Nat}{A:Option Addr}{S:List Ce}{x:Ce}{xs:List Value}{ov:Value}{nx st:Int}(hC:C≤b)(hbD:b<w'.heap.size)(hL:S.length=L)(hl:L<100)(hb:Bk w b 109 #[ov,.int .i64 nx,.int .i64 st,.slice A L c])(ho:StkOwn 111 w C (.slice A L c) S)(hx:cellsC x=xs)
  (hw:w.grownBy w' (Value.slice A L c).ownBlock) (hown:w'.ownsRow C 111 2 (.slice (some ⟨g,0,none⟩) (L+1) c') (L+1) (cellsS S++xs)) (hg:g<w'.heap.size):
  Mh (w'.setCell ⟨b,3,none⟩ (.slice (some ⟨g,0,none⟩) (L+1) c')) C (w'.setCell ⟨b,3,none⟩ (.slice (some ⟨g,0,none⟩) (L+1) c')).heap.size b ov nx st (S++[x]):=by
 subst hL hx
 have hb':=hb.grown hw (own_ne ho.row hb lm_ne)
 have hs:=hb'.set_ 3 (.slice (some ⟨g,0,none⟩) (S.length+1) c')
 have hle:(S++[x]).length=S.length+1:=by simp
 refine Mh.of hC (by rw[World.size_setCell];exact hbD) (Nat.le_refl _) (show S.length+1≤100 by omega) hle hs ?_ (fun k e=>by
  have:g=k:=by simpa [Value.ownBlock] using e
  rw[World.size_setCell];omega)
 unfold StkOwn
 rw[cellsS_snoc,hle]
 exact own_set hown (own_ne hown hb' lm_ne) _
theorem lput_full(b D:Nat)(ov:Value)(nx st:Int)(S:List Ce)(x:Ce)(hS:S.length=100)(w0 w:World)(hr:Rel w0 w)(h:Mh w w0.heap.size D b ov nx st S):
  Calls Tryz.prog 155 #[.pointer (some ⟨b,0,none⟩),CV1 x] w fun r w'=>r= .returned (.int .i64 100)∧Rel w w':=by
 obtain⟨n,hn⟩:∃n,x.getD 0=n:=⟨_,rfl⟩
 obtain⟨is,hi⟩:∃is,x.isSome=is:=⟨_,rfl⟩
 unfold CV1
 rw[hn,hi]
 have HA:=yH (hr.self.alloc (.cells #[.int .i64 n,.bool is] 111))
 have hM:=h.rel HA.out
 obtain⟨W,hW⟩:∃W,w.alloc (.cells #[.int .i64 n,.bool is] 111)=W:=⟨_,rfl⟩
 rw[hW] at HA hM
 obtain⟨A,c,hb⟩:=hM.cells
 rw[hS] at hb
 obtain⟨⟨b0,b1,b2,b3⟩,_⟩:=hb.four
 clear hr h hM hb hS
 go_enter Tryz.func155,Tryz.ntmps155
 go_wp2_with (fail)
 go_ret
 exact⟨rfl,HA.out⟩
theorem lput_room(b D:Nat)(ov:Value)(nx st:Int)(S:List Ce)(x:Ce)(hS:S.length<100)(w0 w:World)(hr:Rel w0 w)(h:Mh w w0.heap.size D b ov nx st S):
  Calls Tryz.prog 155 #[.pointer (some ⟨b,0,none⟩),CV1 x] w fun r w'=>r= .returned (.int .i64 0)∧Mh w' w0.heap.size w'.heap.size b ov nx st (S++[x])∧Rel w0 w'∧Kl b w w':=by
 obtain⟨n,hn⟩:∃n,x.getD 0=n:=⟨_,rfl⟩
 obtain⟨is,hi⟩:∃is,x.isSome=is:=⟨_,rfl⟩
 have HCx:=yH (show cellsC x=[.int .i64 n,.bool is] by rw[←hn,←hi];rfl)
 unfold CV1
 rw[hn,hi]
 have hblt:=h.lt
 obtain⟨hC,hbD,hDw,hS',A,c,hb,ho,hrow⟩:=h
 obtain⟨L,hL⟩:∃L,S.length=L:=⟨_,rfl⟩
 rw[hL] at hb ho hS hS'
 have HL:=yH hL
 have HX:=yH (Bk.new w 111 #[.int .i64 n,.bool is])
 have HB:=yH (hb.alloc (.cells #[.int .i64 n,.bool is] 111))
 have HO:=yH (ho.alloc (.cells #[.int .i64 n,.bool is] 111))
 have HA:=yH (hr.alloc (.cells #[.int .i64 n,.bool is] 111))
 have HK:=yH ((Kr.refl 111 b w).alloc (.cells #[.int .i64 n,.bool is] 111))
 have hWs:(w.alloc (.cells #[.int .i64 n,.bool is] 111)).heap.size=w.heap.size+1:=World.size_alloc _ _
 obtain⟨W,hW⟩:∃W,w.alloc (.cells #[.int .i64 n,.bool is] 111)=W:=⟨_,rfl⟩
 rw[hW] at HX HB HO HA HK hWs
 obtain⟨⟨x0,x1⟩,_⟩:=HX.out.two
 obtain⟨⟨b0,b1,b2,b3⟩,f0,f1,f2,f3⟩:=HB.out.four
 have HB2:=yH (show Bk (W.alloc (.cells #[.int .i64 n,.bool is] 111)).drew b 109 _ from HB.out.alloc (.cells #[.int .i64 n,.bool is] 111))
 have HO2:=yH (show StkOwn 111 (W.alloc (.cells #[.int .i64 n,.bool is] 111)).drew w0.heap.size (.slice A L c) S from HO.out.alloc (.cells #[.int .i64 n,.bool is] 111))
 have HA2:=yH ((HA.out.alloc (.cells #[.int .i64 n,.bool is] 111)).drew)
 have HK2:=yH (show Kr 111 b w (W.alloc (.cells #[.int .i64 n,.bool is] 111)).drew from HK.out.alloc (.cells #[.int .i64 n,.bool is] 111))
 have hRow:(W.alloc (.cells #[.int .i64 n,.bool is] 111)).drew.ownsRow w0.heap.size 111 2 (.slice A L c) L (cellsS S):=by have:=StkOwn.row HO2.out;rw[HL.out] at this;exact this
 have HRow:=yH hRow
 have d3:(W.alloc (.cells #[.int .i64 n,.bool is] 111)).drew.cell? ⟨b,3,none⟩=some (.slice A L c):=HB2.out.cell 3
 have HN:=yH (show ∀(j:Nat) (u:Value),([.int .i64 n,.bool is]:List Value)[j]?=some u→(W.alloc (.cells #[.int .i64 n,.bool is] 111)).drew.cell? ((⟨w.heap.size+1,0,none⟩:Addr).add j)=some u from by rw[←hWs];exact World.news_of_block (Bk.new W 111 #[.int .i64 n,.bool is]))
 have hbs:w0.heap.size≤(W.alloc (.cells #[.int .i64 n,.bool is] 111)).drew.heap.size:=HA2.out.size
 have hsz:W.heap.size+1≤(W.alloc (.cells #[.int .i64 n,.bool is] 111)).drew.heap.size:=by show _≤(W.alloc (.cells #[.int .i64 n,.bool is] 111)).heap.size;rw[World.size_alloc];omega
 obtain⟨i0,hi0,hz0,hz1,hz2⟩:=info_parts told_info
 have t1:decide ((100:Int)≤(L:Int))=false:=decide_eq_false (by omega)
 clear hr hb ho hL hrow hRow hn hi
 go_enter Tryz.func155,Tryz.ntmps155
 go_upto_region 3 with (fail)
 refine wp_region_any (by kernel_rfl) ?_
 change wpAny _ _ _ _ _ _ _ W.drew
 refine yM [0,1,2,3] (by kernel_rfl) (fun _ _ _ _ _=>id) ?_
 iterate 4
  refine yT rfl rfl (by rfl) ?_ ?_ ?_
  rotate_left
  ·intro w';go_simp;try with_reducible rfl
  try simp only[Act.put,yA,yB,yC]
 refine yZ ?_
 refine till_take (i:=4) (v:= ?_) (S:=fun w'=>w'.cell? ⟨b,3,none⟩=some (.slice A L c)) (some 15) rfl rfl (by kernel_rfl) (by kernel_rfl) (by kernel_rfl) (fun _ _ _ h=>h) (Or.inl ⟨by rfl, ?_⟩) b3 ?_
 rotate_left 1
 ·intro w' hSw;go_simp;try with_reducible rfl
 try simp only[Act.put,yA,yB,yC]
 refine till_one (j:=5) (by kernel_rfl) rfl (fun K hK=> ?_)
 try simp only[yD,yE,yF]
 try rw[if_pos (by rfl)]
 go_simp
 refine hK.out _ _ b3 ?_
 clear hK K
 try simp only[Act.put,yA,yB,yC]
 refine till_one (j:=6) (by kernel_rfl) rfl (fun K hK=> ?_)
 try simp only[yD,yE,yF]
 try rw[if_pos (by rfl)]
 go_simp
 refine hK.out _ _ d3 ?_
 clear hK K
 try simp only[Act.put,yA,yB,yC]
 refine till_late (j:=7) (by kernel_rfl) rfl (by kernel_rfl) (fun K hK=> ?_)
 try simp only[yD,yE,yF]
 rw[if_pos (by rfl)]
 refine wp_append_lies _ _ _ 107 rfl w0.heap.size 111 i0 (.agg #[.int .i64 0,.bool false]) 2 16 Tryz.underlying107 hi0 hz0 hz1 hz2 rfl (by decide) (.slice A L c) L (cellsS S) rfl HRow.out ⟨w.heap.size+1,0,none⟩ 1 1 [.int .i64 n,.bool is] rfl rfl HN.out (by intro u hu;simp at hu;rcases hu with rfl|rfl<;>rfl) (by decide) (by unfold maxLen;omega) (by omega) hbs _ rfl ?_
 intro g9 c9 w9 own9 gr9 at9 lt9
 have HB9:=yH (HB2.out.grown gr9 (own_ne (StkOwn.row HO2.out) HB2.out lm_ne))
 obtain⟨⟨y0,y1,y2,y3⟩,z0,z1,z2,z3⟩:=HB9.out.four
 have HO9:=yH own9
 have HG9:=yH gr9
 have hz9:=gr9.size
 clear own9 gr9 at9
 refine hK.out _ _ ?_
 clear hK K
 try simp only[Act.put,yA,yB,yC]
 refine till_late (j:=8) (by kernel_rfl) rfl (by kernel_rfl) (fun K hK=> ?_)
 try simp only[yD,yE,yF]
 try rw[if_pos (by rfl)]
 go_simp
 refine hK.out _ _ ?_
 clear hK K
 try simp only[Act.put,yA,yB,yC]
 refine till_late (j:=9) (by kernel_rfl) rfl (by kernel_rfl) (fun K hK=> ?_)
 try simp only[yD,yE,yF]
 try rw[if_pos (by rfl)]
 go_simp
 refine hK.out _ _ ?_
 clear hK K
 try simp only[Act.put,yA,yB,yC]
 refine till_late (j:=10) (by kernel_rfl) rfl (by kernel_rfl) (fun K hK=> ?_)
 try simp only[yD,yE,yF]
 try rw[if_pos (by rfl)]
 go_simp
 refine hK.out _ _ ?_
 clear hK K
 try simp only[Act.put,yA,yB,yC]
 refine till_done (by kernel_rfl) ?_ _
 go_wp2_with (fail)
 go_ret
 exact⟨rfl,lput_done hC (by omega) HL.out (by omega) HB2.out HO2.out HCx.out HG9.out HO9.out lt9,(HA2.out.grown HG9.out (fun k hk=>(HO2.out.row.lt k hk).1)).setCell (p:=⟨b,3,none⟩) hC _,(HK2.out.trans (Kr.row HO2.out HG9.out)).set (p:=⟨b,3,none⟩) rfl _⟩
def EvalOk:Prop:=∀(x:Ex) (S:Nat→Prop) (e:El) (A:Option Addr) (c:Nat) (os:List Of) (w0 w:World),(∃k n nm,x= .mk k n nm [])→Rel w0 w→ExAt S w e x→size x≤90000→OffArg w A c os→
  Calls Tryz.prog 166 #[EV e,.slice A os.length c] w fun z w'=>z= .returned (RV (evalS os x))∧Rel w0 w'
def LP(w0:World)(b:Nat)(ov:Value)(nx st:Int)(w:World)(T:List Ce)(er:Int)(e:Ending)(w':World):Prop:=
 e= .returned (.int .i64 er)∧Rel w0 w'∧Kl b w w'∧∃D S,Mh w' w0.heap.size D b ov nx st S∧(er=0→S=T)
theorem LP.back{w0 w w1 w':World}{b:Nat}{ov:Value}{nx st er:Int}{T:List Ce}{e:Ending}(hk:Kl b w w1)(h:Rel w0 w'∧Kl b w1 w'∧∃D S,Mh w' w0.heap.size D b ov nx st S∧(er=0→S=T))(he:e= .returned (.int .i64 er)):LP w0 b ov nx st w T er e w':=
 ⟨he,h.1,Kr.trans hk h.2.1,h.2.2⟩
theorem LP.same{w0 w w':World}{D b:Nat}{ov:Value}{nx st er:Int}{S T:List Ce}{e:Ending}(hr:Rel w0 w)(h:Mh w w0.heap.size D b ov nx st S)(hw:Rel w w')(he:e= .returned (.int .i64 er))(hne:er≠0):LP w0 b ov nx st w T er e w':=
 ⟨he,hr.trans hw,Kr.rel hw,D,S,h.rel hw,fun h0=>absurd h0 hne⟩
theorem ce_val(c:Ce):∃(p:Int) (q:Bool),CV1 c= .agg #[.int .i64 p,.bool q]:=⟨_,_,rfl⟩
theorem lput_as(b D:Nat)(ov:Value)(nx st:Int)(S T:List Ce)(er:Int)(c:Ce)(p:Int)(q:Bool)(hv:Hid (CV1 c= .agg #[.int .i64 p,.bool q]))(hm:Hid (putM (S,0) c=(T,er)))(w0 w:World)(hr:Rel w0 w)(h:Mh w w0.heap.size D b ov nx st S):
  Calls Tryz.prog 155 #[.pointer (some ⟨b,0,none⟩),.agg #[.int .i64 p,.bool q]] w (LP w0 b ov nx st w T er):=by
 rw[←hv.out]
 have hm:=hm.out
 rcases Nat.lt_or_ge S.length 100 with h1|h1
 ·rw[put_room h1 c] at hm
  injection hm with h2 h3
  subst h2 h3
  exact(lput_room b D ov nx st S c h1 w0 w hr h).mono fun e w' hh=>⟨hh.1,hh.2.2.1,hh.2.2.2,_,_,hh.2.1,fun _=>rfl⟩
 ·rw[put_full h1 c] at hm
  injection hm with h2 h3
  subst h2 h3
  exact(lput_full b D ov nx st S c (by have:=h.2.2.2.1;omega) w0 w hr h).mono fun e w' hh=>LP.same hr h hh.2 hh.1 (by decide)
theorem lrv_ok(c:Ce):RV (.ok c)= .tuple #[.int .i64 (c.getD 0),.bool c.isSome,.int .i64 0]:=by cases c<;>rfl
theorem lamount_any(n:Int)(w0 w:World)(hr:Rel w0 w):
  Calls Tryz.prog 169 #[.int .i64 n] w fun e w'=>e= .returned (.agg #[.int .i64 n,.bool true])∧Rel w w':=by
 have HR:=yH hr.self
 have hz:w.heap.size≤w.heap.size:=Nat.le_refl _
 clear hr
 go_enter Tryz.func169,Tryz.ntmps169
 go_wp2_with (fail)
 exact bodyPost_ret (v:= .agg #[.int .i64 n,.bool true]) (by simp[results,Tryz.results169,go_sem]) rfl ⟨rfl,by first|exact HR.out.alloc _|exact((HR.out.alloc _).setCell hz _).setCell hz _⟩
theorem lso_any(q:Bool)(n:Int)(hn:Hid ((if q then 1 else 0)=n))(w0 w:World)(hr:Rel w0 w):
  Calls Tryz.prog 156 #[.bool q] w fun e w'=>e= .returned (.agg #[.int .i64 n,.bool true])∧Rel w w':=by
 have HA:=yH (hr.self.alloc (.cells #[.int .i64 0,.bool false] 111))
 have HX:=yH (Bk.new w 111 #[.int .i64 0,.bool false])
 obtain⟨W,hW⟩:∃W,w.alloc (.cells #[.int .i64 0,.bool false] 111)=W:=⟨_,rfl⟩
 rw[hW] at HA HX
 clear hr
 have hn:=hn.out
 cases q with
 |true=>
  simp only[if_true] at hn
  subst hn
  go_enter Tryz.func156,Tryz.ntmps156
  go_wp2_with (go_at_call 169;(with_reducible refine(lamount_any 1 _ _ HA.out).mono ?_);rintro e w1 ⟨rfl,h1⟩;have R1:=yH h1;obtain⟨⟨d0,d1⟩,e0,e1⟩:=(HX.out.rel h1).two)
  obtain⟨⟨r0,r1⟩,_⟩:=((HX.out.rel R1.out).put (.int .i64 1) (.bool true)).two
  exact bodyPost_ret (v:= .agg #[.int .i64 1,.bool true]) (by simp[results,Tryz.results156,go_sem,r0,r1]) rfl ⟨rfl,(HA.out.trans R1.out).box (Nat.le_refl _) _ _⟩
 |false=>
  simp only[Bool.false_eq_true,if_false] at hn
  subst hn
  go_enter Tryz.func156,Tryz.ntmps156
  go_wp2_with (go_at_call 169;(with_reducible refine(lamount_any 0 _ _ HA.out).mono ?_);rintro e w1 ⟨rfl,h1⟩;have R1:=yH h1;obtain⟨⟨d0,d1⟩,e0,e1⟩:=(HX.out.rel h1).two)
  obtain⟨⟨r0,r1⟩,_⟩:=((HX.out.rel R1.out).put (.int .i64 0) (.bool true)).two
  exact bodyPost_ret (v:= .agg #[.int .i64 0,.bool true]) (by simp[results,Tryz.results156,go_sem,r0,r1]) rfl ⟨rfl,(HA.out.trans R1.out).box (Nat.le_refl _) _ _⟩
theorem ltell_any(H:EvalOk)(b D:Nat)(ov:Value)(nx st:Int)(S T:List Ce)(er:Int)(os:List Of)(A':Option Addr)(c':Nat)(hov:Hid (ov= .slice A' os.length c'))(k n:Int)(nm:List UInt8)(s:ByteArray)(hs:s=B nm)(c:Ce)(hx:evalS os (.mk k n nm [])= .ok c)(hk:i64 k)(hn:i64 n)(hl:nm.length≤100)(hm:Hid (putM (S,0) c=(T,er)))(w0 w:World)(hr:Rel w0 w)(h:Mh w w0.heap.size D b ov nx st S)(ho:OffArg w A' c' os):
  Calls Tryz.prog 145 #[.pointer (some ⟨b,0,none⟩),.agg #[.int .i64 k,.int .i64 n,.string s,.slice none 0 0]] w (LP w0 b ov nx st w T er):=by
 subst hs
 have HOv:=hov
 obtain⟨len,hlen⟩:∃len,os.length=len:=⟨_,rfl⟩
 obtain⟨p,q,hpq⟩:=ce_val c
 have HV:=yH hpq
 have HE:=yH (show ∀w1,Rel w w1→Calls Tryz.prog 166 #[.agg #[.int .i64 k,.int .i64 n,.string (B nm),.slice none 0 0],.slice A' len c'] w1 fun z w'=>z= .returned (.tuple #[.int .i64 p,.bool q,.int .i64 0])∧Rel w1 w' from fun w1 hr1=>by
  have h1:=H (.mk k n nm []) (fun _=>True) (k,n,nm,none,0,0) A' c' os w1 w1 ⟨k,n,nm,rfl⟩ (hr.trans hr1).self (ExAt.leaf _ _ k n nm none 0 hk hn hl) (by rw[size_mk,sizes_nil];decide) (ho.rel hr1)
  rw[hx,lrv_ok,hlen] at h1
  injection hpq with e1
  have e2:=congrArg Array.toList e1
  simp only[List.cons.injEq,and_true] at e2
  injection e2.1 with _ e3
  injection e2.2 with e4
  rw[e3,e4] at h1
  exact h1)
 obtain rfl:=hov.out
 rw[hlen] at h
 have HM:=yH h
 have HR:=yH hr
 rw[hlen]
 have HA:=yH (hr.self.alloc (.cells #[.int .i64 k,.int .i64 n,.string (B nm),.slice none 0 0] 52))
 have HX:=yH (Bk.new w 52 #[.int .i64 k,.int .i64 n,.string (B nm),.slice none 0 0])
 have hM:=h.rel HA.out
 obtain⟨W,hW⟩:∃W,w.alloc (.cells #[.int .i64 k,.int .i64 n,.string (B nm),.slice none 0 0] 52)=W:=⟨_,rfl⟩
 rw[hW] at HA HX hM
 obtain⟨A,cc,hb⟩:=hM.cells
 obtain⟨⟨b0,b1,b2,b3⟩,_⟩:=hb.four
 obtain⟨⟨x0,x1,x2,x3⟩,_⟩:=HX.out.four
 clear hr h hM hb hpq ho hlen HOv hov hx
 go_enter Tryz.func145,Tryz.ntmps145
 go_upto_region 1 with (fail)
 go_region_law (rw[if_pos (by rfl)];go_simp;go_at_call 166;(with_reducible refine(HE.out _ (HA.out.drew)).mono ?_);rintro e w1 ⟨rfl,h1⟩;have R1:=yH (HA.out.drew.trans h1))
 all_goals
  go_wp2_with (go_at_call 155;(with_reducible refine(lput_as b D _ nx st S T er c p q HV hm w0 _ (HR.out.trans R1.out) (HM.out.rel R1.out)).mono ?_);rintro e w3 ⟨rfl,h3⟩)
  go_ret
  exact LP.back (Kr.rel R1.out) h3 rfl
theorem lpush_any(H:EvalOk)(b D:Nat)(ov:Value)(nx st:Int)(S T:List Ce)(er:Int)(os:List Of)(A':Option Addr)(c':Nat)(hov:Hid (ov= .slice A' os.length c'))(hok:offsOk os=true)(o n:Int)(s:ByteArray)(hn:0≤n∧n≤1000000000000)(hm:Hid (putM (S,0) (some n)=(T,er)))(w0 w:World)(hr:Rel w0 w)(h:Mh w w0.heap.size D b ov nx st S)(ho:OffArg w A' c' os):
  Calls Tryz.prog 116 #[.pointer (some ⟨b,0,none⟩),.agg #[.int .i64 o,.int .i64 n,.string s]] w (LP w0 b ov nx st w T er):=by
 have HA:=yH (hr.self.alloc (.cells #[.int .i64 o,.int .i64 n,.string s] 140))
 have HX:=yH (Bk.new w 140 #[.int .i64 o,.int .i64 n,.string s])
 have HT:=yH (fun(w1:World) (hr1:Rel w w1)=>ltell_any H b D ov nx st S T er os A' c' hov 4 n [] ⟨#[]⟩ (rfl) (some n) (by rw[eval_yes hok (right_leaf (by decide) hn (by decide) (fun h=>absurd h (by decide))),told_fix _ _ _ rfl];rfl) ⟨by decide,by decide⟩ ⟨by omega,by omega⟩ (by decide) hm w0 w1 (hr.trans hr1) (h.rel hr1) (ho.rel hr1))
 obtain⟨W,hW⟩:∃W,w.alloc (.cells #[.int .i64 o,.int .i64 n,.string s] 140)=W:=⟨_,rfl⟩
 rw[hW] at HA HX
 obtain⟨⟨x0,x1,x2⟩,_⟩:=three_of HX.out
 clear hr h ho hov hok
 go_enter Tryz.func116,Tryz.ntmps116
 go_wp2_with (go_at_call 145;(with_reducible refine(HT.out _ HA.out).mono ?_);rintro e w1 ⟨rfl,h1⟩)
 go_ret
 exact LP.back (Kr.rel HA.out) h1 rfl
theorem llowest_any(H:EvalOk)(b D:Nat)(ov:Value)(nx st:Int)(S T:List Ce)(er:Int)(os:List Of)(A':Option Addr)(c':Nat)(hov:Hid (ov= .slice A' os.length c'))(hok:offsOk os=true)(o n:Int)(s:ByteArray)(hm:Hid (putM (S,0) (rk os 0)=(T,er)))(w0 w:World)(hr:Rel w0 w)(h:Mh w w0.heap.size D b ov nx st S)(ho:OffArg w A' c' os):
  Calls Tryz.prog 117 #[.pointer (some ⟨b,0,none⟩),.agg #[.int .i64 o,.int .i64 n,.string s]] w (LP w0 b ov nx st w T er):=by
 have HA:=yH (hr.self.alloc (.cells #[.int .i64 o,.int .i64 n,.string s] 140))
 have HX:=yH (Bk.new w 140 #[.int .i64 o,.int .i64 n,.string s])
 have HT:=yH (fun(w1:World) (hr1:Rel w w1)=>ltell_any H b D ov nx st S T er os A' c' hov 1 0 [] ⟨#[]⟩ (rfl) (rk os 0) (by rw[eval_yes hok (right_leaf (by decide) (by decide) (by decide) (fun h=>absurd h (by decide))),told_one _ _ _ rfl]) ⟨by decide,by decide⟩ ⟨by decide,by decide⟩ (by decide) hm w0 w1 (hr.trans hr1) (h.rel hr1) (ho.rel hr1))
 obtain⟨W,hW⟩:∃W,w.alloc (.cells #[.int .i64 o,.int .i64 n,.string s] 140)=W:=⟨_,rfl⟩
 rw[hW] at HA HX
 obtain⟨⟨x0,x1,x2⟩,_⟩:=three_of HX.out
 clear hr h ho hov hok
 go_enter Tryz.func117,Tryz.ntmps117
 go_wp2_with (go_at_call 145;(with_reducible refine(HT.out _ HA.out).mono ?_);rintro e w1 ⟨rfl,h1⟩)
 go_ret
 exact LP.back (Kr.rel HA.out) h1 rfl
theorem lsecond_any(H:EvalOk)(b D:Nat)(ov:Value)(nx st:Int)(S T:List Ce)(er:Int)(os:List Of)(A':Option Addr)(c':Nat)(hov:Hid (ov= .slice A' os.length c'))(hok:offsOk os=true)(o n:Int)(s:ByteArray)(hm:Hid (putM (S,0) (rk os 1)=(T,er)))(w0 w:World)(hr:Rel w0 w)(h:Mh w w0.heap.size D b ov nx st S)(ho:OffArg w A' c' os):
  Calls Tryz.prog 118 #[.pointer (some ⟨b,0,none⟩),.agg #[.int .i64 o,.int .i64 n,.string s]] w (LP w0 b ov nx st w T er):=by
 have HA:=yH (hr.self.alloc (.cells #[.int .i64 o,.int .i64 n,.string s] 140))
 have HX:=yH (Bk.new w 140 #[.int .i64 o,.int .i64 n,.string s])
 have HT:=yH (fun(w1:World) (hr1:Rel w w1)=>ltell_any H b D ov nx st S T er os A' c' hov 2 0 [] ⟨#[]⟩ (rfl) (rk os 1) (by rw[eval_yes hok (right_leaf (by decide) (by decide) (by decide) (fun h=>absurd h (by decide))),told_two _ _ _ rfl]) ⟨by decide,by decide⟩ ⟨by decide,by decide⟩ (by decide) hm w0 w1 (hr.trans hr1) (h.rel hr1) (ho.rel hr1))
 obtain⟨W,hW⟩:∃W,w.alloc (.cells #[.int .i64 o,.int .i64 n,.string s] 140)=W:=⟨_,rfl⟩
 rw[hW] at HA HX
 obtain⟨⟨x0,x1,x2⟩,_⟩:=three_of HX.out
 clear hr h ho hov hok
 go_enter Tryz.func118,Tryz.ntmps118
 go_wp2_with (go_at_call 145;(with_reducible refine(HT.out _ HA.out).mono ?_);rintro e w1 ⟨rfl,h1⟩)
 go_ret
 exact LP.back (Kr.rel HA.out) h1 rfl
theorem lfrom_any(H:EvalOk)(b D:Nat)(ov:Value)(nx st:Int)(S T:List Ce)(er:Int)(os:List Of)(A':Option Addr)(c':Nat)(hov:Hid (ov= .slice A' os.length c'))(hok:offsOk os=true)(o n:Int)(s:ByteArray)(nm:List UInt8)(hs:s=B nm)(hnm:isName nm=true)(hm:Hid (putM (S,0) (fromO os nm)=(T,er)))(w0 w:World)(hr:Rel w0 w)(h:Mh w w0.heap.size D b ov nx st S)(ho:OffArg w A' c' os):
  Calls Tryz.prog 119 #[.pointer (some ⟨b,0,none⟩),.agg #[.int .i64 o,.int .i64 n,.string s]] w (LP w0 b ov nx st w T er):=by
 have HA:=yH (hr.self.alloc (.cells #[.int .i64 o,.int .i64 n,.string s] 140))
 have HX:=yH (Bk.new w 140 #[.int .i64 o,.int .i64 n,.string s])
 have HT:=yH (fun(w1:World) (hr1:Rel w w1)=>ltell_any H b D ov nx st S T er os A' c' hov 3 0 nm s (hs) (fromO os nm) (by rw[eval_yes hok (right_leaf (by decide) (by decide) ⟨fun _=>rfl,fun _=>(name_parts hnm).1⟩ (fun _=>hnm)),told_from _ _ _ rfl];rfl) ⟨by decide,by decide⟩ ⟨by decide,by decide⟩ (by have:=(name_parts hnm).2.2.1;omega) hm w0 w1 (hr.trans hr1) (h.rel hr1) (ho.rel hr1))
 obtain⟨W,hW⟩:∃W,w.alloc (.cells #[.int .i64 o,.int .i64 n,.string s] 140)=W:=⟨_,rfl⟩
 rw[hW] at HA HX
 obtain⟨⟨x0,x1,x2⟩,_⟩:=three_of HX.out
 clear hr h ho hov hok hs hnm
 go_enter Tryz.func119,Tryz.ntmps119
 go_wp2_with (go_at_call 145;(with_reducible refine(HT.out _ HA.out).mono ?_);rintro e w1 ⟨rfl,h1⟩)
 go_ret
 exact LP.back (Kr.rel HA.out) h1 rfl
theorem lmore_any(b D:Nat)(ov:Value)(nx st:Int)(S T:List Ce)(er:Int)(os:List Of)(A':Option Addr)(c':Nat)(hov:Hid (ov= .slice A' os.length c'))(o n:Int)(s:ByteArray)(hm:Hid (putM (S,0) (some (if n<(os.length:Int) then 1 else 0))=(T,er)))(w0 w:World)(hr:Rel w0 w)(h:Mh w w0.heap.size D b ov nx st S):
  Calls Tryz.prog 125 #[.pointer (some ⟨b,0,none⟩),.agg #[.int .i64 o,.int .i64 n,.string s]] w (LP w0 b ov nx st w T er):=by
 obtain⟨len,hlen⟩:∃len,os.length=len:=⟨_,rfl⟩
 rw[hlen] at hm hov
 obtain⟨p,hp⟩:∃p,(if n<(len:Int) then (1:Int) else 0)=p:=⟨_,rfl⟩
 rw[hp] at hm
 obtain⟨q,hq⟩:∃q,decide (n<(len:Int))=q:=⟨_,rfl⟩
 have HS:=yH (fun(w1:World) (hr1:Rel w w1)=>lso_any q p (yH (by rw[←hp,←hq];by_cases h:n<(len:Int)<;>simp[h])) w w1 hr1)
 have HM:=yH h
 have HR:=yH hr
 obtain rfl:=hov.out
 have HA:=yH (hr.self.alloc (.cells #[.int .i64 o,.int .i64 n,.string s] 140))
 have HX:=yH (Bk.new w 140 #[.int .i64 o,.int .i64 n,.string s])
 have hM:=h.rel HA.out
 obtain⟨W,hW⟩:∃W,w.alloc (.cells #[.int .i64 o,.int .i64 n,.string s] 140)=W:=⟨_,rfl⟩
 rw[hW] at HA HX hM
 obtain⟨A,cc,hb⟩:=hM.cells
 obtain⟨⟨b0,b1,b2,b3⟩,_⟩:=hb.four
 obtain⟨⟨x0,x1,x2⟩,_⟩:=three_of HX.out
 clear hr h hM hb hlen hp hov
 go_enter Tryz.func125,Tryz.ntmps125
 go_upto_region 1 with (fail)
 go_region_law (first
  |(rw[if_pos (by rfl)];go_simp;go_at_call 156;(with_reducible refine(HS.out _ (HA.out.drew)).mono ?_);rintro e w1 ⟨rfl,h1⟩;have R1:=yH (HA.out.drew.trans h1))
  |(rw[if_pos (by rfl)];go_simp;go_at_call 155;(with_reducible refine(lput_as b D _ nx st S T er (some p) p true (yH rfl) hm w0 _ (HR.out.trans R1.out) (HM.out.rel R1.out)).mono ?_);rintro e w3 ⟨rfl,h3⟩))
 all_goals
  go_wp2_with (fail)
  go_ret
  exact LP.back (Kr.rel R1.out) h3 rfl
theorem m9within_any(a l h:Int)(w:World):
  Calls Tryz.prog 164 #[.int .i64 a,.int .i64 l,.int .i64 h] w fun e w'=>e= .returned (.bool (wtM a l h))∧w=w':=by
 by_cases h1:l≤a<;>by_cases h2:a≤h
 all_goals
  go_enter Tryz.func164,Tryz.ntmps164
  go_wp2
  all_goals
   go_ret
   exact⟨ret_bool (by unfold wtM;rw[eq_comm];first|exact decide_eq_true (by omega)|exact decide_eq_false (by omega)),rfl⟩
theorem m9right_any(a:Int)(w:World):
  Calls Tryz.prog 140 #[.int .i64 a] w fun e w'=>e= .returned (.bool (rt a))∧w=w':=by
 by_cases h1: -1000000000000≤a<;>by_cases h2:a≤1000000000000
 all_goals
  go_enter Tryz.func140,Tryz.ntmps140
  go_wp2
  all_goals
   go_ret
   exact⟨ret_bool (by unfold rt;rw[eq_comm];first|exact decide_eq_true (by omega)|exact decide_eq_false (by omega)),rfl⟩
theorem m9checked_any(a:Int)(w:World):
  Calls Tryz.prog 167 #[.int .i64 a] w fun e w'=>Two e (told1 a) (told2 a)∧w=w':=by
 by_cases h1: -1000000000000≤a<;>by_cases h2:a≤1000000000000
 all_goals
  go_enter Tryz.func167,Tryz.ntmps167
  go_wp2
  go_ret2
  exact⟨m9ret_two (by unfold told1 rt;simp only[decide_eq_true_eq];split<;>omega) (by unfold told2 rt;simp only[decide_eq_true_eq];split<;>omega),rfl⟩
theorem m9sub_any(a b:Int)(w:World):
  Calls Tryz.prog 148 #[.int .i64 a,.int .i64 b] w fun e w'=>Two e (two1 a b (a-b)) (two2 a b (a-b))∧w=w':=by
 by_cases h60: -1000000000000≤a
 ·by_cases h50:a≤1000000000000
  ·by_cases h40: -1000000000000≤b
   ·by_cases h30:b≤1000000000000
    ·by_cases h20: -1000000000000≤a-b
     ·by_cases h10:a-b≤1000000000000
      ·go_enter Tryz.func148,Tryz.ntmps148
       go_wp2
       go_ret2
       exact⟨m9ret_two (by unfold two1 told1 rt;simp only[Bool.and_eq_true,decide_eq_true_eq];(repeat' split)<;>omega) (by unfold two2 told2 rt;simp only[Bool.and_eq_true,decide_eq_true_eq];(repeat' split)<;>omega),rfl⟩
      ·go_enter Tryz.func148,Tryz.ntmps148
       go_wp2
       go_ret2
       exact⟨m9ret_two (by unfold two1 told1 rt;simp only[Bool.and_eq_true,decide_eq_true_eq];(repeat' split)<;>omega) (by unfold two2 told2 rt;simp only[Bool.and_eq_true,decide_eq_true_eq];(repeat' split)<;>omega),rfl⟩
     ·go_enter Tryz.func148,Tryz.ntmps148
      go_wp2
      go_ret2
      exact⟨m9ret_two (by unfold two1 told1 rt;simp only[Bool.and_eq_true,decide_eq_true_eq];(repeat' split)<;>omega) (by unfold two2 told2 rt;simp only[Bool.and_eq_true,decide_eq_true_eq];(repeat' split)<;>omega),rfl⟩
    ·go_enter Tryz.func148,Tryz.ntmps148
     go_wp2
     go_ret2
     exact⟨m9ret_two (by unfold two1 told1 rt;simp only[Bool.and_eq_true,decide_eq_true_eq];(repeat' split)<;>omega) (by unfold two2 told2 rt;simp only[Bool.and_eq_true,decide_eq_true_eq];(repeat' split)<;>omega),rfl⟩
   ·go_enter Tryz.func148,Tryz.ntmps148
    go_wp2
    go_ret2
    exact⟨m9ret_two (by unfold two1 told1 rt;simp only[Bool.and_eq_true,decide_eq_true_eq];(repeat' split)<;>omega) (by unfold two2 told2 rt;simp only[Bool.and_eq_true,decide_eq_true_eq];(repeat' split)<;>omega),rfl⟩
  ·go_enter Tryz.func148,Tryz.ntmps148
   go_wp2
   go_ret2
   exact⟨m9ret_two (by unfold two1 told1 rt;simp only[Bool.and_eq_true,decide_eq_true_eq];(repeat' split)<;>omega) (by unfold two2 told2 rt;simp only[Bool.and_eq_true,decide_eq_true_eq];(repeat' split)<;>omega),rfl⟩
 ·go_enter Tryz.func148,Tryz.ntmps148
  go_wp2
  go_ret2
  exact⟨m9ret_two (by unfold two1 told1 rt;simp only[Bool.and_eq_true,decide_eq_true_eq];(repeat' split)<;>omega) (by unfold two2 told2 rt;simp only[Bool.and_eq_true,decide_eq_true_eq];(repeat' split)<;>omega),rfl⟩
theorem m9floor_any(p:Int)(hp: -9223372036854775808≤p)(hp':p≤9223372036854775807)(w:World):
  Calls Tryz.prog 168 #[.int .i64 p] w fun e w'=>e= .returned (.int .i64 (fl p))∧w=w':=by
 have b1: -922337203685477≤p.tdiv 10000:=by have:=tdt p 10000 (by omega);omega
 have b2:p.tdiv 10000≤922337203685477:=by have:=tdt p 10000 (by omega);omega
 by_cases h:p.tmod 10000<0
 all_goals
  go_enter Tryz.func168,Tryz.ntmps168
  go_wp2
  all_goals
   go_ret
   exact⟨ret_int (by unfold fl;split<;>first|rfl|omega),rfl⟩
theorem m9part_any(a b:Int)(up:Bool)(w:World):
  Calls Tryz.prog 150 #[.int .i64 a,.int .i64 b,.bool up] w fun e w'=>Two e (part1 a b up) (part2 a b up)∧w=w':=by
 cases ha:rt a
 ·have r1:part1 a b up=0:=by simp[part1,ha]
  have r2:part2 a b up=10:=by simp[part2,ha]
  rw[r1,r2];clear r1 r2
  go_enter Tryz.func150,Tryz.ntmps150
  go_wp2_with (first|(go_at_call 140;refine(m9right_any _ _).mono ?_;rintro e w' ⟨rfl,rfl⟩)|(go_at_call 164;refine(m9within_any _ _ _ _).mono ?_;rintro e w' ⟨rfl,rfl⟩))
  go_ret2
  exact⟨rfl,rfl⟩
 ·cases hb:wtM b (-100000) 100000
  ·have r1:part1 a b up=0:=by simp[part1,hb]
   have r2:part2 a b up=10:=by simp[part2,hb]
   rw[r1,r2];clear r1 r2
   go_enter Tryz.func150,Tryz.ntmps150
   go_wp2_with (first|(go_at_call 140;refine(m9right_any _ _).mono ?_;rintro e w' ⟨rfl,rfl⟩)|(go_at_call 164;refine(m9within_any _ _ _ _).mono ?_;rintro e w' ⟨rfl,rfl⟩))
   go_ret2
   exact⟨rfl,rfl⟩
  ·obtain⟨a1,a2⟩:=m9rt_iff.1 ha
   obtain⟨b1,b2⟩:=of_decide_eq_true hb
   obtain⟨p1,p2⟩: -100000000000000000≤a*b∧a*b≤100000000000000000:=m9prod_bd a1 a2 b1 b2
   have f1:= @m9fl_lt (a*b)
   have f2:= @m9fl_lt (-(a*b))
   obtain⟨g1,g2⟩: -100000000000000≤fl (-(a*b))∧fl (-(a*b))≤100000000000000:=by omega
   clear f1 f2
   cases up
   ·have r1:part1 a b false=told1 (fl (a*b)):=by simp[part1,ha,hb,prt]
    have r2:part2 a b false=told2 (fl (a*b)):=by simp[part2,ha,hb,prt]
    rw[r1,r2];clear r1 r2
    go_enter Tryz.func150,Tryz.ntmps150
    go_wp2_with (first|(go_at_call 140;refine(m9right_any _ _).mono ?_;rintro e w' ⟨rfl,rfl⟩)|(go_at_call 164;refine(m9within_any _ _ _ _).mono ?_;rintro e w' ⟨rfl,rfl⟩)|(go_at_call 168;refine(m9floor_any (a*b) (by omega) (by omega) w).mono ?_;rintro e w' ⟨rfl,rfl⟩)|(go_at_call 167;refine(m9checked_any _ _).mono ?_;rintro e w' ⟨rfl,rfl⟩))
    go_ret2
    exact⟨rfl,rfl⟩
   ·have r1:part1 a b true=told1 (-(fl (-(a*b)))):=by simp[part1,ha,hb,prt]
    have r2:part2 a b true=told2 (-(fl (-(a*b)))):=by simp[part2,ha,hb,prt]
    rw[r1,r2];clear r1 r2
    go_enter Tryz.func150,Tryz.ntmps150
    go_wp2_with (first|(go_at_call 140;refine(m9right_any _ _).mono ?_;rintro e w' ⟨rfl,rfl⟩)|(go_at_call 164;refine(m9within_any _ _ _ _).mono ?_;rintro e w' ⟨rfl,rfl⟩)|(go_at_call 168;refine(m9floor_any (-(a*b)) (by omega) (by omega) w).mono ?_;rintro e w' ⟨rfl,rfl⟩)|(go_at_call 167;refine(m9checked_any _ _).mono ?_;rintro e w' ⟨rfl,rfl⟩))
    go_ret2
    exact⟨rfl,rfl⟩
theorem ltake_nil(b D:Nat)(ov:Value)(nx st:Int)(w0 w:World)(hr:Rel w0 w)(h:Mh w w0.heap.size D b ov nx st []):
  Calls Tryz.prog 154 #[.pointer (some ⟨b,0,none⟩)] w fun r w'=>r= .returned (.tuple #[.agg #[.int .i64 0,.bool false],.int .i64 100])∧Rel w w':=ltake_none b D ov nx st w0 w hr h
theorem ltake_as(b D:Nat)(ov:Value)(nx st:Int)(S:List Ce)(t:Ce)(p:Int)(q:Bool)(hv:Hid (CV1 t= .agg #[.int .i64 p,.bool q]))(w0 w:World)(hr:Rel w0 w)(h:Mh w w0.heap.size D b ov nx st (S++[t])):
  Calls Tryz.prog 154 #[.pointer (some ⟨b,0,none⟩)] w fun r w'=>r= .returned (.tuple #[.agg #[.int .i64 p,.bool q],.int .i64 0])∧Mh w' w0.heap.size D b ov nx st S∧Rel w0 w'∧Kt b w w':=by
 rw[←hv.out];exact ltake_some b D ov nx st S t w0 w hr h
theorem take_last'{S T R:List Ce}{t:Ce}{er:Int}{F:Ms→Ce→Ms}(hm:Hid (F (takeM (R++[t],0)).2 (takeM (R++[t],0)).1=(T,er))):F (R,0) t=(T,er):=by
 have e:=hm.out
 rw[take_last] at e
 exact e
theorem lchange_any(fn:FuncId)(hfn:∀(args:Array Value) (w:World),(callFunc fn args).run Tryz.prog w= .ok (.enter fn args) w)(g:Nat)(cs:Array Value)(f:Int→Rs)(P E:Int→Int)(hPE:∀v,(E v=0∧f v= .ok (some (P v)))∨(E v≠0∧f v= .error (E v)))
  (HF:∀(v:Int) (w:World),Bk w g 140 cs→Calls Tryz.prog fn #[.int .i64 v,.pointer (some ⟨g,0,none⟩)] w fun r w'=>r= .returned (.tuple #[.int .i64 (P v),.int .i64 (E v)])∧w=w')
  (b D:Nat) (ov:Value) (nx st:Int) (S T:List Ce) (er:Int) (hm:Hid (minusM (takeM (S,0)).2 (takeM (S,0)).1 f=(T,er))) (w0 w:World) (hr:Rel w0 w) (h:Mh w w0.heap.size D b ov nx st S) (hg:Bk w g 140 cs) (hgb:g≠b):
  Calls Tryz.prog 146 #[.pointer (some ⟨b,0,none⟩),.func (.func fn) #[] #[.pointer (some ⟨g,0,none⟩)]] w (LP w0 b ov nx st w T er):=by
 have HR:=yH hr
 have HG:=yH hg
 clear hr hg
 rcases stack_ways S with rfl|⟨R,t,rfl⟩
 ·have HM:=yH h
  have hm:=hm.out
  rw[take_none] at hm
  have e0:minusM (([]:List Ce),(100:Int)) none f=([],100):=put_err (s:=([],100)) (by decide) none
  rw[show minusM (none,(([]:List Ce),(100:Int))).2 ((none:Ce),(([]:List Ce),(100:Int))).1 f=([],100) from e0] at hm
  injection hm with e1 e2
  subst e1 e2
  clear h
  go_enter Tryz.func146,Tryz.ntmps146
  go_wp2_with (go_at_call 154;(with_reducible refine(ltake_nil b D ov nx st w0 w HR.out HM.out).mono ?_);rintro e w1 ⟨rfl,h1⟩;have R1:=yH h1)
  go_ret
  exact LP.same HR.out HM.out (R1.out.alloc _) rfl (by decide)
 ·have HM:=yH h
  have hm:=take_last' (S:=R) (F:=fun s c=>minusM s c f) hm
  clear h
  cases t with
  |none=>
   have HP:=yH (show putM (R,0) none=(T,er) from hm)
   clear hm
   go_enter Tryz.func146,Tryz.ntmps146
   go_wp2_with (first
    |(go_at_call 154;(with_reducible refine(ltake_as b D ov nx st R none 0 false (yH rfl) w0 w HR.out HM.out).mono ?_);rintro e w1 ⟨rfl,m1,r1,k1⟩;have R1:=yH r1;have M1:=yH m1;have K1:=yH k1;clear r1 m1 k1)
    |(go_at_call 155;(with_reducible refine(lput_as b D ov nx st R T er none 0 false (yH rfl) HP w0 _ (R1.out.alloc _) (M1.out.rel (R1.out.self.alloc _))).mono ?_);rintro e w3 ⟨rfl,h3⟩))
   go_ret
   exact LP.back (Kr.trans (Kt.kr K1.out) (Kr.rel (R1.out.self.alloc _))) h3 rfl
  |some v=>
   have hf:=hPE v
   have HFv:=yH (HF v)
   generalize P v=p at*
   generalize E v=q at*
   clear HF
   rcases hf with ⟨rfl,hf⟩|⟨hq,hf⟩
   ·have HP:=yH (show putM (R,0) (some p)=(T,er) by rw[←hm];exact(minus_ok hf).symm)
    clear hm hf
    go_enter Tryz.func146,Tryz.ntmps146
    go_wp2_with (first
     |(go_at_call 154;(with_reducible refine(ltake_as b D ov nx st R (some v) v true (yH rfl) w0 w HR.out HM.out).mono ?_);rintro e w1 ⟨rfl,m1,r1,k1⟩;have R1:=yH r1;have M1:=yH m1;have K1:=yH k1;clear r1 m1 k1)
     |(go_at_call 155;(with_reducible refine(lput_as b D ov nx st R T er (some p) p true (yH rfl) HP w0 _ (R1.out.alloc _) (M1.out.rel (R1.out.self.alloc _))).mono ?_);rintro e w3 ⟨rfl,h3⟩)
     |((with_reducible refine(HFv.out _ ((K1.out.bk HG.out hgb).alloc _)).mono ?_);rintro e w2 ⟨rfl,rfl⟩))
    go_ret
    exact LP.back (Kr.trans (Kt.kr K1.out) (Kr.rel (R1.out.self.alloc _))) h3 rfl
   ·have hqb:(q==0)=false:=by simpa using hq
    have hqn:(q !=0)=true:=by simpa using hq
    have HP:=yH (show(R,q)=(T,er) by rw[←hm];exact(minus_bad hf).symm)
    clear hm hf
    go_enter Tryz.func146,Tryz.ntmps146
    go_wp2_with (first
     |(go_at_call 154;(with_reducible refine(ltake_as b D ov nx st R (some v) v true (yH rfl) w0 w HR.out HM.out).mono ?_);rintro e w1 ⟨rfl,m1,r1,k1⟩;have R1:=yH r1;have M1:=yH m1;have K1:=yH k1;clear r1 m1 k1)
     |((with_reducible refine(HFv.out _ ((K1.out.bk HG.out hgb).alloc _)).mono ?_);rintro e w2 ⟨rfl,rfl⟩))
    go_ret
    have e0:=HP.out
    injection e0 with e1 e2
    subst e1 e2
    exact⟨rfl,R1.out.alloc _,Kr.trans (Kt.kr K1.out) (Kr.rel (R1.out.self.alloc _)),D,_,M1.out.rel (R1.out.self.alloc _),fun _=>rfl⟩
theorem sub_ways(n v:Int):(two2 v n (v-n)=0∧subR v n= .ok (some (two1 v n (v-n))))∨(two2 v n (v-n)≠0∧subR v n= .error (two2 v n (v-n))):=by
 unfold subR
 by_cases h:two2 v n (v-n)=0
 ·exact .inl ⟨h,by rw[if_pos h]⟩
 ·exact .inr ⟨h,by rw[if_neg h]⟩
def cutP(n v:Int):Int:=if part2 v n false=0 then two1 v (part1 v n false) (v-part1 v n false) else 0
def cutE(n v:Int):Int:=if part2 v n false=0 then two2 v (part1 v n false) (v-part1 v n false) else part2 v n false
theorem cut_ways(n v:Int):(cutE n v=0∧cutR v n= .ok (some (cutP n v)))∨(cutE n v≠0∧cutR v n= .error (cutE n v)):=by
 unfold cutR cutE cutP
 by_cases h:part2 v n false=0
 ·rw[if_pos h,if_pos h,if_pos h];exact sub_ways _ _
 ·rw[if_neg h,if_neg h,if_neg h];exact .inr ⟨h,rfl⟩
theorem lless1_any(g:Nat)(o n:Int)(s:ByteArray)(v:Int)(w:World)(hg:Bk w g 140 #[.int .i64 o,.int .i64 n,.string s]):
  Calls Tryz.prog 147 #[.int .i64 v,.pointer (some ⟨g,0,none⟩)] w fun r w'=>r= .returned (.tuple #[.int .i64 (two1 v n (v-n)),.int .i64 (two2 v n (v-n))])∧w=w':=by
 have HS:=yH (m9sub_any v n w)
 generalize two1 v n (v-n)=p1 at*
 generalize two2 v n (v-n)=p2 at*
 unfold Two at HS
 obtain⟨⟨x0,x1,x2⟩,_⟩:=three_of hg
 clear hg
 go_enter Tryz.func147,Tryz.ntmps147
 go_wp2_with (go_at_call 148;(with_reducible refine HS.out.mono ?_);rintro e w1 ⟨rfl,rfl⟩)
 go_ret2
 exact⟨rfl,rfl⟩
theorem lcut1_any(g:Nat)(o n:Int)(s:ByteArray)(v:Int)(w:World)(hg:Bk w g 140 #[.int .i64 o,.int .i64 n,.string s]):
  Calls Tryz.prog 149 #[.int .i64 v,.pointer (some ⟨g,0,none⟩)] w fun r w'=>r= .returned (.tuple #[.int .i64 (cutP n v),.int .i64 (cutE n v)])∧w=w':=by
 have HP:=yH (m9part_any v n false w)
 unfold cutP cutE
 generalize part1 v n false=p1 at*
 obtain⟨⟨x0,x1,x2⟩,_⟩:=three_of hg
 clear hg
 by_cases h:part2 v n false=0
 ·rw[if_pos h,if_pos h]
  rw[h] at HP
  have HS:=yH (m9sub_any v p1 w)
  generalize two1 v p1 (v-p1)=t1 at*
  generalize two2 v p1 (v-p1)=t2 at*
  unfold Two at HS HP
  clear h
  go_enter Tryz.func149,Tryz.ntmps149
  go_wp2_with (first
   |(go_at_call 150;(with_reducible refine HP.out.mono ?_);rintro e w1 ⟨rfl,rfl⟩)
   |(go_at_call 148;(with_reducible refine HS.out.mono ?_);rintro e w1 ⟨rfl,rfl⟩))
  go_ret2
  exact⟨rfl,rfl⟩
 ·rw[if_neg h,if_neg h]
  generalize part2 v n false=p2 at*
  have hb:(p2==0)=false:=by simpa using h
  have hn:(p2 !=0)=true:=by simpa using h
  unfold Two at HP
  go_enter Tryz.func149,Tryz.ntmps149
  go_wp2_with (go_at_call 150;(with_reducible refine HP.out.mono ?_);rintro e w1 ⟨rfl,rfl⟩)
  go_ret2
  exact⟨rfl,rfl⟩
theorem lless_any(b D:Nat)(ov:Value)(nx st:Int)(S T:List Ce)(er:Int)(o n:Int)(s:ByteArray)(hm:Hid (minusM (takeM (S,0)).2 (takeM (S,0)).1 (fun v=>subR v n)=(T,er)))(w0 w:World)(hr:Rel w0 w)(h:Mh w w0.heap.size D b ov nx st S):
  Calls Tryz.prog 120 #[.pointer (some ⟨b,0,none⟩),.agg #[.int .i64 o,.int .i64 n,.string s]] w (LP w0 b ov nx st w T er):=by
 have hmf:∀(fn:Fn) (first cap:Array Value) (w:World),(Instr.makeFunc fn first cap).run Tryz.prog w= .ok (.func fn first cap) w:=fun _ _ _ _=>rfl
 have hlt:=h.lt
 have HA:=yH (hr.self.alloc (.cells #[.int .i64 o,.int .i64 n,.string s] 140))
 have HX:=yH (Bk.new w 140 #[.int .i64 o,.int .i64 n,.string s])
 have HC:=yH (lchange_any 147 (fun _ _=>rfl) w.heap.size #[.int .i64 o,.int .i64 n,.string s] (fun v=>subR v n) (fun v=>two1 v n (v-n)) (fun v=>two2 v n (v-n)) (sub_ways n) (fun v w' hg=>lless1_any w.heap.size o n s v w' hg) b D ov nx st S T er hm w0 _ (hr.trans HA.out) (h.rel HA.out) HX.out (by omega))
 obtain⟨W,hW⟩:∃W,w.alloc (.cells #[.int .i64 o,.int .i64 n,.string s] 140)=W:=⟨_,rfl⟩
 rw[hW] at HA HC
 clear hr h HX
 go_enter Tryz.func120,Tryz.ntmps120
 go_wp2_with (go_at_call 146;(with_reducible refine HC.out.mono ?_);rintro e w1 ⟨rfl,h1⟩)
 go_ret
 exact LP.back (Kr.rel HA.out) h1 rfl
theorem lcutop_any(b D:Nat)(ov:Value)(nx st:Int)(S T:List Ce)(er:Int)(o n:Int)(s:ByteArray)(hm:Hid (minusM (takeM (S,0)).2 (takeM (S,0)).1 (fun v=>cutR v n)=(T,er)))(w0 w:World)(hr:Rel w0 w)(h:Mh w w0.heap.size D b ov nx st S):
  Calls Tryz.prog 121 #[.pointer (some ⟨b,0,none⟩),.agg #[.int .i64 o,.int .i64 n,.string s]] w (LP w0 b ov nx st w T er):=by
 have hmf:∀(fn:Fn) (first cap:Array Value) (w:World),(Instr.makeFunc fn first cap).run Tryz.prog w= .ok (.func fn first cap) w:=fun _ _ _ _=>rfl
 have hlt:=h.lt
 have HA:=yH (hr.self.alloc (.cells #[.int .i64 o,.int .i64 n,.string s] 140))
 have HX:=yH (Bk.new w 140 #[.int .i64 o,.int .i64 n,.string s])
 have HC:=yH (lchange_any 149 (fun _ _=>rfl) w.heap.size #[.int .i64 o,.int .i64 n,.string s] (fun v=>cutR v n) (cutP n) (cutE n) (cut_ways n) (fun v w' hg=>lcut1_any w.heap.size o n s v w' hg) b D ov nx st S T er hm w0 _ (hr.trans HA.out) (h.rel HA.out) HX.out (by omega))
 obtain⟨W,hW⟩:∃W,w.alloc (.cells #[.int .i64 o,.int .i64 n,.string s] 140)=W:=⟨_,rfl⟩
 rw[hW] at HA HC
 clear hr h HX
 go_enter Tryz.func121,Tryz.ntmps121
 go_wp2_with (go_at_call 146;(with_reducible refine HC.out.mono ?_);rintro e w1 ⟨rfl,h1⟩)
 go_ret
 exact LP.back (Kr.rel HA.out) h1 rfl
end Go.Proofs.YtfekhbeaphpelaaGreatDoor
