/- Reading the document's own parse. -/

import Derived.Test.YtfekhbeaphpelaaGreatDoorY07
set_option maxRecDepth 100000
set_option maxHeartbeats 8000000
set_option linter.unusedVariables false
set_option linter.unusedSimpArgs false
namespace Go.Proofs.YtfekhbeaphpelaaGreatDoor
open Go.RowKit Go.Lib
theorem strat_R{ts ts2 ts3:List Tok}{x:Ex}{t:Tok}{e2 e3:Int}(hx:exprR 32 false (ts,0)=(x,(ts2,e2)))(ht:takeR 5 [] (ts2,e2)=(t,(ts3,e3))):(e3=0→stratT ts= .ok x)∧(e3≠0→stratT ts= .error (e3,atT ts3)):=by
 have hs:=expr_same 32 false ts
 rw[hx] at hs
 unfold stratT
 cases hr:exprT 32 false ts with
 |error E=>
  obtain⟨a,b,c⟩:=hs.er hr
  simp only at a c
  rw[takeR_bad (by rw[a];exact b)] at ht
  cases ht
  exact⟨fun h=>absurd (a.symm.trans h) b,fun _=>by rw[a,c]⟩
 |ok p=>
  obtain⟨x',ts'⟩:=p
  have e:=hs.ok_ hr
  cases e
  have h2:=take_same 5 [] ts2
  rw[ht] at h2
  cases hr2:takeT 5 [] ts2 with
  |error E=>
   obtain⟨a,b,c⟩:=h2.er hr2
   simp only at a c
   refine⟨fun h=>absurd (a.symm.trans h) b,fun _=> ?_⟩
   simp only
   rw[hr2,a,c]
  |ok p2=>
   obtain⟨t2,ts4⟩:=p2
   have e:=h2.ok_ hr2
   cases e
   refine⟨fun _=> ?_,fun h=>absurd rfl h⟩
   simp only
   rw[hr2]
theorem tok_ne{W:World}{b gT n:Nat}{a a' p q:Int}{s s':ByteArray}{x:Option Addr}{y z:Nat}(hB:Bk W b 52 #[yI a,yI a',.string s,.slice x y z])(h0:W.cell? ⟨gT,n,none⟩=some (yI p))(h1:W.cell? ⟨gT,n+1,none⟩=some (.string s'))(h2:W.cell? ⟨gT,n+2,none⟩=some (yI q)):gT≠b:=by
 rintro rfl
 rw[hB.cell] at h0 h1 h2
 match n,h0,h1,h2 with
 |0,_,h1,_=>simp at h1
 |1,_,_,h2=>simp at h2
 |2,h0,_,_=>simp at h0
 |n+3,_,h1,_=>simp at h1
theorem rparse_yes(E:∀V A c all,ExprS V A c all 32){s:ByteArray}(hs:s.size≤9223372036854775807)(ts:List Tok)(h2:s.data.toList.length≤2000)(h:lx 0 s.data.toList= .ok ts)(w0 w:World)(hr:Rel w0 w):
  Calls Tryz.prog 24 #[.string s] w (RParse (stratT ts) w0 w):=by
 have HR:=yH (hr.alloc (.cells #[yI 0,yI 0,.string ⟨#[]⟩,.slice none 0 0] 52))
 have hzw:=World.size_alloc w (.cells #[yI 0,yI 0,.string ⟨#[]⟩,.slice none 0 0] 52)
 have HRs:=yH hr.size
 have HN:=yH (Bk.new w 52 #[yI 0,yI 0,.string ⟨#[]⟩,.slice none 0 0])
 have HL:=yH (fun W hW=>rlex_yes hs ts h2 h (w.alloc (.cells #[yI 0,yI 0,.string ⟨#[]⟩,.slice none 0 0] 52)) W hW)
 have HFi:=yH (lex_fine h h2)
 obtain⟨⟨x,ts2,e2⟩,hx⟩:∃r,exprR 32 false (ts,0)=r:=⟨_,rfl⟩
 obtain⟨⟨t,ts3,e3⟩,ht⟩:∃r,takeR 5 [] (ts2,e2)=r:=⟨_,rfl⟩
 have HSR:=yH (strat_R hx ht)
 have HE:Hid (∀(V:World)(A:Option Addr)(c g:Nat)(W:World),StR V A c ts W g (ts,0)→Calls Tryz.prog 38 #[.pointer (some ⟨g,0,none⟩),yI 0,.bool false] W fun e w'=>∃v:El,e= .returned (EV v)∧ExAt (fun k=>W.heap.size≤k) w' v x∧StR V A c ts w' g (ts2,e2)∧W.grownBy w' (some g)):=yH (fun V A c g W hW=>by
  have:=E V A c ts false (ts,0) g W hW
  rw[hx] at this
  exact this)
 have HTk:Hid (∀(V:World)(A:Option Addr)(c g:Nat)(W:World),StR V A c ts W g (ts2,e2)→Calls Tryz.prog 39 #[.pointer (some ⟨g,0,none⟩),yI 5,.string ⟨#[]⟩] W fun e w'=>e= .returned (.agg #[yI t.1,.string (B t.2.1),yI t.2.2.1,yI t.2.2.2])∧StR V A c ts w' g (ts3,e3)∧W.grownBy w' (some g)):=yH (fun V A c g W hW=>by
  have:=rtake_any V A c ts g (ts2,e2) 5 [] ⟨#[]⟩ (yH rfl) W hW
  rw[ht] at this
  exact this)
 clear hx ht h E
 by_cases he:e3=0
 ·subst he
  rw[HSR.out.1 rfl]
  go_enter Tryz.func24,Tryz.ntmps24
  go_wp2_with (first
   |(go_at_call 37;(with_reducible refine(HL.out _ (Rel.self HR.out)).mono ?_);rintro e w1 ⟨A,c,rfl,h1,hT⟩;have hz1:=h1.size;have HT:=yH hT;have H1:=yH h1;have HN1:=yH (HN.out.rel h1);have HSt:=yH (show StR w1 A c ts (w1.alloc (.cells #[.slice A ts.length c,yI 0,yI 0] 76)) w1.heap.size (ts,0) from⟨0,(Rel.right h1).alloc _,Nat.le_refl _,hT,HFi.out,Bk.new w1 76 #[.slice A ts.length c,yI 0,yI 0],rfl,by have:=HFi.out.2.2;obtain⟨us,p,e⟩:=this;rw[e];simp⟩))
   |(go_at_call 38;(with_reducible refine(HE.out _ _ _ _ _ HSt.out).mono ?_);rintro e w3 ⟨v,rfl,ex,s3,g3⟩;have hz3:=g3.size;have hzs:=World.size_alloc w1 (.cells #[.slice A ts.length c,yI 0,yI 0] 76);have EX:=yH ex;have G3:=yH g3;have HN3:=yH (((HN1.out.alloc (.cells #[.slice A ts.length c,yI 0,yI 0] 76)).grown g3 (fun e=>by injection e;omega)).alloc (.cells #[yI v.1,yI v.2.1,.string (B v.2.2.1),.slice v.2.2.2.1 v.2.2.2.2.1 v.2.2.2.2.2] 52));have s4:=s3.rel ((show Rel w3 w3 from by obtain⟨_,a,_⟩:=s3;exact(Rel.right a)).alloc (.cells #[yI v.1,yI v.2.1,.string (B v.2.2.1),.slice v.2.2.2.1 v.2.2.2.2.1 v.2.2.2.2.2] 52));have S4:=yH s4;have HX:=yH (Bk.new w3 52 #[yI v.1,yI v.2.1,.string (B v.2.2.1),.slice v.2.2.2.1 v.2.2.2.2.1 v.2.2.2.2.2]))
   |(go_at_call 39;(with_reducible refine(HTk.out _ _ _ _ _ S4.out).mono ?_);rintro e w5 ⟨rfl,s5,g5⟩;have hz5:=g5.size;have hzx:=World.size_alloc w3 (.cells #[yI v.1,yI v.2.1,.string (B v.2.2.1),.slice v.2.2.2.1 v.2.2.2.2.1 v.2.2.2.2.2] 52);have S5:=yH s5;have G5:=yH g5;have e5:=s5.err;have HN5:=yH (HN3.out.grown g5 (fun e=>by injection e;omega));obtain⟨⟨r0,r1,r2,r3⟩,q0,q1,q2,q3⟩:=HN5.out.four;obtain⟨⟨x0,x1,x2,x3⟩,u0,u1,u2,u3⟩:=(HX.out.grown g5 (fun e=>by injection e;omega)).four))
  obtain⟨⟨y0,y1,y2,y3⟩,_⟩:=(HN5.out.put4 (yI v.1) (yI v.2.1) (.string (B v.2.2.1)) (.slice v.2.2.2.1 v.2.2.2.2.1 v.2.2.2.2.2)).four
  have gp:=put4_grown w5 w.heap.size (yI v.1) (yI v.2.1) (.string (B v.2.2.1)) (.slice v.2.2.2.1 v.2.2.2.2.1 v.2.2.2.2.2)
  have h0w:=HRs.out
  have R3:=((HR.out.trans H1.out).alloc (.cells #[.slice A ts.length c,yI 0,yI 0] 76)).grown G3.out (fun k e=>by cases e;omega)
  have R5:=(R3.alloc (.cells #[yI v.1,yI v.2.1,.string (B v.2.2.1),.slice v.2.2.2.1 v.2.2.2.2.1 v.2.2.2.2.2] 52)).grown G5.out (fun k e=>by cases e;omega)
  have ga:=grown_rel none (R3.self.alloc (.cells #[yI v.1,yI v.2.1,.string (B v.2.2.1),.slice v.2.2.2.1 v.2.2.2.2.1 v.2.2.2.2.2] 52))
  refine bodyPost_ret (v:= .tuple #[EV v,yI 0,yI 0]) (by simp[results,Tryz.results24,go_sem,y0,y1,y2,y3]) rfl ⟨put4_rel R5 HRs.out _ _ _ _,_,_,_,rfl,rfl,rfl, ?_⟩
  exact((EX.out.grown (S':=fun k=>w1.heap.size<k) ga (fun k hk=>⟨by omega,fun e=>by cases e⟩)).grown (S':=fun k=>w1.heap.size<k) G5.out (fun k hk=>⟨hk,fun e=>by injection e;omega⟩)).grown gp (fun k hk=>⟨by omega,fun e=>by injection e;omega⟩)
 ·have he':(e3==0)=false:=by simpa using he
  rw[HSR.out.2 he]
  obtain⟨pl,hpl⟩:∃pl,atT ts3=pl:=⟨_,rfl⟩
  rw[hpl]
  have HPl:=yH hpl
  clear he hpl
  go_enter Tryz.func24,Tryz.ntmps24
  go_wp2_with (first
   |(go_at_call 37;(with_reducible refine(HL.out _ (Rel.self HR.out)).mono ?_);rintro e w1 ⟨A,c,rfl,h1,hT⟩;have hz1:=h1.size;have HT:=yH hT;have H1:=yH h1;have HN1:=yH (HN.out.rel h1);have HSt:=yH (show StR w1 A c ts (w1.alloc (.cells #[.slice A ts.length c,yI 0,yI 0] 76)) w1.heap.size (ts,0) from⟨0,(Rel.right h1).alloc _,Nat.le_refl _,hT,HFi.out,Bk.new w1 76 #[.slice A ts.length c,yI 0,yI 0],rfl,by have:=HFi.out.2.2;obtain⟨us,p,e⟩:=this;rw[e];simp⟩))
   |(go_at_call 38;(with_reducible refine(HE.out _ _ _ _ _ HSt.out).mono ?_);rintro e w3 ⟨v,rfl,ex,s3,g3⟩;have hz3:=g3.size;have hzs:=World.size_alloc w1 (.cells #[.slice A ts.length c,yI 0,yI 0] 76);have EX:=yH ex;have G3:=yH g3;have HN3:=yH (((HN1.out.alloc (.cells #[.slice A ts.length c,yI 0,yI 0] 76)).grown g3 (fun e=>by injection e;omega)).alloc (.cells #[yI v.1,yI v.2.1,.string (B v.2.2.1),.slice v.2.2.2.1 v.2.2.2.2.1 v.2.2.2.2.2] 52));have s4:=s3.rel ((show Rel w3 w3 from by obtain⟨_,a,_⟩:=s3;exact(Rel.right a)).alloc (.cells #[yI v.1,yI v.2.1,.string (B v.2.2.1),.slice v.2.2.2.1 v.2.2.2.2.1 v.2.2.2.2.2] 52));have S4:=yH s4;have HX:=yH (Bk.new w3 52 #[yI v.1,yI v.2.1,.string (B v.2.2.1),.slice v.2.2.2.1 v.2.2.2.2.1 v.2.2.2.2.2]))
   |(go_at_call 39;(with_reducible refine(HTk.out _ _ _ _ _ S4.out).mono ?_);rintro e w5 ⟨rfl,s5,g5⟩;have hz5:=g5.size;have hzx:=World.size_alloc w3 (.cells #[yI v.1,yI v.2.1,.string (B v.2.2.1),.slice v.2.2.2.1 v.2.2.2.2.1 v.2.2.2.2.2] 52);have S5:=yH s5;have G5:=yH g5;have e5:=s5.err;have HN5:=yH (HN3.out.grown g5 (fun e=>by injection e;omega));obtain⟨⟨r0,r1,r2,r3⟩,q0,q1,q2,q3⟩:=HN5.out.four;obtain⟨⟨x0,x1,x2,x3⟩,u0,u1,u2,u3⟩:=(HX.out.grown g5 (fun e=>by injection e;omega)).four))
  have h0w:=HRs.out
  have R3:=((HR.out.trans H1.out).alloc (.cells #[.slice A ts.length c,yI 0,yI 0] 76)).grown G3.out (fun k e=>by cases e;omega)
  have HR5:=yH ((R3.alloc (.cells #[yI v.1,yI v.2.1,.string (B v.2.2.1),.slice v.2.2.2.1 v.2.2.2.2.1 v.2.2.2.2.2] 52)).grown G5.out (fun k e=>by cases e;omega))
  clear R3
  obtain⟨j3,k1,k2,k3,k4,k5,k6,k7⟩:=S5.out
  have HB3:=yH k5
  obtain⟨gT,off,rfl,hb,a0,a1,a2,a3⟩:=(k3.rel k1) j3 k7
  have hj3:ts[j3].2.2.2=pl:=by
   rw[←HPl.out];unfold atT;simp only at k6;rw[k6,hd_drop k7]
  rw[hj3] at a3
  have hne:=tok_ne HN5.out a0 a1 a2
  have HTc:=yH a3
  have HG5d:=yH (grown_rel (some w.heap.size) HR5.out.self.drew)
  have hz0:gT<w5.heap.size:=by have:=k1.size;omega
  have HTp:=yH (show((((w5.drew.setCell ⟨w.heap.size,0,none⟩ (yI 0)).setCell ⟨w.heap.size,1,none⟩ (yI 0)).setCell ⟨w.heap.size,2,none⟩ (.string ⟨#[]⟩)).setCell ⟨w.heap.size,3,none⟩ (.slice none 0 0)).cell? ⟨gT,off+j3*4+3,none⟩=some (yI pl) from
   (World.cell?_of_block ((put4_grown w5.drew w.heap.size _ _ _ _).block gT hz0 (fun e=>hne (by injection e)))).trans a3)
  clear k1 k2 k3 k4 k5 k6
  refine wp_region_held_drew (S:=(fun w'=>w5.grownBy w' (some w.heap.size)∧w'.cell? ⟨gT,off+j3*4+3,none⟩=some (yI pl))) (by kernel_rfl) ⟨HG5d.out,HTc.out⟩ (fun hH=> ?_)
  refine yL [0,1,2,3,4,5,6,7,8,9,10,11,12] (by kernel_rfl) hH (fun _ _ _ _ _=>id) ?_
  iterate 13
   refine yS rfl rfl (by rfl) ?_ ?_ ?_
   rotate_left
   ·intro w' h;obtain⟨h,ht⟩:=h;obtain⟨⟨x0,x1,x2⟩,_⟩:=(HB3.out.grown h (fun e=>by injection e;omega)).three;go_simp;try with_reducible rfl
   try simp only[Act.put,yA,yB,yC]
  refine yZ ?_
  refine held_one (j:=13) (by kernel_rfl) rfl (fun K hK=> ?_)
  try simp only[yD,yE,yF]
  rw[if_pos (by rfl)]
  go_simp
  refine hK.out _ _ ⟨grown_trans hH.1 (put4_grown _ _ _ _ _ _),HTp.out⟩ (fun hH=> ?_)
  clear hK K
  try simp only[Act.put,yA,yB,yC]
  refine yL [14,15] (by kernel_rfl) hH (fun _ _ _ _ _=>id) ?_
  iterate 2
   refine yS rfl rfl (by rfl) ?_ ?_ ?_
   rotate_left
   ·intro w' h;obtain⟨h,ht⟩:=h;obtain⟨⟨x0,x1,x2⟩,_⟩:=(HB3.out.grown h (fun e=>by injection e;omega)).three;go_simp;try with_reducible rfl
   try simp only[Act.put,yA,yB,yC]
  refine yZ ?_
  refine wpAnyH_done (by kernel_rfl) ?_ _
  go_wp2_with (fail)
  obtain⟨⟨y0,y1,y2,y3⟩,_⟩:=(HN5.out.put4 (yI 0) (yI 0) (.string ⟨#[]⟩) (.slice none 0 0)).four
  refine bodyPost_ret (v:= .tuple #[EV (0,0,[],none,0,0),yI e3,yI pl]) (by simp[results,Tryz.results24,go_sem,y0,y1,y2,y3];rfl) rfl ⟨(put4_rel HR5.out HRs.out _ _ _ _).drew,_,_,_,rfl,rfl,rfl,rfl⟩
theorem kindT_bd(c:Bool)(t:Tok):0≤kindT c t∧kindT c t≤12:=by
 unfold kindT
 split
 ·exact⟨by decide,by decide⟩
 ·split
  ·unfold kindW
   cases hf:([1,2,3,4,5,6,7,8,9,10,11,12]:List Int).find? fun k=>wordK k==t.2.1&&isCond k==c with
   |none=>exact⟨by decide,by decide⟩
   |some k=>
    have hm:=List.mem_of_find?_eq_some hf
    have:=(by decide:∀k∈([1,2,3,4,5,6,7,8,9,10,11,12]:List Int),0≤k∧k≤12) k hm
    simpa using this
  ·exact⟨by decide,by decide⟩
theorem rexpr_all(V:World)(A:Option Addr)(c:Nat)(all:List Tok):∀d,d≤32→ExprS V A c all d
 |0,_=>rexpr_zero V A c all
 |d+1,hd=>fun cb s g w h=>by
  have E:=rexpr_all V A c all d (by omega)
  obtain⟨ts,e⟩:=s
  by_cases h0:e≠0∨kindT cb (hdT ts)=0
  ·exact rexpr_stop V A c all d hd cb (ts,e) g w h h0
  ·have he:e=0:=by
    by_cases he:e=0
    ·exact he
    ·exact absurd (.inl he) h0
   subst he
   have hk:kindT cb (hdT ts)≠0:=fun hk=>h0 (.inr hk)
   have hb:=kindT_bd cb (hdT ts)
   by_cases h4:kindT cb (hdT ts)=4
   ·exact rexpr_money V A c all d hd cb ts g w h h4
   ·by_cases h12:kindT cb (hdT ts)=1∨kindT cb (hdT ts)=2
    ·exact rexpr_leaf V A c all d hd cb ts g w h h12
    ·exact rexpr_call V A c all d hd E cb ts g w h _ rfl (by omega) hb.2 h4
theorem rparse8_any(s:ByteArray)(hs:s.size≤9223372036854775807)(w0 w:World)(hr:Rel w0 w):
  Calls Tryz.prog 24 #[.string s] w (RParse (parseS s.data.toList) w0 w):=by
 unfold parseS
 split
 ·rename_i h
  exact rparse_no hs 60 2000 rfl (.inl ⟨h,rfl,rfl⟩) w0 w hr
 ·rename_i h
  have h2:s.data.toList.length≤2000:=by omega
  cases hx:lx 0 s.data.toList with
  |error k=>exact rparse_no hs 61 (k:Int) rfl (.inr ⟨h2,k,hx,rfl,rfl⟩) w0 w hr
  |ok ts=>exact rparse_yes (fun V A c all=>rexpr_all V A c all 32 (by omega)) hs ts h2 hx w0 w hr
theorem rparse_ok(s:ByteArray)(x:Ex)(hx:Hid (parseS s.data.toList= .ok x))(hs:s.size≤9223372036854775807)(w0 w:World)(hr:Rel w0 w):
  Calls Tryz.prog 24 #[.string s] w fun e w'=>∃v:El,e= .returned (.tuple #[EV v,yI 0,yI 0])∧ExAt (fun k=>w.heap.size≤k) w' v x∧Rel w0 w':=by
 have:=rparse8_any s hs w0 w hr
 rw[hx.out] at this
 refine this.mono ?_
 rintro e w' ⟨h1,v,cd,pl,rfl,rfl,rfl,h2⟩
 exact⟨v,rfl,h2,h1⟩
theorem rparse_bad(s:ByteArray)(cd pl:Int)(hx:Hid (parseS s.data.toList= .error (cd,pl)))(hs:s.size≤9223372036854775807)(w0 w:World)(hr:Rel w0 w):
  Calls Tryz.prog 24 #[.string s] w fun e w'=>e= .returned (.tuple #[.agg #[yI 0,yI 0,.string ⟨#[]⟩,.slice none 0 0],yI cd,yI pl])∧Rel w0 w':=by
 have:=rparse8_any s hs w0 w hr
 rw[hx.out] at this
 refine this.mono ?_
 rintro e w' ⟨h1,v,cd',pl',rfl,rfl,rfl,rfl⟩
 exact⟨rfl,h1⟩
def cells2(o:Of):List Value:=[.string (B o.1),yI o.2]
def cellsO(os:List Of):List Value:=os.flatMap cells2
theorem cellsO_cons(o:Of)(t:List Of):cellsO (o::t)=cells2 o++cellsO t:=rfl
theorem cellsO_snoc(os:List Of)(o:Of):cellsO (os++[o])=cellsO os++cells2 o:=by simp[cellsO]
theorem cellsO_at(os:List Of)(i:Nat)(h:i<os.length):(cellsO os)[i*2]?=some (.string (B os[i].1))∧(cellsO os)[i*2+1]?=some (yI os[i].2):=by
 induction os generalizing i with
 |nil=>simp at h
 |cons e t ih=>
  rw[cellsO_cons]
  cases i with
  |zero=>exact⟨rfl,rfl⟩
  |succ i=>
   obtain⟨h1,h2⟩:=ih i (by simpa using h)
   have l2:(cells2 e).length=2:=rfl
   refine⟨?_, ?_⟩
   ·rw[List.getElem?_append_right (by omega),show(i+1)*2-(cells2 e).length=i*2 by omega];exact h1
   ·rw[List.getElem?_append_right (by omega),show(i+1)*2+1-(cells2 e).length=i*2+1 by omega];exact h2
def OffsAt(w:World)(A:Option Addr)(os:List Of):Prop:=
 ∀i (h:i<os.length),∃(g off:Nat),A=some ⟨g,off,none⟩∧g<w.heap.size∧w.cell? ⟨g,off+i*2,none⟩=some (.string (B os[i].1))∧w.cell? ⟨g,off+i*2+1,none⟩=some (yI os[i].2)
theorem OffsAt.nil(w:World)(A:Option Addr):OffsAt w A []:=fun i h=>absurd h (by simp)
theorem OffsAt.below{w w':World}{A:Option Addr}{os:List Of}(h:OffsAt w A os)(hb:Below w.heap.size w w'):OffsAt w' A os:=by
 intro i hi
 obtain⟨g,off,e,hl,h0,h1⟩:=h i hi
 have hk:∀j,w'.cell? ⟨g,j,none⟩=w.cell? ⟨g,j,none⟩:=fun j=>hb.cell (p:=⟨g,j,none⟩) hl
 exact⟨g,off,e,by have:=hb.size;omega,by rw[hk];exact h0,by rw[hk];exact h1⟩
theorem OffsAt.rel{w w':World}{A:Option Addr}{os:List Of}(h:OffsAt w A os)(hr:Rel w w'):OffsAt w' A os:=h.below hr.2
theorem OffsAt.take{w:World}{A:Option Addr}{os:List Of}(h:OffsAt w A os)(k:Nat):OffsAt w A (os.take k):=by
 intro i hi
 rw[List.length_take] at hi
 obtain⟨g,off,e,hl,h0,h1⟩:=h i (by omega)
 refine⟨g,off,e,hl, ?_, ?_⟩
 ·rw[List.getElem_take];exact h0
 ·rw[List.getElem_take];exact h1
theorem OffsAt.of_bk{w:World}{g:Nat}{os:List Of}(h:Bk w g 46 (cellsO os).toArray):OffsAt w (some ⟨g,0,none⟩) os:=by
 intro i hi
 obtain⟨c0,c1⟩:=cellsO_at os i hi
 refine⟨g,0,rfl,h.lt, ?_, ?_⟩
 ·rw[Nat.zero_add,h.cell,List.getElem?_toArray];exact c0
 ·rw[Nat.zero_add,h.cell,List.getElem?_toArray];exact c1
def OffsFit(os:List Of):Prop:=∀o∈os,o.1.length≤9223372036854775807∧i64 o.2
def OffArg(w:World)(A:Option Addr)(c:Nat)(os:List Of):Prop:=os.length≤c∧c≤maxLen∧OffsFit os∧OffsAt w A os
theorem OffArg.rel{w w':World}{A:Option Addr}{c:Nat}{os:List Of}(h:OffArg w A c os)(hr:Rel w w'):OffArg w' A c os:=⟨h.1,h.2.1,h.2.2.1,h.2.2.2.rel hr⟩
theorem offArg_nil(w:World):OffArg w none 0 []:=⟨Nat.le_refl _,Nat.zero_le _,fun o h=>(by cases h),OffsAt.nil _ _⟩
theorem offs_fit{l:List Of}(h:offsOk l=true):OffsFit l:=fun o ho=>by
 obtain⟨i,hi,rfl⟩:=List.mem_iff_getElem.1 ho
 have:=((offs_iff.1 h).2 i hi).1
 unfold offOk at this
 simp only[Bool.and_eq_true,decide_eq_true_eq] at this
 have hn:=(name_parts this.1).2.2.1
 exact⟨by omega,by omega,by omega⟩
def OffOwn(w:World)(base:Nat)(v:Value)(os:List Of):Prop:=w.ownsRow base 46 2 v os.length (cellsO os)
theorem OffOwn.nil(w:World)(base:Nat):OffOwn w base (.slice none 0 0) []:=World.ownsRow_nil _ _ _ _
theorem OffOwn.rel{w w':World}{base:Nat}{v:Value}{os:List Of}(h:OffOwn w base v os)(hr:Rel w w'):OffOwn w' base v os:=own_rel h hr
theorem OffOwn.offs{w:World}{base:Nat}{A:Option Addr}{n c:Nat}{os:List Of}(h:OffOwn w base (.slice A n c) os)(hn:n=os.length):OffsAt w A os:=by
 intro i hi
 have h:w.ownsRow base 46 2 (.slice A n c) os.length (cellsO os):=h
 rcases h.2 with ⟨h0,h1⟩|⟨g,cap,cur,hv,hb,hh,_⟩
 ·omega
 ·have hA:A=some ⟨g,0,none⟩:=by injection hv
  obtain⟨c0,c1⟩:=cellsO_at os i hi
  have hc:=h.cells (g:=g) (by rw[hA];rfl)
  have q0:=hc _ _ c0
  have q1:=hc _ _ c1
  rw[addr_at] at q0 q1
  refine⟨g,0,hA,Bk.lt (t:=46) hh, ?_, ?_⟩
  ·exact q0
  ·rw[Nat.add_assoc];exact q1
theorem OffOwn.more{w1:World}{base g cap:Nat}{os:List Of}{o:Of}
  (hown1:w1.ownsRow base 46 2 (.slice (some ⟨g,0,none⟩) (os.length+1) cap) (os.length+1) (cellsO os++cells2 o)):OffOwn w1 base (.slice (some ⟨g,0,none⟩) (os.length+1) cap) (os++[o]):=by
 unfold OffOwn
 rw[cellsO_snoc,show(os++[o]).length=os.length+1 by simp];exact hown1
theorem off_info:(Tryz.prog.info? 46).map (fun i=>(i.zero,i.size,i.bytes))=some (some (.agg #[.string ⟨#[]⟩,yI 0]),2,24):=by kernel_rfl
theorem cells2_one(o:Of):∀u∈cells2 o,u.oneCell'=true:=by
 intro u hu
 simp only[cells2,List.mem_cons,List.not_mem_nil,or_false] at hu
 rcases hu with rfl|rfl<;>rfl
theorem offs_at{w wr:World}{A:Option Addr}{os:List Of}(h:OffsAt w A os)(hr:Rel w wr)(j:Nat)(hj:j<os.length):
  ∃(g off:Nat)(s:List UInt8)(p:Int),A=some ⟨g,off,none⟩∧wr.cell? ⟨g,off+j*2,none⟩=some (.string (B s))∧wr.cell? ⟨g,off+j*2+1,none⟩=some (yI p)∧os[j]=(s,p):=by
 obtain⟨g,off,e,_,h0,h1⟩:=(h.rel hr) j hj
 exact⟨g,off,os[j].1,os[j].2,e,h0,h1,rfl⟩
theorem price_at(os:List Of)(j:Nat)(hj:j<os.length):(prices os)[j]?=some os[j].2:=by
 unfold prices;rw[List.getElem?_map,List.getElem?_eq_getElem hj];rfl
theorem ah_step{os:List Of}{v:Int}{i j:Nat}(hj:j<os.length){p:Int}(hp:os[j].2=p)(b:Nat)(h:Hid ((if p<v∨p=v∧j<i then 1 else 0)=b)):ah (prices os) v i (j+1)=ah (prices os) v i j+b:=by
 rw[ah,price_at os j hj,hp]
 simp only
 rw[h.out]
theorem ret_ib{a a':Int}{b b':Bool}(h:a=a')(h':b=b'):Ending.returned (.tuple #[yI a,.bool b])= .returned (.tuple #[yI a',.bool b']):=by rw[h,h']
theorem rrank_any(A:Option Addr)(c:Nat)(os:List Of)(n:Nat)(hn:n≤100)(w0 w:World)(hr:Rel w0 w)(h:OffArg w A c os):
  Calls Tryz.prog 67 #[.slice A os.length c,yI (n:Int)] w fun e w'=>e= .returned (.tuple #[yI ((rk os n).getD 0),.bool (rk os n).isSome])∧Rel w0 w':=by
 have HR:=yH hr
 have HS:=yH hr.self
 have HA:=yH h.2.2.2
 have hl:os.length≤9223372036854775807:=by have:=h.1;have:=h.2.1;unfold maxLen at this;omega
 clear h hr
 go_enter Tryz.func67,Tryz.ntmps67
 go_wp2_with (fail)
 go_loopw [6] (fun i wr=>∃j:Nat,j≤os.length∧i=yI (j:Int)∧Hid (∀k (hk:k<os.length),k<j→ah (prices os) os[k].2 k os.length≠n)∧Rel w wr) (fun i _=>os.length-(RowKit.intOf i).toNat)
 case atStart=>exact⟨0,by omega,rfl,yH (fun k _ hk=>absurd hk (by omega)),HS.out⟩
 case round=>
  obtain⟨i,hi,rfl,HN,hRw⟩:=hrel
  have HRw:=yH hRw
  by_cases hlt:i<os.length
  ·obtain⟨g,off,s,v,rfl,c0,c1,ho⟩:=offs_at HA.out hRw i hlt
   have HO:=yH ho
   have HP:=yH (show os[i].2=v by rw[ho])
   obtain⟨wo,hwo⟩:∃wo,wo=wr:=⟨_,rfl⟩
   subst hwo
   clear ho c0
   go_wp2_with (fail)
   go_loopw [7,8] (fun a k wr=>∃(j m:Nat),j≤os.length∧m≤j∧k=yI (j:Int)∧a=yI (m:Int)∧Hid (ah (prices os) v i j=m)∧Rel wo wr) (fun _ k _=>os.length-(RowKit.intOf k).toNat)
   case atStart=>exact⟨0,0,by omega,by omega,rfl,rfl,yH rfl,HRw.out.self⟩
   case round=>
    obtain⟨j,m,hj,hm,rfl,rfl,HM,hRi⟩:=hrel
    have HRi:=yH hRi
    by_cases hlt2:j<os.length
    ·obtain⟨g',off',s',p,e,d0,d1,ho2⟩:=offs_at HA.out (HRw.out.trans hRi) j hlt2
     injection e with e
     injection e with e1 e2
     subst e1
     subst e2
     have c1':=(hRi.2.cell (p:=⟨g,off+i*2+1,none⟩) (blk_of_cell c1)).trans c1
     have HP2:=yH (show os[j].2=p by rw[ho2])
     clear ho2 d0 hRi
     have q:p<v∨(p=v∧j<i)∨(p=v∧ ¬j<i)∨v<p:=by omega
     rcases q with q|q|q|q
     ·have t1:decide (p<v)=true:=decide_eq_true q
      have HX:=yH (ah_step (v:=v) (i:=i) hlt2 HP2.out 1 (yH (if_pos (.inl q))))
      clear q
      go_wp2_with (fail)
      go_quiet (fail)
      go_wp2_with (fail)
      go_roundw
      case rel=>exact⟨j+1,m+1,by omega,by omega,by go_num,by go_num,yH (by rw[HX.out,HM.out]),HRi.out.drewN _⟩
      case measure=>simp[RowKit.intOf];omega
     ·have t1:decide (p<v)=false:=decide_eq_false (by omega)
      have t2:(p==v)=true:=by simpa using q.1
      have t3:decide ((j:Int)<(i:Int))=true:=decide_eq_true (by omega)
      have t4:j<i:=q.2
      have HX:=yH (ah_step (v:=v) (i:=i) hlt2 HP2.out 1 (yH (if_pos (.inr q))))
      clear q
      go_wp2_with (fail)
      go_quiet (fail)
      go_wp2_with (fail)
      go_roundw
      case rel=>exact⟨j+1,m+1,by omega,by omega,by go_num,by go_num,yH (by rw[HX.out,HM.out]),HRi.out.drewN _⟩
      case measure=>simp[RowKit.intOf];omega
     ·have t1:decide (p<v)=false:=decide_eq_false (by omega)
      have t2:(p==v)=true:=by simpa using q.1
      have t3:decide ((j:Int)<(i:Int))=false:=decide_eq_false (by omega)
      have t4: ¬j<i:=q.2
      have HX:=yH (ah_step (v:=v) (i:=i) hlt2 HP2.out 0 (yH (if_neg (by omega))))
      clear q
      go_wp2_with (fail)
      go_quiet (fail)
      go_wp2_with (fail)
      go_roundw
      case rel=>exact⟨j+1,m,by omega,by omega,by go_num,rfl,yH (by rw[HX.out,HM.out,Nat.add_zero]),HRi.out.drewN _⟩
      case measure=>simp[RowKit.intOf];omega
     ·have t1:decide (p<v)=false:=decide_eq_false (by omega)
      have t2:(p==v)=false:=by simp;omega
      have HX:=yH (ah_step (v:=v) (i:=i) hlt2 HP2.out 0 (yH (if_neg (by omega))))
      clear q
      go_wp2_with (fail)
      go_quiet (fail)
      go_wp2_with (fail)
      go_roundw
      case rel=>exact⟨j+1,m,by omega,by omega,by go_num,rfl,yH (by rw[HX.out,HM.out,Nat.add_zero]),HRi.out.drewN _⟩
      case measure=>simp[RowKit.intOf];omega
    ·obtain rfl:j=os.length:=by omega
     have c1':=(hRi.2.cell (p:=⟨g,off+i*2+1,none⟩) (blk_of_cell c1)).trans c1
     have hml:(m:Int)≤9223372036854775807:=by omega
     by_cases he:m=n
     ·have t1:((m:Int)==(n:Int))=true:=by simp[he]
      have HF:=yH (show rk os n=some v by
          have:=ah_hit (l:=prices os) (i:=i) (n:=n) (by rw[prices_len];exact hlt) (by
           have e:(prices os)[i]'(by rw[prices_len];exact hlt)=v:=by unfold prices;rw[List.getElem_map];exact HP.out
           rw[e,prices_len,HM.out,he])
          have e:(prices os)[i]'(by rw[prices_len];exact hlt)=v:=by unfold prices;rw[List.getElem_map];exact HP.out
          rw[e] at this;exact this)
      clear he
      go_wp2_with (fail)
      go_ret2
      exact⟨ret_ib (by rw[HF.out];rfl) (by rw[HF.out];rfl),(HR.out.trans HRw.out).trans HRi.out⟩
     ·have t1:((m:Int)==(n:Int))=false:=by simp;omega
      have HN2:Hid (∀k (hk:k<os.length),k<i+1→ah (prices os) os[k].2 k os.length≠n):=yH (fun k hk hki=>by
          by_cases e:k=i
          ·subst e;rw[HP.out,HM.out];exact he
          ·exact HN.out k hk (by omega))
      clear he
      go_wp2_with (fail)
      go_roundw
      case rel=>exact⟨i+1,by omega,by go_num,HN2,HRw.out.trans HRi.out⟩
      case measure=>simp[RowKit.intOf];omega
  ·obtain rfl:i=os.length:=by omega
   have HF:=yH (show rk os n=none from ah_miss (fun k hk=>by
    have hk':k<os.length:=by rw[prices_len] at hk;exact hk
    have:=HN.out k hk' hk'
    have e:(prices os)[k]=os[k].2:=List.getElem_map ..
    rw[e,prices_len];exact this))
   go_wp2_with (fail)
   go_ret2
   exact⟨ret_ib (by rw[HF.out];rfl) (by rw[HF.out];rfl),HR.out.trans HRw.out⟩
theorem offsTo_step{os:List Of}{i:Nat}(hi:i<os.length)(h:offsTo os i=true)(h1:offOk os[i]=true)(h2:∀k (hk:k<os.length),k<i→os[k].1≠os[i].1):offsTo os (i+1)=true:=by
 rw[offsTo_iff (by omega)] at h⊢
 intro j hj hji
 by_cases e:j=i
 ·subst e;exact⟨h1,h2⟩
 ·exact h j hj (by omega)
theorem offs_bad{os:List Of}{i:Nat}(hi:i<os.length)(h:offOk os[i]=false∨∃k,∃hk:k<os.length,k<i∧os[k].1=os[i].1):offsOk os=false:=by
 cases e:offsOk os
 ·rfl
 ·obtain⟨_,h2⟩:=offs_iff.1 e
  obtain⟨h3,h4⟩:=h2 i hi
  rcases h with h|⟨k,hk,hki,he⟩
  ·rw[h3] at h;cases h
  ·exact absurd he (h4 k hk hki)
theorem offs_many{os:List Of}(h:8<os.length):offsOk os=false:=by
 cases e:offsOk os
 ·rfl
 ·have:=(offs_iff.1 e).1;omega
theorem offs_full{os:List Of}(h:os.length≤8)(h2:offsTo os os.length=true):offsOk os=true:=by
 unfold offsOk;rw[h2];simp[h]
theorem offOk_mk{o:Of}{s:List UInt8}{p:Int}(h:o=(s,p))(b:Bool)(hb:(isName s&&decide (1≤p∧p≤1000000000000))=b):offOk o=b:=by subst h;exact hb
theorem rright9_any(A:Option Addr)(c:Nat)(os:List Of)(w0 w:World)(hr:Rel w0 w)(h:OffArg w A c os):
  Calls Tryz.prog 47 #[.slice A os.length c] w fun e w'=>e= .returned (.bool (offsOk os))∧Rel w0 w':=by
 have HR:=yH hr
 have HS:=yH hr.self
 have HA:=yH h.2.2.2
 have HF:=yH h.2.2.1
 have hl:os.length≤9223372036854775807:=by have:=h.1;have:=h.2.1;unfold maxLen at this;omega
 clear h hr
 by_cases h8:8<os.length
 ·have HB:=yH (offs_many h8)
  have t1:decide ((8:Int)<(os.length:Int))=true:=decide_eq_true (by omega)
  go_enter Tryz.func47,Tryz.ntmps47
  go_wp2_with (fail)
  go_ret
  exact⟨ret_bool HB.out.symm,HR.out⟩
 have t1:decide ((8:Int)<(os.length:Int))=false:=decide_eq_false (by omega)
 go_enter Tryz.func47,Tryz.ntmps47
 go_wp2_with (fail)
 go_loopw [3] (fun i wr=>∃j:Nat,j≤os.length∧i=yI (j:Int)∧Hid (offsTo os j=true)∧Rel w wr) (fun i _=>os.length-(RowKit.intOf i).toNat)
 case atStart=>exact⟨0,by omega,rfl,yH rfl,HS.out⟩
 case round=>
  obtain⟨i,hi,rfl,HN,hRw⟩:=hrel
  have HRw:=yH hRw
  by_cases hlt:i<os.length
  ·obtain⟨g,off,s,p,rfl,c0,c1,ho⟩:=offs_at HA.out hRw i hlt
   have hs:s.length≤9223372036854775807:=by have:=(HF.out _ (List.getElem_mem hlt)).1;rw[ho] at this;exact this
   have HO:=yH ho
   obtain⟨X,hX⟩:∃X,B s=X:=⟨_,rfl⟩
   obtain⟨b,hb⟩:∃b,isName s=b:=⟨_,rfl⟩
   have hC:=fun(w0 w:World)(hr:Rel w0 w)=>rname_list s (by omega) w0 w hr
   rw[hX,hb] at hC
   rw[hX] at c0
   have HC:=yH hC
   have HX:=yH hX
   have HBn:=yH hb
   clear ho hC hX hb
   cases b with
   |false=>
    have HB:=yH (offs_bad hlt (.inl (offOk_mk HO.out false (by rw[HBn.out];rfl))))
    go_wp2_with (go_at_call 62;(with_reducible refine(HC.out _ _ HRw.out.self).mono ?_);rintro e w1 ⟨rfl,h1⟩)
    go_ret
    exact⟨ret_bool HB.out.symm,(HR.out.trans HRw.out).trans h1⟩
   |true=>
    by_cases p1:p<1
    ·have t2:decide (p<1)=true:=decide_eq_true p1
     have HB:=yH (offs_bad hlt (.inl (offOk_mk HO.out false (by rw[HBn.out];simp;omega))))
     go_wp2_with (go_at_call 62;(with_reducible refine(HC.out _ _ HRw.out.self).mono ?_);rintro e w1 ⟨rfl,h1⟩;have c1:=(h1.2.cell (p:=⟨g,off+i*2+1,none⟩) (blk_of_cell c1)).trans c1)
     go_ret
     exact⟨ret_bool HB.out.symm,(HR.out.trans HRw.out).trans h1⟩
    ·have t2:decide (p<1)=false:=decide_eq_false p1
     by_cases p2:1000000000000<p
     ·have t3:decide (1000000000000<p)=true:=decide_eq_true p2
      have HB:=yH (offs_bad hlt (.inl (offOk_mk HO.out false (by rw[HBn.out];simp;omega))))
      go_wp2_with (go_at_call 62;(with_reducible refine(HC.out _ _ HRw.out.self).mono ?_);rintro e w1 ⟨rfl,h1⟩;have c1:=(h1.2.cell (p:=⟨g,off+i*2+1,none⟩) (blk_of_cell c1)).trans c1)
      go_ret
      exact⟨ret_bool HB.out.symm,(HR.out.trans HRw.out).trans h1⟩
     ·have t3:decide (1000000000000<p)=false:=decide_eq_false p2
      have HOk:=yH (offOk_mk HO.out true (by rw[HBn.out];simp;omega))
      go_wp2_with (go_at_call 62;(with_reducible refine(HC.out _ _ HRw.out.self).mono ?_);rintro e w1 ⟨rfl,h1⟩;have c1:=(h1.2.cell (p:=⟨g,off+i*2+1,none⟩) (blk_of_cell c1)).trans c1)
      have c0:=(h1.2.cell (p:=⟨g,off+i*2,none⟩) (blk_of_cell c0)).trans c0
      have HR1:=yH h1
      clear t2 t3 p1 p2 h1
      go_loopw [4] (fun k wr=>∃j:Nat,j≤i∧k=yI (j:Int)∧Hid (∀k (hk:k<os.length),k<j→os[k].1≠os[i].1)∧Rel w1 wr) (fun k _=>i-(RowKit.intOf k).toNat)
      case atStart=>exact⟨0,by omega,rfl,yH (fun k _ hk=>absurd hk (by omega)),Rel.start HR1.out.tab⟩
      case round=>
          obtain⟨j,hj,rfl,HM,hRi⟩:=hrel
          have HRi:=yH hRi
          by_cases hlt2:j<i
          ·obtain⟨g',off',s',p',e,d0,d1,ho2⟩:=offs_at HA.out ((HRw.out.trans HR1.out).trans hRi) j (by omega)
           injection e with e
           injection e with e1 e2
           subst e1
           subst e2
           have c0':=(hRi.2.cell (p:=⟨g,off+i*2,none⟩) (blk_of_cell c0)).trans c0
           obtain⟨Y,hY⟩:∃Y,B s'=Y:=⟨_,rfl⟩
           rw[hY] at d0
           have HO2:=yH ho2
           have HY:=yH hY
           have hji:(j:Int)<(i:Int):=by omega
           clear ho2 hRi hY d1
           by_cases he:X=Y
           ·have k1:=list_of.2 he
            have HB:=yH (offs_bad hlt (.inr ⟨j,by omega,hlt2,by rw[HO.out,HO2.out];show s'=s;rw[←B_list s',←B_list s,HX.out,HY.out,he]⟩))
            clear he
            go_wp2_with (fail)
            go_quiet (fail)
            go_wp2_with (fail)
            go_ret
            exact⟨ret_bool HB.out.symm,(((HR.out.trans HRw.out).trans HR1.out).trans HRi.out).drewN _⟩
           ·have k1:=list_ne he
            have HM2:Hid (∀k (hk:k<os.length),k<j+1→os[k].1≠os[i].1):=yH (fun k hk hkj=>by
             by_cases e:k=j
             ·subst e
              rw[HO.out,HO2.out]
              show s'≠s
              intro e;subst e;exact he (HX.out.symm.trans HY.out)
             ·exact HM.out k hk (by omega))
            clear he
            go_wp2_with (fail)
            go_quiet (fail)
            go_wp2_with (fail)
            go_roundw
            case rel=>exact⟨j+1,by omega,by go_num,HM2,HRi.out.drewN _⟩
            case measure=>simp[RowKit.intOf];omega
          ·obtain rfl:j=i:=by omega
           have HN2:=yH (offsTo_step hlt HN.out HOk.out HM.out)
           go_wp2_with (fail)
           go_roundw
           case rel=>exact⟨j+1,by omega,by go_num,HN2,(HRw.out.trans HR1.out).trans HRi.out⟩
           case measure=>simp[RowKit.intOf];omega
  ·obtain rfl:i=os.length:=by omega
   have HB:=yH (offs_full (by omega) HN.out)
   go_wp2_with (fail)
   go_ret
   exact⟨ret_bool HB.out.symm,HR.out.trans HRw.out⟩
abbrev RV(r:Rs):Value:= .tuple #[yI (rsV r),.bool (rsB r),yI (rsE r)]
abbrev CV(r:Except Int Bool):Value:= .tuple #[.bool (cdB r),yI (cdE r)]
theorem m9rt_iff{a:Int}:rt a=true↔ -1000000000000≤a∧a≤1000000000000:=by simp[rt]
theorem m9prod_bd{a b A B:Int}(h1: -A≤a)(h2:a≤A)(h3: -B≤b)(h4:b≤B): -(A*B)≤a*b∧a*b≤A*B:=by
 have h:a.natAbs*b.natAbs≤A.natAbs*B.natAbs:=Nat.mul_le_mul (by omega) (by omega)
 have e:(a*b).natAbs=a.natAbs*b.natAbs:=Int.natAbs_mul a b
 have e2:(A*B).natAbs=A.natAbs*B.natAbs:=Int.natAbs_mul A B
 have hp:0≤A*B:=Int.mul_nonneg (by omega) (by omega)
 omega
theorem m9fl_lt{p:Int}:fl p*10000≤p∧p<fl p*10000+10000:=by
 have:=tdt p 10000 (by omega)
 unfold fl;split<;>omega
theorem m9ret_two{a b c d:Int}(h:a=c)(h':b=d):Two (Ending.returned (.tuple #[yI a,yI b])) c d:=by subst h;subst h';rfl
theorem m9prt_up(p:Int): -(fl (-p))=if 0<p.tmod 10000 then p.tdiv 10000+1 else p.tdiv 10000:=by
 have:=tdt p 10000 (by omega)
 have h1:= @m9fl_lt (-p)
 generalize fl (-p)=q at*
 split<;>omega
theorem m9rright_any(a:Int)(w:World):
  Calls Tryz.prog 89 #[yI a] w fun e w'=>e= .returned (.bool (rt a))∧w=w':=by
 by_cases h1: -1000000000000≤a<;>by_cases h2:a≤1000000000000
 all_goals
  go_enter Tryz.func89,Tryz.ntmps89
  go_wp2
  all_goals
   go_ret
   exact⟨ret_bool (by unfold rt;rw[eq_comm];first|exact decide_eq_true (by omega)|exact decide_eq_false (by omega)),rfl⟩
theorem m9told_any(a:Int)(w:World):
  Calls Tryz.prog 90 #[yI a] w fun e w'=>Two e (told1 a) (told2 a)∧w=w':=by
 by_cases h1: -1000000000000≤a<;>by_cases h2:a≤1000000000000
 all_goals
  go_enter Tryz.func90,Tryz.ntmps90
  go_wp2
  go_ret2
  exact⟨m9ret_two (by unfold told1 rt;simp only[decide_eq_true_eq];split<;>omega) (by unfold told2 rt;simp only[decide_eq_true_eq];split<;>omega),rfl⟩
theorem m9rsub_any(a b:Int)(w:World):
  Calls Tryz.prog 70 #[yI a,yI b] w fun e w'=>Two e (two1 a b (a-b)) (two2 a b (a-b))∧w=w':=by
 by_cases h60: -1000000000000≤a
 ·by_cases h50:a≤1000000000000
  ·by_cases h40: -1000000000000≤b
   ·by_cases h30:b≤1000000000000
    ·by_cases h20: -1000000000000≤a-b
     ·by_cases h10:a-b≤1000000000000
      ·go_enter Tryz.func70,Tryz.ntmps70
       go_wp2
       go_ret2
       exact⟨m9ret_two (by unfold two1 told1 rt;simp only[Bool.and_eq_true,decide_eq_true_eq];(repeat' split)<;>omega) (by unfold two2 told2 rt;simp only[Bool.and_eq_true,decide_eq_true_eq];(repeat' split)<;>omega),rfl⟩
      ·go_enter Tryz.func70,Tryz.ntmps70
       go_wp2
       go_ret2
       exact⟨m9ret_two (by unfold two1 told1 rt;simp only[Bool.and_eq_true,decide_eq_true_eq];(repeat' split)<;>omega) (by unfold two2 told2 rt;simp only[Bool.and_eq_true,decide_eq_true_eq];(repeat' split)<;>omega),rfl⟩
     ·go_enter Tryz.func70,Tryz.ntmps70
      go_wp2
      go_ret2
      exact⟨m9ret_two (by unfold two1 told1 rt;simp only[Bool.and_eq_true,decide_eq_true_eq];(repeat' split)<;>omega) (by unfold two2 told2 rt;simp only[Bool.and_eq_true,decide_eq_true_eq];(repeat' split)<;>omega),rfl⟩
    ·go_enter Tryz.func70,Tryz.ntmps70
     go_wp2
     go_ret2
     exact⟨m9ret_two (by unfold two1 told1 rt;simp only[Bool.and_eq_true,decide_eq_true_eq];(repeat' split)<;>omega) (by unfold two2 told2 rt;simp only[Bool.and_eq_true,decide_eq_true_eq];(repeat' split)<;>omega),rfl⟩
   ·go_enter Tryz.func70,Tryz.ntmps70
    go_wp2
    go_ret2
    exact⟨m9ret_two (by unfold two1 told1 rt;simp only[Bool.and_eq_true,decide_eq_true_eq];(repeat' split)<;>omega) (by unfold two2 told2 rt;simp only[Bool.and_eq_true,decide_eq_true_eq];(repeat' split)<;>omega),rfl⟩
  ·go_enter Tryz.func70,Tryz.ntmps70
   go_wp2
   go_ret2
   exact⟨m9ret_two (by unfold two1 told1 rt;simp only[Bool.and_eq_true,decide_eq_true_eq];(repeat' split)<;>omega) (by unfold two2 told2 rt;simp only[Bool.and_eq_true,decide_eq_true_eq];(repeat' split)<;>omega),rfl⟩
 ·go_enter Tryz.func70,Tryz.ntmps70
  go_wp2
  go_ret2
  exact⟨m9ret_two (by unfold two1 told1 rt;simp only[Bool.and_eq_true,decide_eq_true_eq];(repeat' split)<;>omega) (by unfold two2 told2 rt;simp only[Bool.and_eq_true,decide_eq_true_eq];(repeat' split)<;>omega),rfl⟩
theorem m9rpart_any(a b:Int)(up:Bool)(w:World):
  Calls Tryz.prog 69 #[yI a,yI b,.bool up] w fun e w'=>Two e (part1 a b up) (part2 a b up)∧w=w':=by
 cases ha:rt a
 ·have r1:part1 a b up=0:=by simp[part1,ha]
  have r2:part2 a b up=10:=by simp[part2,ha]
  rw[r1,r2];clear r1 r2
  go_enter Tryz.func69,Tryz.ntmps69
  go_wp2_with (first|(go_at_call 89;refine(m9rright_any _ _).mono ?_;rintro e w' ⟨rfl,rfl⟩))
  go_ret2
  exact⟨rfl,rfl⟩
 ·by_cases b1: -100000≤b
  ·by_cases b2:b≤100000
   ·have hb:wtM b (-100000) 100000=true:=decide_eq_true ⟨b1,b2⟩
    obtain⟨a1,a2⟩:=m9rt_iff.1 ha
    obtain⟨p1,p2⟩: -100000000000000000≤a*b∧a*b≤100000000000000000:=m9prod_bd a1 a2 b1 b2
    have t:=tdt (a*b) 10000 (by omega)
    obtain⟨g1,g2⟩: -100000000000000≤(a*b).tdiv 10000∧(a*b).tdiv 10000≤100000000000000:=by omega
    clear t
    cases up
    ·have r1:part1 a b false=told1 (fl (a*b)):=by simp[part1,ha,hb,prt]
     have r2:part2 a b false=told2 (fl (a*b)):=by simp[part2,ha,hb,prt]
     rw[r1,r2];clear r1 r2 hb
     by_cases h:(a*b).tmod 10000<0
     ·have e:fl (a*b)=(a*b).tdiv 10000-1:=if_pos h
      rw[e];clear e
      go_enter Tryz.func69,Tryz.ntmps69
      go_wp2_with (first|(go_at_call 89;refine(m9rright_any _ _).mono ?_;rintro e w' ⟨rfl,rfl⟩)|(go_at_call 90;refine(m9told_any _ _).mono ?_;rintro e w' ⟨rfl,rfl⟩))
      go_ret2
      exact⟨rfl,rfl⟩
     ·have e:fl (a*b)=(a*b).tdiv 10000:=if_neg h
      rw[e];clear e
      go_enter Tryz.func69,Tryz.ntmps69
      go_wp2_with (first|(go_at_call 89;refine(m9rright_any _ _).mono ?_;rintro e w' ⟨rfl,rfl⟩)|(go_at_call 90;refine(m9told_any _ _).mono ?_;rintro e w' ⟨rfl,rfl⟩))
      all_goals
       go_ret2
       exact⟨rfl,rfl⟩
    ·have r1:part1 a b true=told1 (-(fl (-(a*b)))):=by simp[part1,ha,hb,prt]
     have r2:part2 a b true=told2 (-(fl (-(a*b)))):=by simp[part2,ha,hb,prt]
     rw[r1,r2,m9prt_up];clear r1 r2 hb
     by_cases h:0<(a*b).tmod 10000
     ·rw[if_pos h]
      go_enter Tryz.func69,Tryz.ntmps69
      go_wp2_with (first|(go_at_call 89;refine(m9rright_any _ _).mono ?_;rintro e w' ⟨rfl,rfl⟩)|(go_at_call 90;refine(m9told_any _ _).mono ?_;rintro e w' ⟨rfl,rfl⟩))
      all_goals
       go_ret2
       exact⟨rfl,rfl⟩
     ·rw[if_neg h]
      go_enter Tryz.func69,Tryz.ntmps69
      go_wp2_with (first|(go_at_call 89;refine(m9rright_any _ _).mono ?_;rintro e w' ⟨rfl,rfl⟩)|(go_at_call 90;refine(m9told_any _ _).mono ?_;rintro e w' ⟨rfl,rfl⟩))
      all_goals
       go_ret2
       exact⟨rfl,rfl⟩
   ·have hb:wtM b (-100000) 100000=false:=decide_eq_false (by omega)
    have r1:part1 a b up=0:=by simp[part1,hb]
    have r2:part2 a b up=10:=by simp[part2,hb]
    rw[r1,r2];clear r1 r2 hb
    go_enter Tryz.func69,Tryz.ntmps69
    go_wp2_with (first|(go_at_call 89;refine(m9rright_any _ _).mono ?_;rintro e w' ⟨rfl,rfl⟩))
    go_ret2
    exact⟨rfl,rfl⟩
  ·have hb:wtM b (-100000) 100000=false:=decide_eq_false (by omega)
   have r1:part1 a b up=0:=by simp[part1,hb]
   have r2:part2 a b up=10:=by simp[part2,hb]
   rw[r1,r2];clear r1 r2 hb
   go_enter Tryz.func69,Tryz.ntmps69
   go_wp2_with (first|(go_at_call 89;refine(m9rright_any _ _).mono ?_;rintro e w' ⟨rfl,rfl⟩))
   go_ret2
   exact⟨rfl,rfl⟩
end Go.Proofs.YtfekhbeaphpelaaGreatDoor
