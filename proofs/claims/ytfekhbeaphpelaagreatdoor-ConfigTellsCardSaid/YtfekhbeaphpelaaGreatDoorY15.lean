/- The landed parser. -/

import Derived.Test.YtfekhbeaphpelaaGreatDoorY14
set_option maxRecDepth 100000
set_option maxHeartbeats 8000000
set_option linter.unusedVariables false
set_option linter.unusedSimpArgs false
namespace Go.Proofs.YtfekhbeaphpelaaGreatDoor
open Go.RowKit Go.Lib
theorem expr_end{V w W:World}{W0:Nat}{g a:Nat}{v:El}{x:Ex}{r:List Tok}(hgl:g<w.heap.size)(hVw:V.heap.size≤w.heap.size)(h0:w.heap.size<W0)(hg:w.grownBy W (some g))(hz:Bk W w.heap.size 52 #[yI 0,yI 0,.string ⟨#[]⟩,.slice none 0 0])(ex:ExAt (fun k=>W0≤k) W v x)(s:StP V W g r a)(W':World)
  (hW:(((W.setCell ⟨w.heap.size,0,none⟩ (yI v.1)).setCell ⟨w.heap.size,1,none⟩ (yI v.2.1)).setCell ⟨w.heap.size,2,none⟩ (.string (B v.2.2.1))).setCell ⟨w.heap.size,3,none⟩ (.slice v.2.2.2.1 v.2.2.2.2.1 v.2.2.2.2.2)=W'):
  Bk W' w.heap.size 52 #[yI v.1,yI v.2.1,.string (B v.2.2.1),.slice v.2.2.2.1 v.2.2.2.2.1 v.2.2.2.2.2]∧ExAt (fun k=>w.heap.size≤k) W' v x∧StP V W' g r a∧w.grownBy W' (some g):=by
 have gp:=put4_grown W w.heap.size (yI v.1) (yI v.2.1) (.string (B v.2.2.1)) (.slice v.2.2.2.1 v.2.2.2.2.1 v.2.2.2.2.2)
 have hb:=hz.put4 (yI v.1) (yI v.2.1) (.string (B v.2.2.1)) (.slice v.2.2.2.1 v.2.2.2.2.1 v.2.2.2.2.2)
 rw[hW] at gp hb
 exact⟨hb,ex.grown gp (fun k hk=>⟨by omega,fun e=>by injection e;omega⟩),s.grown gp (fun e=>by injection e;omega) (fun k e=>by cases e;exact hVw),grown_of hg gp (fun k e=>by cases e;exact Nat.le_refl _)⟩
theorem pword_yes{x l:List UInt8}(h:x=l):((B x).toList==l)=true:=by rw[B_toList];simpa using h
theorem pword_no{x l:List UInt8}(h:x≠l):((B x).toList==l)=false:=by rw[B_toList];simpa using h
theorem call_res{d:Nat}(E:ExprOk d){V:World}{g a:Nat}(had:a+1+d=32)(k:Int)(hk:i64 k)(ps:List Pc)(hp:ps.length≤3){ts:List Tok}{R:Told Ex}(hR:piecesP (exprT d) ps 40 (.mk k 0 [] []) ts=R)(n c:Nat)(hn:ps.length=n)(cs:Array Value)(hcs:(ps.map (pvOf g)).toArray=cs)(W:World)(q:Nat)(h:StP V W g ts a)(hq:Bk W q 152 cs):
  Calls Tryz.prog 96 #[.pointer (some ⟨g,0,none⟩),yI k,.slice (some ⟨q,0,none⟩) n c] W (ExPost V g a W R):=by
 subst hn hcs hR
 exact ppcall_any d E V g a had k hk ps hp q c ts W h hq
theorem ExPost.at_yes{V:World}{g a:Nat}{w w':World}{r:Told Ex}{x:Ex}{ts:List Tok}{e:Ending}(h:ExPost V g a w r e w')(hr:r= .ok (x,ts)):∃v:El,e= .returned (EV v)∧ExAt (fun k=>w.heap.size≤k) w' v x∧StP V w' g ts a∧w.grownBy w' (some g):=by subst hr;exact h
theorem ExPost.at_no{V:World}{g a:Nat}{w w':World}{r:Told Ex}{E:Int×Int}{e:Ending}(h:ExPost V g a w r e w')(hr:r= .error E):e=FLT E.1 E.2∧w.grownBy w' (some g):=by subst hr;exact h
theorem expr_end2{V w W:World}{g a:Nat}{v:El}{x:Ex}{r:List Tok}(hgl:g<w.heap.size)(hVw:V.heap.size≤w.heap.size)(hg:w.grownBy W (some g))(hz:Bk W w.heap.size 52 #[yI 0,yI 0,.string ⟨#[]⟩,.slice none 0 0])(s:StP V W g r a)(T:ByteArray)(hT:T=B v.2.2.1)(W':World)
  (hW:(((W.setCell ⟨w.heap.size,0,none⟩ (yI v.1)).setCell ⟨w.heap.size,1,none⟩ (yI v.2.1)).setCell ⟨w.heap.size,2,none⟩ (.string T)).setCell ⟨w.heap.size,3,none⟩ (.slice v.2.2.2.1 v.2.2.2.2.1 v.2.2.2.2.2)=W') (o:Obj) (hx:∀W:World,ExAt (fun k=>w.heap.size≤k) W v x):
  Bk (W'.alloc o) w.heap.size 52 #[yI v.1,yI v.2.1,.string T,.slice v.2.2.2.1 v.2.2.2.2.1 v.2.2.2.2.2]∧ExAt (fun k=>w.heap.size≤k) (W'.alloc o) v x∧StP V (W'.alloc o) g r a∧w.grownBy (W'.alloc o) (some g):=by
 subst hT
 have gp:=put4_grown W w.heap.size (yI v.1) (yI v.2.1) (.string (B v.2.2.1)) (.slice v.2.2.2.1 v.2.2.2.2.1 v.2.2.2.2.2)
 have hb:=hz.put4 (yI v.1) (yI v.2.1) (.string (B v.2.2.1)) (.slice v.2.2.2.1 v.2.2.2.2.1 v.2.2.2.2.2)
 rw[hW] at gp hb
 have s1:=s.grown gp (fun e=>by injection e;omega) (fun k e=>by cases e;exact hVw)
 have R:=s1.V.1.self.alloc o
 exact⟨hb.rel R,hx _,s1.rel R,grown_trans (grown_of hg gp (fun k e=>by cases e;exact Nat.le_refl _)) (grown_rel (some g) R)⟩
theorem pcondition_succ(d:Nat)(E:ExprOk d)(V:World)(g a:Nat)(ts:List Tok)(w:World)(had:a+(d+1)=32)(h:StP V w g ts a):
  Calls Tryz.prog 136 #[.pointer (some ⟨g,0,none⟩)] w (ExPost V g a w (exprT (d+1) true ts)):=by
 have had:a+1+d=32:=by omega
 have hA:=h.V.1.self.alloc (.cells #[yI 0,yI 0,.string ⟨#[]⟩,.slice none 0 0] 52)
 have hbg:=pbegin_yes V g a ts _ (h.rel hA) (by omega)
 have HA0:=yH (grown_rel (some g) hA)
 have HZ:=yH (Bk.new w 52 #[yI 0,yI 0,.string ⟨#[]⟩,.slice none 0 0])
 have HVw:=yH (show V.heap.size≤w.heap.size from h.V.1.size)
 have HVV:=yH h.V
 have hgl:=h.lt
 have HF:=yH h.fine
 have HTl:=yH h.fine.last
 have hhd:=h.fine.head
 obtain⟨⟨k',x,n',p⟩,ht⟩:∃t,hdT ts=t:=⟨_,rfl⟩
 rw[ht] at hbg hhd
 have HBg:=yH hbg
 have HAt:=yH (show atT ts=p by unfold atT;rw[ht])
 have hmf:∀(fn:Fn)(first cap:Array Value)(w:World),(Instr.makeFunc fn first cap).run Tryz.prog w= .ok (.func fn first cap) w:=fun _ _ _ _=>rfl
 have HOk:=yH hhd.1
 have HN64:=yH hhd.2.2.1
 obtain⟨K,hk⟩:∃K,kindT true (hdT ts)=K:=⟨_,rfl⟩
 have hk1:(hdT ts).2.1=x:=by rw[ht]
 clear hA hbg h hhd
 have hways:K=0∨K=11∨K=12:=by
  by_cases h0:K=0
  ·exact .inl h0
  ·have hs:=kind_spec HOk.out.1 (c:=true) (by rw[←ht,hk];exact h0)
   rw[←ht,hk] at hs
   rcases hs with ⟨_,_,e⟩|⟨_,e1,e2,e4,ec⟩
   ·cases e
   ·unfold isCond at ec;simp only[Bool.or_eq_true,beq_iff_eq] at ec;omega
 rcases hways with rfl|rfl|rfl
 ·have hx:True:=trivial
  have hb11:=pword_no (show x≠[109,111,114,101] from kind_none HOk.out true (fun _=>rfl) (by rw[←ht];exact hk) 11 (by decide) (by decide) (by decide) rfl)
  have hb12:=pword_no (show x≠[97,98,111,118,101] from kind_none HOk.out true (fun _=>rfl) (by rw[←ht];exact hk) 12 (by decide) (by decide) (by decide) rfl)
  have HRs:=yH (show exprT (d+1) true ts= .error (80,p) by rw[exprT_none hk,HAt.out])
  clear ht hk hk1
  go_enter Tryz.func136,Tryz.ntmps136
  go_wp2_with (first
   |(go_at_call 95;(with_reducible refine HBg.out.mono ?_);rintro e w2 ⟨rfl,s2,g2⟩;have G2:=yH g2;have hz2:=g2.size;simp only[World.size_alloc] at hz2;clear s2 g2)
   |(go_at_call 102;(with_reducible refine(pwrong_any (k',x,n',p) _).mono ?_);rintro e w3 ⟨rfl,rfl⟩))
  have GG:=grown_trans HA0.out G2.out
  exact⟨rfl,ExPost.no HRs.out rfl (fail_grown GG V (HVV.out.1.grown GG (fun k e=>by cases e;exact HVV.out.2)) _ _ _)⟩
 ·have HX:=yH (show x=[109,111,114,101] from(kind_some HOk.out true (k:=11) (by rw[←ht];exact hk) (by decide) (fun _=>rfl)).1)
  have hb11:=pword_yes (show x=[109,111,114,101] by first|exact HX.out|(rw[HX.out];decide))
  have hk1:(hdT ts).2.1≠[]:=by rw[hk1,HX.out];decide
  have hpc:piecesP (exprT d) [.co] 40 (.mk 11 0 [] []) ts.tail=callT (exprT d) 11 ts.tail:=call_pieces d 11 (by decide) ts.tail (tail_okP HF.out.oks)
  have hex:exprT (d+1) true ts=callT (exprT d) 11 ts.tail:=exprT_call hk (by decide) (by decide) (by decide)
  have HEx:=yH hex
  have HT:=yH (HTl.out (.inr hk1))
  cases hr:callT (exprT d) 11 ts.tail with
  |error e0=>
   rw[hr] at hpc
   have HRs:=yH (show exprT (d+1) true ts= .error e0 by rw[HEx.out,hr])
   have HC:=yH (fun(W:World)(q:Nat)(hs:StP V W g ts.tail a)(hq:Bk W q 152 #[.func (.func 162) #[.pointer (some ⟨g,0,none⟩)] #[]])=>call_res E had 11 ⟨by decide,by decide⟩ [.co] (by decide) hpc 1 1 rfl #[.func (.func 162) #[.pointer (some ⟨g,0,none⟩)] #[]] rfl W q hs hq)
   clear hpc hr hex hk hk1 ht HX
   go_enter Tryz.func136,Tryz.ntmps136
   go_wp2_with (first
    |(go_at_call 95;(with_reducible refine HBg.out.mono ?_);rintro e w2 ⟨rfl,s2,g2⟩;have S2:=yH (s2 HT.out);have G2:=yH g2;have hz2:=g2.size;simp only[World.size_alloc] at hz2;have HZ2:=yH (HZ.out.grown g2 (fun e=>by injection e;omega));clear s2 g2)
    |(go_at_call 96;have RT:=(S2.out.V.1.self.alloc (.cells #[yI k',.string (B x),yI n',yI p] 78)).alloc (.cells #[.func (.func 162) #[.pointer (some ⟨g,0,none⟩)] #[]] 152);have HBq:=Bk.new (w2.alloc (.cells #[yI k',.string (B x),yI n',yI p] 78)) 152 #[.func (.func 162) #[.pointer (some ⟨g,0,none⟩)] #[]];rw[World.size_alloc] at HBq;(with_reducible refine(HC.out _ _ (S2.out.rel RT) HBq).mono ?_);rintro e w3 h3;have HRT:=yH RT;obtain⟨rfl,g3⟩:=ExPost.at_no h3 rfl;clear h3 RT HBq))
   exact⟨rfl,ExPost.no HRs.out rfl (grown_trans (grown_trans HA0.out G2.out) (grown_trans (grown_rel (some g) HRT.out) g3))⟩
  |ok qq=>
   obtain⟨y,r⟩:=qq
   rw[hr] at hpc
   have HRs:=yH (show exprT (d+1) true ts= .ok (y,r) by rw[HEx.out,hr])
   have HC:=yH (fun(W:World)(q:Nat)(hs:StP V W g ts.tail a)(hq:Bk W q 152 #[.func (.func 162) #[.pointer (some ⟨g,0,none⟩)] #[]])=>call_res E had 11 ⟨by decide,by decide⟩ [.co] (by decide) hpc 1 1 rfl #[.func (.func 162) #[.pointer (some ⟨g,0,none⟩)] #[]] rfl W q hs hq)
   clear hpc hr hex hk hk1 ht HX
   go_enter Tryz.func136,Tryz.ntmps136
   go_wp2_with (first
    |(go_at_call 95;(with_reducible refine HBg.out.mono ?_);rintro e w2 ⟨rfl,s2,g2⟩;have S2:=yH (s2 HT.out);have G2:=yH g2;have hz2:=g2.size;simp only[World.size_alloc] at hz2;have HZ2:=yH (HZ.out.grown g2 (fun e=>by injection e;omega));clear s2 g2)
    |(go_at_call 96;have RT:=(S2.out.V.1.self.alloc (.cells #[yI k',.string (B x),yI n',yI p] 78)).alloc (.cells #[.func (.func 162) #[.pointer (some ⟨g,0,none⟩)] #[]] 152);have HBq:=Bk.new (w2.alloc (.cells #[yI k',.string (B x),yI n',yI p] 78)) 152 #[.func (.func 162) #[.pointer (some ⟨g,0,none⟩)] #[]];rw[World.size_alloc] at HBq;(with_reducible refine(HC.out _ _ (S2.out.rel RT) HBq).mono ?_);rintro e w3 h3;have HRT:=yH RT;obtain⟨v,rfl,ex,s3,g3⟩:=ExPost.at_yes h3 rfl;have hz3:=g3.size;simp only[World.size_alloc] at hz3;have HZ3:=yH ((HZ2.out.rel HRT.out).grown g3 (fun e=>by injection e;omega));obtain⟨⟨b0,b1,b2,b3⟩,u0,u1,u2,u3⟩:=HZ3.out.four;have HEx3:=yH (And.intro ex (And.intro s3 g3));clear ex s3 g3 h3 RT HBq))
   obtain⟨e1,e2,e3,e4⟩:=expr_end hgl HVw.out (W0:=w2.heap.size+1+1) (by omega) (grown_trans (grown_trans HA0.out G2.out) (grown_trans (grown_rel (some g) HRT.out) HEx3.out.2.2)) HZ3.out (by simpa using HEx3.out.1) HEx3.out.2.1 _ rfl
   obtain⟨⟨y0,y1,y2,y3⟩,_⟩:=e1.four
   exact bodyPost_ret (v:=EV v) (by simp[results,Tryz.results136,go_sem,y0,y1,y2,y3]) rfl (ExPost.yes HRs.out ⟨_,rfl,e2,e3,e4⟩)
 ·have HX:=yH (show x=[97,98,111,118,101] from(kind_some HOk.out true (k:=12) (by rw[←ht];exact hk) (by decide) (fun _=>rfl)).1)
  have hb11:=pword_no (show x≠[109,111,114,101] by first|exact HX.out|(rw[HX.out];decide))
  have hb12:=pword_yes (show x=[97,98,111,118,101] by first|exact HX.out|(rw[HX.out];decide))
  have hk1:(hdT ts).2.1≠[]:=by rw[hk1,HX.out];decide
  have hpc:piecesP (exprT d) [.ar,.ar] 40 (.mk 12 0 [] []) ts.tail=callT (exprT d) 12 ts.tail:=call_pieces d 12 (by decide) ts.tail (tail_okP HF.out.oks)
  have hex:exprT (d+1) true ts=callT (exprT d) 12 ts.tail:=exprT_call hk (by decide) (by decide) (by decide)
  have HEx:=yH hex
  have HT:=yH (HTl.out (.inr hk1))
  cases hr:callT (exprT d) 12 ts.tail with
  |error e0=>
   rw[hr] at hpc
   have HRs:=yH (show exprT (d+1) true ts= .error e0 by rw[HEx.out,hr])
   have HC:=yH (fun(W:World)(q:Nat)(hs:StP V W g ts.tail a)(hq:Bk W q 152 #[.func (.func 98) #[.pointer (some ⟨g,0,none⟩)] #[],.func (.func 98) #[.pointer (some ⟨g,0,none⟩)] #[]])=>call_res E had 12 ⟨by decide,by decide⟩ [.ar,.ar] (by decide) hpc 2 2 rfl #[.func (.func 98) #[.pointer (some ⟨g,0,none⟩)] #[],.func (.func 98) #[.pointer (some ⟨g,0,none⟩)] #[]] rfl W q hs hq)
   clear hpc hr hex hk hk1 ht HX
   go_enter Tryz.func136,Tryz.ntmps136
   go_wp2_with (first
    |(go_at_call 95;(with_reducible refine HBg.out.mono ?_);rintro e w2 ⟨rfl,s2,g2⟩;have S2:=yH (s2 HT.out);have G2:=yH g2;have hz2:=g2.size;simp only[World.size_alloc] at hz2;have HZ2:=yH (HZ.out.grown g2 (fun e=>by injection e;omega));clear s2 g2)
    |(go_at_call 96;have RT:=(S2.out.V.1.self.alloc (.cells #[yI k',.string (B x),yI n',yI p] 78)).alloc (.cells #[.func (.func 98) #[.pointer (some ⟨g,0,none⟩)] #[],.func (.func 98) #[.pointer (some ⟨g,0,none⟩)] #[]] 152);have HBq:=Bk.new (w2.alloc (.cells #[yI k',.string (B x),yI n',yI p] 78)) 152 #[.func (.func 98) #[.pointer (some ⟨g,0,none⟩)] #[],.func (.func 98) #[.pointer (some ⟨g,0,none⟩)] #[]];rw[World.size_alloc] at HBq;(with_reducible refine(HC.out _ _ (S2.out.rel RT) HBq).mono ?_);rintro e w3 h3;have HRT:=yH RT;obtain⟨rfl,g3⟩:=ExPost.at_no h3 rfl;clear h3 RT HBq))
   exact⟨rfl,ExPost.no HRs.out rfl (grown_trans (grown_trans HA0.out G2.out) (grown_trans (grown_rel (some g) HRT.out) g3))⟩
  |ok qq=>
   obtain⟨y,r⟩:=qq
   rw[hr] at hpc
   have HRs:=yH (show exprT (d+1) true ts= .ok (y,r) by rw[HEx.out,hr])
   have HC:=yH (fun(W:World)(q:Nat)(hs:StP V W g ts.tail a)(hq:Bk W q 152 #[.func (.func 98) #[.pointer (some ⟨g,0,none⟩)] #[],.func (.func 98) #[.pointer (some ⟨g,0,none⟩)] #[]])=>call_res E had 12 ⟨by decide,by decide⟩ [.ar,.ar] (by decide) hpc 2 2 rfl #[.func (.func 98) #[.pointer (some ⟨g,0,none⟩)] #[],.func (.func 98) #[.pointer (some ⟨g,0,none⟩)] #[]] rfl W q hs hq)
   clear hpc hr hex hk hk1 ht HX
   go_enter Tryz.func136,Tryz.ntmps136
   go_wp2_with (first
    |(go_at_call 95;(with_reducible refine HBg.out.mono ?_);rintro e w2 ⟨rfl,s2,g2⟩;have S2:=yH (s2 HT.out);have G2:=yH g2;have hz2:=g2.size;simp only[World.size_alloc] at hz2;have HZ2:=yH (HZ.out.grown g2 (fun e=>by injection e;omega));clear s2 g2)
    |(go_at_call 96;have RT:=(S2.out.V.1.self.alloc (.cells #[yI k',.string (B x),yI n',yI p] 78)).alloc (.cells #[.func (.func 98) #[.pointer (some ⟨g,0,none⟩)] #[],.func (.func 98) #[.pointer (some ⟨g,0,none⟩)] #[]] 152);have HBq:=Bk.new (w2.alloc (.cells #[yI k',.string (B x),yI n',yI p] 78)) 152 #[.func (.func 98) #[.pointer (some ⟨g,0,none⟩)] #[],.func (.func 98) #[.pointer (some ⟨g,0,none⟩)] #[]];rw[World.size_alloc] at HBq;(with_reducible refine(HC.out _ _ (S2.out.rel RT) HBq).mono ?_);rintro e w3 h3;have HRT:=yH RT;obtain⟨v,rfl,ex,s3,g3⟩:=ExPost.at_yes h3 rfl;have hz3:=g3.size;simp only[World.size_alloc] at hz3;have HZ3:=yH ((HZ2.out.rel HRT.out).grown g3 (fun e=>by injection e;omega));obtain⟨⟨b0,b1,b2,b3⟩,u0,u1,u2,u3⟩:=HZ3.out.four;have HEx3:=yH (And.intro ex (And.intro s3 g3));clear ex s3 g3 h3 RT HBq))
   obtain⟨e1,e2,e3,e4⟩:=expr_end hgl HVw.out (W0:=w2.heap.size+1+1) (by omega) (grown_trans (grown_trans HA0.out G2.out) (grown_trans (grown_rel (some g) HRT.out) HEx3.out.2.2)) HZ3.out (by simpa using HEx3.out.1) HEx3.out.2.1 _ rfl
   obtain⟨⟨y0,y1,y2,y3⟩,_⟩:=e1.four
   exact bodyPost_ret (v:=EV v) (by simp[results,Tryz.results136,go_sem,y0,y1,y2,y3]) rfl (ExPost.yes HRs.out ⟨_,rfl,e2,e3,e4⟩)
theorem pexpr_succ(d:Nat)(E:ExprOk d)(V:World)(g a:Nat)(ts:List Tok)(w:World)(had:a+(d+1)=32)(h:StP V w g ts a):
  Calls Tryz.prog 75 #[.pointer (some ⟨g,0,none⟩)] w (ExPost V g a w (exprT (d+1) false ts)):=by
 have had:a+1+d=32:=by omega
 have hA:=h.V.1.self.alloc (.cells #[yI 0,yI 0,.string ⟨#[]⟩,.slice none 0 0] 52)
 have hbg:=pbegin_yes V g a ts _ (h.rel hA) (by omega)
 have HA0:=yH (grown_rel (some g) hA)
 have HZ:=yH (Bk.new w 52 #[yI 0,yI 0,.string ⟨#[]⟩,.slice none 0 0])
 have HVw:=yH (show V.heap.size≤w.heap.size from h.V.1.size)
 have HVV:=yH h.V
 have hgl:=h.lt
 have HF:=yH h.fine
 have HTl:=yH h.fine.last
 have hhd:=h.fine.head
 obtain⟨⟨k',x,n',p⟩,ht⟩:∃t,hdT ts=t:=⟨_,rfl⟩
 rw[ht] at hbg hhd
 have HBg:=yH hbg
 have HAt:=yH (show atT ts=p by unfold atT;rw[ht])
 have hmf:∀(fn:Fn)(first cap:Array Value)(w:World),(Instr.makeFunc fn first cap).run Tryz.prog w= .ok (.func fn first cap) w:=fun _ _ _ _=>rfl
 have HOk:=yH hhd.1
 have HN64:=yH hhd.2.2.1
 obtain⟨K,hk⟩:∃K,kindT false (hdT ts)=K:=⟨_,rfl⟩
 have hk1:(hdT ts).2.1=x:=by rw[ht]
 clear hA hbg h hhd
 by_cases h3:k'=3
 ·obtain rfl:k'=3:=h3
  have HRs:=yH (show exprT (d+1) false ts= .ok (.mk 4 n' [] [],ts.tail) by rw[exprT_money (show kindT false (hdT ts)=4 by rw[ht];exact kind_money x n' p),ht])
  have HT:=yH (HTl.out (.inl (by rw[ht];exact(show(3:Int)≠5 by decide))))
  have HLf:=yH (fun(W:World)=>ExAt.leaf (fun k=>w.heap.size≤k) W 4 n' [] none 0 ⟨by decide,by decide⟩ HN64.out (Nat.zero_le _))
  clear ht hk hk1
  go_enter Tryz.func75,Tryz.ntmps75
  go_wp2_with (go_at_call 95;(with_reducible refine HBg.out.mono ?_);rintro e w2 ⟨rfl,s2,g2⟩;have S2:=yH (s2 HT.out);have G2:=yH g2;have hz2:=g2.size;simp only[World.size_alloc] at hz2;have HZ2:=yH (HZ.out.grown g2 (fun e=>by injection e;omega));clear s2 g2;have hgl3:w.heap.size<w2.heap.size:=(by omega);have hne3: ¬w.heap.size=w2.heap.size:=(by omega);have hne4: ¬w2.heap.size=w.heap.size:=(by omega);obtain⟨⟨b0,b1,b2,b3⟩,u0,u1,u2,u3⟩:=HZ2.out.four)
  obtain⟨e1,e2,e3,e4⟩:=expr_end2 (v:=(4,n',[],none,0,0)) hgl HVw.out (grown_trans HA0.out G2.out) HZ2.out S2.out ⟨#[]⟩ rfl _ rfl (.cells #[yI 3,.string (B x),yI n',yI p] 78) HLf.out
  obtain⟨W3,hW3⟩:∃W,((((w2.setCell ⟨w.heap.size,0,none⟩ (yI 4)).setCell ⟨w.heap.size,1,none⟩ (yI n')).setCell ⟨w.heap.size,2,none⟩ (.string ⟨#[]⟩)).setCell ⟨w.heap.size,3,none⟩ (.slice none 0 0)).alloc (.cells #[yI 3,.string (B x),yI n',yI p] 78)=W:=⟨_,rfl⟩
  simp only at e1 e2 e3 e4
  rw[hW3] at e1 e2 e3 e4⊢
  obtain⟨⟨y0,y1,y2,y3⟩,_⟩:=e1.four
  exact bodyPost_ret (v:=EV (4,n',[],none,0,0)) (by simp[results,Tryz.results75,go_sem,y0,y1,y2,y3];rfl) rfl (ExPost.yes HRs.out ⟨_,rfl,e2,e3,e4⟩)
 have h3':(k'==3)=false:=by simpa using h3
 have hways:K=0∨K=1∨K=2∨K=3∨K=5∨K=6∨K=7∨K=8∨K=9∨K=10:=by
  by_cases h0:K=0
  ·exact .inl h0
  ·have hs:=kind_spec HOk.out.1 (c:=false) (by rw[←ht,hk];exact h0)
   rw[←ht,hk] at hs
   rcases hs with ⟨e,e3,_⟩|⟨_,e1,e2,e4,ec⟩
   ·exact absurd (by rw[ht] at e3;exact e3) h3
   ·have: ¬(K=11∨K=12):=fun hh=>by rcases hh with rfl|rfl<;>simp[isCond] at ec
    omega
 rcases hways with rfl|rfl|rfl|rfl|rfl|rfl|rfl|rfl|rfl|rfl
 ·have hx:True:=trivial
  have hb1:=pword_no (show x≠[108,111,119,101,115,116] from kind_none HOk.out false (fun e=>absurd (show k'=3 from e) h3) (by rw[←ht];exact hk) 1 (by decide) (by decide) (by decide) rfl)
  have hb2:=pword_no (show x≠[115,101,99,111,110,100] from kind_none HOk.out false (fun e=>absurd (show k'=3 from e) h3) (by rw[←ht];exact hk) 2 (by decide) (by decide) (by decide) rfl)
  have hb3:=pword_no (show x≠[102,114,111,109] from kind_none HOk.out false (fun e=>absurd (show k'=3 from e) h3) (by rw[←ht];exact hk) 3 (by decide) (by decide) (by decide) rfl)
  have hb5:=pword_no (show x≠[108,101,115,115] from kind_none HOk.out false (fun e=>absurd (show k'=3 from e) h3) (by rw[←ht];exact hk) 5 (by decide) (by decide) (by decide) rfl)
  have hb6:=pword_no (show x≠[99,117,116] from kind_none HOk.out false (fun e=>absurd (show k'=3 from e) h3) (by rw[←ht];exact hk) 6 (by decide) (by decide) (by decide) rfl)
  have hb7:=pword_no (show x≠[109,105,110] from kind_none HOk.out false (fun e=>absurd (show k'=3 from e) h3) (by rw[←ht];exact hk) 7 (by decide) (by decide) (by decide) rfl)
  have hb8:=pword_no (show x≠[109,97,120] from kind_none HOk.out false (fun e=>absurd (show k'=3 from e) h3) (by rw[←ht];exact hk) 8 (by decide) (by decide) (by decide) rfl)
  have hb9:=pword_no (show x≠[101,108,115,101] from kind_none HOk.out false (fun e=>absurd (show k'=3 from e) h3) (by rw[←ht];exact hk) 9 (by decide) (by decide) (by decide) rfl)
  have hb10:=pword_no (show x≠[105,102] from kind_none HOk.out false (fun e=>absurd (show k'=3 from e) h3) (by rw[←ht];exact hk) 10 (by decide) (by decide) (by decide) rfl)
  have HRs:=yH (show exprT (d+1) false ts= .error (80,p) by rw[exprT_none hk,HAt.out])
  clear ht hk hk1
  go_enter Tryz.func75,Tryz.ntmps75
  go_wp2_with (first
   |(go_at_call 95;(with_reducible refine HBg.out.mono ?_);rintro e w2 ⟨rfl,s2,g2⟩;have G2:=yH g2;have hz2:=g2.size;simp only[World.size_alloc] at hz2;clear s2 g2)
   |(go_at_call 102;(with_reducible refine(pwrong_any (k',x,n',p) _).mono ?_);rintro e w3 ⟨rfl,rfl⟩))
  have GG:=grown_trans HA0.out G2.out
  exact⟨rfl,ExPost.no HRs.out rfl (fail_grown GG V (HVV.out.1.grown GG (fun k e=>by cases e;exact HVV.out.2)) _ _ _)⟩
 ·skip
  have HX:=yH (show x=[108,111,119,101,115,116] from(kind_some HOk.out false (k:=1) (by rw[←ht];exact hk) (by decide) (fun e=>absurd (show k'=3 from e) h3)).1)
  have hb1:=pword_yes (show x=[108,111,119,101,115,116] by first|exact HX.out|(rw[HX.out];decide))
  have HRs:=yH (show exprT (d+1) false ts= .ok (.mk 1 0 [] [],ts.tail) from exprT_leaf hk (by decide))
  have HT:=yH (HTl.out (.inr (by rw[hk1,HX.out];decide)))
  have HLf:=yH (fun(W:World)=>ExAt.leaf (fun k=>w.heap.size≤k) W 1 0 [] none 0 ⟨by decide,by decide⟩ ⟨by decide,by decide⟩ (Nat.zero_le _))
  clear ht hk hk1 HX
  go_enter Tryz.func75,Tryz.ntmps75
  go_wp2_with (go_at_call 95;(with_reducible refine HBg.out.mono ?_);rintro e w2 ⟨rfl,s2,g2⟩;have S2:=yH (s2 HT.out);have G2:=yH g2;have hz2:=g2.size;simp only[World.size_alloc] at hz2;have HZ2:=yH (HZ.out.grown g2 (fun e=>by injection e;omega));clear s2 g2;have hgl3:w.heap.size<w2.heap.size:=(by omega);have hne3: ¬w.heap.size=w2.heap.size:=(by omega);have hne4: ¬w2.heap.size=w.heap.size:=(by omega);obtain⟨⟨b0,b1,b2,b3⟩,u0,u1,u2,u3⟩:=HZ2.out.four)
  obtain⟨e1,e2,e3,e4⟩:=expr_end2 (v:=(1,0,[],none,0,0)) hgl HVw.out (grown_trans HA0.out G2.out) HZ2.out S2.out ⟨#[]⟩ rfl _ rfl (.cells #[yI k',.string (B x),yI n',yI p] 78) HLf.out
  obtain⟨W3,hW3⟩:∃W,((((w2.setCell ⟨w.heap.size,0,none⟩ (yI 1)).setCell ⟨w.heap.size,1,none⟩ (yI 0)).setCell ⟨w.heap.size,2,none⟩ (.string ⟨#[]⟩)).setCell ⟨w.heap.size,3,none⟩ (.slice none 0 0)).alloc (.cells #[yI k',.string (B x),yI n',yI p] 78)=W:=⟨_,rfl⟩
  simp only at e1 e2 e3 e4
  rw[hW3] at e1 e2 e3 e4⊢
  obtain⟨⟨y0,y1,y2,y3⟩,_⟩:=e1.four
  exact bodyPost_ret (v:=EV (1,0,[],none,0,0)) (by simp[results,Tryz.results75,go_sem,y0,y1,y2,y3];rfl) rfl (ExPost.yes HRs.out ⟨_,rfl,e2,e3,e4⟩)
 ·skip
  have HX:=yH (show x=[115,101,99,111,110,100] from(kind_some HOk.out false (k:=2) (by rw[←ht];exact hk) (by decide) (fun e=>absurd (show k'=3 from e) h3)).1)
  have hb1:=pword_no (show x≠[108,111,119,101,115,116] by first|exact HX.out|(rw[HX.out];decide))
  have hb2:=pword_yes (show x=[115,101,99,111,110,100] by first|exact HX.out|(rw[HX.out];decide))
  have HRs:=yH (show exprT (d+1) false ts= .ok (.mk 2 0 [] [],ts.tail) from exprT_leaf hk (by decide))
  have HT:=yH (HTl.out (.inr (by rw[hk1,HX.out];decide)))
  have HLf:=yH (fun(W:World)=>ExAt.leaf (fun k=>w.heap.size≤k) W 2 0 [] none 0 ⟨by decide,by decide⟩ ⟨by decide,by decide⟩ (Nat.zero_le _))
  clear ht hk hk1 HX
  go_enter Tryz.func75,Tryz.ntmps75
  go_wp2_with (go_at_call 95;(with_reducible refine HBg.out.mono ?_);rintro e w2 ⟨rfl,s2,g2⟩;have S2:=yH (s2 HT.out);have G2:=yH g2;have hz2:=g2.size;simp only[World.size_alloc] at hz2;have HZ2:=yH (HZ.out.grown g2 (fun e=>by injection e;omega));clear s2 g2;have hgl3:w.heap.size<w2.heap.size:=(by omega);have hne3: ¬w.heap.size=w2.heap.size:=(by omega);have hne4: ¬w2.heap.size=w.heap.size:=(by omega);obtain⟨⟨b0,b1,b2,b3⟩,u0,u1,u2,u3⟩:=HZ2.out.four)
  obtain⟨e1,e2,e3,e4⟩:=expr_end2 (v:=(2,0,[],none,0,0)) hgl HVw.out (grown_trans HA0.out G2.out) HZ2.out S2.out ⟨#[]⟩ rfl _ rfl (.cells #[yI k',.string (B x),yI n',yI p] 78) HLf.out
  obtain⟨W3,hW3⟩:∃W,((((w2.setCell ⟨w.heap.size,0,none⟩ (yI 2)).setCell ⟨w.heap.size,1,none⟩ (yI 0)).setCell ⟨w.heap.size,2,none⟩ (.string ⟨#[]⟩)).setCell ⟨w.heap.size,3,none⟩ (.slice none 0 0)).alloc (.cells #[yI k',.string (B x),yI n',yI p] 78)=W:=⟨_,rfl⟩
  simp only at e1 e2 e3 e4
  rw[hW3] at e1 e2 e3 e4⊢
  obtain⟨⟨y0,y1,y2,y3⟩,_⟩:=e1.four
  exact bodyPost_ret (v:=EV (2,0,[],none,0,0)) (by simp[results,Tryz.results75,go_sem,y0,y1,y2,y3];rfl) rfl (ExPost.yes HRs.out ⟨_,rfl,e2,e3,e4⟩)
 ·have HX:=yH (show x=[102,114,111,109] from(kind_some HOk.out false (k:=3) (by rw[←ht];exact hk) (by decide) (fun e=>absurd (show k'=3 from e) h3)).1)
  have hb1:=pword_no (show x≠[108,111,119,101,115,116] by first|exact HX.out|(rw[HX.out];decide))
  have hb2:=pword_no (show x≠[115,101,99,111,110,100] by first|exact HX.out|(rw[HX.out];decide))
  have hb3:=pword_yes (show x=[102,114,111,109] by first|exact HX.out|(rw[HX.out];decide))
  have hk1:(hdT ts).2.1≠[]:=by rw[hk1,HX.out];decide
  have hpc:piecesP (exprT d) [.na] 40 (.mk 3 0 [] []) ts.tail=callT (exprT d) 3 ts.tail:=call_pieces d 3 (by decide) ts.tail (tail_okP HF.out.oks)
  have hex:exprT (d+1) false ts=callT (exprT d) 3 ts.tail:=exprT_call hk (by decide) (by decide) (by decide)
  have HEx:=yH hex
  have HT:=yH (HTl.out (.inr hk1))
  cases hr:callT (exprT d) 3 ts.tail with
  |error e0=>
   rw[hr] at hpc
   have HRs:=yH (show exprT (d+1) false ts= .error e0 by rw[HEx.out,hr])
   have HC:=yH (fun(W:World)(q:Nat)(hs:StP V W g ts.tail a)(hq:Bk W q 152 #[.func (.func 97) #[.pointer (some ⟨g,0,none⟩)] #[]])=>call_res E had 3 ⟨by decide,by decide⟩ [.na] (by decide) hpc 1 1 rfl #[.func (.func 97) #[.pointer (some ⟨g,0,none⟩)] #[]] rfl W q hs hq)
   clear hpc hr hex hk hk1 ht HX
   go_enter Tryz.func75,Tryz.ntmps75
   go_wp2_with (first
    |(go_at_call 95;(with_reducible refine HBg.out.mono ?_);rintro e w2 ⟨rfl,s2,g2⟩;have S2:=yH (s2 HT.out);have G2:=yH g2;have hz2:=g2.size;simp only[World.size_alloc] at hz2;have HZ2:=yH (HZ.out.grown g2 (fun e=>by injection e;omega));clear s2 g2)
    |(go_at_call 96;have RT:=(S2.out.V.1.self.alloc (.cells #[yI k',.string (B x),yI n',yI p] 78)).alloc (.cells #[.func (.func 97) #[.pointer (some ⟨g,0,none⟩)] #[]] 152);have HBq:=Bk.new (w2.alloc (.cells #[yI k',.string (B x),yI n',yI p] 78)) 152 #[.func (.func 97) #[.pointer (some ⟨g,0,none⟩)] #[]];rw[World.size_alloc] at HBq;(with_reducible refine(HC.out _ _ (S2.out.rel RT) HBq).mono ?_);rintro e w3 h3;have HRT:=yH RT;obtain⟨rfl,g3⟩:=ExPost.at_no h3 rfl;clear h3 RT HBq))
   exact⟨rfl,ExPost.no HRs.out rfl (grown_trans (grown_trans HA0.out G2.out) (grown_trans (grown_rel (some g) HRT.out) g3))⟩
  |ok qq=>
   obtain⟨y,r⟩:=qq
   rw[hr] at hpc
   have HRs:=yH (show exprT (d+1) false ts= .ok (y,r) by rw[HEx.out,hr])
   have HC:=yH (fun(W:World)(q:Nat)(hs:StP V W g ts.tail a)(hq:Bk W q 152 #[.func (.func 97) #[.pointer (some ⟨g,0,none⟩)] #[]])=>call_res E had 3 ⟨by decide,by decide⟩ [.na] (by decide) hpc 1 1 rfl #[.func (.func 97) #[.pointer (some ⟨g,0,none⟩)] #[]] rfl W q hs hq)
   clear hpc hr hex hk hk1 ht HX
   go_enter Tryz.func75,Tryz.ntmps75
   go_wp2_with (first
    |(go_at_call 95;(with_reducible refine HBg.out.mono ?_);rintro e w2 ⟨rfl,s2,g2⟩;have S2:=yH (s2 HT.out);have G2:=yH g2;have hz2:=g2.size;simp only[World.size_alloc] at hz2;have HZ2:=yH (HZ.out.grown g2 (fun e=>by injection e;omega));clear s2 g2)
    |(go_at_call 96;have RT:=(S2.out.V.1.self.alloc (.cells #[yI k',.string (B x),yI n',yI p] 78)).alloc (.cells #[.func (.func 97) #[.pointer (some ⟨g,0,none⟩)] #[]] 152);have HBq:=Bk.new (w2.alloc (.cells #[yI k',.string (B x),yI n',yI p] 78)) 152 #[.func (.func 97) #[.pointer (some ⟨g,0,none⟩)] #[]];rw[World.size_alloc] at HBq;(with_reducible refine(HC.out _ _ (S2.out.rel RT) HBq).mono ?_);rintro e w3 h3;have HRT:=yH RT;obtain⟨v,rfl,ex,s3,g3⟩:=ExPost.at_yes h3 rfl;have hz3:=g3.size;simp only[World.size_alloc] at hz3;have HZ3:=yH ((HZ2.out.rel HRT.out).grown g3 (fun e=>by injection e;omega));obtain⟨⟨b0,b1,b2,b3⟩,u0,u1,u2,u3⟩:=HZ3.out.four;have HEx3:=yH (And.intro ex (And.intro s3 g3));clear ex s3 g3 h3 RT HBq))
   obtain⟨e1,e2,e3,e4⟩:=expr_end hgl HVw.out (W0:=w2.heap.size+1+1) (by omega) (grown_trans (grown_trans HA0.out G2.out) (grown_trans (grown_rel (some g) HRT.out) HEx3.out.2.2)) HZ3.out (by simpa using HEx3.out.1) HEx3.out.2.1 _ rfl
   obtain⟨⟨y0,y1,y2,y3⟩,_⟩:=e1.four
   exact bodyPost_ret (v:=EV v) (by simp[results,Tryz.results75,go_sem,y0,y1,y2,y3]) rfl (ExPost.yes HRs.out ⟨_,rfl,e2,e3,e4⟩)
 ·have HX:=yH (show x=[108,101,115,115] from(kind_some HOk.out false (k:=5) (by rw[←ht];exact hk) (by decide) (fun e=>absurd (show k'=3 from e) h3)).1)
  have hb1:=pword_no (show x≠[108,111,119,101,115,116] by first|exact HX.out|(rw[HX.out];decide))
  have hb2:=pword_no (show x≠[115,101,99,111,110,100] by first|exact HX.out|(rw[HX.out];decide))
  have hb3:=pword_no (show x≠[102,114,111,109] by first|exact HX.out|(rw[HX.out];decide))
  have hb5:=pword_yes (show x=[108,101,115,115] by first|exact HX.out|(rw[HX.out];decide))
  have hk1:(hdT ts).2.1≠[]:=by rw[hk1,HX.out];decide
  have hpc:piecesP (exprT d) [.ar,.am] 40 (.mk 5 0 [] []) ts.tail=callT (exprT d) 5 ts.tail:=call_pieces d 5 (by decide) ts.tail (tail_okP HF.out.oks)
  have hex:exprT (d+1) false ts=callT (exprT d) 5 ts.tail:=exprT_call hk (by decide) (by decide) (by decide)
  have HEx:=yH hex
  have HT:=yH (HTl.out (.inr hk1))
  cases hr:callT (exprT d) 5 ts.tail with
  |error e0=>
   rw[hr] at hpc
   have HRs:=yH (show exprT (d+1) false ts= .error e0 by rw[HEx.out,hr])
   have HC:=yH (fun(W:World)(q:Nat)(hs:StP V W g ts.tail a)(hq:Bk W q 152 #[.func (.func 98) #[.pointer (some ⟨g,0,none⟩)] #[],.func (.func 99) #[.pointer (some ⟨g,0,none⟩)] #[]])=>call_res E had 5 ⟨by decide,by decide⟩ [.ar,.am] (by decide) hpc 2 2 rfl #[.func (.func 98) #[.pointer (some ⟨g,0,none⟩)] #[],.func (.func 99) #[.pointer (some ⟨g,0,none⟩)] #[]] rfl W q hs hq)
   clear hpc hr hex hk hk1 ht HX
   go_enter Tryz.func75,Tryz.ntmps75
   go_wp2_with (first
    |(go_at_call 95;(with_reducible refine HBg.out.mono ?_);rintro e w2 ⟨rfl,s2,g2⟩;have S2:=yH (s2 HT.out);have G2:=yH g2;have hz2:=g2.size;simp only[World.size_alloc] at hz2;have HZ2:=yH (HZ.out.grown g2 (fun e=>by injection e;omega));clear s2 g2)
    |(go_at_call 96;have RT:=(S2.out.V.1.self.alloc (.cells #[yI k',.string (B x),yI n',yI p] 78)).alloc (.cells #[.func (.func 98) #[.pointer (some ⟨g,0,none⟩)] #[],.func (.func 99) #[.pointer (some ⟨g,0,none⟩)] #[]] 152);have HBq:=Bk.new (w2.alloc (.cells #[yI k',.string (B x),yI n',yI p] 78)) 152 #[.func (.func 98) #[.pointer (some ⟨g,0,none⟩)] #[],.func (.func 99) #[.pointer (some ⟨g,0,none⟩)] #[]];rw[World.size_alloc] at HBq;(with_reducible refine(HC.out _ _ (S2.out.rel RT) HBq).mono ?_);rintro e w3 h3;have HRT:=yH RT;obtain⟨rfl,g3⟩:=ExPost.at_no h3 rfl;clear h3 RT HBq))
   exact⟨rfl,ExPost.no HRs.out rfl (grown_trans (grown_trans HA0.out G2.out) (grown_trans (grown_rel (some g) HRT.out) g3))⟩
  |ok qq=>
   obtain⟨y,r⟩:=qq
   rw[hr] at hpc
   have HRs:=yH (show exprT (d+1) false ts= .ok (y,r) by rw[HEx.out,hr])
   have HC:=yH (fun(W:World)(q:Nat)(hs:StP V W g ts.tail a)(hq:Bk W q 152 #[.func (.func 98) #[.pointer (some ⟨g,0,none⟩)] #[],.func (.func 99) #[.pointer (some ⟨g,0,none⟩)] #[]])=>call_res E had 5 ⟨by decide,by decide⟩ [.ar,.am] (by decide) hpc 2 2 rfl #[.func (.func 98) #[.pointer (some ⟨g,0,none⟩)] #[],.func (.func 99) #[.pointer (some ⟨g,0,none⟩)] #[]] rfl W q hs hq)
   clear hpc hr hex hk hk1 ht HX
   go_enter Tryz.func75,Tryz.ntmps75
   go_wp2_with (first
    |(go_at_call 95;(with_reducible refine HBg.out.mono ?_);rintro e w2 ⟨rfl,s2,g2⟩;have S2:=yH (s2 HT.out);have G2:=yH g2;have hz2:=g2.size;simp only[World.size_alloc] at hz2;have HZ2:=yH (HZ.out.grown g2 (fun e=>by injection e;omega));clear s2 g2)
    |(go_at_call 96;have RT:=(S2.out.V.1.self.alloc (.cells #[yI k',.string (B x),yI n',yI p] 78)).alloc (.cells #[.func (.func 98) #[.pointer (some ⟨g,0,none⟩)] #[],.func (.func 99) #[.pointer (some ⟨g,0,none⟩)] #[]] 152);have HBq:=Bk.new (w2.alloc (.cells #[yI k',.string (B x),yI n',yI p] 78)) 152 #[.func (.func 98) #[.pointer (some ⟨g,0,none⟩)] #[],.func (.func 99) #[.pointer (some ⟨g,0,none⟩)] #[]];rw[World.size_alloc] at HBq;(with_reducible refine(HC.out _ _ (S2.out.rel RT) HBq).mono ?_);rintro e w3 h3;have HRT:=yH RT;obtain⟨v,rfl,ex,s3,g3⟩:=ExPost.at_yes h3 rfl;have hz3:=g3.size;simp only[World.size_alloc] at hz3;have HZ3:=yH ((HZ2.out.rel HRT.out).grown g3 (fun e=>by injection e;omega));obtain⟨⟨b0,b1,b2,b3⟩,u0,u1,u2,u3⟩:=HZ3.out.four;have HEx3:=yH (And.intro ex (And.intro s3 g3));clear ex s3 g3 h3 RT HBq))
   obtain⟨e1,e2,e3,e4⟩:=expr_end hgl HVw.out (W0:=w2.heap.size+1+1) (by omega) (grown_trans (grown_trans HA0.out G2.out) (grown_trans (grown_rel (some g) HRT.out) HEx3.out.2.2)) HZ3.out (by simpa using HEx3.out.1) HEx3.out.2.1 _ rfl
   obtain⟨⟨y0,y1,y2,y3⟩,_⟩:=e1.four
   exact bodyPost_ret (v:=EV v) (by simp[results,Tryz.results75,go_sem,y0,y1,y2,y3]) rfl (ExPost.yes HRs.out ⟨_,rfl,e2,e3,e4⟩)
 ·have HX:=yH (show x=[99,117,116] from(kind_some HOk.out false (k:=6) (by rw[←ht];exact hk) (by decide) (fun e=>absurd (show k'=3 from e) h3)).1)
  have hb1:=pword_no (show x≠[108,111,119,101,115,116] by first|exact HX.out|(rw[HX.out];decide))
  have hb2:=pword_no (show x≠[115,101,99,111,110,100] by first|exact HX.out|(rw[HX.out];decide))
  have hb3:=pword_no (show x≠[102,114,111,109] by first|exact HX.out|(rw[HX.out];decide))
  have hb5:=pword_no (show x≠[108,101,115,115] by first|exact HX.out|(rw[HX.out];decide))
  have hb6:=pword_yes (show x=[99,117,116] by first|exact HX.out|(rw[HX.out];decide))
  have hk1:(hdT ts).2.1≠[]:=by rw[hk1,HX.out];decide
  have hpc:piecesP (exprT d) [.ar,.pa] 40 (.mk 6 0 [] []) ts.tail=callT (exprT d) 6 ts.tail:=call_pieces d 6 (by decide) ts.tail (tail_okP HF.out.oks)
  have hex:exprT (d+1) false ts=callT (exprT d) 6 ts.tail:=exprT_call hk (by decide) (by decide) (by decide)
  have HEx:=yH hex
  have HT:=yH (HTl.out (.inr hk1))
  cases hr:callT (exprT d) 6 ts.tail with
  |error e0=>
   rw[hr] at hpc
   have HRs:=yH (show exprT (d+1) false ts= .error e0 by rw[HEx.out,hr])
   have HC:=yH (fun(W:World)(q:Nat)(hs:StP V W g ts.tail a)(hq:Bk W q 152 #[.func (.func 98) #[.pointer (some ⟨g,0,none⟩)] #[],.func (.func 100) #[.pointer (some ⟨g,0,none⟩)] #[]])=>call_res E had 6 ⟨by decide,by decide⟩ [.ar,.pa] (by decide) hpc 2 2 rfl #[.func (.func 98) #[.pointer (some ⟨g,0,none⟩)] #[],.func (.func 100) #[.pointer (some ⟨g,0,none⟩)] #[]] rfl W q hs hq)
   clear hpc hr hex hk hk1 ht HX
   go_enter Tryz.func75,Tryz.ntmps75
   go_wp2_with (first
    |(go_at_call 95;(with_reducible refine HBg.out.mono ?_);rintro e w2 ⟨rfl,s2,g2⟩;have S2:=yH (s2 HT.out);have G2:=yH g2;have hz2:=g2.size;simp only[World.size_alloc] at hz2;have HZ2:=yH (HZ.out.grown g2 (fun e=>by injection e;omega));clear s2 g2)
    |(go_at_call 96;have RT:=(S2.out.V.1.self.alloc (.cells #[yI k',.string (B x),yI n',yI p] 78)).alloc (.cells #[.func (.func 98) #[.pointer (some ⟨g,0,none⟩)] #[],.func (.func 100) #[.pointer (some ⟨g,0,none⟩)] #[]] 152);have HBq:=Bk.new (w2.alloc (.cells #[yI k',.string (B x),yI n',yI p] 78)) 152 #[.func (.func 98) #[.pointer (some ⟨g,0,none⟩)] #[],.func (.func 100) #[.pointer (some ⟨g,0,none⟩)] #[]];rw[World.size_alloc] at HBq;(with_reducible refine(HC.out _ _ (S2.out.rel RT) HBq).mono ?_);rintro e w3 h3;have HRT:=yH RT;obtain⟨rfl,g3⟩:=ExPost.at_no h3 rfl;clear h3 RT HBq))
   exact⟨rfl,ExPost.no HRs.out rfl (grown_trans (grown_trans HA0.out G2.out) (grown_trans (grown_rel (some g) HRT.out) g3))⟩
  |ok qq=>
   obtain⟨y,r⟩:=qq
   rw[hr] at hpc
   have HRs:=yH (show exprT (d+1) false ts= .ok (y,r) by rw[HEx.out,hr])
   have HC:=yH (fun(W:World)(q:Nat)(hs:StP V W g ts.tail a)(hq:Bk W q 152 #[.func (.func 98) #[.pointer (some ⟨g,0,none⟩)] #[],.func (.func 100) #[.pointer (some ⟨g,0,none⟩)] #[]])=>call_res E had 6 ⟨by decide,by decide⟩ [.ar,.pa] (by decide) hpc 2 2 rfl #[.func (.func 98) #[.pointer (some ⟨g,0,none⟩)] #[],.func (.func 100) #[.pointer (some ⟨g,0,none⟩)] #[]] rfl W q hs hq)
   clear hpc hr hex hk hk1 ht HX
   go_enter Tryz.func75,Tryz.ntmps75
   go_wp2_with (first
    |(go_at_call 95;(with_reducible refine HBg.out.mono ?_);rintro e w2 ⟨rfl,s2,g2⟩;have S2:=yH (s2 HT.out);have G2:=yH g2;have hz2:=g2.size;simp only[World.size_alloc] at hz2;have HZ2:=yH (HZ.out.grown g2 (fun e=>by injection e;omega));clear s2 g2)
    |(go_at_call 96;have RT:=(S2.out.V.1.self.alloc (.cells #[yI k',.string (B x),yI n',yI p] 78)).alloc (.cells #[.func (.func 98) #[.pointer (some ⟨g,0,none⟩)] #[],.func (.func 100) #[.pointer (some ⟨g,0,none⟩)] #[]] 152);have HBq:=Bk.new (w2.alloc (.cells #[yI k',.string (B x),yI n',yI p] 78)) 152 #[.func (.func 98) #[.pointer (some ⟨g,0,none⟩)] #[],.func (.func 100) #[.pointer (some ⟨g,0,none⟩)] #[]];rw[World.size_alloc] at HBq;(with_reducible refine(HC.out _ _ (S2.out.rel RT) HBq).mono ?_);rintro e w3 h3;have HRT:=yH RT;obtain⟨v,rfl,ex,s3,g3⟩:=ExPost.at_yes h3 rfl;have hz3:=g3.size;simp only[World.size_alloc] at hz3;have HZ3:=yH ((HZ2.out.rel HRT.out).grown g3 (fun e=>by injection e;omega));obtain⟨⟨b0,b1,b2,b3⟩,u0,u1,u2,u3⟩:=HZ3.out.four;have HEx3:=yH (And.intro ex (And.intro s3 g3));clear ex s3 g3 h3 RT HBq))
   obtain⟨e1,e2,e3,e4⟩:=expr_end hgl HVw.out (W0:=w2.heap.size+1+1) (by omega) (grown_trans (grown_trans HA0.out G2.out) (grown_trans (grown_rel (some g) HRT.out) HEx3.out.2.2)) HZ3.out (by simpa using HEx3.out.1) HEx3.out.2.1 _ rfl
   obtain⟨⟨y0,y1,y2,y3⟩,_⟩:=e1.four
   exact bodyPost_ret (v:=EV v) (by simp[results,Tryz.results75,go_sem,y0,y1,y2,y3]) rfl (ExPost.yes HRs.out ⟨_,rfl,e2,e3,e4⟩)
 ·have HX:=yH (show x=[109,105,110] from(kind_some HOk.out false (k:=7) (by rw[←ht];exact hk) (by decide) (fun e=>absurd (show k'=3 from e) h3)).1)
  have hb1:=pword_no (show x≠[108,111,119,101,115,116] by first|exact HX.out|(rw[HX.out];decide))
  have hb2:=pword_no (show x≠[115,101,99,111,110,100] by first|exact HX.out|(rw[HX.out];decide))
  have hb3:=pword_no (show x≠[102,114,111,109] by first|exact HX.out|(rw[HX.out];decide))
  have hb5:=pword_no (show x≠[108,101,115,115] by first|exact HX.out|(rw[HX.out];decide))
  have hb6:=pword_no (show x≠[99,117,116] by first|exact HX.out|(rw[HX.out];decide))
  have hb7:=pword_yes (show x=[109,105,110] by first|exact HX.out|(rw[HX.out];decide))
  have hk1:(hdT ts).2.1≠[]:=by rw[hk1,HX.out];decide
  have hpc:piecesP (exprT d) [.ar,.ar] 40 (.mk 7 0 [] []) ts.tail=callT (exprT d) 7 ts.tail:=call_pieces d 7 (by decide) ts.tail (tail_okP HF.out.oks)
  have hex:exprT (d+1) false ts=callT (exprT d) 7 ts.tail:=exprT_call hk (by decide) (by decide) (by decide)
  have HEx:=yH hex
  have HT:=yH (HTl.out (.inr hk1))
  cases hr:callT (exprT d) 7 ts.tail with
  |error e0=>
   rw[hr] at hpc
   have HRs:=yH (show exprT (d+1) false ts= .error e0 by rw[HEx.out,hr])
   have HC:=yH (fun(W:World)(q:Nat)(hs:StP V W g ts.tail a)(hq:Bk W q 152 #[.func (.func 98) #[.pointer (some ⟨g,0,none⟩)] #[],.func (.func 98) #[.pointer (some ⟨g,0,none⟩)] #[]])=>call_res E had 7 ⟨by decide,by decide⟩ [.ar,.ar] (by decide) hpc 2 2 rfl #[.func (.func 98) #[.pointer (some ⟨g,0,none⟩)] #[],.func (.func 98) #[.pointer (some ⟨g,0,none⟩)] #[]] rfl W q hs hq)
   clear hpc hr hex hk hk1 ht HX
   go_enter Tryz.func75,Tryz.ntmps75
   go_wp2_with (first
    |(go_at_call 95;(with_reducible refine HBg.out.mono ?_);rintro e w2 ⟨rfl,s2,g2⟩;have S2:=yH (s2 HT.out);have G2:=yH g2;have hz2:=g2.size;simp only[World.size_alloc] at hz2;have HZ2:=yH (HZ.out.grown g2 (fun e=>by injection e;omega));clear s2 g2)
    |(go_at_call 96;have RT:=(S2.out.V.1.self.alloc (.cells #[yI k',.string (B x),yI n',yI p] 78)).alloc (.cells #[.func (.func 98) #[.pointer (some ⟨g,0,none⟩)] #[],.func (.func 98) #[.pointer (some ⟨g,0,none⟩)] #[]] 152);have HBq:=Bk.new (w2.alloc (.cells #[yI k',.string (B x),yI n',yI p] 78)) 152 #[.func (.func 98) #[.pointer (some ⟨g,0,none⟩)] #[],.func (.func 98) #[.pointer (some ⟨g,0,none⟩)] #[]];rw[World.size_alloc] at HBq;(with_reducible refine(HC.out _ _ (S2.out.rel RT) HBq).mono ?_);rintro e w3 h3;have HRT:=yH RT;obtain⟨rfl,g3⟩:=ExPost.at_no h3 rfl;clear h3 RT HBq))
   exact⟨rfl,ExPost.no HRs.out rfl (grown_trans (grown_trans HA0.out G2.out) (grown_trans (grown_rel (some g) HRT.out) g3))⟩
  |ok qq=>
   obtain⟨y,r⟩:=qq
   rw[hr] at hpc
   have HRs:=yH (show exprT (d+1) false ts= .ok (y,r) by rw[HEx.out,hr])
   have HC:=yH (fun(W:World)(q:Nat)(hs:StP V W g ts.tail a)(hq:Bk W q 152 #[.func (.func 98) #[.pointer (some ⟨g,0,none⟩)] #[],.func (.func 98) #[.pointer (some ⟨g,0,none⟩)] #[]])=>call_res E had 7 ⟨by decide,by decide⟩ [.ar,.ar] (by decide) hpc 2 2 rfl #[.func (.func 98) #[.pointer (some ⟨g,0,none⟩)] #[],.func (.func 98) #[.pointer (some ⟨g,0,none⟩)] #[]] rfl W q hs hq)
   clear hpc hr hex hk hk1 ht HX
   go_enter Tryz.func75,Tryz.ntmps75
   go_wp2_with (first
    |(go_at_call 95;(with_reducible refine HBg.out.mono ?_);rintro e w2 ⟨rfl,s2,g2⟩;have S2:=yH (s2 HT.out);have G2:=yH g2;have hz2:=g2.size;simp only[World.size_alloc] at hz2;have HZ2:=yH (HZ.out.grown g2 (fun e=>by injection e;omega));clear s2 g2)
    |(go_at_call 96;have RT:=(S2.out.V.1.self.alloc (.cells #[yI k',.string (B x),yI n',yI p] 78)).alloc (.cells #[.func (.func 98) #[.pointer (some ⟨g,0,none⟩)] #[],.func (.func 98) #[.pointer (some ⟨g,0,none⟩)] #[]] 152);have HBq:=Bk.new (w2.alloc (.cells #[yI k',.string (B x),yI n',yI p] 78)) 152 #[.func (.func 98) #[.pointer (some ⟨g,0,none⟩)] #[],.func (.func 98) #[.pointer (some ⟨g,0,none⟩)] #[]];rw[World.size_alloc] at HBq;(with_reducible refine(HC.out _ _ (S2.out.rel RT) HBq).mono ?_);rintro e w3 h3;have HRT:=yH RT;obtain⟨v,rfl,ex,s3,g3⟩:=ExPost.at_yes h3 rfl;have hz3:=g3.size;simp only[World.size_alloc] at hz3;have HZ3:=yH ((HZ2.out.rel HRT.out).grown g3 (fun e=>by injection e;omega));obtain⟨⟨b0,b1,b2,b3⟩,u0,u1,u2,u3⟩:=HZ3.out.four;have HEx3:=yH (And.intro ex (And.intro s3 g3));clear ex s3 g3 h3 RT HBq))
   obtain⟨e1,e2,e3,e4⟩:=expr_end hgl HVw.out (W0:=w2.heap.size+1+1) (by omega) (grown_trans (grown_trans HA0.out G2.out) (grown_trans (grown_rel (some g) HRT.out) HEx3.out.2.2)) HZ3.out (by simpa using HEx3.out.1) HEx3.out.2.1 _ rfl
   obtain⟨⟨y0,y1,y2,y3⟩,_⟩:=e1.four
   exact bodyPost_ret (v:=EV v) (by simp[results,Tryz.results75,go_sem,y0,y1,y2,y3]) rfl (ExPost.yes HRs.out ⟨_,rfl,e2,e3,e4⟩)
 ·have HX:=yH (show x=[109,97,120] from(kind_some HOk.out false (k:=8) (by rw[←ht];exact hk) (by decide) (fun e=>absurd (show k'=3 from e) h3)).1)
  have hb1:=pword_no (show x≠[108,111,119,101,115,116] by first|exact HX.out|(rw[HX.out];decide))
  have hb2:=pword_no (show x≠[115,101,99,111,110,100] by first|exact HX.out|(rw[HX.out];decide))
  have hb3:=pword_no (show x≠[102,114,111,109] by first|exact HX.out|(rw[HX.out];decide))
  have hb5:=pword_no (show x≠[108,101,115,115] by first|exact HX.out|(rw[HX.out];decide))
  have hb6:=pword_no (show x≠[99,117,116] by first|exact HX.out|(rw[HX.out];decide))
  have hb7:=pword_no (show x≠[109,105,110] by first|exact HX.out|(rw[HX.out];decide))
  have hb8:=pword_yes (show x=[109,97,120] by first|exact HX.out|(rw[HX.out];decide))
  have hk1:(hdT ts).2.1≠[]:=by rw[hk1,HX.out];decide
  have hpc:piecesP (exprT d) [.ar,.ar] 40 (.mk 8 0 [] []) ts.tail=callT (exprT d) 8 ts.tail:=call_pieces d 8 (by decide) ts.tail (tail_okP HF.out.oks)
  have hex:exprT (d+1) false ts=callT (exprT d) 8 ts.tail:=exprT_call hk (by decide) (by decide) (by decide)
  have HEx:=yH hex
  have HT:=yH (HTl.out (.inr hk1))
  cases hr:callT (exprT d) 8 ts.tail with
  |error e0=>
   rw[hr] at hpc
   have HRs:=yH (show exprT (d+1) false ts= .error e0 by rw[HEx.out,hr])
   have HC:=yH (fun(W:World)(q:Nat)(hs:StP V W g ts.tail a)(hq:Bk W q 152 #[.func (.func 98) #[.pointer (some ⟨g,0,none⟩)] #[],.func (.func 98) #[.pointer (some ⟨g,0,none⟩)] #[]])=>call_res E had 8 ⟨by decide,by decide⟩ [.ar,.ar] (by decide) hpc 2 2 rfl #[.func (.func 98) #[.pointer (some ⟨g,0,none⟩)] #[],.func (.func 98) #[.pointer (some ⟨g,0,none⟩)] #[]] rfl W q hs hq)
   clear hpc hr hex hk hk1 ht HX
   go_enter Tryz.func75,Tryz.ntmps75
   go_wp2_with (first
    |(go_at_call 95;(with_reducible refine HBg.out.mono ?_);rintro e w2 ⟨rfl,s2,g2⟩;have S2:=yH (s2 HT.out);have G2:=yH g2;have hz2:=g2.size;simp only[World.size_alloc] at hz2;have HZ2:=yH (HZ.out.grown g2 (fun e=>by injection e;omega));clear s2 g2)
    |(go_at_call 96;have RT:=(S2.out.V.1.self.alloc (.cells #[yI k',.string (B x),yI n',yI p] 78)).alloc (.cells #[.func (.func 98) #[.pointer (some ⟨g,0,none⟩)] #[],.func (.func 98) #[.pointer (some ⟨g,0,none⟩)] #[]] 152);have HBq:=Bk.new (w2.alloc (.cells #[yI k',.string (B x),yI n',yI p] 78)) 152 #[.func (.func 98) #[.pointer (some ⟨g,0,none⟩)] #[],.func (.func 98) #[.pointer (some ⟨g,0,none⟩)] #[]];rw[World.size_alloc] at HBq;(with_reducible refine(HC.out _ _ (S2.out.rel RT) HBq).mono ?_);rintro e w3 h3;have HRT:=yH RT;obtain⟨rfl,g3⟩:=ExPost.at_no h3 rfl;clear h3 RT HBq))
   exact⟨rfl,ExPost.no HRs.out rfl (grown_trans (grown_trans HA0.out G2.out) (grown_trans (grown_rel (some g) HRT.out) g3))⟩
  |ok qq=>
   obtain⟨y,r⟩:=qq
   rw[hr] at hpc
   have HRs:=yH (show exprT (d+1) false ts= .ok (y,r) by rw[HEx.out,hr])
   have HC:=yH (fun(W:World)(q:Nat)(hs:StP V W g ts.tail a)(hq:Bk W q 152 #[.func (.func 98) #[.pointer (some ⟨g,0,none⟩)] #[],.func (.func 98) #[.pointer (some ⟨g,0,none⟩)] #[]])=>call_res E had 8 ⟨by decide,by decide⟩ [.ar,.ar] (by decide) hpc 2 2 rfl #[.func (.func 98) #[.pointer (some ⟨g,0,none⟩)] #[],.func (.func 98) #[.pointer (some ⟨g,0,none⟩)] #[]] rfl W q hs hq)
   clear hpc hr hex hk hk1 ht HX
   go_enter Tryz.func75,Tryz.ntmps75
   go_wp2_with (first
    |(go_at_call 95;(with_reducible refine HBg.out.mono ?_);rintro e w2 ⟨rfl,s2,g2⟩;have S2:=yH (s2 HT.out);have G2:=yH g2;have hz2:=g2.size;simp only[World.size_alloc] at hz2;have HZ2:=yH (HZ.out.grown g2 (fun e=>by injection e;omega));clear s2 g2)
    |(go_at_call 96;have RT:=(S2.out.V.1.self.alloc (.cells #[yI k',.string (B x),yI n',yI p] 78)).alloc (.cells #[.func (.func 98) #[.pointer (some ⟨g,0,none⟩)] #[],.func (.func 98) #[.pointer (some ⟨g,0,none⟩)] #[]] 152);have HBq:=Bk.new (w2.alloc (.cells #[yI k',.string (B x),yI n',yI p] 78)) 152 #[.func (.func 98) #[.pointer (some ⟨g,0,none⟩)] #[],.func (.func 98) #[.pointer (some ⟨g,0,none⟩)] #[]];rw[World.size_alloc] at HBq;(with_reducible refine(HC.out _ _ (S2.out.rel RT) HBq).mono ?_);rintro e w3 h3;have HRT:=yH RT;obtain⟨v,rfl,ex,s3,g3⟩:=ExPost.at_yes h3 rfl;have hz3:=g3.size;simp only[World.size_alloc] at hz3;have HZ3:=yH ((HZ2.out.rel HRT.out).grown g3 (fun e=>by injection e;omega));obtain⟨⟨b0,b1,b2,b3⟩,u0,u1,u2,u3⟩:=HZ3.out.four;have HEx3:=yH (And.intro ex (And.intro s3 g3));clear ex s3 g3 h3 RT HBq))
   obtain⟨e1,e2,e3,e4⟩:=expr_end hgl HVw.out (W0:=w2.heap.size+1+1) (by omega) (grown_trans (grown_trans HA0.out G2.out) (grown_trans (grown_rel (some g) HRT.out) HEx3.out.2.2)) HZ3.out (by simpa using HEx3.out.1) HEx3.out.2.1 _ rfl
   obtain⟨⟨y0,y1,y2,y3⟩,_⟩:=e1.four
   exact bodyPost_ret (v:=EV v) (by simp[results,Tryz.results75,go_sem,y0,y1,y2,y3]) rfl (ExPost.yes HRs.out ⟨_,rfl,e2,e3,e4⟩)
 ·have HX:=yH (show x=[101,108,115,101] from(kind_some HOk.out false (k:=9) (by rw[←ht];exact hk) (by decide) (fun e=>absurd (show k'=3 from e) h3)).1)
  have hb1:=pword_no (show x≠[108,111,119,101,115,116] by first|exact HX.out|(rw[HX.out];decide))
  have hb2:=pword_no (show x≠[115,101,99,111,110,100] by first|exact HX.out|(rw[HX.out];decide))
  have hb3:=pword_no (show x≠[102,114,111,109] by first|exact HX.out|(rw[HX.out];decide))
  have hb5:=pword_no (show x≠[108,101,115,115] by first|exact HX.out|(rw[HX.out];decide))
  have hb6:=pword_no (show x≠[99,117,116] by first|exact HX.out|(rw[HX.out];decide))
  have hb7:=pword_no (show x≠[109,105,110] by first|exact HX.out|(rw[HX.out];decide))
  have hb8:=pword_no (show x≠[109,97,120] by first|exact HX.out|(rw[HX.out];decide))
  have hb9:=pword_yes (show x=[101,108,115,101] by first|exact HX.out|(rw[HX.out];decide))
  have hk1:(hdT ts).2.1≠[]:=by rw[hk1,HX.out];decide
  have hpc:piecesP (exprT d) [.ar,.ar] 40 (.mk 9 0 [] []) ts.tail=callT (exprT d) 9 ts.tail:=call_pieces d 9 (by decide) ts.tail (tail_okP HF.out.oks)
  have hex:exprT (d+1) false ts=callT (exprT d) 9 ts.tail:=exprT_call hk (by decide) (by decide) (by decide)
  have HEx:=yH hex
  have HT:=yH (HTl.out (.inr hk1))
  cases hr:callT (exprT d) 9 ts.tail with
  |error e0=>
   rw[hr] at hpc
   have HRs:=yH (show exprT (d+1) false ts= .error e0 by rw[HEx.out,hr])
   have HC:=yH (fun(W:World)(q:Nat)(hs:StP V W g ts.tail a)(hq:Bk W q 152 #[.func (.func 98) #[.pointer (some ⟨g,0,none⟩)] #[],.func (.func 98) #[.pointer (some ⟨g,0,none⟩)] #[]])=>call_res E had 9 ⟨by decide,by decide⟩ [.ar,.ar] (by decide) hpc 2 2 rfl #[.func (.func 98) #[.pointer (some ⟨g,0,none⟩)] #[],.func (.func 98) #[.pointer (some ⟨g,0,none⟩)] #[]] rfl W q hs hq)
   clear hpc hr hex hk hk1 ht HX
   go_enter Tryz.func75,Tryz.ntmps75
   go_wp2_with (first
    |(go_at_call 95;(with_reducible refine HBg.out.mono ?_);rintro e w2 ⟨rfl,s2,g2⟩;have S2:=yH (s2 HT.out);have G2:=yH g2;have hz2:=g2.size;simp only[World.size_alloc] at hz2;have HZ2:=yH (HZ.out.grown g2 (fun e=>by injection e;omega));clear s2 g2)
    |(go_at_call 96;have RT:=(S2.out.V.1.self.alloc (.cells #[yI k',.string (B x),yI n',yI p] 78)).alloc (.cells #[.func (.func 98) #[.pointer (some ⟨g,0,none⟩)] #[],.func (.func 98) #[.pointer (some ⟨g,0,none⟩)] #[]] 152);have HBq:=Bk.new (w2.alloc (.cells #[yI k',.string (B x),yI n',yI p] 78)) 152 #[.func (.func 98) #[.pointer (some ⟨g,0,none⟩)] #[],.func (.func 98) #[.pointer (some ⟨g,0,none⟩)] #[]];rw[World.size_alloc] at HBq;(with_reducible refine(HC.out _ _ (S2.out.rel RT) HBq).mono ?_);rintro e w3 h3;have HRT:=yH RT;obtain⟨rfl,g3⟩:=ExPost.at_no h3 rfl;clear h3 RT HBq))
   exact⟨rfl,ExPost.no HRs.out rfl (grown_trans (grown_trans HA0.out G2.out) (grown_trans (grown_rel (some g) HRT.out) g3))⟩
  |ok qq=>
   obtain⟨y,r⟩:=qq
   rw[hr] at hpc
   have HRs:=yH (show exprT (d+1) false ts= .ok (y,r) by rw[HEx.out,hr])
   have HC:=yH (fun(W:World)(q:Nat)(hs:StP V W g ts.tail a)(hq:Bk W q 152 #[.func (.func 98) #[.pointer (some ⟨g,0,none⟩)] #[],.func (.func 98) #[.pointer (some ⟨g,0,none⟩)] #[]])=>call_res E had 9 ⟨by decide,by decide⟩ [.ar,.ar] (by decide) hpc 2 2 rfl #[.func (.func 98) #[.pointer (some ⟨g,0,none⟩)] #[],.func (.func 98) #[.pointer (some ⟨g,0,none⟩)] #[]] rfl W q hs hq)
   clear hpc hr hex hk hk1 ht HX
   go_enter Tryz.func75,Tryz.ntmps75
   go_wp2_with (first
    |(go_at_call 95;(with_reducible refine HBg.out.mono ?_);rintro e w2 ⟨rfl,s2,g2⟩;have S2:=yH (s2 HT.out);have G2:=yH g2;have hz2:=g2.size;simp only[World.size_alloc] at hz2;have HZ2:=yH (HZ.out.grown g2 (fun e=>by injection e;omega));clear s2 g2)
    |(go_at_call 96;have RT:=(S2.out.V.1.self.alloc (.cells #[yI k',.string (B x),yI n',yI p] 78)).alloc (.cells #[.func (.func 98) #[.pointer (some ⟨g,0,none⟩)] #[],.func (.func 98) #[.pointer (some ⟨g,0,none⟩)] #[]] 152);have HBq:=Bk.new (w2.alloc (.cells #[yI k',.string (B x),yI n',yI p] 78)) 152 #[.func (.func 98) #[.pointer (some ⟨g,0,none⟩)] #[],.func (.func 98) #[.pointer (some ⟨g,0,none⟩)] #[]];rw[World.size_alloc] at HBq;(with_reducible refine(HC.out _ _ (S2.out.rel RT) HBq).mono ?_);rintro e w3 h3;have HRT:=yH RT;obtain⟨v,rfl,ex,s3,g3⟩:=ExPost.at_yes h3 rfl;have hz3:=g3.size;simp only[World.size_alloc] at hz3;have HZ3:=yH ((HZ2.out.rel HRT.out).grown g3 (fun e=>by injection e;omega));obtain⟨⟨b0,b1,b2,b3⟩,u0,u1,u2,u3⟩:=HZ3.out.four;have HEx3:=yH (And.intro ex (And.intro s3 g3));clear ex s3 g3 h3 RT HBq))
   obtain⟨e1,e2,e3,e4⟩:=expr_end hgl HVw.out (W0:=w2.heap.size+1+1) (by omega) (grown_trans (grown_trans HA0.out G2.out) (grown_trans (grown_rel (some g) HRT.out) HEx3.out.2.2)) HZ3.out (by simpa using HEx3.out.1) HEx3.out.2.1 _ rfl
   obtain⟨⟨y0,y1,y2,y3⟩,_⟩:=e1.four
   exact bodyPost_ret (v:=EV v) (by simp[results,Tryz.results75,go_sem,y0,y1,y2,y3]) rfl (ExPost.yes HRs.out ⟨_,rfl,e2,e3,e4⟩)
 ·have HX:=yH (show x=[105,102] from(kind_some HOk.out false (k:=10) (by rw[←ht];exact hk) (by decide) (fun e=>absurd (show k'=3 from e) h3)).1)
  have hb1:=pword_no (show x≠[108,111,119,101,115,116] by first|exact HX.out|(rw[HX.out];decide))
  have hb2:=pword_no (show x≠[115,101,99,111,110,100] by first|exact HX.out|(rw[HX.out];decide))
  have hb3:=pword_no (show x≠[102,114,111,109] by first|exact HX.out|(rw[HX.out];decide))
  have hb5:=pword_no (show x≠[108,101,115,115] by first|exact HX.out|(rw[HX.out];decide))
  have hb6:=pword_no (show x≠[99,117,116] by first|exact HX.out|(rw[HX.out];decide))
  have hb7:=pword_no (show x≠[109,105,110] by first|exact HX.out|(rw[HX.out];decide))
  have hb8:=pword_no (show x≠[109,97,120] by first|exact HX.out|(rw[HX.out];decide))
  have hb9:=pword_no (show x≠[101,108,115,101] by first|exact HX.out|(rw[HX.out];decide))
  have hb10:=pword_yes (show x=[105,102] by first|exact HX.out|(rw[HX.out];decide))
  have hk1:(hdT ts).2.1≠[]:=by rw[hk1,HX.out];decide
  have hpc:piecesP (exprT d) [.wh,.ar,.ar] 40 (.mk 10 0 [] []) ts.tail=callT (exprT d) 10 ts.tail:=call_pieces d 10 (by decide) ts.tail (tail_okP HF.out.oks)
  have hex:exprT (d+1) false ts=callT (exprT d) 10 ts.tail:=exprT_call hk (by decide) (by decide) (by decide)
  have HEx:=yH hex
  have HT:=yH (HTl.out (.inr hk1))
  cases hr:callT (exprT d) 10 ts.tail with
  |error e0=>
   rw[hr] at hpc
   have HRs:=yH (show exprT (d+1) false ts= .error e0 by rw[HEx.out,hr])
   have HC:=yH (fun(W:World)(q:Nat)(hs:StP V W g ts.tail a)(hq:Bk W q 152 #[.func (.func 101) #[.pointer (some ⟨g,0,none⟩)] #[],.func (.func 98) #[.pointer (some ⟨g,0,none⟩)] #[],.func (.func 98) #[.pointer (some ⟨g,0,none⟩)] #[]])=>call_res E had 10 ⟨by decide,by decide⟩ [.wh,.ar,.ar] (by decide) hpc 3 3 rfl #[.func (.func 101) #[.pointer (some ⟨g,0,none⟩)] #[],.func (.func 98) #[.pointer (some ⟨g,0,none⟩)] #[],.func (.func 98) #[.pointer (some ⟨g,0,none⟩)] #[]] rfl W q hs hq)
   clear hpc hr hex hk hk1 ht HX
   go_enter Tryz.func75,Tryz.ntmps75
   go_wp2_with (first
    |(go_at_call 95;(with_reducible refine HBg.out.mono ?_);rintro e w2 ⟨rfl,s2,g2⟩;have S2:=yH (s2 HT.out);have G2:=yH g2;have hz2:=g2.size;simp only[World.size_alloc] at hz2;have HZ2:=yH (HZ.out.grown g2 (fun e=>by injection e;omega));clear s2 g2)
    |(go_at_call 96;have RT:=(S2.out.V.1.self.alloc (.cells #[yI k',.string (B x),yI n',yI p] 78)).alloc (.cells #[.func (.func 101) #[.pointer (some ⟨g,0,none⟩)] #[],.func (.func 98) #[.pointer (some ⟨g,0,none⟩)] #[],.func (.func 98) #[.pointer (some ⟨g,0,none⟩)] #[]] 152);have HBq:=Bk.new (w2.alloc (.cells #[yI k',.string (B x),yI n',yI p] 78)) 152 #[.func (.func 101) #[.pointer (some ⟨g,0,none⟩)] #[],.func (.func 98) #[.pointer (some ⟨g,0,none⟩)] #[],.func (.func 98) #[.pointer (some ⟨g,0,none⟩)] #[]];rw[World.size_alloc] at HBq;(with_reducible refine(HC.out _ _ (S2.out.rel RT) HBq).mono ?_);rintro e w3 h3;have HRT:=yH RT;obtain⟨rfl,g3⟩:=ExPost.at_no h3 rfl;clear h3 RT HBq))
   exact⟨rfl,ExPost.no HRs.out rfl (grown_trans (grown_trans HA0.out G2.out) (grown_trans (grown_rel (some g) HRT.out) g3))⟩
  |ok qq=>
   obtain⟨y,r⟩:=qq
   rw[hr] at hpc
   have HRs:=yH (show exprT (d+1) false ts= .ok (y,r) by rw[HEx.out,hr])
   have HC:=yH (fun(W:World)(q:Nat)(hs:StP V W g ts.tail a)(hq:Bk W q 152 #[.func (.func 101) #[.pointer (some ⟨g,0,none⟩)] #[],.func (.func 98) #[.pointer (some ⟨g,0,none⟩)] #[],.func (.func 98) #[.pointer (some ⟨g,0,none⟩)] #[]])=>call_res E had 10 ⟨by decide,by decide⟩ [.wh,.ar,.ar] (by decide) hpc 3 3 rfl #[.func (.func 101) #[.pointer (some ⟨g,0,none⟩)] #[],.func (.func 98) #[.pointer (some ⟨g,0,none⟩)] #[],.func (.func 98) #[.pointer (some ⟨g,0,none⟩)] #[]] rfl W q hs hq)
   clear hpc hr hex hk hk1 ht HX
   go_enter Tryz.func75,Tryz.ntmps75
   go_wp2_with (first
    |(go_at_call 95;(with_reducible refine HBg.out.mono ?_);rintro e w2 ⟨rfl,s2,g2⟩;have S2:=yH (s2 HT.out);have G2:=yH g2;have hz2:=g2.size;simp only[World.size_alloc] at hz2;have HZ2:=yH (HZ.out.grown g2 (fun e=>by injection e;omega));clear s2 g2)
    |(go_at_call 96;have RT:=(S2.out.V.1.self.alloc (.cells #[yI k',.string (B x),yI n',yI p] 78)).alloc (.cells #[.func (.func 101) #[.pointer (some ⟨g,0,none⟩)] #[],.func (.func 98) #[.pointer (some ⟨g,0,none⟩)] #[],.func (.func 98) #[.pointer (some ⟨g,0,none⟩)] #[]] 152);have HBq:=Bk.new (w2.alloc (.cells #[yI k',.string (B x),yI n',yI p] 78)) 152 #[.func (.func 101) #[.pointer (some ⟨g,0,none⟩)] #[],.func (.func 98) #[.pointer (some ⟨g,0,none⟩)] #[],.func (.func 98) #[.pointer (some ⟨g,0,none⟩)] #[]];rw[World.size_alloc] at HBq;(with_reducible refine(HC.out _ _ (S2.out.rel RT) HBq).mono ?_);rintro e w3 h3;have HRT:=yH RT;obtain⟨v,rfl,ex,s3,g3⟩:=ExPost.at_yes h3 rfl;have hz3:=g3.size;simp only[World.size_alloc] at hz3;have HZ3:=yH ((HZ2.out.rel HRT.out).grown g3 (fun e=>by injection e;omega));obtain⟨⟨b0,b1,b2,b3⟩,u0,u1,u2,u3⟩:=HZ3.out.four;have HEx3:=yH (And.intro ex (And.intro s3 g3));clear ex s3 g3 h3 RT HBq))
   obtain⟨e1,e2,e3,e4⟩:=expr_end hgl HVw.out (W0:=w2.heap.size+1+1) (by omega) (grown_trans (grown_trans HA0.out G2.out) (grown_trans (grown_rel (some g) HRT.out) HEx3.out.2.2)) HZ3.out (by simpa using HEx3.out.1) HEx3.out.2.1 _ rfl
   obtain⟨⟨y0,y1,y2,y3⟩,_⟩:=e1.four
   exact bodyPost_ret (v:=EV v) (by simp[results,Tryz.results75,go_sem,y0,y1,y2,y3]) rfl (ExPost.yes HRs.out ⟨_,rfl,e2,e3,e4⟩)
theorem pcatch_panicking(px pe pa:Nat)(c p:Int)(w:World)(o:List PanicEntry){x0 x1 x2 x3 e0 a0:Value}(hx:Bk w px 52 #[x0,x1,x2,x3])(he:Bk w pe 31 #[e0])(ha:Bk w pa 3 #[a0])(h1:px≠pe)(h2:px≠pa)(h3:pe≠pa):
  CallsD Tryz.prog 74 #[.pointer (some ⟨px,0,none⟩),.pointer (some ⟨pe,0,none⟩),.pointer (some ⟨pa,0,none⟩)] (.panicking ({v:= .iface 122 (.agg #[yI c,yI p]),recovered:=false}::o)) w fun e u' w'=>
   e= .returned (.tuple #[])∧u'= .panicking ({v:= .iface 122 (.agg #[yI c,yI p]),recovered:=true}::o)∧
    Bk w' px 52 #[yI 0,yI 0,.string ⟨#[]⟩,.slice none 0 0]∧Bk w' pe 31 #[yI c]∧Bk w' pa 3 #[yI p]∧w.heap.size≤w'.heap.size∧(w'.os=w.os∧w'.tape=w.tape∧w'.output=w.output)∧∀q,q<w.heap.size→q≠px→q≠pe→q≠pa→w'.heap[q]?=w.heap[q]?:=by
 refine callsD_of_wpS Tryz.func74 rfl fun c₀ cs hu=> ?_
 have hta:∀w:World,(Instr.typeAssert (.iface 122 (.agg #[yI c,yI p])) 20 122 true).run Tryz.prog w= .ok (.tuple #[.agg #[yI c,yI p],.bool true]) w:=fun _=>by rfl
 change Code.wpS _ _ _ {tmps:= #[.pointer (some ⟨px,0,none⟩),.pointer (some ⟨pe,0,none⟩),.pointer (some ⟨pa,0,none⟩),undef,undef,undef,undef,undef,undef,undef,undef,undef,undef,undef,undef,undef],defers:=[]} _ _
 apply wpS_seq
 apply wpS_region
 simp[wpOpsS,go_sem,recoverD,hu,Exit.thenS,hta]
 apply wpS_seq
 apply wpS_region
 simp[wpOpsS,go_sem,Exit.thenS]
 refine wpS_cond (t:=true) (by simp[Act.eval]) ?_
 simp only[if_true]
 refine wpS_of_wp ?_
 have HB:=yH (Bk.new w 122 #[yI c,yI p])
 have hxl:=hx.lt
 have hel:=he.lt
 have hal:=ha.lt
 obtain⟨W,hW⟩:∃W,w.alloc (.cells #[yI c,yI p] 122)=W:=⟨_,rfl⟩
 have HW:=yH hW
 have HX:=yH (hx.alloc (.cells #[yI c,yI p] 122))
 have HE:=yH (he.alloc (.cells #[yI c,yI p] 122))
 have HA:=yH (ha.alloc (.cells #[yI c,yI p] 122))
 rw[hW] at HB HX HE HA⊢
 clear hW hx he ha
 have n1:px≠w.heap.size:=by omega
 have n2:pe≠w.heap.size:=by omega
 have n3:pa≠w.heap.size:=by omega
 refine wp_region_held_drew (S:=fun w'=>w'.cell? ⟨w.heap.size,0,none⟩=some (yI c)∧w'.cell? ⟨w.heap.size,1,none⟩=some (yI p)) (by kernel_rfl) ⟨HB.out.drew.two.1.1,HB.out.drew.two.1.2⟩ (fun hH=> ?_)
 refine yL [0,1,3,2,4] (by kernel_rfl) hH (fun _ _ _ _ _=>id) ?_
 iterate 5
  refine yS rfl rfl (by rfl) ?_ ?_ ?_
  rotate_left
  ·rintro w' ⟨s0,s1⟩;go_simp;try with_reducible rfl
  try simp only[Act.put,yA,yB,yC]
 refine yZ ?_
 have HX0:=yH HX.out
 obtain⟨⟨b0,b1,b2,b3⟩,u0,u1,u2,u3⟩:=HX.out.four
 have HB5:=yH (((((HB.out.far (p:=⟨px,0,none⟩) (Ne.symm n1) (yI 0)).far (p:=⟨px,1,none⟩) (Ne.symm n1) (yI 0)).far (p:=⟨px,2,none⟩) (Ne.symm n1) (.string ⟨#[]⟩)).far (p:=⟨px,3,none⟩) (Ne.symm n1) (.slice none 0 0)))
 have HX5:=yH (HX0.out.put4 (yI 0) (yI 0) (.string ⟨#[]⟩) (.slice none 0 0))
 have gp5:=put4_grown W px (yI 0) (yI 0) (.string ⟨#[]⟩) (.slice none 0 0)
 refine held_one (j:=5) (by kernel_rfl) rfl (fun K hK=> ?_)
 try simp only[yD,yE,yF]
 go_simp
 refine hK.out _ _ ⟨HB5.out.drew.two.1.1,HB5.out.drew.two.1.2⟩ (fun hH=> ?_)
 clear hK K
 try simp only[Act.put,yA,yB,yC]
 obtain⟨W5,hW5⟩:∃W',(((W.setCell ⟨px,0,none⟩ (yI 0)).setCell ⟨px,1,none⟩ (yI 0)).setCell ⟨px,2,none⟩ (.string ⟨#[]⟩)).setCell ⟨px,3,none⟩ (.slice none 0 0)=W':=⟨_,rfl⟩
 rw[hW5] at HB5 HX5 gp5 hH⊢
 have HW5:=yH hW5
 clear hW5 b0 b1 b2 b3 u0 u1 u2 u3
 have HE5:=yH (HE.out.grown gp5 (fun e=>by injection e;omega))
 have HA5:=yH (HA.out.grown gp5 (fun e=>by injection e;omega))
 have c5:=HE5.out.cell 0
 have f5:=HE5.out.frozen 0
 simp only[List.getElem?_toArray,List.getElem?_cons_zero] at c5
 refine held_one (j:=6) (by kernel_rfl) rfl (fun K hK=> ?_)
 try simp only[yD,yE,yF]
 go_simp
 refine hK.out _ _ ⟨((HB5.out.far (p:=⟨pe,0,none⟩) (Ne.symm n2) (yI c)).drew.two).1.1,((HB5.out.far (p:=⟨pe,0,none⟩) (Ne.symm n2) (yI c)).drew.two).1.2⟩ (fun hH=> ?_)
 clear hK K
 try simp only[Act.put,yA,yB,yC]
 have gp6:=set_grown W5 pe 0 (yI c)
 have HA6:=yH (HA5.out.grown gp6 (fun e=>by injection e;omega))
 have c6:=HA6.out.cell 0
 have f6:=HA6.out.frozen 0
 simp only[List.getElem?_toArray,List.getElem?_cons_zero] at c6
 refine held_one (j:=7) (by kernel_rfl) rfl (fun K hK=> ?_)
 try simp only[yD,yE,yF]
 go_simp
 refine hK.out _ _ ⟨(((HB5.out.far (p:=⟨pe,0,none⟩) (Ne.symm n2) (yI c)).far (p:=⟨pa,0,none⟩) (Ne.symm n3) (yI p)).drew.two).1.1,(((HB5.out.far (p:=⟨pe,0,none⟩) (Ne.symm n2) (yI c)).far (p:=⟨pa,0,none⟩) (Ne.symm n3) (yI p)).drew.two).1.2⟩ (fun hH=> ?_)
 clear hK K
 try simp only[Act.put,yA,yB,yC]
 refine wpAnyH_done (by kernel_rfl) ?_ _
 have gp7:=set_grown (W5.setCell ⟨pe,0,none⟩ (yI c)) pa 0 (yI p)
 refine⟨rfl,_,rfl,_,by simp[results,Tryz.results74],rfl,rfl, ?_, ?_, ?_, ?_, ?_, ?_⟩
 ·exact((HX5.out.far (p:=⟨pe,0,none⟩) (by simpa using h1) (yI c)).far (p:=⟨pa,0,none⟩) (by simpa using h2) (yI p)).drew
 ·exact((HE5.out.set_ 0 (yI c)).far (p:=⟨pa,0,none⟩) (by simpa using h3) (yI p)).drew
 ·exact(HA6.out.set_ 0 (yI p)).drew
 ·have q5:=gp5.size
  have q6:=gp6.size
  have q7:=gp7.size
  have q8:W.heap.size=w.heap.size+1:=by rw[←HW.out];exact World.size_alloc ..
  exact Nat.le_trans (by omega) (show((W5.setCell ⟨pe,0,none⟩ (yI c)).setCell ⟨pa,0,none⟩ (yI p)).heap.size≤_ from Nat.le_refl _)
 ·have e0:W.os=w.os∧W.output=w.output:=by rw[←HW.out];exact⟨rfl,rfl⟩
  refine⟨?_, ?_, ?_⟩
  ·exact gp7.os.trans (gp6.os.trans (gp5.os.trans e0.1))
  ·exact gp7.tape.trans (gp6.tape.trans (gp5.tape.trans (by rw[←HW.out];rfl)))
  ·exact gp7.output.trans (gp6.output.trans (gp5.output.trans e0.2))
 ·intro q hq a1 a2 a3
  have q8:W.heap.size=w.heap.size+1:=by rw[←HW.out];exact World.size_alloc ..
  have q5:=gp5.size
  have q6:=gp6.size
  refine Eq.trans (show _=((W5.setCell ⟨pe,0,none⟩ (yI c)).setCell ⟨pa,0,none⟩ (yI p)).heap[q]? from rfl) ?_
  refine(gp7.block q (by omega) (fun e=>by injection e;omega)).trans ((gp6.block q (by omega) (fun e=>by injection e;omega)).trans ((gp5.block q (by omega) (fun e=>by injection e;omega)).trans ?_))
  rw[←HW.out]
  exact Below.heap_alloc w _ q hq
theorem pcatch_idle(px pe pa:Nat)(w:World):
  CallsD Tryz.prog 74 #[.pointer (some ⟨px,0,none⟩),.pointer (some ⟨pe,0,none⟩),.pointer (some ⟨pa,0,none⟩)] .returning w fun e u' w'=>e= .returned (.tuple #[])∧u'= .returning∧w'=w.alloc (.cells #[yI 0,yI 0] 122):=by
 refine callsD_of_wpS Tryz.func74 rfl fun c₀ cs hu=> ?_
 have hta:∀w:World,(Instr.typeAssert .nilIface 20 122 true).run Tryz.prog w= .ok (.tuple #[.agg #[yI 0,yI 0],.bool false]) w:=fun _=>by rfl
 change Code.wpS _ _ _ {tmps:= #[.pointer (some ⟨px,0,none⟩),.pointer (some ⟨pe,0,none⟩),.pointer (some ⟨pa,0,none⟩),undef,undef,undef,undef,undef,undef,undef,undef,undef,undef,undef,undef,undef],defers:=[]} _ _
 apply wpS_seq
 apply wpS_region
 simp[wpOpsS,go_sem,recoverD,hu,Exit.thenS,hta]
 apply wpS_seq
 apply wpS_region
 simp[wpOpsS,go_sem,Exit.thenS]
 refine wpS_cond (t:=false) (by simp[Act.eval]) ?_
 simp only[Bool.false_eq_true,if_false]
 refine wpS_of_wp (wp_skip ?_)
 cases c₀
 simp_all [bodyPostS,results,Tryz.results74]
theorem exprOk:∀d,d≤32→ExprOk d:=by
 intro d
 induction d with
 |zero=>
  intro _ V g a ts w had h
  have hA:=h.V.1.self.alloc (.cells #[yI 0,yI 0,.string ⟨#[]⟩,.slice none 0 0] 52)
  have HB:=yH (pbegin_not V g a ts _ (h.rel hA) (by omega))
  have HG:=yH (grown_rel (some g) hA)
  have H0:=yH (exprT_deep false ts)
  have H1:=yH (exprT_deep true ts)
  clear h hA
  constructor
  ·go_enter Tryz.func75,Tryz.ntmps75
   go_wp2_with (go_at_call 95;(with_reducible refine HB.out.mono ?_);rintro e w2 ⟨rfl,g2⟩)
   exact⟨rfl,ExPost.no H0.out rfl (grown_trans HG.out g2)⟩
  ·go_enter Tryz.func136,Tryz.ntmps136
   go_wp2_with (go_at_call 95;(with_reducible refine HB.out.mono ?_);rintro e w2 ⟨rfl,g2⟩)
   exact⟨rfl,ExPost.no H1.out rfl (grown_trans HG.out g2)⟩
 |succ d ih=>
  intro hd V g a ts w had h
  exact⟨pexpr_succ d (ih (by omega)) V g a ts w had h,pcondition_succ d (ih (by omega)) V g a ts w had h⟩
def StrPost(r:Except (Int×Int) Ex)(w0:World)(lb:Nat)(e:Ending)(w':World):Prop:=match r with
 | .ok x=>∃v:El,e= .returned (.tuple #[EV v,yI 0,yI 0])∧ExAt (fun k=>lb≤k) w' v x∧Rel w0 w'
 | .error E=>e= .returned (.tuple #[EV (0,0,[],none,0,0),yI E.1,yI E.2])∧Rel w0 w'
theorem StrPost.yes{r:Except (Int×Int) Ex}{lb:Nat}{w0 w':World}{e:Ending}{x:Ex}(h:r= .ok x)(hv:∃v:El,e= .returned (.tuple #[EV v,yI 0,yI 0])∧ExAt (fun k=>lb≤k) w' v x∧Rel w0 w'):StrPost r w0 lb e w':=by subst h;exact hv
theorem StrPost.no{r:Except (Int×Int) Ex}{lb:Nat}{w0 w':World}{e:Ending}{E:Int×Int}(h:r= .error E)(hv:e= .returned (.tuple #[EV (0,0,[],none,0,0),yI E.1,yI E.2])∧Rel w0 w'):StrPost r w0 lb e w':=by subst h;exact hv
theorem strat_world{A:Option Addr}{n c:Nat}{ts:List Tok}{w0 w:World}(hn:ts.length=n)(hf:FineP ts)(hr:Rel w0 w)(hT:ToksAt w A ts)(hc:n≤c)(hc':c≤9223372036854775807):
  ∃W:World,W=((((w.alloc (.cells #[yI 0,yI 0,.string ⟨#[]⟩,.slice none 0 0] 52)).alloc (.cells #[yI 0] 31)).alloc (.cells #[yI 0] 3)).alloc (.cells #[.slice A n c,yI 0] 125))∧StP w W (w.heap.size+1+1+1) ts 0∧
   Bk W w.heap.size 52 #[yI 0,yI 0,.string ⟨#[]⟩,.slice none 0 0]∧Bk W (w.heap.size+1) 31 #[yI 0]∧Bk W (w.heap.size+1+1) 3 #[yI 0]∧Rel w0 W∧w0.heap.size≤w.heap.size∧w.heap.size+1+1+1<W.heap.size:=by
 subst hn
 have R1:=hr.self.alloc (.cells #[yI 0,yI 0,.string ⟨#[]⟩,.slice none 0 0] 52)
 have R2:=R1.self.alloc (.cells #[yI 0] 31)
 have R3:=R2.self.alloc (.cells #[yI 0] 3)
 have R4:=R3.self.alloc (.cells #[.slice A ts.length c,yI 0] 125)
 have z1:(w.alloc (.cells #[yI 0,yI 0,.string ⟨#[]⟩,.slice none 0 0] 52)).heap.size=w.heap.size+1:=World.size_alloc ..
 have z2:((w.alloc (.cells #[yI 0,yI 0,.string ⟨#[]⟩,.slice none 0 0] 52)).alloc (.cells #[yI 0] 31)).heap.size=w.heap.size+1+1:=by rw[World.size_alloc,z1]
 have z3:(((w.alloc (.cells #[yI 0,yI 0,.string ⟨#[]⟩,.slice none 0 0] 52)).alloc (.cells #[yI 0] 31)).alloc (.cells #[yI 0] 3)).heap.size=w.heap.size+1+1+1:=by rw[World.size_alloc,z2]
 have b1:=Bk.new w 52 #[yI 0,yI 0,.string ⟨#[]⟩,.slice none 0 0]
 have b2:=Bk.new (w.alloc (.cells #[yI 0,yI 0,.string ⟨#[]⟩,.slice none 0 0] 52)) 31 #[yI 0]
 have b3:=Bk.new ((w.alloc (.cells #[yI 0,yI 0,.string ⟨#[]⟩,.slice none 0 0] 52)).alloc (.cells #[yI 0] 31)) 3 #[yI 0]
 have b4:=Bk.new (((w.alloc (.cells #[yI 0,yI 0,.string ⟨#[]⟩,.slice none 0 0] 52)).alloc (.cells #[yI 0] 31)).alloc (.cells #[yI 0] 3)) 125 #[.slice A ts.length c,yI 0]
 rw[z1] at b2
 rw[z2] at b3
 rw[z3] at b4
 refine⟨_,rfl,⟨A,c,((R1.trans R2).trans R3).trans R4,by omega,hT,hf,hc,hc',by decide,b4⟩,b1.rel ((R2.trans R3).trans R4),b2.rel (R3.trans R4),b3.rel R4,(((hr.trans R1).trans R2).trans R3).trans R4,hr.size,by rw[World.size_alloc,z3];omega⟩
theorem pstrat_any(A:Option Addr)(c:Nat)(ts:List Tok)(hf:FineP ts)(hc:ts.length≤c)(hc':c≤9223372036854775807)(w0 w:World)(hr:Rel w0 w)(hT:ToksAt w A ts):
  Calls Tryz.prog 55 #[.slice A ts.length c] w (StrPost (stratT ts) w0 w.heap.size):=by
 have hmf:∀(fn:Fn)(first cap:Array Value)(w:World),(Instr.makeFunc fn first cap).run Tryz.prog w= .ok (.func fn first cap) w:=fun _ _ _ _=>rfl
 obtain⟨n,hn⟩:∃n,ts.length=n:=⟨_,rfl⟩
 rw[hn] at hc⊢
 obtain⟨W,hW,hs,hbx,hbe,hba,hrW,h0w,hgW⟩:=strat_world hn hf hr hT hc hc'
 have HW:=yH hW
 have HS:=yH hs
 have HBX:=yH hbx
 have HBE:=yH hbe
 have HBA:=yH hba
 have HRW:=yH hrW
 clear hW hs hbx hbe hba hrW hf hr hT hn
 cases hx:exprT 32 false ts with
 |error E=>
  have HSt:=yH (show stratT ts= .error E by unfold stratT;rw[hx])
  have HC:=yH (ex_no (exprOk 32 (Nat.le_refl _)) (by omega) HS.out hx)
  clear hx
  go_enter_defers Tryz.func55,Tryz.ntmps55
  go_wp2_with (go_at_call 75;rw[←HW.out];(with_reducible refine HC.out.mono ?_);rintro e w2 ⟨rfl,g2⟩)
  refine leaves_cons (f:=74) (args:= #[.pointer (some ⟨w.heap.size,0,none⟩),.pointer (some ⟨w.heap.size+1,0,none⟩),.pointer (some ⟨w.heap.size+1+1,0,none⟩)]) (by simp) (by simp[go_sem]) ?_
  refine(pcatch_panicking w.heap.size (w.heap.size+1) (w.heap.size+1+1) E.1 E.2 w2 [] (HBX.out.grown g2 (fun e=>by injection e;omega)) (HBE.out.grown g2 (fun e=>by injection e;omega)) (HBA.out.grown g2 (fun e=>by injection e;omega)) (by omega) (by omega) (by omega)).mono ?_
  rintro e u' w3 ⟨rfl,rfl,b1,b2,b3,hs3,⟨o1,o2,o3⟩,hb3⟩
  have R2:=HRW.out.grown g2 (fun k e=>by cases e;omega)
  have R3:Rel w0 w3:=⟨R2.1,⟨o1.trans R2.2.os,o2.trans R2.2.tape,o3.trans R2.2.output,Nat.le_trans R2.2.size hs3,fun k hk=>(hb3 k (by have:=R2.2.size;omega) (by omega) (by omega) (by omega)).trans (R2.2.block k hk)⟩⟩
  obtain⟨⟨y0,y1,y2,y3⟩,_⟩:=b1.four
  have y4:=b2.cell 0
  have y5:=b3.cell 0
  simp only[List.getElem?_toArray,List.getElem?_cons_zero] at y4 y5
  refine⟨_,by simp[results,Tryz.results55,go_sem,y0,y1,y2,y3,y4,y5];rfl,StrPost.no HSt.out ⟨rfl,R3⟩⟩
 |ok q=>
  obtain⟨x,r⟩:=q
  have HC:=yH (ex_yes (exprOk 32 (Nat.le_refl _)) (by omega) HS.out hx)
  have hP:∀(w2:World)(v:El),W.grownBy w2 (some (w.heap.size+1+1+1))→ExAt (fun k=>W.heap.size≤k) w2 v x→StP w w2 (w.heap.size+1+1+1) r 0→∀w3:World,(((w2.setCell ⟨w.heap.size,0,none⟩ (yI v.1)).setCell ⟨w.heap.size,1,none⟩ (yI v.2.1)).setCell ⟨w.heap.size,2,none⟩ (.string (B v.2.2.1))).setCell ⟨w.heap.size,3,none⟩ (.slice v.2.2.2.1 v.2.2.2.2.1 v.2.2.2.2.2)=w3→
    ExAt (fun k=>W.heap.size≤k) w3 v x∧StP w w3 (w.heap.size+1+1+1) r 0∧Rel w0 w3∧Bk w3 w.heap.size 52 #[yI v.1,yI v.2.1,.string (B v.2.2.1),.slice v.2.2.2.1 v.2.2.2.2.1 v.2.2.2.2.2]∧Bk w3 (w.heap.size+1) 31 #[yI 0]∧Bk w3 (w.heap.size+1+1) 3 #[yI 0]:=fun w2 v g2 ex s2 w3 hw3=>by
   have gp:=put4_grown w2 w.heap.size (yI v.1) (yI v.2.1) (.string (B v.2.2.1)) (.slice v.2.2.2.1 v.2.2.2.2.1 v.2.2.2.2.2)
   have hb:=(HBX.out.grown g2 (fun e=>by injection e;omega)).put4 (yI v.1) (yI v.2.1) (.string (B v.2.2.1)) (.slice v.2.2.2.1 v.2.2.2.2.1 v.2.2.2.2.2)
   rw[hw3] at gp hb
   refine⟨ex.grown gp (fun k hk=>⟨hk,fun e=>by injection e;omega⟩),s2.grown gp (fun e=>by injection e;omega) (fun k e=>by cases e;exact Nat.le_refl _),(HRW.out.grown g2 (fun k e=>by cases e;omega)).grown gp (fun k e=>by cases e;exact h0w),hb,(HBE.out.grown g2 (fun e=>by injection e;omega)).grown gp (fun e=>by injection e;omega),(HBA.out.grown g2 (fun e=>by injection e;omega)).grown gp (fun e=>by injection e;omega)⟩
  have HP:=yH hP
  clear hP
  by_cases h5:(hdT r).1=5
  ·have HSt:=yH (show stratT ts= .ok x by unfold stratT;rw[hx];simp only;unfold takeT;rw[if_pos ⟨h5,.inl rfl⟩])
   have HEn:=yH (fun(w3:World)(h:StP w w3 (w.heap.size+1+1+1) r 0)=>pend_yes w (w.heap.size+1+1+1) 0 r w3 h h5)
   clear hx h5
   go_enter_defers Tryz.func55,Tryz.ntmps55
   go_wp2_with (first
    |(go_at_call 75;rw[←HW.out];(with_reducible refine HC.out.mono ?_);rintro e w2 ⟨v,rfl,ex,s2,g2⟩;obtain⟨⟨b0,b1,b2,b3⟩,u0,u1,u2,u3⟩:=(HBX.out.grown g2 (fun e=>by injection e;omega)).four;obtain⟨w3,hw3⟩:∃w3,(((w2.setCell ⟨w.heap.size,0,none⟩ (yI v.1)).setCell ⟨w.heap.size,1,none⟩ (yI v.2.1)).setCell ⟨w.heap.size,2,none⟩ (.string (B v.2.2.1))).setCell ⟨w.heap.size,3,none⟩ (.slice v.2.2.2.1 v.2.2.2.2.1 v.2.2.2.2.2)=w3:=⟨_,rfl⟩;have HP3:=yH (HP.out w2 v g2 ex s2 w3 hw3);have HW3:=yH hw3;clear hw3 ex s2 g2)
    |(go_at_call 76;rw[HW3.out];(with_reducible refine(HEn.out _ HP3.out.2.1).mono ?_);rintro e w4 ⟨rfl,g4⟩;have G4:=yH g4;obtain⟨⟨x0,x1,x2,x3⟩,v0,v1,v2,v3⟩:=(HP3.out.2.2.2.1.grown g4 (fun e=>by injection e;omega)).four;have HBE4:=yH (HP3.out.2.2.2.2.1.grown g4 (fun e=>by injection e;omega));have HBA4:=yH (HP3.out.2.2.2.2.2.grown g4 (fun e=>by injection e;omega));have y4:=HBE4.out.cell 0;have y5:=HBA4.out.cell 0;have f4:=HBE4.out.frozen 0;have f5:=HBA4.out.frozen 0;simp only[List.getElem?_toArray,List.getElem?_cons_zero] at y4 y5;clear g4))
   have fin:∀w5:World,((((((w4.setCell ⟨w.heap.size,0,none⟩ (yI v.1)).setCell ⟨w.heap.size,1,none⟩ (yI v.2.1)).setCell ⟨w.heap.size,2,none⟩ (.string (B v.2.2.1))).setCell ⟨w.heap.size,3,none⟩ (.slice v.2.2.2.1 v.2.2.2.2.1 v.2.2.2.2.2)).setCell ⟨w.heap.size+1,0,none⟩ (yI 0)).setCell ⟨w.heap.size+1+1,0,none⟩ (yI 0))=w5→
     Rel w0 w5∧Bk w5 w.heap.size 52 #[yI v.1,yI v.2.1,.string (B v.2.2.1),.slice v.2.2.2.1 v.2.2.2.2.1 v.2.2.2.2.2]∧Bk w5 (w.heap.size+1) 31 #[yI 0]∧Bk w5 (w.heap.size+1+1) 3 #[yI 0]∧ExAt (fun k=>W.heap.size≤k) w5 v x:=fun w5 hw5=>by
    have R4:=HP3.out.2.2.1.grown G4.out (fun k e=>by cases e;omega)
    have gp:=put4_grown w4 w.heap.size (yI v.1) (yI v.2.1) (.string (B v.2.2.1)) (.slice v.2.2.2.1 v.2.2.2.2.1 v.2.2.2.2.2)
    have hb:=(HP3.out.2.2.2.1.grown G4.out (fun e=>by injection e;omega)).put4 (yI v.1) (yI v.2.1) (.string (B v.2.2.1)) (.slice v.2.2.2.1 v.2.2.2.2.1 v.2.2.2.2.2)
    have ex4:=HP3.out.1.grown G4.out (S':=fun k=>W.heap.size≤k) (fun k hk=>⟨hk,fun e=>by injection e;omega⟩)
    obtain⟨w6,hw6⟩:∃w6,(((w4.setCell ⟨w.heap.size,0,none⟩ (yI v.1)).setCell ⟨w.heap.size,1,none⟩ (yI v.2.1)).setCell ⟨w.heap.size,2,none⟩ (.string (B v.2.2.1))).setCell ⟨w.heap.size,3,none⟩ (.slice v.2.2.2.1 v.2.2.2.2.1 v.2.2.2.2.2)=w6:=⟨_,rfl⟩
    rw[hw6] at gp hb hw5
    have g1:=set_grown w6 (w.heap.size+1) 0 (yI 0)
    have g2:=set_grown (w6.setCell ⟨w.heap.size+1,0,none⟩ (yI 0)) (w.heap.size+1+1) 0 (yI 0)
    rw[hw5] at g2
    refine⟨((R4.grown gp (fun k e=>by cases e;exact h0w)).grown g1 (fun k e=>by cases e;omega)).grown g2 (fun k e=>by cases e;omega),(hb.grown g1 (fun e=>by injection e;omega)).grown g2 (fun e=>by injection e;omega), ?_, ?_, ?_⟩
    ·exact((HBE4.out.grown gp (fun e=>by injection e;omega)).set_ 0 (yI 0):Bk (w6.setCell ⟨w.heap.size+1,0,none⟩ (yI 0)) _ _ _).grown g2 (fun e=>by injection e;omega)
    ·rw[←hw5]
     exact((HBA4.out.grown gp (fun e=>by injection e;omega)).grown g1 (fun e=>by injection e;omega)).set_ 0 (yI 0)
    ·exact((ex4.grown gp (S':=fun k=>W.heap.size≤k) (fun k hk=>⟨hk,fun e=>by injection e;omega⟩)).grown g1 (S':=fun k=>W.heap.size≤k) (fun k hk=>⟨hk,fun e=>by injection e;omega⟩)).grown g2 (fun k hk=>⟨hk,fun e=>by injection e;omega⟩)
   obtain⟨w5,hw5⟩:∃w5,((((((w4.setCell ⟨w.heap.size,0,none⟩ (yI v.1)).setCell ⟨w.heap.size,1,none⟩ (yI v.2.1)).setCell ⟨w.heap.size,2,none⟩ (.string (B v.2.2.1))).setCell ⟨w.heap.size,3,none⟩ (.slice v.2.2.2.1 v.2.2.2.2.1 v.2.2.2.2.2)).setCell ⟨w.heap.size+1,0,none⟩ (yI 0)).setCell ⟨w.heap.size+1+1,0,none⟩ (yI 0))=w5:=⟨_,rfl⟩
   obtain⟨R5,k1,k2,k3,k4⟩:=fin w5 hw5
   rw[hw5]
   clear fin hw5
   refine leaves_cons (f:=74) (args:= #[.pointer (some ⟨w.heap.size,0,none⟩),.pointer (some ⟨w.heap.size+1,0,none⟩),.pointer (some ⟨w.heap.size+1+1,0,none⟩)]) (by simp) (by simp[go_sem]) ?_
   refine(pcatch_idle w.heap.size (w.heap.size+1) (w.heap.size+1+1) w5).mono ?_
   rintro e u' w7 ⟨rfl,rfl,rfl⟩
   have R7:=R5.self.alloc (.cells #[yI 0,yI 0] 122)
   obtain⟨⟨z0,z1,z2,z3⟩,_⟩:=(k1.rel R7).four
   have z4:=(k2.rel R7).cell 0
   have z5:=(k3.rel R7).cell 0
   have k7:=k4.rel R7
   have R8:=R5.trans R7
   obtain⟨w7,hw7⟩:∃w7,w5.alloc (.cells #[yI 0,yI 0] 122)=w7:=⟨_,rfl⟩
   simp only[List.getElem?_toArray,List.getElem?_cons_zero] at z4 z5
   rw[hw7] at z0 z1 z2 z3 z4 z5 k7 R8⊢
   refine⟨.tuple #[EV v,yI 0,yI 0],by simp[results,Tryz.results55,go_sem,z0,z1,z2,z3,z4,z5],StrPost.yes HSt.out ⟨v,rfl,k7.weak fun k hk=>by omega,R8⟩⟩
  ·have HSt:=yH (show stratT ts= .error (80,atT r) by unfold stratT;rw[hx];simp only;unfold takeT;rw[if_neg (fun hh=>h5 hh.1)])
   have HEn:=yH (fun(w3:World)(h:StP w w3 (w.heap.size+1+1+1) r 0)=>pend_not w (w.heap.size+1+1+1) 0 r w3 h h5)
   clear hx h5
   go_enter_defers Tryz.func55,Tryz.ntmps55
   go_wp2_with (first
    |(go_at_call 75;rw[←HW.out];(with_reducible refine HC.out.mono ?_);rintro e w2 ⟨v,rfl,ex,s2,g2⟩;obtain⟨⟨b0,b1,b2,b3⟩,u0,u1,u2,u3⟩:=(HBX.out.grown g2 (fun e=>by injection e;omega)).four;obtain⟨w3,hw3⟩:∃w3,(((w2.setCell ⟨w.heap.size,0,none⟩ (yI v.1)).setCell ⟨w.heap.size,1,none⟩ (yI v.2.1)).setCell ⟨w.heap.size,2,none⟩ (.string (B v.2.2.1))).setCell ⟨w.heap.size,3,none⟩ (.slice v.2.2.2.1 v.2.2.2.2.1 v.2.2.2.2.2)=w3:=⟨_,rfl⟩;have HP3:=yH (HP.out w2 v g2 ex s2 w3 hw3);have HW3:=yH hw3;clear hw3 ex s2 g2)
    |(go_at_call 76;rw[HW3.out];(with_reducible refine(HEn.out _ HP3.out.2.1).mono ?_);rintro e w4 ⟨rfl,g4⟩))
   refine leaves_cons (f:=74) (args:= #[.pointer (some ⟨w.heap.size,0,none⟩),.pointer (some ⟨w.heap.size+1,0,none⟩),.pointer (some ⟨w.heap.size+1+1,0,none⟩)]) (by simp) (by simp[go_sem]) ?_
   refine(pcatch_panicking w.heap.size (w.heap.size+1) (w.heap.size+1+1) 80 (atT r) w4 [] (HP3.out.2.2.2.1.grown g4 (fun e=>by injection e;omega)) (HP3.out.2.2.2.2.1.grown g4 (fun e=>by injection e;omega)) (HP3.out.2.2.2.2.2.grown g4 (fun e=>by injection e;omega)) (by omega) (by omega) (by omega)).mono ?_
   rintro e u' w5 ⟨rfl,rfl,b1,b2,b3,hs3,⟨o1,o2,o3⟩,hb3⟩
   have R2:=HP3.out.2.2.1.grown g4 (fun k e=>by cases e;omega)
   have hz4:w.heap.size+1+1<w4.heap.size:=by have:=(HP3.out.2.2.2.2.2.grown g4 (fun e=>by injection e;omega)).lt;omega
   have R3:Rel w0 w5:=⟨R2.1,⟨o1.trans R2.2.os,o2.trans R2.2.tape,o3.trans R2.2.output,Nat.le_trans R2.2.size hs3,fun k hk=>(hb3 k (by omega) (by omega) (by omega) (by omega)).trans (R2.2.block k hk)⟩⟩
   obtain⟨⟨y0,y1,y2,y3⟩,_⟩:=b1.four
   have y4:=b2.cell 0
   have y5:=b3.cell 0
   simp only[List.getElem?_toArray,List.getElem?_cons_zero] at y4 y5
   refine⟨_,by simp[results,Tryz.results55,go_sem,y0,y1,y2,y3,y4,y5];rfl,StrPost.no HSt.out ⟨rfl,R3⟩⟩
end Go.Proofs.YtfekhbeaphpelaaGreatDoor
