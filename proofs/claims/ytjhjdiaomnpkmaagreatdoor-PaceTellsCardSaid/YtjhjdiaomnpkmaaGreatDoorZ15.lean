/- The landed parser. -/

import Derived.Test.YtjhjdiaomnpkmaaGreatDoorZ14
set_option maxRecDepth 100000
set_option maxHeartbeats 8000000
set_option linter.unusedVariables false
set_option linter.unusedSimpArgs false
namespace Go.Proofs.YtjhjdiaomnpkmaaGreatDoor
open Go.RowKit Go.Lib
theorem expr_end{V w W:World}{W0:Nat}{g a:Nat}{v:El}{x:Ex}{r:List Tok}(hgl:g<w.heap.size)(hVw:V.heap.size≤w.heap.size)(h0:w.heap.size<W0)(hg:w.grownBy W (some g))(hz:Bk W w.heap.size 54 #[.int .i64 0,.int .i64 0,.string ⟨#[]⟩,.slice none 0 0])(ex:ExAt (fun k=>W0≤k) W v x)(s:StP V W g r a)(W':World)
  (hW:(((W.setCell ⟨w.heap.size,0,none⟩ (.int .i64 v.1)).setCell ⟨w.heap.size,1,none⟩ (.int .i64 v.2.1)).setCell ⟨w.heap.size,2,none⟩ (.string (B v.2.2.1))).setCell ⟨w.heap.size,3,none⟩ (.slice v.2.2.2.1 v.2.2.2.2.1 v.2.2.2.2.2)=W'):
  Bk W' w.heap.size 54 #[.int .i64 v.1,.int .i64 v.2.1,.string (B v.2.2.1),.slice v.2.2.2.1 v.2.2.2.2.1 v.2.2.2.2.2]∧ExAt (fun k=>w.heap.size≤k) W' v x∧StP V W' g r a∧w.grownBy W' (some g):=by
 have gp:=put4_grown W w.heap.size (.int .i64 v.1) (.int .i64 v.2.1) (.string (B v.2.2.1)) (.slice v.2.2.2.1 v.2.2.2.2.1 v.2.2.2.2.2)
 have hb:=hz.put4 (.int .i64 v.1) (.int .i64 v.2.1) (.string (B v.2.2.1)) (.slice v.2.2.2.1 v.2.2.2.2.1 v.2.2.2.2.2)
 rw[hW] at gp hb
 exact⟨hb,ex.grown gp (fun k hk=>⟨by omega,fun e=>by injection e;omega⟩),s.grown gp (fun e=>by injection e;omega) (fun k e=>by cases e;exact hVw),grown_of hg gp (fun k e=>by cases e;exact Nat.le_refl _)⟩
theorem pword_yes{x l:List UInt8}(h:x=l):((B x).toList==l)=true:=by rw[B_toList];simpa using h
theorem pword_no{x l:List UInt8}(h:x≠l):((B x).toList==l)=false:=by rw[B_toList];simpa using h
theorem call_res{d:Nat}(E:ExprOk d){V:World}{g a:Nat}(had:a+1+d=32)(k:Int)(hk:i64 k)(ps:List Pc)(hp:ps.length≤3){ts:List Tok}{R:Told Ex}(hR:piecesP (exprT d) ps 40 (.mk k 0 [] []) ts=R)(n c:Nat)(hn:ps.length=n)(cs:Array Value)(hcs:(ps.map (pvOf g)).toArray=cs)(W:World)(q:Nat)(h:StP V W g ts a)(hq:Bk W q 123 cs):
  Calls Tryz.prog 88 #[.pointer (some ⟨g,0,none⟩),.int .i64 k,.slice (some ⟨q,0,none⟩) n c] W (ExPost V g a W R):=by
 subst hn hcs hR
 exact ppcall_any d E V g a had k hk ps hp q c ts W h hq
theorem ExPost.at_yes{V:World}{g a:Nat}{w w':World}{r:Told Ex}{x:Ex}{ts:List Tok}{e:Ending}(h:ExPost V g a w r e w')(hr:r= .ok (x,ts)):∃v:El,e= .returned (EV v)∧ExAt (fun k=>w.heap.size≤k) w' v x∧StP V w' g ts a∧w.grownBy w' (some g):=by subst hr;exact h
theorem ExPost.at_no{V:World}{g a:Nat}{w w':World}{r:Told Ex}{E:Int×Int}{e:Ending}(h:ExPost V g a w r e w')(hr:r= .error E):e=FLT E.1 E.2∧w.grownBy w' (some g):=by subst hr;exact h
theorem expr_end2{V w W:World}{g a:Nat}{v:El}{x:Ex}{r:List Tok}(hgl:g<w.heap.size)(hVw:V.heap.size≤w.heap.size)(hg:w.grownBy W (some g))(hz:Bk W w.heap.size 54 #[.int .i64 0,.int .i64 0,.string ⟨#[]⟩,.slice none 0 0])(s:StP V W g r a)(T:ByteArray)(hT:T=B v.2.2.1)(W':World)
  (hW:(((W.setCell ⟨w.heap.size,0,none⟩ (.int .i64 v.1)).setCell ⟨w.heap.size,1,none⟩ (.int .i64 v.2.1)).setCell ⟨w.heap.size,2,none⟩ (.string T)).setCell ⟨w.heap.size,3,none⟩ (.slice v.2.2.2.1 v.2.2.2.2.1 v.2.2.2.2.2)=W') (o:Obj) (hx:∀W:World,ExAt (fun k=>w.heap.size≤k) W v x):
  Bk (W'.alloc o) w.heap.size 54 #[.int .i64 v.1,.int .i64 v.2.1,.string T,.slice v.2.2.2.1 v.2.2.2.2.1 v.2.2.2.2.2]∧ExAt (fun k=>w.heap.size≤k) (W'.alloc o) v x∧StP V (W'.alloc o) g r a∧w.grownBy (W'.alloc o) (some g):=by
 subst hT
 have gp:=put4_grown W w.heap.size (.int .i64 v.1) (.int .i64 v.2.1) (.string (B v.2.2.1)) (.slice v.2.2.2.1 v.2.2.2.2.1 v.2.2.2.2.2)
 have hb:=hz.put4 (.int .i64 v.1) (.int .i64 v.2.1) (.string (B v.2.2.1)) (.slice v.2.2.2.1 v.2.2.2.2.1 v.2.2.2.2.2)
 rw[hW] at gp hb
 have s1:=s.grown gp (fun e=>by injection e;omega) (fun k e=>by cases e;exact hVw)
 have R:=s1.V.1.self.alloc o
 exact⟨hb.rel R,hx _,s1.rel R,grown_trans (grown_of hg gp (fun k e=>by cases e;exact Nat.le_refl _)) (grown_rel (some g) R)⟩
theorem pcondition_succ(d:Nat)(E:ExprOk d)(V:World)(g a:Nat)(ts:List Tok)(w:World)(had:a+(d+1)=32)(h:StP V w g ts a):
  Calls Tryz.prog 111 #[.pointer (some ⟨g,0,none⟩)] w (ExPost V g a w (exprT (d+1) true ts)):=by
 have had:a+1+d=32:=by omega
 have hA:=h.V.1.self.alloc (.cells #[.int .i64 0,.int .i64 0,.string ⟨#[]⟩,.slice none 0 0] 54)
 have hbg:=pbegin_yes V g a ts _ (h.rel hA) (by omega)
 have HA0:=yH (grown_rel (some g) hA)
 have HZ:=yH (Bk.new w 54 #[.int .i64 0,.int .i64 0,.string ⟨#[]⟩,.slice none 0 0])
 have HVw:=yH (show V.heap.size≤w.heap.size from h.V.1.size)
 have HVV:=yH h.V
 have hgl:=h.lt
 have HF:=yH h.fine
 have HTl:=yH h.fine.last
 have hhd:=h.fine.head
 obtain⟨⟨k',x,n',p⟩,ht⟩:∃t,hdT ts=t:=⟨_,rfl⟩
 rw[ht] at hbg hhd
 have HBg:=yH hbg
 have HAt:=yH (show atT ts=p by unfold atT;rw[ht])
 have hmf:∀(fn:Fn)(first cap:Array Value)(w:World),(Instr.makeFunc fn first cap).run Tryz.prog w= .ok (.func fn first cap) w:=fun _ _ _ _=>rfl
 have HOk:=yH hhd.1
 have HN64:=yH hhd.2.2.1
 obtain⟨K,hk⟩:∃K,kindT true (hdT ts)=K:=⟨_,rfl⟩
 have hk1:(hdT ts).2.1=x:=by rw[ht]
 clear hA hbg h hhd
 have hways:K=0∨K=11∨K=12:=by
  by_cases h0:K=0
  ·exact .inl h0
  ·have hs:=kind_spec HOk.out.1 (c:=true) (by rw[←ht,hk];exact h0)
   rw[←ht,hk] at hs
   rcases hs with ⟨_,_,e⟩|⟨_,e1,e2,e4,ec⟩
   ·cases e
   ·unfold isCond at ec;simp only[Bool.or_eq_true,beq_iff_eq] at ec;omega
 rcases hways with rfl|rfl|rfl
 ·have hx:True:=trivial
  have hb11:=pword_no (show x≠[109,111,114,101] from kind_none HOk.out true (fun _=>rfl) (by rw[←ht];exact hk) 11 (by decide) (by decide) (by decide) rfl)
  have hb12:=pword_no (show x≠[97,98,111,118,101] from kind_none HOk.out true (fun _=>rfl) (by rw[←ht];exact hk) 12 (by decide) (by decide) (by decide) rfl)
  have HRs:=yH (show exprT (d+1) true ts= .error (80,p) by rw[exprT_none hk,HAt.out])
  clear ht hk hk1
  go_enter Tryz.func111,Tryz.ntmps111
  go_wp2_with (first
   |(go_at_call 87;(with_reducible refine HBg.out.mono ?_);rintro e w2 ⟨rfl,s2,g2⟩;have G2:=yH g2;have hz2:=g2.size;simp only[World.size_alloc] at hz2;clear s2 g2)
   |(go_at_call 94;(with_reducible refine(pwrong_any (k',x,n',p) _).mono ?_);rintro e w3 ⟨rfl,rfl⟩))
  have GG:=grown_trans HA0.out G2.out
  exact⟨rfl,ExPost.no HRs.out rfl (fail_grown GG V (HVV.out.1.grown GG (fun k e=>by cases e;exact HVV.out.2)) _ _ _)⟩
 ·have HX:=yH (show x=[109,111,114,101] from(kind_some HOk.out true (k:=11) (by rw[←ht];exact hk) (by decide) (fun _=>rfl)).1)
  have hb11:=pword_yes (show x=[109,111,114,101] by first|exact HX.out|(rw[HX.out];decide))
  have hk1:(hdT ts).2.1≠[]:=by rw[hk1,HX.out];decide
  have hpc:piecesP (exprT d) [.co] 40 (.mk 11 0 [] []) ts.tail=callT (exprT d) 11 ts.tail:=call_pieces d 11 (by decide) ts.tail (tail_okP HF.out.oks)
  have hex:exprT (d+1) true ts=callT (exprT d) 11 ts.tail:=exprT_call hk (by decide) (by decide) (by decide)
  have HEx:=yH hex
  have HT:=yH (HTl.out (.inr hk1))
  cases hr:callT (exprT d) 11 ts.tail with
  |error e0=>
   rw[hr] at hpc
   have HRs:=yH (show exprT (d+1) true ts= .error e0 by rw[HEx.out,hr])
   have HC:=yH (fun(W:World)(q:Nat)(hs:StP V W g ts.tail a)(hq:Bk W q 123 #[.func (.func 124) #[.pointer (some ⟨g,0,none⟩)] #[]])=>call_res E had 11 ⟨by decide,by decide⟩ [.co] (by decide) hpc 1 1 rfl #[.func (.func 124) #[.pointer (some ⟨g,0,none⟩)] #[]] rfl W q hs hq)
   clear hpc hr hex hk hk1 ht HX
   go_enter Tryz.func111,Tryz.ntmps111
   go_wp2_with (first
    |(go_at_call 87;(with_reducible refine HBg.out.mono ?_);rintro e w2 ⟨rfl,s2,g2⟩;have S2:=yH (s2 HT.out);have G2:=yH g2;have hz2:=g2.size;simp only[World.size_alloc] at hz2;have HZ2:=yH (HZ.out.grown g2 (fun e=>by injection e;omega));clear s2 g2)
    |(go_at_call 88;have RT:=(S2.out.V.1.self.alloc (.cells #[.int .i64 k',.string (B x),.int .i64 n',.int .i64 p] 87)).alloc (.cells #[.func (.func 124) #[.pointer (some ⟨g,0,none⟩)] #[]] 123);have HBq:=Bk.new (w2.alloc (.cells #[.int .i64 k',.string (B x),.int .i64 n',.int .i64 p] 87)) 123 #[.func (.func 124) #[.pointer (some ⟨g,0,none⟩)] #[]];rw[World.size_alloc] at HBq;(with_reducible refine(HC.out _ _ (S2.out.rel RT) HBq).mono ?_);rintro e w3 h3;have HRT:=yH RT;obtain⟨rfl,g3⟩:=ExPost.at_no h3 rfl;clear h3 RT HBq))
   exact⟨rfl,ExPost.no HRs.out rfl (grown_trans (grown_trans HA0.out G2.out) (grown_trans (grown_rel (some g) HRT.out) g3))⟩
  |ok qq=>
   obtain⟨y,r⟩:=qq
   rw[hr] at hpc
   have HRs:=yH (show exprT (d+1) true ts= .ok (y,r) by rw[HEx.out,hr])
   have HC:=yH (fun(W:World)(q:Nat)(hs:StP V W g ts.tail a)(hq:Bk W q 123 #[.func (.func 124) #[.pointer (some ⟨g,0,none⟩)] #[]])=>call_res E had 11 ⟨by decide,by decide⟩ [.co] (by decide) hpc 1 1 rfl #[.func (.func 124) #[.pointer (some ⟨g,0,none⟩)] #[]] rfl W q hs hq)
   clear hpc hr hex hk hk1 ht HX
   go_enter Tryz.func111,Tryz.ntmps111
   go_wp2_with (first
    |(go_at_call 87;(with_reducible refine HBg.out.mono ?_);rintro e w2 ⟨rfl,s2,g2⟩;have S2:=yH (s2 HT.out);have G2:=yH g2;have hz2:=g2.size;simp only[World.size_alloc] at hz2;have HZ2:=yH (HZ.out.grown g2 (fun e=>by injection e;omega));clear s2 g2)
    |(go_at_call 88;have RT:=(S2.out.V.1.self.alloc (.cells #[.int .i64 k',.string (B x),.int .i64 n',.int .i64 p] 87)).alloc (.cells #[.func (.func 124) #[.pointer (some ⟨g,0,none⟩)] #[]] 123);have HBq:=Bk.new (w2.alloc (.cells #[.int .i64 k',.string (B x),.int .i64 n',.int .i64 p] 87)) 123 #[.func (.func 124) #[.pointer (some ⟨g,0,none⟩)] #[]];rw[World.size_alloc] at HBq;(with_reducible refine(HC.out _ _ (S2.out.rel RT) HBq).mono ?_);rintro e w3 h3;have HRT:=yH RT;obtain⟨v,rfl,ex,s3,g3⟩:=ExPost.at_yes h3 rfl;have hz3:=g3.size;simp only[World.size_alloc] at hz3;have HZ3:=yH ((HZ2.out.rel HRT.out).grown g3 (fun e=>by injection e;omega));obtain⟨⟨b0,b1,b2,b3⟩,u0,u1,u2,u3⟩:=HZ3.out.four;have HEx3:=yH (And.intro ex (And.intro s3 g3));clear ex s3 g3 h3 RT HBq))
   obtain⟨e1,e2,e3,e4⟩:=expr_end hgl HVw.out (W0:=w2.heap.size+1+1) (by omega) (grown_trans (grown_trans HA0.out G2.out) (grown_trans (grown_rel (some g) HRT.out) HEx3.out.2.2)) HZ3.out (by simpa using HEx3.out.1) HEx3.out.2.1 _ rfl
   obtain⟨⟨y0,y1,y2,y3⟩,_⟩:=e1.four
   exact bodyPost_ret (v:=EV v) (by simp[results,Tryz.results111,go_sem,y0,y1,y2,y3]) rfl (ExPost.yes HRs.out ⟨_,rfl,e2,e3,e4⟩)
 ·have HX:=yH (show x=[97,98,111,118,101] from(kind_some HOk.out true (k:=12) (by rw[←ht];exact hk) (by decide) (fun _=>rfl)).1)
  have hb11:=pword_no (show x≠[109,111,114,101] by first|exact HX.out|(rw[HX.out];decide))
  have hb12:=pword_yes (show x=[97,98,111,118,101] by first|exact HX.out|(rw[HX.out];decide))
  have hk1:(hdT ts).2.1≠[]:=by rw[hk1,HX.out];decide
  have hpc:piecesP (exprT d) [.ar,.ar] 40 (.mk 12 0 [] []) ts.tail=callT (exprT d) 12 ts.tail:=call_pieces d 12 (by decide) ts.tail (tail_okP HF.out.oks)
  have hex:exprT (d+1) true ts=callT (exprT d) 12 ts.tail:=exprT_call hk (by decide) (by decide) (by decide)
  have HEx:=yH hex
  have HT:=yH (HTl.out (.inr hk1))
  cases hr:callT (exprT d) 12 ts.tail with
  |error e0=>
   rw[hr] at hpc
   have HRs:=yH (show exprT (d+1) true ts= .error e0 by rw[HEx.out,hr])
   have HC:=yH (fun(W:World)(q:Nat)(hs:StP V W g ts.tail a)(hq:Bk W q 123 #[.func (.func 90) #[.pointer (some ⟨g,0,none⟩)] #[],.func (.func 90) #[.pointer (some ⟨g,0,none⟩)] #[]])=>call_res E had 12 ⟨by decide,by decide⟩ [.ar,.ar] (by decide) hpc 2 2 rfl #[.func (.func 90) #[.pointer (some ⟨g,0,none⟩)] #[],.func (.func 90) #[.pointer (some ⟨g,0,none⟩)] #[]] rfl W q hs hq)
   clear hpc hr hex hk hk1 ht HX
   go_enter Tryz.func111,Tryz.ntmps111
   go_wp2_with (first
    |(go_at_call 87;(with_reducible refine HBg.out.mono ?_);rintro e w2 ⟨rfl,s2,g2⟩;have S2:=yH (s2 HT.out);have G2:=yH g2;have hz2:=g2.size;simp only[World.size_alloc] at hz2;have HZ2:=yH (HZ.out.grown g2 (fun e=>by injection e;omega));clear s2 g2)
    |(go_at_call 88;have RT:=(S2.out.V.1.self.alloc (.cells #[.int .i64 k',.string (B x),.int .i64 n',.int .i64 p] 87)).alloc (.cells #[.func (.func 90) #[.pointer (some ⟨g,0,none⟩)] #[],.func (.func 90) #[.pointer (some ⟨g,0,none⟩)] #[]] 123);have HBq:=Bk.new (w2.alloc (.cells #[.int .i64 k',.string (B x),.int .i64 n',.int .i64 p] 87)) 123 #[.func (.func 90) #[.pointer (some ⟨g,0,none⟩)] #[],.func (.func 90) #[.pointer (some ⟨g,0,none⟩)] #[]];rw[World.size_alloc] at HBq;(with_reducible refine(HC.out _ _ (S2.out.rel RT) HBq).mono ?_);rintro e w3 h3;have HRT:=yH RT;obtain⟨rfl,g3⟩:=ExPost.at_no h3 rfl;clear h3 RT HBq))
   exact⟨rfl,ExPost.no HRs.out rfl (grown_trans (grown_trans HA0.out G2.out) (grown_trans (grown_rel (some g) HRT.out) g3))⟩
  |ok qq=>
   obtain⟨y,r⟩:=qq
   rw[hr] at hpc
   have HRs:=yH (show exprT (d+1) true ts= .ok (y,r) by rw[HEx.out,hr])
   have HC:=yH (fun(W:World)(q:Nat)(hs:StP V W g ts.tail a)(hq:Bk W q 123 #[.func (.func 90) #[.pointer (some ⟨g,0,none⟩)] #[],.func (.func 90) #[.pointer (some ⟨g,0,none⟩)] #[]])=>call_res E had 12 ⟨by decide,by decide⟩ [.ar,.ar] (by decide) hpc 2 2 rfl #[.func (.func 90) #[.pointer (some ⟨g,0,none⟩)] #[],.func (.func 90) #[.pointer (some ⟨g,0,none⟩)] #[]] rfl W q hs hq)
   clear hpc hr hex hk hk1 ht HX
   go_enter Tryz.func111,Tryz.ntmps111
   go_wp2_with (first
    |(go_at_call 87;(with_reducible refine HBg.out.mono ?_);rintro e w2 ⟨rfl,s2,g2⟩;have S2:=yH (s2 HT.out);have G2:=yH g2;have hz2:=g2.size;simp only[World.size_alloc] at hz2;have HZ2:=yH (HZ.out.grown g2 (fun e=>by injection e;omega));clear s2 g2)
    |(go_at_call 88;have RT:=(S2.out.V.1.self.alloc (.cells #[.int .i64 k',.string (B x),.int .i64 n',.int .i64 p] 87)).alloc (.cells #[.func (.func 90) #[.pointer (some ⟨g,0,none⟩)] #[],.func (.func 90) #[.pointer (some ⟨g,0,none⟩)] #[]] 123);have HBq:=Bk.new (w2.alloc (.cells #[.int .i64 k',.string (B x),.int .i64 n',.int .i64 p] 87)) 123 #[.func (.func 90) #[.pointer (some ⟨g,0,none⟩)] #[],.func (.func 90) #[.pointer (some ⟨g,0,none⟩)] #[]];rw[World.size_alloc] at HBq;(with_reducible refine(HC.out _ _ (S2.out.rel RT) HBq).mono ?_);rintro e w3 h3;have HRT:=yH RT;obtain⟨v,rfl,ex,s3,g3⟩:=ExPost.at_yes h3 rfl;have hz3:=g3.size;simp only[World.size_alloc] at hz3;have HZ3:=yH ((HZ2.out.rel HRT.out).grown g3 (fun e=>by injection e;omega));obtain⟨⟨b0,b1,b2,b3⟩,u0,u1,u2,u3⟩:=HZ3.out.four;have HEx3:=yH (And.intro ex (And.intro s3 g3));clear ex s3 g3 h3 RT HBq))
   obtain⟨e1,e2,e3,e4⟩:=expr_end hgl HVw.out (W0:=w2.heap.size+1+1) (by omega) (grown_trans (grown_trans HA0.out G2.out) (grown_trans (grown_rel (some g) HRT.out) HEx3.out.2.2)) HZ3.out (by simpa using HEx3.out.1) HEx3.out.2.1 _ rfl
   obtain⟨⟨y0,y1,y2,y3⟩,_⟩:=e1.four
   exact bodyPost_ret (v:=EV v) (by simp[results,Tryz.results111,go_sem,y0,y1,y2,y3]) rfl (ExPost.yes HRs.out ⟨_,rfl,e2,e3,e4⟩)
end Go.Proofs.YtjhjdiaomnpkmaaGreatDoor
