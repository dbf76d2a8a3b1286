/- The landed parser. -/

import Derived.Test.YtjhjdiaomnpkmaaGreatDoorZ15
set_option maxRecDepth 100000
set_option maxHeartbeats 8000000
set_option linter.unusedVariables false
set_option linter.unusedSimpArgs false
namespace Go.Proofs.YtjhjdiaomnpkmaaGreatDoor
open Go.RowKit Go.Lib
theorem pexpr_succ(d:Nat)(E:ExprOk d)(V:World)(g a:Nat)(ts:List Tok)(w:World)(had:a+(d+1)=32)(h:StP V w g ts a):
  Calls Tryz.prog 76 #[.pointer (some ⟨g,0,none⟩)] w (ExPost V g a w (exprT (d+1) false ts)):=by
 have had:a+1+d=32:=by omega
 have hA:=h.V.1.self.alloc (.cells #[.int .i64 0,.int .i64 0,.string ⟨#[]⟩,.slice none 0 0] 54)
 have hbg:=pbegin_yes V g a ts _ (h.rel hA) (by omega)
 have HA0:=yH (grown_rel (some g) hA)
 have HZ:=yH (Bk.new w 54 #[.int .i64 0,.int .i64 0,.string ⟨#[]⟩,.slice none 0 0])
 have HVw:=yH (show V.heap.size≤w.heap.size from h.V.1.size)
 have HVV:=yH h.V
 have hgl:=h.lt
 have HF:=yH h.fine
 have HTl:=yH h.fine.last
 have hhd:=h.fine.head
 obtain⟨⟨k',x,n',p⟩,ht⟩:∃t,hdT ts=t:=⟨_,rfl⟩
 rw[ht] at hbg hhd
 have HBg:=yH hbg
 have HAt:=yH (show atT ts=p by unfold atT;rw[ht])
 have hmf:∀(fn:Fn)(first cap:Array Value)(w:World),(Instr.makeFunc fn first cap).run Tryz.prog w= .ok (.func fn first cap) w:=fun _ _ _ _=>rfl
 have HOk:=yH hhd.1
 have HN64:=yH hhd.2.2.1
 obtain⟨K,hk⟩:∃K,kindT false (hdT ts)=K:=⟨_,rfl⟩
 have hk1:(hdT ts).2.1=x:=by rw[ht]
 clear hA hbg h hhd
 by_cases h3:k'=3
 ·obtain rfl:k'=3:=h3
  have HRs:=yH (show exprT (d+1) false ts= .ok (.mk 4 n' [] [],ts.tail) by rw[exprT_money (show kindT false (hdT ts)=4 by rw[ht];exact kind_money x n' p),ht])
  have HT:=yH (HTl.out (.inl (by rw[ht];exact(show(3:Int)≠5 by decide))))
  have HLf:=yH (fun(W:World)=>ExAt.leaf (fun k=>w.heap.size≤k) W 4 n' [] none 0 ⟨by decide,by decide⟩ HN64.out (Nat.zero_le _))
  clear ht hk hk1
  go_enter Tryz.func76,Tryz.ntmps76
  go_wp2_with (go_at_call 87;(with_reducible refine HBg.out.mono ?_);rintro e w2 ⟨rfl,s2,g2⟩;have S2:=yH (s2 HT.out);have G2:=yH g2;have hz2:=g2.size;simp only[World.size_alloc] at hz2;have HZ2:=yH (HZ.out.grown g2 (fun e=>by injection e;omega));clear s2 g2;have hgl3:w.heap.size<w2.heap.size:=(by omega);have hne3: ¬w.heap.size=w2.heap.size:=(by omega);have hne4: ¬w2.heap.size=w.heap.size:=(by omega);obtain⟨⟨b0,b1,b2,b3⟩,u0,u1,u2,u3⟩:=HZ2.out.four)
  obtain⟨e1,e2,e3,e4⟩:=expr_end2 (v:=(4,n',[],none,0,0)) hgl HVw.out (grown_trans HA0.out G2.out) HZ2.out S2.out ⟨#[]⟩ rfl _ rfl (.cells #[.int .i64 3,.string (B x),.int .i64 n',.int .i64 p] 87) HLf.out
  obtain⟨W3,hW3⟩:∃W,((((w2.setCell ⟨w.heap.size,0,none⟩ (.int .i64 4)).setCell ⟨w.heap.size,1,none⟩ (.int .i64 n')).setCell ⟨w.heap.size,2,none⟩ (.string ⟨#[]⟩)).setCell ⟨w.heap.size,3,none⟩ (.slice none 0 0)).alloc (.cells #[.int .i64 3,.string (B x),.int .i64 n',.int .i64 p] 87)=W:=⟨_,rfl⟩
  simp only at e1 e2 e3 e4
  rw[hW3] at e1 e2 e3 e4⊢
  obtain⟨⟨y0,y1,y2,y3⟩,_⟩:=e1.four
  exact bodyPost_ret (v:=EV (4,n',[],none,0,0)) (by simp[results,Tryz.results76,go_sem,y0,y1,y2,y3];rfl) rfl (ExPost.yes HRs.out ⟨_,rfl,e2,e3,e4⟩)
 have h3':(k'==3)=false:=by simpa using h3
 have hways:K=0∨K=1∨K=2∨K=3∨K=5∨K=6∨K=7∨K=8∨K=9∨K=10:=by
  by_cases h0:K=0
  ·exact .inl h0
  ·have hs:=kind_spec HOk.out.1 (c:=false) (by rw[←ht,hk];exact h0)
   rw[←ht,hk] at hs
   rcases hs with ⟨e,e3,_⟩|⟨_,e1,e2,e4,ec⟩
   ·exact absurd (by rw[ht] at e3;exact e3) h3
   ·have: ¬(K=11∨K=12):=fun hh=>by rcases hh with rfl|rfl<;>simp[isCond] at ec
    omega
 rcases hways with rfl|rfl|rfl|rfl|rfl|rfl|rfl|rfl|rfl|rfl
 ·have hx:True:=trivial
  have hb1:=pword_no (show x≠[108,111,119,101,115,116] from kind_none HOk.out false (fun e=>absurd (show k'=3 from e) h3) (by rw[←ht];exact hk) 1 (by decide) (by decide) (by decide) rfl)
  have hb2:=pword_no (show x≠[115,101,99,111,110,100] from kind_none HOk.out false (fun e=>absurd (show k'=3 from e) h3) (by rw[←ht];exact hk) 2 (by decide) (by decide) (by decide) rfl)
  have hb3:=pword_no (show x≠[102,114,111,109] from kind_none HOk.out false (fun e=>absurd (show k'=3 from e) h3) (by rw[←ht];exact hk) 3 (by decide) (by decide) (by decide) rfl)
  have hb5:=pword_no (show x≠[108,101,115,115] from kind_none HOk.out false (fun e=>absurd (show k'=3 from e) h3) (by rw[←ht];exact hk) 5 (by decide) (by decide) (by decide) rfl)
  have hb6:=pword_no (show x≠[99,117,116] from kind_none HOk.out false (fun e=>absurd (show k'=3 from e) h3) (by rw[←ht];exact hk) 6 (by decide) (by decide) (by decide) rfl)
  have hb7:=pword_no (show x≠[109,105,110] from kind_none HOk.out false (fun e=>absurd (show k'=3 from e) h3) (by rw[←ht];exact hk) 7 (by decide) (by decide) (by decide) rfl)
  have hb8:=pword_no (show x≠[109,97,120] from kind_none HOk.out false (fun e=>absurd (show k'=3 from e) h3) (by rw[←ht];exact hk) 8 (by decide) (by decide) (by decide) rfl)
  have hb9:=pword_no (show x≠[101,108,115,101] from kind_none HOk.out false (fun e=>absurd (show k'=3 from e) h3) (by rw[←ht];exact hk) 9 (by decide) (by decide) (by decide) rfl)
  have hb10:=pword_no (show x≠[105,102] from kind_none HOk.out false (fun e=>absurd (show k'=3 from e) h3) (by rw[←ht];exact hk) 10 (by decide) (by decide) (by decide) rfl)
  have HRs:=yH (show exprT (d+1) false ts= .error (80,p) by rw[exprT_none hk,HAt.out])
  clear ht hk hk1
  go_enter Tryz.func76,Tryz.ntmps76
  go_wp2_with (first
   |(go_at_call 87;(with_reducible refine HBg.out.mono ?_);rintro e w2 ⟨rfl,s2,g2⟩;have G2:=yH g2;have hz2:=g2.size;simp only[World.size_alloc] at hz2;clear s2 g2)
   |(go_at_call 94;(with_reducible refine(pwrong_any (k',x,n',p) _).mono ?_);rintro e w3 ⟨rfl,rfl⟩))
  have GG:=grown_trans HA0.out G2.out
  exact⟨rfl,ExPost.no HRs.out rfl (fail_grown GG V (HVV.out.1.grown GG (fun k e=>by cases e;exact HVV.out.2)) _ _ _)⟩
 ·skip
  have HX:=yH (show x=[108,111,119,101,115,116] from(kind_some HOk.out false (k:=1) (by rw[←ht];exact hk) (by decide) (fun e=>absurd (show k'=3 from e) h3)).1)
  have hb1:=pword_yes (show x=[108,111,119,101,115,116] by first|exact HX.out|(rw[HX.out];decide))
  have HRs:=yH (show exprT (d+1) false ts= .ok (.mk 1 0 [] [],ts.tail) from exprT_leaf hk (by decide))
  have HT:=yH (HTl.out (.inr (by rw[hk1,HX.out];decide)))
  have HLf:=yH (fun(W:World)=>ExAt.leaf (fun k=>w.heap.size≤k) W 1 0 [] none 0 ⟨by decide,by decide⟩ ⟨by decide,by decide⟩ (Nat.zero_le _))
  clear ht hk hk1 HX
  go_enter Tryz.func76,Tryz.ntmps76
  go_wp2_with (go_at_call 87;(with_reducible refine HBg.out.mono ?_);rintro e w2 ⟨rfl,s2,g2⟩;have S2:=yH (s2 HT.out);have G2:=yH g2;have hz2:=g2.size;simp only[World.size_alloc] at hz2;have HZ2:=yH (HZ.out.grown g2 (fun e=>by injection e;omega));clear s2 g2;have hgl3:w.heap.size<w2.heap.size:=(by omega);have hne3: ¬w.heap.size=w2.heap.size:=(by omega);have hne4: ¬w2.heap.size=w.heap.size:=(by omega);obtain⟨⟨b0,b1,b2,b3⟩,u0,u1,u2,u3⟩:=HZ2.out.four)
  obtain⟨e1,e2,e3,e4⟩:=expr_end2 (v:=(1,0,[],none,0,0)) hgl HVw.out (grown_trans HA0.out G2.out) HZ2.out S2.out ⟨#[]⟩ rfl _ rfl (.cells #[.int .i64 k',.string (B x),.int .i64 n',.int .i64 p] 87) HLf.out
  obtain⟨W3,hW3⟩:∃W,((((w2.setCell ⟨w.heap.size,0,none⟩ (.int .i64 1)).setCell ⟨w.heap.size,1,none⟩ (.int .i64 0)).setCell ⟨w.heap.size,2,none⟩ (.string ⟨#[]⟩)).setCell ⟨w.heap.size,3,none⟩ (.slice none 0 0)).alloc (.cells #[.int .i64 k',.string (B x),.int .i64 n',.int .i64 p] 87)=W:=⟨_,rfl⟩
  simp only at e1 e2 e3 e4
  rw[hW3] at e1 e2 e3 e4⊢
  obtain⟨⟨y0,y1,y2,y3⟩,_⟩:=e1.four
  exact bodyPost_ret (v:=EV (1,0,[],none,0,0)) (by simp[results,Tryz.results76,go_sem,y0,y1,y2,y3];rfl) rfl (ExPost.yes HRs.out ⟨_,rfl,e2,e3,e4⟩)
 ·skip
  have HX:=yH (show x=[115,101,99,111,110,100] from(kind_some HOk.out false (k:=2) (by rw[←ht];exact hk) (by decide) (fun e=>absurd (show k'=3 from e) h3)).1)
  have hb1:=pword_no (show x≠[108,111,119,101,115,116] by first|exact HX.out|(rw[HX.out];decide))
  have hb2:=pword_yes (show x=[115,101,99,111,110,100] by first|exact HX.out|(rw[HX.out];decide))
  have HRs:=yH (show exprT (d+1) false ts= .ok (.mk 2 0 [] [],ts.tail) from exprT_leaf hk (by decide))
  have HT:=yH (HTl.out (.inr (by rw[hk1,HX.out];decide)))
  have HLf:=yH (fun(W:World)=>ExAt.leaf (fun k=>w.heap.size≤k) W 2 0 [] none 0 ⟨by decide,by decide⟩ ⟨by decide,by decide⟩ (Nat.zero_le _))
  clear ht hk hk1 HX
  go_enter Tryz.func76,Tryz.ntmps76
  go_wp2_with (go_at_call 87;(with_reducible refine HBg.out.mono ?_);rintro e w2 ⟨rfl,s2,g2⟩;have S2:=yH (s2 HT.out);have G2:=yH g2;have hz2:=g2.size;simp only[World.size_alloc] at hz2;have HZ2:=yH (HZ.out.grown g2 (fun e=>by injection e;omega));clear s2 g2;have hgl3:w.heap.size<w2.heap.size:=(by omega);have hne3: ¬w.heap.size=w2.heap.size:=(by omega);have hne4: ¬w2.heap.size=w.heap.size:=(by omega);obtain⟨⟨b0,b1,b2,b3⟩,u0,u1,u2,u3⟩:=HZ2.out.four)
  obtain⟨e1,e2,e3,e4⟩:=expr_end2 (v:=(2,0,[],none,0,0)) hgl HVw.out (grown_trans HA0.out G2.out) HZ2.out S2.out ⟨#[]⟩ rfl _ rfl (.cells #[.int .i64 k',.string (B x),.int .i64 n',.int .i64 p] 87) HLf.out
  obtain⟨W3,hW3⟩:∃W,((((w2.setCell ⟨w.heap.size,0,none⟩ (.int .i64 2)).setCell ⟨w.heap.size,1,none⟩ (.int .i64 0)).setCell ⟨w.heap.size,2,none⟩ (.string ⟨#[]⟩)).setCell ⟨w.heap.size,3,none⟩ (.slice none 0 0)).alloc (.cells #[.int .i64 k',.string (B x),.int .i64 n',.int .i64 p] 87)=W:=⟨_,rfl⟩
  simp only at e1 e2 e3 e4
  rw[hW3] at e1 e2 e3 e4⊢
  obtain⟨⟨y0,y1,y2,y3⟩,_⟩:=e1.four
  exact bodyPost_ret (v:=EV (2,0,[],none,0,0)) (by simp[results,Tryz.results76,go_sem,y0,y1,y2,y3];rfl) rfl (ExPost.yes HRs.out ⟨_,rfl,e2,e3,e4⟩)
 ·have HX:=yH (show x=[102,114,111,109] from(kind_some HOk.out false (k:=3) (by rw[←ht];exact hk) (by decide) (fun e=>absurd (show k'=3 from e) h3)).1)
  have hb1:=pword_no (show x≠[108,111,119,101,115,116] by first|exact HX.out|(rw[HX.out];decide))
  have hb2:=pword_no (show x≠[115,101,99,111,110,100] by first|exact HX.out|(rw[HX.out];decide))
  have hb3:=pword_yes (show x=[102,114,111,109] by first|exact HX.out|(rw[HX.out];decide))
  have hk1:(hdT ts).2.1≠[]:=by rw[hk1,HX.out];decide
  have hpc:piecesP (exprT d) [.na] 40 (.mk 3 0 [] []) ts.tail=callT (exprT d) 3 ts.tail:=call_pieces d 3 (by decide) ts.tail (tail_okP HF.out.oks)
  have hex:exprT (d+1) false ts=callT (exprT d) 3 ts.tail:=exprT_call hk (by decide) (by decide) (by decide)
  have HEx:=yH hex
  have HT:=yH (HTl.out (.inr hk1))
  cases hr:callT (exprT d) 3 ts.tail with
  |error e0=>
   rw[hr] at hpc
   have HRs:=yH (show exprT (d+1) false ts= .error e0 by rw[HEx.out,hr])
   have HC:=yH (fun(W:World)(q:Nat)(hs:StP V W g ts.tail a)(hq:Bk W q 123 #[.func (.func 89) #[.pointer (some ⟨g,0,none⟩)] #[]])=>call_res E had 3 ⟨by decide,by decide⟩ [.na] (by decide) hpc 1 1 rfl #[.func (.func 89) #[.pointer (some ⟨g,0,none⟩)] #[]] rfl W q hs hq)
   clear hpc hr hex hk hk1 ht HX
   go_enter Tryz.func76,Tryz.ntmps76
   go_wp2_with (first
    |(go_at_call 87;(with_reducible refine HBg.out.mono ?_);rintro e w2 ⟨rfl,s2,g2⟩;have S2:=yH (s2 HT.out);have G2:=yH g2;have hz2:=g2.size;simp only[World.size_alloc] at hz2;have HZ2:=yH (HZ.out.grown g2 (fun e=>by injection e;omega));clear s2 g2)
    |(go_at_call 88;have RT:=(S2.out.V.1.self.alloc (.cells #[.int .i64 k',.string (B x),.int .i64 n',.int .i64 p] 87)).alloc (.cells #[.func (.func 89) #[.pointer (some ⟨g,0,none⟩)] #[]] 123);have HBq:=Bk.new (w2.alloc (.cells #[.int .i64 k',.string (B x),.int .i64 n',.int .i64 p] 87)) 123 #[.func (.func 89) #[.pointer (some ⟨g,0,none⟩)] #[]];rw[World.size_alloc] at HBq;(with_reducible refine(HC.out _ _ (S2.out.rel RT) HBq).mono ?_);rintro e w3 h3;have HRT:=yH RT;obtain⟨rfl,g3⟩:=ExPost.at_no h3 rfl;clear h3 RT HBq))
   exact⟨rfl,ExPost.no HRs.out rfl (grown_trans (grown_trans HA0.out G2.out) (grown_trans (grown_rel (some g) HRT.out) g3))⟩
  |ok qq=>
   obtain⟨y,r⟩:=qq
   rw[hr] at hpc
   have HRs:=yH (show exprT (d+1) false ts= .ok (y,r) by rw[HEx.out,hr])
   have HC:=yH (fun(W:World)(q:Nat)(hs:StP V W g ts.tail a)(hq:Bk W q 123 #[.func (.func 89) #[.pointer (some ⟨g,0,none⟩)] #[]])=>call_res E had 3 ⟨by decide,by decide⟩ [.na] (by decide) hpc 1 1 rfl #[.func (.func 89) #[.pointer (some ⟨g,0,none⟩)] #[]] rfl W q hs hq)
   clear hpc hr hex hk hk1 ht HX
   go_enter Tryz.func76,Tryz.ntmps76
   go_wp2_with (first
    |(go_at_call 87;(with_reducible refine HBg.out.mono ?_);rintro e w2 ⟨rfl,s2,g2⟩;have S2:=yH (s2 HT.out);have G2:=yH g2;have hz2:=g2.size;simp only[World.size_alloc] at hz2;have HZ2:=yH (HZ.out.grown g2 (fun e=>by injection e;omega));clear s2 g2)
    |(go_at_call 88;have RT:=(S2.out.V.1.self.alloc (.cells #[.int .i64 k',.string (B x),.int .i64 n',.int .i64 p] 87)).alloc (.cells #[.func (.func 89) #[.pointer (some ⟨g,0,none⟩)] #[]] 123);have HBq:=Bk.new (w2.alloc (.cells #[.int .i64 k',.string (B x),.int .i64 n',.int .i64 p] 87)) 123 #[.func (.func 89) #[.pointer (some ⟨g,0,none⟩)] #[]];rw[World.size_alloc] at HBq;(with_reducible refine(HC.out _ _ (S2.out.rel RT) HBq).mono ?_);rintro e w3 h3;have HRT:=yH RT;obtain⟨v,rfl,ex,s3,g3⟩:=ExPost.at_yes h3 rfl;have hz3:=g3.size;simp only[World.size_alloc] at hz3;have HZ3:=yH ((HZ2.out.rel HRT.out).grown g3 (fun e=>by injection e;omega));obtain⟨⟨b0,b1,b2,b3⟩,u0,u1,u2,u3⟩:=HZ3.out.four;have HEx3:=yH (And.intro ex (And.intro s3 g3));clear ex s3 g3 h3 RT HBq))
   obtain⟨e1,e2,e3,e4⟩:=expr_end hgl HVw.out (W0:=w2.heap.size+1+1) (by omega) (grown_trans (grown_trans HA0.out G2.out) (grown_trans (grown_rel (some g) HRT.out) HEx3.out.2.2)) HZ3.out (by simpa using HEx3.out.1) HEx3.out.2.1 _ rfl
   obtain⟨⟨y0,y1,y2,y3⟩,_⟩:=e1.four
   exact bodyPost_ret (v:=EV v) (by simp[results,Tryz.results76,go_sem,y0,y1,y2,y3]) rfl (ExPost.yes HRs.out ⟨_,rfl,e2,e3,e4⟩)
 ·have HX:=yH (show x=[108,101,115,115] from(kind_some HOk.out false (k:=5) (by rw[←ht];exact hk) (by decide) (fun e=>absurd (show k'=3 from e) h3)).1)
  have hb1:=pword_no (show x≠[108,111,119,101,115,116] by first|exact HX.out|(rw[HX.out];decide))
  have hb2:=pword_no (show x≠[115,101,99,111,110,100] by first|exact HX.out|(rw[HX.out];decide))
  have hb3:=pword_no (show x≠[102,114,111,109] by first|exact HX.out|(rw[HX.out];decide))
  have hb5:=pword_yes (show x=[108,101,115,115] by first|exact HX.out|(rw[HX.out];decide))
  have hk1:(hdT ts).2.1≠[]:=by rw[hk1,HX.out];decide
  have hpc:piecesP (exprT d) [.ar,.am] 40 (.mk 5 0 [] []) ts.tail=callT (exprT d) 5 ts.tail:=call_pieces d 5 (by decide) ts.tail (tail_okP HF.out.oks)
  have hex:exprT (d+1) false ts=callT (exprT d) 5 ts.tail:=exprT_call hk (by decide) (by decide) (by decide)
  have HEx:=yH hex
  have HT:=yH (HTl.out (.inr hk1))
  cases hr:callT (exprT d) 5 ts.tail with
  |error e0=>
   rw[hr] at hpc
   have HRs:=yH (show exprT (d+1) false ts= .error e0 by rw[HEx.out,hr])
   have HC:=yH (fun(W:World)(q:Nat)(hs:StP V W g ts.tail a)(hq:Bk W q 123 #[.func (.func 90) #[.pointer (some ⟨g,0,none⟩)] #[],.func (.func 91) #[.pointer (some ⟨g,0,none⟩)] #[]])=>call_res E had 5 ⟨by decide,by decide⟩ [.ar,.am] (by decide) hpc 2 2 rfl #[.func (.func 90) #[.pointer (some ⟨g,0,none⟩)] #[],.func (.func 91) #[.pointer (some ⟨g,0,none⟩)] #[]] rfl W q hs hq)
   clear hpc hr hex hk hk1 ht HX
   go_enter Tryz.func76,Tryz.ntmps76
   go_wp2_with (first
    |(go_at_call 87;(with_reducible refine HBg.out.mono ?_);rintro e w2 ⟨rfl,s2,g2⟩;have S2:=yH (s2 HT.out);have G2:=yH g2;have hz2:=g2.size;simp only[World.size_alloc] at hz2;have HZ2:=yH (HZ.out.grown g2 (fun e=>by injection e;omega));clear s2 g2)
    |(go_at_call 88;have RT:=(S2.out.V.1.self.alloc (.cells #[.int .i64 k',.string (B x),.int .i64 n',.int .i64 p] 87)).alloc (.cells #[.func (.func 90) #[.pointer (some ⟨g,0,none⟩)] #[],.func (.func 91) #[.pointer (some ⟨g,0,none⟩)] #[]] 123);have HBq:=Bk.new (w2.alloc (.cells #[.int .i64 k',.string (B x),.int .i64 n',.int .i64 p] 87)) 123 #[.func (.func 90) #[.pointer (some ⟨g,0,none⟩)] #[],.func (.func 91) #[.pointer (some ⟨g,0,none⟩)] #[]];rw[World.size_alloc] at HBq;(with_reducible refine(HC.out _ _ (S2.out.rel RT) HBq).mono ?_);rintro e w3 h3;have HRT:=yH RT;obtain⟨rfl,g3⟩:=ExPost.at_no h3 rfl;clear h3 RT HBq))
   exact⟨rfl,ExPost.no HRs.out rfl (grown_trans (grown_trans HA0.out G2.out) (grown_trans (grown_rel (some g) HRT.out) g3))⟩
  |ok qq=>
   obtain⟨y,r⟩:=qq
   rw[hr] at hpc
   have HRs:=yH (show exprT (d+1) false ts= .ok (y,r) by rw[HEx.out,hr])
   have HC:=yH (fun(W:World)(q:Nat)(hs:StP V W g ts.tail a)(hq:Bk W q 123 #[.func (.func 90) #[.pointer (some ⟨g,0,none⟩)] #[],.func (.func 91) #[.pointer (some ⟨g,0,none⟩)] #[]])=>call_res E had 5 ⟨by decide,by decide⟩ [.ar,.am] (by decide) hpc 2 2 rfl #[.func (.func 90) #[.pointer (some ⟨g,0,none⟩)] #[],.func (.func 91) #[.pointer (some ⟨g,0,none⟩)] #[]] rfl W q hs hq)
   clear hpc hr hex hk hk1 ht HX
   go_enter Tryz.func76,Tryz.ntmps76
   go_wp2_with (first
    |(go_at_call 87;(with_reducible refine HBg.out.mono ?_);rintro e w2 ⟨rfl,s2,g2⟩;have S2:=yH (s2 HT.out);have G2:=yH g2;have hz2:=g2.size;simp only[World.size_alloc] at hz2;have HZ2:=yH (HZ.out.grown g2 (fun e=>by injection e;omega));clear s2 g2)
    |(go_at_call 88;have RT:=(S2.out.V.1.self.alloc (.cells #[.int .i64 k',.string (B x),.int .i64 n',.int .i64 p] 87)).alloc (.cells #[.func (.func 90) #[.pointer (some ⟨g,0,none⟩)] #[],.func (.func 91) #[.pointer (some ⟨g,0,none⟩)] #[]] 123);have HBq:=Bk.new (w2.alloc (.cells #[.int .i64 k',.string (B x),.int .i64 n',.int .i64 p] 87)) 123 #[.func (.func 90) #[.pointer (some ⟨g,0,none⟩)] #[],.func (.func 91) #[.pointer (some ⟨g,0,none⟩)] #[]];rw[World.size_alloc] at HBq;(with_reducible refine(HC.out _ _ (S2.out.rel RT) HBq).mono ?_);rintro e w3 h3;have HRT:=yH RT;obtain⟨v,rfl,ex,s3,g3⟩:=ExPost.at_yes h3 rfl;have hz3:=g3.size;simp only[World.size_alloc] at hz3;have HZ3:=yH ((HZ2.out.rel HRT.out).grown g3 (fun e=>by injection e;omega));obtain⟨⟨b0,b1,b2,b3⟩,u0,u1,u2,u3⟩:=HZ3.out.four;have HEx3:=yH (And.intro ex (And.intro s3 g3));clear ex s3 g3 h3 RT HBq))
   obtain⟨e1,e2,e3,e4⟩:=expr_end hgl HVw.out (W0:=w2.heap.size+1+1) (by omega) (grown_trans (grown_trans HA0.out G2.out) (grown_trans (grown_rel (some g) HRT.out) HEx3.out.2.2)) HZ3.out (by simpa using HEx3.out.1) HEx3.out.2.1 _ rfl
   obtain⟨⟨y0,y1,y2,y3⟩,_⟩:=e1.four
   exact bodyPost_ret (v:=EV v) (by simp[results,Tryz.results76,go_sem,y0,y1,y2,y3]) rfl (ExPost.yes HRs.out ⟨_,rfl,e2,e3,e4⟩)
 ·have HX:=yH (show x=[99,117,116] from(kind_some HOk.out false (k:=6) (by rw[←ht];exact hk) (by decide) (fun e=>absurd (show k'=3 from e) h3)).1)
  have hb1:=pword_no (show x≠[108,111,119,101,115,116] by first|exact HX.out|(rw[HX.out];decide))
  have hb2:=pword_no (show x≠[115,101,99,111,110,100] by first|exact HX.out|(rw[HX.out];decide))
  have hb3:=pword_no (show x≠[102,114,111,109] by first|exact HX.out|(rw[HX.out];decide))
  have hb5:=pword_no (show x≠[108,101,115,115] by first|exact HX.out|(rw[HX.out];decide))
  have hb6:=pword_yes (show x=[99,117,116] by first|exact HX.out|(rw[HX.out];decide))
  have hk1:(hdT ts).2.1≠[]:=by rw[hk1,HX.out];decide
  have hpc:piecesP (exprT d) [.ar,.pa] 40 (.mk 6 0 [] []) ts.tail=callT (exprT d) 6 ts.tail:=call_pieces d 6 (by decide) ts.tail (tail_okP HF.out.oks)
  have hex:exprT (d+1) false ts=callT (exprT d) 6 ts.tail:=exprT_call hk (by decide) (by decide) (by decide)
  have HEx:=yH hex
  have HT:=yH (HTl.out (.inr hk1))
  cases hr:callT (exprT d) 6 ts.tail with
  |error e0=>
   rw[hr] at hpc
   have HRs:=yH (show exprT (d+1) false ts= .error e0 by rw[HEx.out,hr])
   have HC:=yH (fun(W:World)(q:Nat)(hs:StP V W g ts.tail a)(hq:Bk W q 123 #[.func (.func 90) #[.pointer (some ⟨g,0,none⟩)] #[],.func (.func 92) #[.pointer (some ⟨g,0,none⟩)] #[]])=>call_res E had 6 ⟨by decide,by decide⟩ [.ar,.pa] (by decide) hpc 2 2 rfl #[.func (.func 90) #[.pointer (some ⟨g,0,none⟩)] #[],.func (.func 92) #[.pointer (some ⟨g,0,none⟩)] #[]] rfl W q hs hq)
   clear hpc hr hex hk hk1 ht HX
   go_enter Tryz.func76,Tryz.ntmps76
   go_wp2_with (first
    |(go_at_call 87;(with_reducible refine HBg.out.mono ?_);rintro e w2 ⟨rfl,s2,g2⟩;have S2:=yH (s2 HT.out);have G2:=yH g2;have hz2:=g2.size;simp only[World.size_alloc] at hz2;have HZ2:=yH (HZ.out.grown g2 (fun e=>by injection e;omega));clear s2 g2)
    |(go_at_call 88;have RT:=(S2.out.V.1.self.alloc (.cells #[.int .i64 k',.string (B x),.int .i64 n',.int .i64 p] 87)).alloc (.cells #[.func (.func 90) #[.pointer (some ⟨g,0,none⟩)] #[],.func (.func 92) #[.pointer (some ⟨g,0,none⟩)] #[]] 123);have HBq:=Bk.new (w2.alloc (.cells #[.int .i64 k',.string (B x),.int .i64 n',.int .i64 p] 87)) 123 #[.func (.func 90) #[.pointer (some ⟨g,0,none⟩)] #[],.func (.func 92) #[.pointer (some ⟨g,0,none⟩)] #[]];rw[World.size_alloc] at HBq;(with_reducible refine(HC.out _ _ (S2.out.rel RT) HBq).mono ?_);rintro e w3 h3;have HRT:=yH RT;obtain⟨rfl,g3⟩:=ExPost.at_no h3 rfl;clear h3 RT HBq))
   exact⟨rfl,ExPost.no HRs.out rfl (grown_trans (grown_trans HA0.out G2.out) (grown_trans (grown_rel (some g) HRT.out) g3))⟩
  |ok qq=>
   obtain⟨y,r⟩:=qq
   rw[hr] at hpc
   have HRs:=yH (show exprT (d+1) false ts= .ok (y,r) by rw[HEx.out,hr])
   have HC:=yH (fun(W:World)(q:Nat)(hs:StP V W g ts.tail a)(hq:Bk W q 123 #[.func (.func 90) #[.pointer (some ⟨g,0,none⟩)] #[],.func (.func 92) #[.pointer (some ⟨g,0,none⟩)] #[]])=>call_res E had 6 ⟨by decide,by decide⟩ [.ar,.pa] (by decide) hpc 2 2 rfl #[.func (.func 90) #[.pointer (some ⟨g,0,none⟩)] #[],.func (.func 92) #[.pointer (some ⟨g,0,none⟩)] #[]] rfl W q hs hq)
   clear hpc hr hex hk hk1 ht HX
   go_enter Tryz.func76,Tryz.ntmps76
   go_wp2_with (first
    |(go_at_call 87;(with_reducible refine HBg.out.mono ?_);rintro e w2 ⟨rfl,s2,g2⟩;have S2:=yH (s2 HT.out);have G2:=yH g2;have hz2:=g2.size;simp only[World.size_alloc] at hz2;have HZ2:=yH (HZ.out.grown g2 (fun e=>by injection e;omega));clear s2 g2)
    |(go_at_call 88;have RT:=(S2.out.V.1.self.alloc (.cells #[.int .i64 k',.string (B x),.int .i64 n',.int .i64 p] 87)).alloc (.cells #[.func (.func 90) #[.pointer (some ⟨g,0,none⟩)] #[],.func (.func 92) #[.pointer (some ⟨g,0,none⟩)] #[]] 123);have HBq:=Bk.new (w2.alloc (.cells #[.int .i64 k',.string (B x),.int .i64 n',.int .i64 p] 87)) 123 #[.func (.func 90) #[.pointer (some ⟨g,0,none⟩)] #[],.func (.func 92) #[.pointer (some ⟨g,0,none⟩)] #[]];rw[World.size_alloc] at HBq;(with_reducible refine(HC.out _ _ (S2.out.rel RT) HBq).mono ?_);rintro e w3 h3;have HRT:=yH RT;obtain⟨v,rfl,ex,s3,g3⟩:=ExPost.at_yes h3 rfl;have hz3:=g3.size;simp only[World.size_alloc] at hz3;have HZ3:=yH ((HZ2.out.rel HRT.out).grown g3 (fun e=>by injection e;omega));obtain⟨⟨b0,b1,b2,b3⟩,u0,u1,u2,u3⟩:=HZ3.out.four;have HEx3:=yH (And.intro ex (And.intro s3 g3));clear ex s3 g3 h3 RT HBq))
   obtain⟨e1,e2,e3,e4⟩:=expr_end hgl HVw.out (W0:=w2.heap.size+1+1) (by omega) (grown_trans (grown_trans HA0.out G2.out) (grown_trans (grown_rel (some g) HRT.out) HEx3.out.2.2)) HZ3.out (by simpa using HEx3.out.1) HEx3.out.2.1 _ rfl
   obtain⟨⟨y0,y1,y2,y3⟩,_⟩:=e1.four
   exact bodyPost_ret (v:=EV v) (by simp[results,Tryz.results76,go_sem,y0,y1,y2,y3]) rfl (ExPost.yes HRs.out ⟨_,rfl,e2,e3,e4⟩)
 ·have HX:=yH (show x=[109,105,110] from(kind_some HOk.out false (k:=7) (by rw[←ht];exact hk) (by decide) (fun e=>absurd (show k'=3 from e) h3)).1)
  have hb1:=pword_no (show x≠[108,111,119,101,115,116] by first|exact HX.out|(rw[HX.out];decide))
  have hb2:=pword_no (show x≠[115,101,99,111,110,100] by first|exact HX.out|(rw[HX.out];decide))
  have hb3:=pword_no (show x≠[102,114,111,109] by first|exact HX.out|(rw[HX.out];decide))
  have hb5:=pword_no (show x≠[108,101,115,115] by first|exact HX.out|(rw[HX.out];decide))
  have hb6:=pword_no (show x≠[99,117,116] by first|exact HX.out|(rw[HX.out];decide))
  have hb7:=pword_yes (show x=[109,105,110] by first|exact HX.out|(rw[HX.out];decide))
  have hk1:(hdT ts).2.1≠[]:=by rw[hk1,HX.out];decide
  have hpc:piecesP (exprT d) [.ar,.ar] 40 (.mk 7 0 [] []) ts.tail=callT (exprT d) 7 ts.tail:=call_pieces d 7 (by decide) ts.tail (tail_okP HF.out.oks)
  have hex:exprT (d+1) false ts=callT (exprT d) 7 ts.tail:=exprT_call hk (by decide) (by decide) (by decide)
  have HEx:=yH hex
  have HT:=yH (HTl.out (.inr hk1))
  cases hr:callT (exprT d) 7 ts.tail with
  |error e0=>
   rw[hr] at hpc
   have HRs:=yH (show exprT (d+1) false ts= .error e0 by rw[HEx.out,hr])
   have HC:=yH (fun(W:World)(q:Nat)(hs:StP V W g ts.tail a)(hq:Bk W q 123 #[.func (.func 90) #[.pointer (some ⟨g,0,none⟩)] #[],.func (.func 90) #[.pointer (some ⟨g,0,none⟩)] #[]])=>call_res E had 7 ⟨by decide,by decide⟩ [.ar,.ar] (by decide) hpc 2 2 rfl #[.func (.func 90) #[.pointer (some ⟨g,0,none⟩)] #[],.func (.func 90) #[.pointer (some ⟨g,0,none⟩)] #[]] rfl W q hs hq)
   clear hpc hr hex hk hk1 ht HX
   go_enter Tryz.func76,Tryz.ntmps76
   go_wp2_with (first
    |(go_at_call 87;(with_reducible refine HBg.out.mono ?_);rintro e w2 ⟨rfl,s2,g2⟩;have S2:=yH (s2 HT.out);have G2:=yH g2;have hz2:=g2.size;simp only[World.size_alloc] at hz2;have HZ2:=yH (HZ.out.grown g2 (fun e=>by injection e;omega));clear s2 g2)
    |(go_at_call 88;have RT:=(S2.out.V.1.self.alloc (.cells #[.int .i64 k',.string (B x),.int .i64 n',.int .i64 p] 87)).alloc (.cells #[.func (.func 90) #[.pointer (some ⟨g,0,none⟩)] #[],.func (.func 90) #[.pointer (some ⟨g,0,none⟩)] #[]] 123);have HBq:=Bk.new (w2.alloc (.cells #[.int .i64 k',.string (B x),.int .i64 n',.int .i64 p] 87)) 123 #[.func (.func 90) #[.pointer (some ⟨g,0,none⟩)] #[],.func (.func 90) #[.pointer (some ⟨g,0,none⟩)] #[]];rw[World.size_alloc] at HBq;(with_reducible refine(HC.out _ _ (S2.out.rel RT) HBq).mono ?_);rintro e w3 h3;have HRT:=yH RT;obtain⟨rfl,g3⟩:=ExPost.at_no h3 rfl;clear h3 RT HBq))
   exact⟨rfl,ExPost.no HRs.out rfl (grown_trans (grown_trans HA0.out G2.out) (grown_trans (grown_rel (some g) HRT.out) g3))⟩
  |ok qq=>
   obtain⟨y,r⟩:=qq
   rw[hr] at hpc
   have HRs:=yH (show exprT (d+1) false ts= .ok (y,r) by rw[HEx.out,hr])
   have HC:=yH (fun(W:World)(q:Nat)(hs:StP V W g ts.tail a)(hq:Bk W q 123 #[.func (.func 90) #[.pointer (some ⟨g,0,none⟩)] #[],.func (.func 90) #[.pointer (some ⟨g,0,none⟩)] #[]])=>call_res E had 7 ⟨by decide,by decide⟩ [.ar,.ar] (by decide) hpc 2 2 rfl #[.func (.func 90) #[.pointer (some ⟨g,0,none⟩)] #[],.func (.func 90) #[.pointer (some ⟨g,0,none⟩)] #[]] rfl W q hs hq)
   clear hpc hr hex hk hk1 ht HX
   go_enter Tryz.func76,Tryz.ntmps76
   go_wp2_with (first
    |(go_at_call 87;(with_reducible refine HBg.out.mono ?_);rintro e w2 ⟨rfl,s2,g2⟩;have S2:=yH (s2 HT.out);have G2:=yH g2;have hz2:=g2.size;simp only[World.size_alloc] at hz2;have HZ2:=yH (HZ.out.grown g2 (fun e=>by injection e;omega));clear s2 g2)
    |(go_at_call 88;have RT:=(S2.out.V.1.self.alloc (.cells #[.int .i64 k',.string (B x),.int .i64 n',.int .i64 p] 87)).alloc (.cells #[.func (.func 90) #[.pointer (some ⟨g,0,none⟩)] #[],.func (.func 90) #[.pointer (some ⟨g,0,none⟩)] #[]] 123);have HBq:=Bk.new (w2.alloc (.cells #[.int .i64 k',.string (B x),.int .i64 n',.int .i64 p] 87)) 123 #[.func (.func 90) #[.pointer (some ⟨g,0,none⟩)] #[],.func (.func 90) #[.pointer (some ⟨g,0,none⟩)] #[]];rw[World.size_alloc] at HBq;(with_reducible refine(HC.out _ _ (S2.out.rel RT) HBq).mono ?_);rintro e w3 h3;have HRT:=yH RT;obtain⟨v,rfl,ex,s3,g3⟩:=ExPost.at_yes h3 rfl;have hz3:=g3.size;simp only[World.size_alloc] at hz3;have HZ3:=yH ((HZ2.out.rel HRT.out).grown g3 (fun e=>by injection e;omega));obtain⟨⟨b0,b1,b2,b3⟩,u0,u1,u2,u3⟩:=HZ3.out.four;have HEx3:=yH (And.intro ex (And.intro s3 g3));clear ex s3 g3 h3 RT HBq))
   obtain⟨e1,e2,e3,e4⟩:=expr_end hgl HVw.out (W0:=w2.heap.size+1+1) (by omega) (grown_trans (grown_trans HA0.out G2.out) (grown_trans (grown_rel (some g) HRT.out) HEx3.out.2.2)) HZ3.out (by simpa using HEx3.out.1) HEx3.out.2.1 _ rfl
   obtain⟨⟨y0,y1,y2,y3⟩,_⟩:=e1.four
   exact bodyPost_ret (v:=EV v) (by simp[results,Tryz.results76,go_sem,y0,y1,y2,y3]) rfl (ExPost.yes HRs.out ⟨_,rfl,e2,e3,e4⟩)
 ·have HX:=yH (show x=[109,97,120] from(kind_some HOk.out false (k:=8) (by rw[←ht];exact hk) (by decide) (fun e=>absurd (show k'=3 from e) h3)).1)
  have hb1:=pword_no (show x≠[108,111,119,101,115,116] by first|exact HX.out|(rw[HX.out];decide))
  have hb2:=pword_no (show x≠[115,101,99,111,110,100] by first|exact HX.out|(rw[HX.out];decide))
  have hb3:=pword_no (show x≠[102,114,111,109] by first|exact HX.out|(rw[HX.out];decide))
  have hb5:=pword_no (show x≠[108,101,115,115] by first|exact HX.out|(rw[HX.out];decide))
  have hb6:=pword_no (show x≠[99,117,116] by first|exact HX.out|(rw[HX.out];decide))
  have hb7:=pword_no (show x≠[109,105,110] by first|exact HX.out|(rw[HX.out];decide))
  have hb8:=pword_yes (show x=[109,97,120] by first|exact HX.out|(rw[HX.out];decide))
  have hk1:(hdT ts).2.1≠[]:=by rw[hk1,HX.out];decide
  have hpc:piecesP (exprT d) [.ar,.ar] 40 (.mk 8 0 [] []) ts.tail=callT (exprT d) 8 ts.tail:=call_pieces d 8 (by decide) ts.tail (tail_okP HF.out.oks)
  have hex:exprT (d+1) false ts=callT (exprT d) 8 ts.tail:=exprT_call hk (by decide) (by decide) (by decide)
  have HEx:=yH hex
  have HT:=yH (HTl.out (.inr hk1))
  cases hr:callT (exprT d) 8 ts.tail with
  |error e0=>
   rw[hr] at hpc
   have HRs:=yH (show exprT (d+1) false ts= .error e0 by rw[HEx.out,hr])
   have HC:=yH (fun(W:World)(q:Nat)(hs:StP V W g ts.tail a)(hq:Bk W q 123 #[.func (.func 90) #[.pointer (some ⟨g,0,none⟩)] #[],.func (.func 90) #[.pointer (some ⟨g,0,none⟩)] #[]])=>call_res E had 8 ⟨by decide,by decide⟩ [.ar,.ar] (by decide) hpc 2 2 rfl #[.func (.func 90) #[.pointer (some ⟨g,0,none⟩)] #[],.func (.func 90) #[.pointer (some ⟨g,0,none⟩)] #[]] rfl W q hs hq)
   clear hpc hr hex hk hk1 ht HX
   go_enter Tryz.func76,Tryz.ntmps76
   go_wp2_with (first
    |(go_at_call 87;(with_reducible refine HBg.out.mono ?_);rintro e w2 ⟨rfl,s2,g2⟩;have S2:=yH (s2 HT.out);have G2:=yH g2;have hz2:=g2.size;simp only[World.size_alloc] at hz2;have HZ2:=yH (HZ.out.grown g2 (fun e=>by injection e;omega));clear s2 g2)
    |(go_at_call 88;have RT:=(S2.out.V.1.self.alloc (.cells #[.int .i64 k',.string (B x),.int .i64 n',.int .i64 p] 87)).alloc (.cells #[.func (.func 90) #[.pointer (some ⟨g,0,none⟩)] #[],.func (.func 90) #[.pointer (some ⟨g,0,none⟩)] #[]] 123);have HBq:=Bk.new (w2.alloc (.cells #[.int .i64 k',.string (B x),.int .i64 n',.int .i64 p] 87)) 123 #[.func (.func 90) #[.pointer (some ⟨g,0,none⟩)] #[],.func (.func 90) #[.pointer (some ⟨g,0,none⟩)] #[]];rw[World.size_alloc] at HBq;(with_reducible refine(HC.out _ _ (S2.out.rel RT) HBq).mono ?_);rintro e w3 h3;have HRT:=yH RT;obtain⟨rfl,g3⟩:=ExPost.at_no h3 rfl;clear h3 RT HBq))
   exact⟨rfl,ExPost.no HRs.out rfl (grown_trans (grown_trans HA0.out G2.out) (grown_trans (grown_rel (some g) HRT.out) g3))⟩
  |ok qq=>
   obtain⟨y,r⟩:=qq
   rw[hr] at hpc
   have HRs:=yH (show exprT (d+1) false ts= .ok (y,r) by rw[HEx.out,hr])
   have HC:=yH (fun(W:World)(q:Nat)(hs:StP V W g ts.tail a)(hq:Bk W q 123 #[.func (.func 90) #[.pointer (some ⟨g,0,none⟩)] #[],.func (.func 90) #[.pointer (some ⟨g,0,none⟩)] #[]])=>call_res E had 8 ⟨by decide,by decide⟩ [.ar,.ar] (by decide) hpc 2 2 rfl #[.func (.func 90) #[.pointer (some ⟨g,0,none⟩)] #[],.func (.func 90) #[.pointer (some ⟨g,0,none⟩)] #[]] rfl W q hs hq)
   clear hpc hr hex hk hk1 ht HX
   go_enter Tryz.func76,Tryz.ntmps76
   go_wp2_with (first
    |(go_at_call 87;(with_reducible refine HBg.out.mono ?_);rintro e w2 ⟨rfl,s2,g2⟩;have S2:=yH (s2 HT.out);have G2:=yH g2;have hz2:=g2.size;simp only[World.size_alloc] at hz2;have HZ2:=yH (HZ.out.grown g2 (fun e=>by injection e;omega));clear s2 g2)
    |(go_at_call 88;have RT:=(S2.out.V.1.self.alloc (.cells #[.int .i64 k',.string (B x),.int .i64 n',.int .i64 p] 87)).alloc (.cells #[.func (.func 90) #[.pointer (some ⟨g,0,none⟩)] #[],.func (.func 90) #[.pointer (some ⟨g,0,none⟩)] #[]] 123);have HBq:=Bk.new (w2.alloc (.cells #[.int .i64 k',.string (B x),.int .i64 n',.int .i64 p] 87)) 123 #[.func (.func 90) #[.pointer (some ⟨g,0,none⟩)] #[],.func (.func 90) #[.pointer (some ⟨g,0,none⟩)] #[]];rw[World.size_alloc] at HBq;(with_reducible refine(HC.out _ _ (S2.out.rel RT) HBq).mono ?_);rintro e w3 h3;have HRT:=yH RT;obtain⟨v,rfl,ex,s3,g3⟩:=ExPost.at_yes h3 rfl;have hz3:=g3.size;simp only[World.size_alloc] at hz3;have HZ3:=yH ((HZ2.out.rel HRT.out).grown g3 (fun e=>by injection e;omega));obtain⟨⟨b0,b1,b2,b3⟩,u0,u1,u2,u3⟩:=HZ3.out.four;have HEx3:=yH (And.intro ex (And.intro s3 g3));clear ex s3 g3 h3 RT HBq))
   obtain⟨e1,e2,e3,e4⟩:=expr_end hgl HVw.out (W0:=w2.heap.size+1+1) (by omega) (grown_trans (grown_trans HA0.out G2.out) (grown_trans (grown_rel (some g) HRT.out) HEx3.out.2.2)) HZ3.out (by simpa using HEx3.out.1) HEx3.out.2.1 _ rfl
   obtain⟨⟨y0,y1,y2,y3⟩,_⟩:=e1.four
   exact bodyPost_ret (v:=EV v) (by simp[results,Tryz.results76,go_sem,y0,y1,y2,y3]) rfl (ExPost.yes HRs.out ⟨_,rfl,e2,e3,e4⟩)
 ·have HX:=yH (show x=[101,108,115,101] from(kind_some HOk.out false (k:=9) (by rw[←ht];exact hk) (by decide) (fun e=>absurd (show k'=3 from e) h3)).1)
  have hb1:=pword_no (show x≠[108,111,119,101,115,116] by first|exact HX.out|(rw[HX.out];decide))
  have hb2:=pword_no (show x≠[115,101,99,111,110,100] by first|exact HX.out|(rw[HX.out];decide))
  have hb3:=pword_no (show x≠[102,114,111,109] by first|exact HX.out|(rw[HX.out];decide))
  have hb5:=pword_no (show x≠[108,101,115,115] by first|exact HX.out|(rw[HX.out];decide))
  have hb6:=pword_no (show x≠[99,117,116] by first|exact HX.out|(rw[HX.out];decide))
  have hb7:=pword_no (show x≠[109,105,110] by first|exact HX.out|(rw[HX.out];decide))
  have hb8:=pword_no (show x≠[109,97,120] by first|exact HX.out|(rw[HX.out];decide))
  have hb9:=pword_yes (show x=[101,108,115,101] by first|exact HX.out|(rw[HX.out];decide))
  have hk1:(hdT ts).2.1≠[]:=by rw[hk1,HX.out];decide
  have hpc:piecesP (exprT d) [.ar,.ar] 40 (.mk 9 0 [] []) ts.tail=callT (exprT d) 9 ts.tail:=call_pieces d 9 (by decide) ts.tail (tail_okP HF.out.oks)
  have hex:exprT (d+1) false ts=callT (exprT d) 9 ts.tail:=exprT_call hk (by decide) (by decide) (by decide)
  have HEx:=yH hex
  have HT:=yH (HTl.out (.inr hk1))
  cases hr:callT (exprT d) 9 ts.tail with
  |error e0=>
   rw[hr] at hpc
   have HRs:=yH (show exprT (d+1) false ts= .error e0 by rw[HEx.out,hr])
   have HC:=yH (fun(W:World)(q:Nat)(hs:StP V W g ts.tail a)(hq:Bk W q 123 #[.func (.func 90) #[.pointer (some ⟨g,0,none⟩)] #[],.func (.func 90) #[.pointer (some ⟨g,0,none⟩)] #[]])=>call_res E had 9 ⟨by decide,by decide⟩ [.ar,.ar] (by decide) hpc 2 2 rfl #[.func (.func 90) #[.pointer (some ⟨g,0,none⟩)] #[],.func (.func 90) #[.pointer (some ⟨g,0,none⟩)] #[]] rfl W q hs hq)
   clear hpc hr hex hk hk1 ht HX
   go_enter Tryz.func76,Tryz.ntmps76
   go_wp2_with (first
    |(go_at_call 87;(with_reducible refine HBg.out.mono ?_);rintro e w2 ⟨rfl,s2,g2⟩;have S2:=yH (s2 HT.out);have G2:=yH g2;have hz2:=g2.size;simp only[World.size_alloc] at hz2;have HZ2:=yH (HZ.out.grown g2 (fun e=>by injection e;omega));clear s2 g2)
    |(go_at_call 88;have RT:=(S2.out.V.1.self.alloc (.cells #[.int .i64 k',.string (B x),.int .i64 n',.int .i64 p] 87)).alloc (.cells #[.func (.func 90) #[.pointer (some ⟨g,0,none⟩)] #[],.func (.func 90) #[.pointer (some ⟨g,0,none⟩)] #[]] 123);have HBq:=Bk.new (w2.alloc (.cells #[.int .i64 k',.string (B x),.int .i64 n',.int .i64 p] 87)) 123 #[.func (.func 90) #[.pointer (some ⟨g,0,none⟩)] #[],.func (.func 90) #[.pointer (some ⟨g,0,none⟩)] #[]];rw[World.size_alloc] at HBq;(with_reducible refine(HC.out _ _ (S2.out.rel RT) HBq).mono ?_);rintro e w3 h3;have HRT:=yH RT;obtain⟨rfl,g3⟩:=ExPost.at_no h3 rfl;clear h3 RT HBq))
   exact⟨rfl,ExPost.no HRs.out rfl (grown_trans (grown_trans HA0.out G2.out) (grown_trans (grown_rel (some g) HRT.out) g3))⟩
  |ok qq=>
   obtain⟨y,r⟩:=qq
   rw[hr] at hpc
   have HRs:=yH (show exprT (d+1) false ts= .ok (y,r) by rw[HEx.out,hr])
   have HC:=yH (fun(W:World)(q:Nat)(hs:StP V W g ts.tail a)(hq:Bk W q 123 #[.func (.func 90) #[.pointer (some ⟨g,0,none⟩)] #[],.func (.func 90) #[.pointer (some ⟨g,0,none⟩)] #[]])=>call_res E had 9 ⟨by decide,by decide⟩ [.ar,.ar] (by decide) hpc 2 2 rfl #[.func (.func 90) #[.pointer (some ⟨g,0,none⟩)] #[],.func (.func 90) #[.pointer (some ⟨g,0,none⟩)] #[]] rfl W q hs hq)
   clear hpc hr hex hk hk1 ht HX
   go_enter Tryz.func76,Tryz.ntmps76
   go_wp2_with (first
    |(go_at_call 87;(with_reducible refine HBg.out.mono ?_);rintro e w2 ⟨rfl,s2,g2⟩;have S2:=yH (s2 HT.out);have G2:=yH g2;have hz2:=g2.size;simp only[World.size_alloc] at hz2;have HZ2:=yH (HZ.out.grown g2 (fun e=>by injection e;omega));clear s2 g2)
    |(go_at_call 88;have RT:=(S2.out.V.1.self.alloc (.cells #[.int .i64 k',.string (B x),.int .i64 n',.int .i64 p] 87)).alloc (.cells #[.func (.func 90) #[.pointer (some ⟨g,0,none⟩)] #[],.func (.func 90) #[.pointer (some ⟨g,0,none⟩)] #[]] 123);have HBq:=Bk.new (w2.alloc (.cells #[.int .i64 k',.string (B x),.int .i64 n',.int .i64 p] 87)) 123 #[.func (.func 90) #[.pointer (some ⟨g,0,none⟩)] #[],.func (.func 90) #[.pointer (some ⟨g,0,none⟩)] #[]];rw[World.size_alloc] at HBq;(with_reducible refine(HC.out _ _ (S2.out.rel RT) HBq).mono ?_);rintro e w3 h3;have HRT:=yH RT;obtain⟨v,rfl,ex,s3,g3⟩:=ExPost.at_yes h3 rfl;have hz3:=g3.size;simp only[World.size_alloc] at hz3;have HZ3:=yH ((HZ2.out.rel HRT.out).grown g3 (fun e=>by injection e;omega));obtain⟨⟨b0,b1,b2,b3⟩,u0,u1,u2,u3⟩:=HZ3.out.four;have HEx3:=yH (And.intro ex (And.intro s3 g3));clear ex s3 g3 h3 RT HBq))
   obtain⟨e1,e2,e3,e4⟩:=expr_end hgl HVw.out (W0:=w2.heap.size+1+1) (by omega) (grown_trans (grown_trans HA0.out G2.out) (grown_trans (grown_rel (some g) HRT.out) HEx3.out.2.2)) HZ3.out (by simpa using HEx3.out.1) HEx3.out.2.1 _ rfl
   obtain⟨⟨y0,y1,y2,y3⟩,_⟩:=e1.four
   exact bodyPost_ret (v:=EV v) (by simp[results,Tryz.results76,go_sem,y0,y1,y2,y3]) rfl (ExPost.yes HRs.out ⟨_,rfl,e2,e3,e4⟩)
 ·have HX:=yH (show x=[105,102] from(kind_some HOk.out false (k:=10) (by rw[←ht];exact hk) (by decide) (fun e=>absurd (show k'=3 from e) h3)).1)
  have hb1:=pword_no (show x≠[108,111,119,101,115,116] by first|exact HX.out|(rw[HX.out];decide))
  have hb2:=pword_no (show x≠[115,101,99,111,110,100] by first|exact HX.out|(rw[HX.out];decide))
  have hb3:=pword_no (show x≠[102,114,111,109] by first|exact HX.out|(rw[HX.out];decide))
  have hb5:=pword_no (show x≠[108,101,115,115] by first|exact HX.out|(rw[HX.out];decide))
  have hb6:=pword_no (show x≠[99,117,116] by first|exact HX.out|(rw[HX.out];decide))
  have hb7:=pword_no (show x≠[109,105,110] by first|exact HX.out|(rw[HX.out];decide))
  have hb8:=pword_no (show x≠[109,97,120] by first|exact HX.out|(rw[HX.out];decide))
  have hb9:=pword_no (show x≠[101,108,115,101] by first|exact HX.out|(rw[HX.out];decide))
  have hb10:=pword_yes (show x=[105,102] by first|exact HX.out|(rw[HX.out];decide))
  have hk1:(hdT ts).2.1≠[]:=by rw[hk1,HX.out];decide
  have hpc:piecesP (exprT d) [.wh,.ar,.ar] 40 (.mk 10 0 [] []) ts.tail=callT (exprT d) 10 ts.tail:=call_pieces d 10 (by decide) ts.tail (tail_okP HF.out.oks)
  have hex:exprT (d+1) false ts=callT (exprT d) 10 ts.tail:=exprT_call hk (by decide) (by decide) (by decide)
  have HEx:=yH hex
  have HT:=yH (HTl.out (.inr hk1))
  cases hr:callT (exprT d) 10 ts.tail with
  |error e0=>
   rw[hr] at hpc
   have HRs:=yH (show exprT (d+1) false ts= .error e0 by rw[HEx.out,hr])
   have HC:=yH (fun(W:World)(q:Nat)(hs:StP V W g ts.tail a)(hq:Bk W q 123 #[.func (.func 93) #[.pointer (some ⟨g,0,none⟩)] #[],.func (.func 90) #[.pointer (some ⟨g,0,none⟩)] #[],.func (.func 90) #[.pointer (some ⟨g,0,none⟩)] #[]])=>call_res E had 10 ⟨by decide,by decide⟩ [.wh,.ar,.ar] (by decide) hpc 3 3 rfl #[.func (.func 93) #[.pointer (some ⟨g,0,none⟩)] #[],.func (.func 90) #[.pointer (some ⟨g,0,none⟩)] #[],.func (.func 90) #[.pointer (some ⟨g,0,none⟩)] #[]] rfl W q hs hq)
   clear hpc hr hex hk hk1 ht HX
   go_enter Tryz.func76,Tryz.ntmps76
   go_wp2_with (first
    |(go_at_call 87;(with_reducible refine HBg.out.mono ?_);rintro e w2 ⟨rfl,s2,g2⟩;have S2:=yH (s2 HT.out);have G2:=yH g2;have hz2:=g2.size;simp only[World.size_alloc] at hz2;have HZ2:=yH (HZ.out.grown g2 (fun e=>by injection e;omega));clear s2 g2)
    |(go_at_call 88;have RT:=(S2.out.V.1.self.alloc (.cells #[.int .i64 k',.string (B x),.int .i64 n',.int .i64 p] 87)).alloc (.cells #[.func (.func 93) #[.pointer (some ⟨g,0,none⟩)] #[],.func (.func 90) #[.pointer (some ⟨g,0,none⟩)] #[],.func (.func 90) #[.pointer (some ⟨g,0,none⟩)] #[]] 123);have HBq:=Bk.new (w2.alloc (.cells #[.int .i64 k',.string (B x),.int .i64 n',.int .i64 p] 87)) 123 #[.func (.func 93) #[.pointer (some ⟨g,0,none⟩)] #[],.func (.func 90) #[.pointer (some ⟨g,0,none⟩)] #[],.func (.func 90) #[.pointer (some ⟨g,0,none⟩)] #[]];rw[World.size_alloc] at HBq;(with_reducible refine(HC.out _ _ (S2.out.rel RT) HBq).mono ?_);rintro e w3 h3;have HRT:=yH RT;obtain⟨rfl,g3⟩:=ExPost.at_no h3 rfl;clear h3 RT HBq))
   exact⟨rfl,ExPost.no HRs.out rfl (grown_trans (grown_trans HA0.out G2.out) (grown_trans (grown_rel (some g) HRT.out) g3))⟩
  |ok qq=>
   obtain⟨y,r⟩:=qq
   rw[hr] at hpc
   have HRs:=yH (show exprT (d+1) false ts= .ok (y,r) by rw[HEx.out,hr])
   have HC:=yH (fun(W:World)(q:Nat)(hs:StP V W g ts.tail a)(hq:Bk W q 123 #[.func (.func 93) #[.pointer (some ⟨g,0,none⟩)] #[],.func (.func 90) #[.pointer (some ⟨g,0,none⟩)] #[],.func (.func 90) #[.pointer (some ⟨g,0,none⟩)] #[]])=>call_res E had 10 ⟨by decide,by decide⟩ [.wh,.ar,.ar] (by decide) hpc 3 3 rfl #[.func (.func 93) #[.pointer (some ⟨g,0,none⟩)] #[],.func (.func 90) #[.pointer (some ⟨g,0,none⟩)] #[],.func (.func 90) #[.pointer (some ⟨g,0,none⟩)] #[]] rfl W q hs hq)
   clear hpc hr hex hk hk1 ht HX
   go_enter Tryz.func76,Tryz.ntmps76
   go_wp2_with (first
    |(go_at_call 87;(with_reducible refine HBg.out.mono ?_);rintro e w2 ⟨rfl,s2,g2⟩;have S2:=yH (s2 HT.out);have G2:=yH g2;have hz2:=g2.size;simp only[World.size_alloc] at hz2;have HZ2:=yH (HZ.out.grown g2 (fun e=>by injection e;omega));clear s2 g2)
    |(go_at_call 88;have RT:=(S2.out.V.1.self.alloc (.cells #[.int .i64 k',.string (B x),.int .i64 n',.int .i64 p] 87)).alloc (.cells #[.func (.func 93) #[.pointer (some ⟨g,0,none⟩)] #[],.func (.func 90) #[.pointer (some ⟨g,0,none⟩)] #[],.func (.func 90) #[.pointer (some ⟨g,0,none⟩)] #[]] 123);have HBq:=Bk.new (w2.alloc (.cells #[.int .i64 k',.string (B x),.int .i64 n',.int .i64 p] 87)) 123 #[.func (.func 93) #[.pointer (some ⟨g,0,none⟩)] #[],.func (.func 90) #[.pointer (some ⟨g,0,none⟩)] #[],.func (.func 90) #[.pointer (some ⟨g,0,none⟩)] #[]];rw[World.size_alloc] at HBq;(with_reducible refine(HC.out _ _ (S2.out.rel RT) HBq).mono ?_);rintro e w3 h3;have HRT:=yH RT;obtain⟨v,rfl,ex,s3,g3⟩:=ExPost.at_yes h3 rfl;have hz3:=g3.size;simp only[World.size_alloc] at hz3;have HZ3:=yH ((HZ2.out.rel HRT.out).grown g3 (fun e=>by injection e;omega));obtain⟨⟨b0,b1,b2,b3⟩,u0,u1,u2,u3⟩:=HZ3.out.four;have HEx3:=yH (And.intro ex (And.intro s3 g3));clear ex s3 g3 h3 RT HBq))
   obtain⟨e1,e2,e3,e4⟩:=expr_end hgl HVw.out (W0:=w2.heap.size+1+1) (by omega) (grown_trans (grown_trans HA0.out G2.out) (grown_trans (grown_rel (some g) HRT.out) HEx3.out.2.2)) HZ3.out (by simpa using HEx3.out.1) HEx3.out.2.1 _ rfl
   obtain⟨⟨y0,y1,y2,y3⟩,_⟩:=e1.four
   exact bodyPost_ret (v:=EV v) (by simp[results,Tryz.results76,go_sem,y0,y1,y2,y3]) rfl (ExPost.yes HRs.out ⟨_,rfl,e2,e3,e4⟩)
theorem pcatch_panicking(px pe pa:Nat)(c p:Int)(w:World)(o:List PanicEntry){x0 x1 x2 x3 e0 a0:Value}(hx:Bk w px 54 #[x0,x1,x2,x3])(he:Bk w pe 49 #[e0])(ha:Bk w pa 3 #[a0])(h1:px≠pe)(h2:px≠pa)(h3:pe≠pa):
  CallsD Tryz.prog 75 #[.pointer (some ⟨px,0,none⟩),.pointer (some ⟨pe,0,none⟩),.pointer (some ⟨pa,0,none⟩)] (.panicking ({v:= .iface 102 (.agg #[.int .i64 c,.int .i64 p]),recovered:=false}::o)) w fun e u' w'=>
   e= .returned (.tuple #[])∧u'= .panicking ({v:= .iface 102 (.agg #[.int .i64 c,.int .i64 p]),recovered:=true}::o)∧
    Bk w' px 54 #[.int .i64 0,.int .i64 0,.string ⟨#[]⟩,.slice none 0 0]∧Bk w' pe 49 #[.int .i64 c]∧Bk w' pa 3 #[.int .i64 p]∧w.heap.size≤w'.heap.size∧(w'.os=w.os∧w'.tape=w.tape∧w'.output=w.output)∧∀q,q<w.heap.size→q≠px→q≠pe→q≠pa→w'.heap[q]?=w.heap[q]?:=by
 refine callsD_of_wpS Tryz.func75 rfl fun c₀ cs hu=> ?_
 have hta:∀w:World,(Instr.typeAssert (.iface 102 (.agg #[.int .i64 c,.int .i64 p])) 20 102 true).run Tryz.prog w= .ok (.tuple #[.agg #[.int .i64 c,.int .i64 p],.bool true]) w:=fun _=>by rfl
 change Code.wpS _ _ _ {tmps:= #[.pointer (some ⟨px,0,none⟩),.pointer (some ⟨pe,0,none⟩),.pointer (some ⟨pa,0,none⟩),undef,undef,undef,undef,undef,undef,undef,undef,undef,undef,undef,undef,undef],defers:=[]} _ _
 apply wpS_seq
 apply wpS_region
 simp[wpOpsS,go_sem,recoverD,hu,Exit.thenS,hta]
 apply wpS_seq
 apply wpS_region
 simp[wpOpsS,go_sem,Exit.thenS]
 refine wpS_cond (t:=true) (by simp[Act.eval]) ?_
 simp only[if_true]
 refine wpS_of_wp ?_
 have HB:=yH (Bk.new w 102 #[.int .i64 c,.int .i64 p])
 have hxl:=hx.lt
 have hel:=he.lt
 have hal:=ha.lt
 obtain⟨W,hW⟩:∃W,w.alloc (.cells #[.int .i64 c,.int .i64 p] 102)=W:=⟨_,rfl⟩
 have HW:=yH hW
 have HX:=yH (hx.alloc (.cells #[.int .i64 c,.int .i64 p] 102))
 have HE:=yH (he.alloc (.cells #[.int .i64 c,.int .i64 p] 102))
 have HA:=yH (ha.alloc (.cells #[.int .i64 c,.int .i64 p] 102))
 rw[hW] at HB HX HE HA⊢
 clear hW hx he ha
 have n1:px≠w.heap.size:=by omega
 have n2:pe≠w.heap.size:=by omega
 have n3:pa≠w.heap.size:=by omega
 refine wp_region_held_drew (S:=fun w'=>w'.cell? ⟨w.heap.size,0,none⟩=some (.int .i64 c)∧w'.cell? ⟨w.heap.size,1,none⟩=some (.int .i64 p)) (by kernel_rfl) ⟨HB.out.drew.two.1.1,HB.out.drew.two.1.2⟩ (fun hH=> ?_)
 refine yL [0,1,3,2,4] (by kernel_rfl) hH (fun _ _ _ _ _=>id) ?_
 iterate 5
  refine yS rfl rfl (by rfl) ?_ ?_ ?_
  rotate_left
  ·rintro w' ⟨s0,s1⟩;go_simp;try with_reducible rfl
  try simp only[Act.put,yA,yB,yC]
 refine yZ ?_
 have HX0:=yH HX.out
 obtain⟨⟨b0,b1,b2,b3⟩,u0,u1,u2,u3⟩:=HX.out.four
 have HB5:=yH (((((HB.out.far (p:=⟨px,0,none⟩) (Ne.symm n1) (.int .i64 0)).far (p:=⟨px,1,none⟩) (Ne.symm n1) (.int .i64 0)).far (p:=⟨px,2,none⟩) (Ne.symm n1) (.string ⟨#[]⟩)).far (p:=⟨px,3,none⟩) (Ne.symm n1) (.slice none 0 0)))
 have HX5:=yH (HX0.out.put4 (.int .i64 0) (.int .i64 0) (.string ⟨#[]⟩) (.slice none 0 0))
 have gp5:=put4_grown W px (.int .i64 0) (.int .i64 0) (.string ⟨#[]⟩) (.slice none 0 0)
 refine held_one (j:=5) (by kernel_rfl) rfl (fun K hK=> ?_)
 try simp only[yD,yE,yF]
 go_simp
 refine hK.out _ _ ⟨HB5.out.drew.two.1.1,HB5.out.drew.two.1.2⟩ (fun hH=> ?_)
 clear hK K
 try simp only[Act.put,yA,yB,yC]
 obtain⟨W5,hW5⟩:∃W',(((W.setCell ⟨px,0,none⟩ (.int .i64 0)).setCell ⟨px,1,none⟩ (.int .i64 0)).setCell ⟨px,2,none⟩ (.string ⟨#[]⟩)).setCell ⟨px,3,none⟩ (.slice none 0 0)=W':=⟨_,rfl⟩
 rw[hW5] at HB5 HX5 gp5 hH⊢
 have HW5:=yH hW5
 clear hW5 b0 b1 b2 b3 u0 u1 u2 u3
 have HE5:=yH (HE.out.grown gp5 (fun e=>by injection e;omega))
 have HA5:=yH (HA.out.grown gp5 (fun e=>by injection e;omega))
 have c5:=HE5.out.cell 0
 have f5:=HE5.out.frozen 0
 simp only[List.getElem?_toArray,List.getElem?_cons_zero] at c5
 refine held_one (j:=6) (by kernel_rfl) rfl (fun K hK=> ?_)
 try simp only[yD,yE,yF]
 go_simp
 refine hK.out _ _ ⟨((HB5.out.far (p:=⟨pe,0,none⟩) (Ne.symm n2) (.int .i64 c)).drew.two).1.1,((HB5.out.far (p:=⟨pe,0,none⟩) (Ne.symm n2) (.int .i64 c)).drew.two).1.2⟩ (fun hH=> ?_)
 clear hK K
 try simp only[Act.put,yA,yB,yC]
 have gp6:=set_grown W5 pe 0 (.int .i64 c)
 have HA6:=yH (HA5.out.grown gp6 (fun e=>by injection e;omega))
 have c6:=HA6.out.cell 0
 have f6:=HA6.out.frozen 0
 simp only[List.getElem?_toArray,List.getElem?_cons_zero] at c6
 refine held_one (j:=7) (by kernel_rfl) rfl (fun K hK=> ?_)
 try simp only[yD,yE,yF]
 go_simp
 refine hK.out _ _ ⟨(((HB5.out.far (p:=⟨pe,0,none⟩) (Ne.symm n2) (.int .i64 c)).far (p:=⟨pa,0,none⟩) (Ne.symm n3) (.int .i64 p)).drew.two).1.1,(((HB5.out.far (p:=⟨pe,0,none⟩) (Ne.symm n2) (.int .i64 c)).far (p:=⟨pa,0,none⟩) (Ne.symm n3) (.int .i64 p)).drew.two).1.2⟩ (fun hH=> ?_)
 clear hK K
 try simp only[Act.put,yA,yB,yC]
 refine wpAnyH_done (by kernel_rfl) ?_ _
 have gp7:=set_grown (W5.setCell ⟨pe,0,none⟩ (.int .i64 c)) pa 0 (.int .i64 p)
 refine⟨rfl,_,rfl,_,by simp[results,Tryz.results75],rfl,rfl, ?_, ?_, ?_, ?_, ?_, ?_⟩
 ·exact((HX5.out.far (p:=⟨pe,0,none⟩) (by simpa using h1) (.int .i64 c)).far (p:=⟨pa,0,none⟩) (by simpa using h2) (.int .i64 p)).drew
 ·exact((HE5.out.set_ 0 (.int .i64 c)).far (p:=⟨pa,0,none⟩) (by simpa using h3) (.int .i64 p)).drew
 ·exact(HA6.out.set_ 0 (.int .i64 p)).drew
 ·have q5:=gp5.size
  have q6:=gp6.size
  have q7:=gp7.size
  have q8:W.heap.size=w.heap.size+1:=by rw[←HW.out];exact World.size_alloc ..
  exact Nat.le_trans (by omega) (show((W5.setCell ⟨pe,0,none⟩ (.int .i64 c)).setCell ⟨pa,0,none⟩ (.int .i64 p)).heap.size≤_ from Nat.le_refl _)
 ·have e0:W.os=w.os∧W.output=w.output:=by rw[←HW.out];exact⟨rfl,rfl⟩
  refine⟨?_, ?_, ?_⟩
  ·exact gp7.os.trans (gp6.os.trans (gp5.os.trans e0.1))
  ·exact gp7.tape.trans (gp6.tape.trans (gp5.tape.trans (by rw[←HW.out];rfl)))
  ·exact gp7.output.trans (gp6.output.trans (gp5.output.trans e0.2))
 ·intro q hq a1 a2 a3
  have q8:W.heap.size=w.heap.size+1:=by rw[←HW.out];exact World.size_alloc ..
  have q5:=gp5.size
  have q6:=gp6.size
  refine Eq.trans (show _=((W5.setCell ⟨pe,0,none⟩ (.int .i64 c)).setCell ⟨pa,0,none⟩ (.int .i64 p)).heap[q]? from rfl) ?_
  refine(gp7.block q (by omega) (fun e=>by injection e;omega)).trans ((gp6.block q (by omega) (fun e=>by injection e;omega)).trans ((gp5.block q (by omega) (fun e=>by injection e;omega)).trans ?_))
  rw[←HW.out]
  exact Below.heap_alloc w _ q hq
theorem pcatch_idle(px pe pa:Nat)(w:World):
  CallsD Tryz.prog 75 #[.pointer (some ⟨px,0,none⟩),.pointer (some ⟨pe,0,none⟩),.pointer (some ⟨pa,0,none⟩)] .returning w fun e u' w'=>e= .returned (.tuple #[])∧u'= .returning∧w'=w.alloc (.cells #[.int .i64 0,.int .i64 0] 102):=by
 refine callsD_of_wpS Tryz.func75 rfl fun c₀ cs hu=> ?_
 have hta:∀w:World,(Instr.typeAssert .nilIface 20 102 true).run Tryz.prog w= .ok (.tuple #[.agg #[.int .i64 0,.int .i64 0],.bool false]) w:=fun _=>by rfl
 change Code.wpS _ _ _ {tmps:= #[.pointer (some ⟨px,0,none⟩),.pointer (some ⟨pe,0,none⟩),.pointer (some ⟨pa,0,none⟩),undef,undef,undef,undef,undef,undef,undef,undef,undef,undef,undef,undef,undef],defers:=[]} _ _
 apply wpS_seq
 apply wpS_region
 simp[wpOpsS,go_sem,recoverD,hu,Exit.thenS,hta]
 apply wpS_seq
 apply wpS_region
 simp[wpOpsS,go_sem,Exit.thenS]
 refine wpS_cond (t:=false) (by simp[Act.eval]) ?_
 simp only[Bool.false_eq_true,if_false]
 refine wpS_of_wp (wp_skip ?_)
 cases c₀
 simp_all [bodyPostS,results,Tryz.results75]
end Go.Proofs.YtjhjdiaomnpkmaaGreatDoor
