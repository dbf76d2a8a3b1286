/- Reading the document's own parse. -/

import Derived.Test.YtjhjdiaomnpkmaaGreatDoorZ05
import Derived.Test.YtjhjdiaomnpkmaaGreatDoorZ33
import Derived.Test.YtjhjdiaomnpkmaaGreatDoorZ34
set_option maxRecDepth 100000
set_option maxHeartbeats 8000000
set_option linter.unusedVariables false
set_option linter.unusedSimpArgs false
namespace Go.Proofs.YtjhjdiaomnpkmaaGreatDoor
open Go.RowKit Go.Lib
theorem StR.err{V:World}{A:Option Addr}{c:Nat}{all:List Tok}{w:World}{g:Nat}{s:PS}(h:StR V A c all w g s):w.cell? ⟨g,2,none⟩=some (.int .i64 s.2):=by
 obtain⟨j,h1,h2,h3,h4,h5,h6,h7⟩:=h;exact h5.three.1.2.2
theorem Rel.right{w w':World}(h:Rel w w'):Rel w' w':=(Rel.self h)
def ExprS(V:World)(A:Option Addr)(c:Nat)(all:List Tok)(d:Nat):Prop:=∀(cb:Bool)(s:PS)(g:Nat)(w:World),StR V A c all w g s→
 Calls Tryz.prog 63 #[.pointer (some ⟨g,0,none⟩),.int .i64 (32-(d:Int)),.bool cb] w fun e w'=>∃v:El,e= .returned (EV v)∧ExAt (fun k=>w.heap.size≤k) w' v (exprR d cb s).1∧StR V A c all w' g (exprR d cb s).2∧w.grownBy w' (some g)
theorem wrongR_81(ts:List Tok)(e:Int):∃e3,wrongR 81 (ts,e)=(ts,e3)∧(e3==0)=false:=by
 unfold wrongR
 by_cases h:e=0
 ·exact⟨81,by rw[if_pos h],rfl⟩
 ·exact⟨e,by rw[if_neg h],by simpa using h⟩
theorem rexpr_zero(V:World)(A:Option Addr)(c:Nat)(all:List Tok):ExprS V A c all 0:=fun cb s g w h=>by
 obtain⟨ts,e⟩:=s
 have HS:=yH h
 have hgl:=h.lt
 have hVw:V.heap.size≤w.heap.size:=by obtain⟨_,a,_⟩:=h;exact a.size
 have hA:Rel w (w.alloc (.cells #[.int .i64 0,.int .i64 0,.string ⟨#[]⟩,.slice none 0 0] 54)):=by obtain⟨_,a,_⟩:=h;exact a.self.alloc _
 have HN:=yH (Bk.new w 54 #[.int .i64 0,.int .i64 0,.string ⟨#[]⟩,.slice none 0 0])
 have HS1:=yH (h.rel hA)
 have HG1:=yH (grown_rel (some g) hA)
 obtain⟨k0,hk0⟩:∃k0,kindT cb (hdT ts)=k0:=⟨_,rfl⟩
 have HKi:Hid (∀(w':World)(s':PS),s'.1=ts→StR V A c all w' g s'→Calls Tryz.prog 73 #[.pointer (some ⟨g,0,none⟩),.bool cb] w' fun e w''=>e= .returned (.int .i64 k0)∧Rel w' w''):=yH (fun w' s' h1 h2=>by
  have:=rkind_any V A c all g s' cb w' h2
  rw[h1,hk0] at this
  exact this)
 obtain⟨e1,hw81,he1⟩:=wrongR_81 ts e
 have HW81:=yH hw81
 have HW80:=yH (show wrongR 80 (ts,e1)=(ts,e1) from wrongR_bad (by simpa using he1))
 have HF:=yH (show exprR 0 cb (ts,e)=(zE,(ts,e1)) by unfold exprR;rw[hw81])
 have hd0:(32-((0:Nat):Int))=32:=rfl
 rw[hd0]
 clear hk0 hw81 h hA
 by_cases hk:k0=0
 ·subst hk
  go_enter Tryz.func63,Tryz.ntmps63
  go_wp2_with (first
   |(go_at_call 72;(with_reducible refine(rwrong_any V A c all g (ts,e) 81 _ HS1.out).mono ?_);rintro e' w2 ⟨rfl,s2,g2,z2⟩;rw[HW81.out] at s2;have S1:=yH s2;have N1:=yH (HN.out.grown g2 (fun e=>by injection e;omega));have G1:=yH (grown_trans HG1.out g2))
   |(go_at_call 73;(with_reducible refine(HKi.out _ _ rfl S1.out).mono ?_);rintro e w3 ⟨rfl,h3⟩;have hz3:=h3.size;have h4:=h3.trans ((Rel.right h3).alloc (.cells #[.int .i64 0,.int .i64 0,.string ⟨#[]⟩,.slice none 0 0] 54));have HNW:=yH (N1.out.rel h4);have HSW:=yH (S1.out.rel h4);have HGW:=yH (grown_trans G1.out (grown_rel (some g) h4));have e2:=HSW.out.err;obtain⟨⟨r0,r1,r2,r3⟩,q0,q1,q2,q3⟩:=HNW.out.four)
   |(go_at_call 72;(with_reducible refine(rwrong_any V A c all g (ts,e1) 80 _ HSW.out).mono ?_);rintro e w4 ⟨rfl,s4,g4,z4⟩;rw[HW80.out] at s4;have e4:=s4.err;have HS4:=yH s4;have HN4:=yH (HNW.out.grown g4 (fun e=>by injection e;omega));have HG4:=yH (grown_trans HGW.out g4);obtain⟨⟨p0,p1,p2,p3⟩,v0,v1,v2,v3⟩:=HN4.out.four))
  obtain⟨⟨y0,y1,y2,y3⟩,_⟩:=(HN4.out.put4 (.int .i64 0) (.int .i64 0) (.string ⟨#[]⟩) (.slice none 0 0)).four
  have gp:=put4_grown w4 w.heap.size (.int .i64 0) (.int .i64 0) (.string ⟨#[]⟩) (.slice none 0 0)
  refine bodyPost_ret (v:=EV (0,0,[],none,0,0)) (by simp[results,Tryz.results63,go_sem,y0,y1,y2,y3];rfl) rfl ⟨_,rfl, ?_, ?_, ?_⟩
  ·rw[HF.out];exact ExAt.leaf _ _ 0 0 [] none 0 ⟨by decide,by decide⟩ ⟨by decide,by decide⟩ (by simp)
  ·rw[HF.out];exact HS4.out.grown gp (fun e=>by injection e;omega) (fun k e=>by cases e;exact hVw)
  ·exact grown_of HG4.out gp (fun k e=>by cases e;exact Nat.le_refl _)
 ·have hk':(k0==0)=false:=by simpa using hk
  go_enter Tryz.func63,Tryz.ntmps63
  go_wp2_with (first
   |(go_at_call 72;(with_reducible refine(rwrong_any V A c all g (ts,e) 81 _ HS1.out).mono ?_);rintro e' w2 ⟨rfl,s2,g2,z2⟩;rw[HW81.out] at s2;have S1:=yH s2;have N1:=yH (HN.out.grown g2 (fun e=>by injection e;omega));have G1:=yH (grown_trans HG1.out g2))
   |(go_at_call 73;(with_reducible refine(HKi.out _ _ rfl S1.out).mono ?_);rintro e w3 ⟨rfl,h3⟩;have hz3:=h3.size;have h4:=h3.trans ((Rel.right h3).alloc (.cells #[.int .i64 k0,.int .i64 0,.string ⟨#[]⟩,.slice none 0 0] 54));have HNW:=yH (N1.out.rel h4);have HSW:=yH (S1.out.rel h4);have HGW:=yH (grown_trans G1.out (grown_rel (some g) h4));have e2:=HSW.out.err;obtain⟨⟨r0,r1,r2,r3⟩,q0,q1,q2,q3⟩:=HNW.out.four))
  obtain⟨⟨y0,y1,y2,y3⟩,_⟩:=(HNW.out.put4 (.int .i64 0) (.int .i64 0) (.string ⟨#[]⟩) (.slice none 0 0)).four
  have gp:=put4_grown (w3.alloc (.cells #[.int .i64 k0,.int .i64 0,.string ⟨#[]⟩,.slice none 0 0] 54)) w.heap.size (.int .i64 0) (.int .i64 0) (.string ⟨#[]⟩) (.slice none 0 0)
  refine bodyPost_ret (v:=EV (0,0,[],none,0,0)) (by simp[results,Tryz.results63,go_sem,y0,y1,y2,y3];rfl) rfl ⟨_,rfl, ?_, ?_, ?_⟩
  ·rw[HF.out];exact ExAt.leaf _ _ 0 0 [] none 0 ⟨by decide,by decide⟩ ⟨by decide,by decide⟩ (by simp)
  ·rw[HF.out];exact HSW.out.grown gp (fun e=>by injection e;omega) (fun k e=>by cases e;exact hVw)
  ·exact grown_of HGW.out gp (fun k e=>by cases e;exact Nat.le_refl _)
theorem rexpr_stop(V:World)(A:Option Addr)(c:Nat)(all:List Tok)(d:Nat)(hd:d+1≤32)(cb:Bool)(s:PS)(g:Nat)(w:World)(h:StR V A c all w g s)(hs:s.2≠0∨kindT cb (hdT s.1)=0):
  Calls Tryz.prog 63 #[.pointer (some ⟨g,0,none⟩),.int .i64 (32-((d+1:Nat):Int)),.bool cb] w fun e w'=>∃v:El,e= .returned (EV v)∧ExAt (fun k=>w.heap.size≤k) w' v (exprR (d+1) cb s).1∧StR V A c all w' g (exprR (d+1) cb s).2∧w.grownBy w' (some g):=by
 obtain⟨ts,e1⟩:=s
 have HS:=yH h
 have hgl:=h.lt
 have hVw:V.heap.size≤w.heap.size:=by obtain⟨_,a,_⟩:=h;exact a.size
 have hA:Rel w (w.alloc (.cells #[.int .i64 0,.int .i64 0,.string ⟨#[]⟩,.slice none 0 0] 54)):=by obtain⟨_,a,_⟩:=h;exact a.self.alloc _
 have HN:=yH (Bk.new w 54 #[.int .i64 0,.int .i64 0,.string ⟨#[]⟩,.slice none 0 0])
 have HS1:=yH (h.rel hA)
 have HG1:=yH (grown_rel (some g) hA)
 obtain⟨k0,hk0⟩:∃k0,kindT cb (hdT ts)=k0:=⟨_,rfl⟩
 have HKi:Hid (∀(w':World)(s':PS),s'.1=ts→StR V A c all w' g s'→Calls Tryz.prog 73 #[.pointer (some ⟨g,0,none⟩),.bool cb] w' fun e w''=>e= .returned (.int .i64 k0)∧Rel w' w''):=yH (fun w' s' h1 h2=>by
  have:=rkind_any V A c all g s' cb w' h2
  rw[h1,hk0] at this
  exact this)
 obtain⟨e2,hw80,he2⟩:=wrongR_80 ts e1
 have HW80:=yH hw80
 obtain⟨D,hD⟩:∃D:Int,32-((d+1:Nat):Int)=D:=⟨_,rfl⟩
 have hD': ¬(32≤D):=by omega
 have HF:=yH (show exprR (d+1) cb (ts,e1)=(zE,(ts,e2)) by
  unfold exprR
  unfold wrongR at hw80
  by_cases he:e1=0
  ·rw[if_pos he] at hw80
   rw[if_neg (fun hh=>hh he)]
   simp only at hs⊢
   rw[if_pos (by rcases hs with h|h;exact absurd he h;exact h)]
   injection hw80 with a b;rw[b]
  ·rw[if_neg he] at hw80
   rw[if_pos he]
   injection hw80 with a b;rw[b])
 have S1:=HS1
 have N1:=HN
 have G1:=HG1
 rw[hD]
 by_cases hk:k0=0
 ·subst hk
  clear hk0 hw80 h hA hD hs
  go_enter Tryz.func63,Tryz.ntmps63
  go_wp2_with (first
   |(go_at_call 73;(with_reducible refine(HKi.out _ _ rfl S1.out).mono ?_);rintro e w3 ⟨rfl,h3⟩;have hz3:=h3.size;have h4:=h3.trans ((Rel.right h3).alloc (.cells #[.int .i64 0,.int .i64 0,.string ⟨#[]⟩,.slice none 0 0] 54));have HNW:=yH (N1.out.rel h4);have HSW:=yH (S1.out.rel h4);have HGW:=yH (grown_trans G1.out (grown_rel (some g) h4));have e2':=HSW.out.err;obtain⟨⟨r0,r1,r2,r3⟩,q0,q1,q2,q3⟩:=HNW.out.four)
   |(go_at_call 72;(with_reducible refine(rwrong_any V A c all g (ts,e1) 80 _ HSW.out).mono ?_);rintro e w4 ⟨rfl,s4,g4,z4⟩;rw[HW80.out] at s4;have e4:=s4.err;have HS4:=yH s4;have HN4:=yH (HNW.out.grown g4 (fun e=>by injection e;omega));have HG4:=yH (grown_trans HGW.out g4);obtain⟨⟨p0,p1,p2,p3⟩,v0,v1,v2,v3⟩:=HN4.out.four))
  obtain⟨⟨y0,y1,y2,y3⟩,_⟩:=(HN4.out.put4 (.int .i64 0) (.int .i64 0) (.string ⟨#[]⟩) (.slice none 0 0)).four
  have gp:=put4_grown w4 w.heap.size (.int .i64 0) (.int .i64 0) (.string ⟨#[]⟩) (.slice none 0 0)
  refine bodyPost_ret (v:=EV (0,0,[],none,0,0)) (by simp[results,Tryz.results63,go_sem,y0,y1,y2,y3];rfl) rfl ⟨_,rfl, ?_, ?_, ?_⟩
  ·rw[HF.out];exact ExAt.leaf _ _ 0 0 [] none 0 ⟨by decide,by decide⟩ ⟨by decide,by decide⟩ (by simp)
  ·rw[HF.out];exact HS4.out.grown gp (fun e=>by injection e;omega) (fun k e=>by cases e;exact hVw)
  ·exact grown_of HG4.out gp (fun k e=>by cases e;exact Nat.le_refl _)
 ·have hk':(k0==0)=false:=by simpa using hk
  have he1:e1≠0:=by
   rcases hs with h|h
   ·exact h
   ·simp only at h;rw[hk0] at h;exact absurd h hk
  obtain rfl:e2=e1:=by
   have:=hw80;unfold wrongR at this;rw[if_neg he1] at this;injection this with a b;exact b.symm
  clear hk0 hw80 h hA hD hs he1
  go_enter Tryz.func63,Tryz.ntmps63
  go_wp2_with (go_at_call 73;(with_reducible refine(HKi.out _ _ rfl S1.out).mono ?_);rintro e w3 ⟨rfl,h3⟩;have hz3:=h3.size;have h4:=h3.trans ((Rel.right h3).alloc (.cells #[.int .i64 k0,.int .i64 0,.string ⟨#[]⟩,.slice none 0 0] 54));have HNW:=yH (N1.out.rel h4);have HSW:=yH (S1.out.rel h4);have HGW:=yH (grown_trans G1.out (grown_rel (some g) h4));have e2':=HSW.out.err;obtain⟨⟨r0,r1,r2,r3⟩,q0,q1,q2,q3⟩:=HNW.out.four)
  obtain⟨⟨y0,y1,y2,y3⟩,_⟩:=(HNW.out.put4 (.int .i64 0) (.int .i64 0) (.string ⟨#[]⟩) (.slice none 0 0)).four
  have gp:=put4_grown (w3.alloc (.cells #[.int .i64 k0,.int .i64 0,.string ⟨#[]⟩,.slice none 0 0] 54)) w.heap.size (.int .i64 0) (.int .i64 0) (.string ⟨#[]⟩) (.slice none 0 0)
  refine bodyPost_ret (v:=EV (0,0,[],none,0,0)) (by simp[results,Tryz.results63,go_sem,y0,y1,y2,y3];rfl) rfl ⟨_,rfl, ?_, ?_, ?_⟩
  ·rw[HF.out];exact ExAt.leaf _ _ 0 0 [] none 0 ⟨by decide,by decide⟩ ⟨by decide,by decide⟩ (by simp)
  ·rw[HF.out];exact HSW.out.grown gp (fun e=>by injection e;omega) (fun k e=>by cases e;exact hVw)
  ·exact grown_of HGW.out gp (fun k e=>by cases e;exact Nat.le_refl _)
theorem StR.head{V:World}{A:Option Addr}{c:Nat}{all:List Tok}{w:World}{g:Nat}{s:PS}(h:StR V A c all w g s):i64 (hdT s.1).1∧i64 (hdT s.1).2.2.1∧(hdT s.1).2.1.length≤100∧((hdT s.1).1=1→(hdT s.1).2.1≠[]):=by
 obtain⟨j,h1,h2,h3,h4,h5,h6,h7⟩:=h
 rw[h6,hd_drop h7]
 exact h4.1 _ (List.getElem_mem h7)
theorem kind_amount{cb:Bool}{t:Tok}(h:kindT cb t=4)(hn:t.1=1→t.2.1≠[]):t.1=3:=by
 rcases(kind_tok (by rw[h];decide)).1 h with h3|h1
 ·exact h3
 ·unfold kindT at h
  rw[if_neg (fun hh=>by rw[h1] at hh;exact absurd hh.1 (by decide)),if_pos h1] at h
  exact absurd h (kindW_4 cb _ (hn h1))
theorem rexpr_money(V:World)(A:Option Addr)(c:Nat)(all:List Tok)(d:Nat)(hd:d+1≤32)(cb:Bool)(ts:List Tok)(g:Nat)(w:World)(h:StR V A c all w g (ts,0))(hs:kindT cb (hdT ts)=4):
  Calls Tryz.prog 63 #[.pointer (some ⟨g,0,none⟩),.int .i64 (32-((d+1:Nat):Int)),.bool cb] w fun e w'=>∃v:El,e= .returned (EV v)∧ExAt (fun k=>w.heap.size≤k) w' v (exprR (d+1) cb (ts,0)).1∧StR V A c all w' g (exprR (d+1) cb (ts,0)).2∧w.grownBy w' (some g):=by
 have HS:=yH h
 have hgl:=h.lt
 have hVw:V.heap.size≤w.heap.size:=by obtain⟨_,a,_⟩:=h;exact a.size
 have hA:Rel w (w.alloc (.cells #[.int .i64 0,.int .i64 0,.string ⟨#[]⟩,.slice none 0 0] 54)):=by obtain⟨_,a,_⟩:=h;exact a.self.alloc _
 have HN:=yH (Bk.new w 54 #[.int .i64 0,.int .i64 0,.string ⟨#[]⟩,.slice none 0 0])
 have HS1:=yH (h.rel hA)
 have HG1:=yH (grown_rel (some g) hA)
 obtain⟨k0,hk0⟩:∃k0,kindT cb (hdT ts)=k0:=⟨_,rfl⟩
 have HKi:Hid (∀(w':World)(s':PS),s'.1=ts→StR V A c all w' g s'→Calls Tryz.prog 73 #[.pointer (some ⟨g,0,none⟩),.bool cb] w' fun e w''=>e= .returned (.int .i64 k0)∧Rel w' w''):=yH (fun w' s' h1 h2=>by
  have:=rkind_any V A c all g s' cb w' h2
  rw[h1,hk0] at this
  exact this)
 have hzA:(w.alloc (.cells #[.int .i64 0,.int .i64 0,.string ⟨#[]⟩,.slice none 0 0] 54)).heap.size=w.heap.size+1:=World.size_alloc ..
 have hh:=h.head
 have h3:=kind_amount hs hh.2.2.2
 obtain⟨N,hN⟩:∃N,(hdT ts).2.2.1=N:=⟨_,rfl⟩
 have HNi:=yH (show i64 N by rw[←hN];exact hh.2.1)
 obtain⟨t,ht⟩:∃t,hdT ts=t:=⟨_,rfl⟩
 have HTk:=yH (show takeR 3 [] (ts,0)=((3,t.2.1,N,t.2.2.2),(ts.tail,0)) by rw[takeR_ok h3 (by decide),←ht,←hN,←h3])
 have HTc:Hid (∀w':World,StR V A c all w' g (ts,0)→Calls Tryz.prog 64 #[.pointer (some ⟨g,0,none⟩),.int .i64 3,.string ⟨#[]⟩] w' fun e w''=>e= .returned (.agg #[.int .i64 3,.string (B t.2.1),.int .i64 N,.int .i64 t.2.2.2])∧StR V A c all w'' g (ts.tail,0)∧w'.grownBy w'' (some g)):=yH (fun w' h'=>by
  have:=rtake_any V A c all g (ts,0) 3 [] ⟨#[]⟩ (yH rfl) w' h'
  rw[HTk.out] at this
  exact this)
 have HF:=yH (show exprR (d+1) cb (ts,0)=(.mk 4 N [] [],(ts.tail,0)) by
  unfold exprR
  rw[if_neg (fun hh=>hh rfl),if_neg (by rw[hs];decide),if_pos hs]
  exact congrArg (fun n=>(Ex.mk 4 n [] [],(ts.tail,(0:Int)))) hN)
 obtain⟨D,hD⟩:∃D:Int,32-((d+1:Nat):Int)=D:=⟨_,rfl⟩
 have hD': ¬(32≤D):=by omega
 have S1:=HS1
 have N1:=HN
 have G1:=HG1
 rw[hD]
 obtain rfl:k0=4:=by rw[←hk0];exact hs
 clear hk0 h hA hD hs hh h3 hN ht
 have hfd:∀w:World,(Instr.field 87 (.agg #[.int .i64 3,.string (B t.2.1),.int .i64 N,.int .i64 t.2.2.2]) 2).run Tryz.prog w= .ok (.int .i64 N) w:=fun _=>by kernel_rfl
 go_enter Tryz.func63,Tryz.ntmps63
 go_wp2_with (first
  |(go_at_call 73;(with_reducible refine(HKi.out _ _ rfl S1.out).mono ?_);rintro e w3 ⟨rfl,h3⟩;have hz3:=h3.size;have h4:=h3.trans ((Rel.right h3).alloc (.cells #[.int .i64 4,.int .i64 0,.string ⟨#[]⟩,.slice none 0 0] 54));have HNW:=yH (N1.out.rel h4);have HSW:=yH (S1.out.rel h4);have HGW:=yH (grown_trans G1.out (grown_rel (some g) h4));have e2':=HSW.out.err;obtain⟨⟨r0,r1,r2,r3⟩,q0,q1,q2,q3⟩:=HNW.out.four;have hne1: ¬w3.heap.size=w.heap.size:=(by omega);have hne2: ¬w.heap.size=w3.heap.size:=(by omega);have HX:=yH (Bk.new w3 54 #[.int .i64 4,.int .i64 0,.string ⟨#[]⟩,.slice none 0 0]))
  |(go_at_call 64;(with_reducible refine(HTc.out _ HSW.out).mono ?_);rintro e w4 ⟨rfl,s4,g4⟩;have HS4:=yH s4;have HN4:=yH (HNW.out.grown g4 (fun e=>by injection e;omega));have HG4:=yH (grown_trans HGW.out g4);have HX4:=yH (HX.out.grown g4 (fun e=>by injection e;omega));obtain⟨⟨p0,p1,p2,p3⟩,v0,v1,v2,v3⟩:=HN4.out.four;obtain⟨⟨x0,x1,x2,x3⟩,u0,u1,u2,u3⟩:=HX4.out.four))
 have gs:=set_grown w4 w3.heap.size 1 (.int .i64 N)
 have hz4:=HG4.out.size
 obtain⟨⟨y0,y1,y2,y3⟩,_⟩:=((HN4.out.far (p:=⟨w3.heap.size,1,none⟩) (by simp only;omega) (.int .i64 N)).put4 (.int .i64 4) (.int .i64 N) (.string ⟨#[]⟩) (.slice none 0 0)).four
 have gp:=put4_grown (w4.setCell ⟨w3.heap.size,1,none⟩ (.int .i64 N)) w.heap.size (.int .i64 4) (.int .i64 N) (.string ⟨#[]⟩) (.slice none 0 0)
 refine bodyPost_ret (v:=EV (4,N,[],none,0,0)) (by simp[results,Tryz.results63,go_sem,y0,y1,y2,y3];rfl) rfl ⟨_,rfl, ?_, ?_, ?_⟩
 ·rw[HF.out];exact ExAt.leaf _ _ 4 N [] none 0 (by first|exact HNi.out|exact⟨by decide,by decide⟩) (by first|exact HNi.out|exact⟨by decide,by decide⟩) (by simp)
 ·rw[HF.out];exact(HS4.out.grown gs (fun e=>by injection e;omega) (fun k e=>by cases e;omega)).grown gp (fun e=>by injection e;omega) (fun k e=>by cases e;exact hVw)
 ·exact grown_of (grown_of HG4.out gs (fun k e=>by cases e;omega)) gp (fun k e=>by cases e;exact Nat.le_refl _)
theorem rexpr_leaf(V:World)(A:Option Addr)(c:Nat)(all:List Tok)(d:Nat)(hd:d+1≤32)(cb:Bool)(ts:List Tok)(g:Nat)(w:World)(h:StR V A c all w g (ts,0))(hs:kindT cb (hdT ts)=1∨kindT cb (hdT ts)=2):
  Calls Tryz.prog 63 #[.pointer (some ⟨g,0,none⟩),.int .i64 (32-((d+1:Nat):Int)),.bool cb] w fun e w'=>∃v:El,e= .returned (EV v)∧ExAt (fun k=>w.heap.size≤k) w' v (exprR (d+1) cb (ts,0)).1∧StR V A c all w' g (exprR (d+1) cb (ts,0)).2∧w.grownBy w' (some g):=by
 have HS:=yH h
 have hgl:=h.lt
 have hVw:V.heap.size≤w.heap.size:=by obtain⟨_,a,_⟩:=h;exact a.size
 have hA:Rel w (w.alloc (.cells #[.int .i64 0,.int .i64 0,.string ⟨#[]⟩,.slice none 0 0] 54)):=by obtain⟨_,a,_⟩:=h;exact a.self.alloc _
 have HN:=yH (Bk.new w 54 #[.int .i64 0,.int .i64 0,.string ⟨#[]⟩,.slice none 0 0])
 have HS1:=yH (h.rel hA)
 have HG1:=yH (grown_rel (some g) hA)
 obtain⟨k0,hk0⟩:∃k0,kindT cb (hdT ts)=k0:=⟨_,rfl⟩
 have HKi:Hid (∀(w':World)(s':PS),s'.1=ts→StR V A c all w' g s'→Calls Tryz.prog 73 #[.pointer (some ⟨g,0,none⟩),.bool cb] w' fun e w''=>e= .returned (.int .i64 k0)∧Rel w' w''):=yH (fun w' s' h1 h2=>by
  have:=rkind_any V A c all g s' cb w' h2
  rw[h1,hk0] at this
  exact this)
 have hzA:(w.alloc (.cells #[.int .i64 0,.int .i64 0,.string ⟨#[]⟩,.slice none 0 0] 54)).heap.size=w.heap.size+1:=World.size_alloc ..
 have h1:=(kind_tok (c:=cb) (t:=hdT ts) (by rcases hs with h|h<;>rw[h]<;>decide)).2 (by rcases hs with h|h<;>rw[h]<;>decide)
 have HNi:Hid (i64 0):=yH ⟨by decide,by decide⟩
 have HTk:=yH (show takeR 1 [] (ts,0)=(hdT ts,(ts.tail,0)) from takeR_ok h1 (by decide))
 obtain⟨t,ht⟩:∃t,hdT ts=t:=⟨_,rfl⟩
 rw[ht] at HTk
 have HTc:Hid (∀w':World,StR V A c all w' g (ts,0)→Calls Tryz.prog 64 #[.pointer (some ⟨g,0,none⟩),.int .i64 1,.string ⟨#[]⟩] w' fun e w''=>e= .returned (.agg #[.int .i64 t.1,.string (B t.2.1),.int .i64 t.2.2.1,.int .i64 t.2.2.2])∧StR V A c all w'' g (ts.tail,0)∧w'.grownBy w'' (some g)):=yH (fun w' h'=>by
  have:=rtake_any V A c all g (ts,0) 1 [] ⟨#[]⟩ (yH rfl) w' h'
  rw[HTk.out] at this
  exact this)
 have HF:=yH (show exprR (d+1) cb (ts,0)=(.mk k0 0 [] [],(ts.tail,0)) by
  unfold exprR
  rw[if_neg (fun hh=>hh rfl),if_neg (by rcases hs with h|h<;>rw[h]<;>decide),if_neg (by rcases hs with h|h<;>rw[h]<;>decide),if_pos hs,HTk.out,hk0])
 clear ht
 obtain⟨D,hD⟩:∃D:Int,32-((d+1:Nat):Int)=D:=⟨_,rfl⟩
 have hD': ¬(32≤D):=by omega
 have S1:=HS1
 have N1:=HN
 have G1:=HG1
 rw[hD]
 rw[hk0] at hs
 clear hk0 h hA hD h1
 rcases hs with rfl|rfl
 ·go_enter Tryz.func63,Tryz.ntmps63
  go_wp2_with (first
   |(go_at_call 73;(with_reducible refine(HKi.out _ _ rfl S1.out).mono ?_);rintro e w3 ⟨rfl,h3⟩;have hz3:=h3.size;have h4:=h3.trans ((Rel.right h3).alloc (.cells #[.int .i64 1,.int .i64 0,.string ⟨#[]⟩,.slice none 0 0] 54));have HNW:=yH (N1.out.rel h4);have HSW:=yH (S1.out.rel h4);have HGW:=yH (grown_trans G1.out (grown_rel (some g) h4));have e2':=HSW.out.err;obtain⟨⟨r0,r1,r2,r3⟩,q0,q1,q2,q3⟩:=HNW.out.four;have hne1: ¬w3.heap.size=w.heap.size:=(by omega);have hne2: ¬w.heap.size=w3.heap.size:=(by omega);have HX:=yH (Bk.new w3 54 #[.int .i64 1,.int .i64 0,.string ⟨#[]⟩,.slice none 0 0]))
   |(go_at_call 64;(with_reducible refine(HTc.out _ HSW.out).mono ?_);rintro e w4 ⟨rfl,s4,g4⟩;have HS4:=yH s4;have HN4:=yH (HNW.out.grown g4 (fun e=>by injection e;omega));have HG4:=yH (grown_trans HGW.out g4);have HX4:=yH (HX.out.grown g4 (fun e=>by injection e;omega));obtain⟨⟨p0,p1,p2,p3⟩,v0,v1,v2,v3⟩:=HN4.out.four;obtain⟨⟨x0,x1,x2,x3⟩,u0,u1,u2,u3⟩:=HX4.out.four))
  obtain⟨⟨y0,y1,y2,y3⟩,_⟩:=(HN4.out.put4 (.int .i64 1) (.int .i64 0) (.string ⟨#[]⟩) (.slice none 0 0)).four
  have gp:=put4_grown w4 w.heap.size (.int .i64 1) (.int .i64 0) (.string ⟨#[]⟩) (.slice none 0 0)
  refine bodyPost_ret (v:=EV (1,0,[],none,0,0)) (by simp[results,Tryz.results63,go_sem,y0,y1,y2,y3];rfl) rfl ⟨_,rfl, ?_, ?_, ?_⟩
  ·rw[HF.out];exact ExAt.leaf _ _ 1 0 [] none 0 (by first|exact HNi.out|exact⟨by decide,by decide⟩) (by first|exact HNi.out|exact⟨by decide,by decide⟩) (by simp)
  ·rw[HF.out];exact HS4.out.grown gp (fun e=>by injection e;omega) (fun k e=>by cases e;exact hVw)
  ·exact grown_of HG4.out gp (fun k e=>by cases e;exact Nat.le_refl _)
 ·go_enter Tryz.func63,Tryz.ntmps63
  go_wp2_with (first
   |(go_at_call 73;(with_reducible refine(HKi.out _ _ rfl S1.out).mono ?_);rintro e w3 ⟨rfl,h3⟩;have hz3:=h3.size;have h4:=h3.trans ((Rel.right h3).alloc (.cells #[.int .i64 2,.int .i64 0,.string ⟨#[]⟩,.slice none 0 0] 54));have HNW:=yH (N1.out.rel h4);have HSW:=yH (S1.out.rel h4);have HGW:=yH (grown_trans G1.out (grown_rel (some g) h4));have e2':=HSW.out.err;obtain⟨⟨r0,r1,r2,r3⟩,q0,q1,q2,q3⟩:=HNW.out.four;have hne1: ¬w3.heap.size=w.heap.size:=(by omega);have hne2: ¬w.heap.size=w3.heap.size:=(by omega);have HX:=yH (Bk.new w3 54 #[.int .i64 2,.int .i64 0,.string ⟨#[]⟩,.slice none 0 0]))
   |(go_at_call 64;(with_reducible refine(HTc.out _ HSW.out).mono ?_);rintro e w4 ⟨rfl,s4,g4⟩;have HS4:=yH s4;have HN4:=yH (HNW.out.grown g4 (fun e=>by injection e;omega));have HG4:=yH (grown_trans HGW.out g4);have HX4:=yH (HX.out.grown g4 (fun e=>by injection e;omega));obtain⟨⟨p0,p1,p2,p3⟩,v0,v1,v2,v3⟩:=HN4.out.four;obtain⟨⟨x0,x1,x2,x3⟩,u0,u1,u2,u3⟩:=HX4.out.four))
  obtain⟨⟨y0,y1,y2,y3⟩,_⟩:=(HN4.out.put4 (.int .i64 2) (.int .i64 0) (.string ⟨#[]⟩) (.slice none 0 0)).four
  have gp:=put4_grown w4 w.heap.size (.int .i64 2) (.int .i64 0) (.string ⟨#[]⟩) (.slice none 0 0)
  refine bodyPost_ret (v:=EV (2,0,[],none,0,0)) (by simp[results,Tryz.results63,go_sem,y0,y1,y2,y3];rfl) rfl ⟨_,rfl, ?_, ?_, ?_⟩
  ·rw[HF.out];exact ExAt.leaf _ _ 2 0 [] none 0 (by first|exact HNi.out|exact⟨by decide,by decide⟩) (by first|exact HNi.out|exact⟨by decide,by decide⟩) (by simp)
  ·rw[HF.out];exact HS4.out.grown gp (fun e=>by injection e;omega) (fun k e=>by cases e;exact hVw)
  ·exact grown_of HG4.out gp (fun k e=>by cases e;exact Nat.le_refl _)
def LexPost(l:List UInt8)(w0:World)(e:Ending)(w':World):Prop:=
 ∃(ts:List Tok)(A:Option Addr)(c:Nat)(err place:Int),e= .returned (.tuple #[.slice A ts.length c,.int .i64 err,.int .i64 place])∧Rel w0 w'∧ToksAt w' A ts∧Out l ts err place
theorem cut_one(s:ByteArray)(p:Nat)(h:p<s.size):s.extract p (p+1)=B [s[p]'h]:=by
 rw[B_cut,drop_cons s p h,show p+1-p=1 by omega];rfl
def At(l:List UInt8)(p:Nat)(ts:List Tok):Prop:=lx 0 l=pre ts (lx p (l.drop p))∧ts.length≤p
theorem At.start(l:List UInt8):At l 0 []:=⟨by rw[pre_nil];rfl,by simp⟩
theorem At.blank{s:ByteArray}{p:Nat}{ts:List Tok}(h:At s.data.toList p ts)(hp:p<s.size)(hb:isBl (s[p]'hp)=true):At s.data.toList (p+1) ts:=
 ⟨by rw[h.1,drop_cons s p hp,lx_blank _ _ _ hb],by have:=h.2;omega⟩
theorem At.sign{s:ByteArray}{p:Nat}{ts:List Tok}(h:At s.data.toList p ts)(hp:p<s.size)(hb:isSg (s[p]'hp)=true):At s.data.toList (p+1) (ts++[(4,[s[p]'hp],0,(p:Int))]):=
 ⟨by rw[h.1,drop_cons s p hp,lx_sign _ _ _ (sg_not hb).1 hb,pre_pre],by have:=h.2;simp;omega⟩
theorem At.tok{s:ByteArray}{p m:Nat}{ts:List Tok}{x:List UInt8}{k n:Int}(h:At s.data.toList p ts)(hp:p<s.size)(hb:isBl (s[p]'hp)=false)(hg:isSg (s[p]'hp)=false)
  (hx:(s.data.toList.drop p).takeWhile isPt=x) (hm:x.length=m) (hd:(s.data.toList.drop p).dropWhile isPt=s.data.toList.drop (p+m)) (ht:tokOf x=some (k,n)):At s.data.toList (p+m) (ts++[(k,x,n,(p:Int))]):=by
 have hm1:1≤m:=by
  have:=tokOf_ne ht
  rcases x with _|⟨a,b⟩
  ·exact absurd rfl this
  ·simp at hm;omega
 refine⟨?_,by have:=h.2;simp;omega⟩
 rw[h.1]
 have e:=drop_cons s p hp
 rw[e] at hx hd
 rw[e,lx_tok _ _ _ k n hb hg (by rw[hx];exact ht),hx,hd,hm,pre_pre]
theorem At.bad{s:ByteArray}{p:Nat}{ts:List Tok}{x:List UInt8}(h:At s.data.toList p ts)(hp:p<s.size)(hb:isBl (s[p]'hp)=false)(hg:isSg (s[p]'hp)=false)
  (hx:(s.data.toList.drop p).takeWhile isPt=x) (ht:tokOf x=none):lx 0 s.data.toList= .error p:=by
 rw[h.1]
 have e:=drop_cons s p hp
 rw[e] at hx
 rw[e,lx_bad _ _ _ hb hg (by rw[hx];exact ht)];rfl
theorem At.done{s:ByteArray}{ts:List Tok}(h:At s.data.toList s.size ts):lx 0 s.data.toList= .ok (ts++[(5,[],0,(s.size:Int))]):=by
 have el:s.data.toList.length=s.size:=by simp
 rw[h.1,List.drop_of_length_le (by omega),lx_nil];rfl
theorem run_to(s:ByteArray)(p:Nat)(hp:p≤s.size):∃(e:Nat)(x:List UInt8),p≤e∧e≤s.size∧(∀q (h:q<s.size),p≤q→q<e→isPt (s[q]'h)=true)∧(∀h:e<s.size,isPt (s[e]'h)=false)∧
  s.extract p e=B x∧(s.data.toList.drop p).takeWhile isPt=x∧p+x.length=e∧(s.data.toList.drop p).dropWhile isPt=s.data.toList.drop e:=by
 obtain⟨m,h1,h2,h3,h4,h5,h6⟩:=run_at s p hp
 refine⟨p+m,_,by omega,h1,fun q h ha hb=> ?_,h3,h4,rfl,by rw[h5],h6⟩
 have:=h2 (q-p) (by omega) (by omega)
 simp only[show p+(q-p)=q by omega] at this
 exact this
theorem pt_ways{c:UInt8}(h:isPt c=true):isL c=true∨(isL c=false∧isD c=true)∨(isL c=false∧isD c=false∧((c.toNat:Int)==46)=true):=by
 cases hl:isL c
 ·cases hd:isD c
  ·have:c=46:=by simpa [isPt,hl,hd] using h
   subst this
   exact .inr (.inr ⟨rfl,rfl,rfl⟩)
  ·exact .inr (.inl ⟨rfl,rfl⟩)
 ·exact .inl rfl
theorem pt_none{c:UInt8}(h:isPt c=false):isL c=false∧isD c=false∧((c.toNat:Int)==46)=false:=by
 simp only[isPt,Bool.or_eq_false_iff] at h
 refine⟨h.1.1,h.1.2, ?_⟩
 simp only[beq_eq_false_iff_ne,ne_eq] at h⊢
 intro e
 exact h.2 (UInt8.toNat_inj.1 (by rw[show(46:UInt8).toNat=46 from rfl];omega))
theorem ways(c:UInt8):
  (isBl c=true∧((c.toNat:Int)==32)=true)∨(isBl c=true∧((c.toNat:Int)==32)=false∧((c.toNat:Int)==10)=true)∨
  (isSg c=true∧((c.toNat:Int)==32)=false∧((c.toNat:Int)==10)=false∧((c.toNat:Int)==40)=true)∨
  (isSg c=true∧((c.toNat:Int)==32)=false∧((c.toNat:Int)==10)=false∧((c.toNat:Int)==40)=false∧((c.toNat:Int)==41)=true)∨
  (isSg c=true∧((c.toNat:Int)==32)=false∧((c.toNat:Int)==10)=false∧((c.toNat:Int)==40)=false∧((c.toNat:Int)==41)=false∧((c.toNat:Int)==44)=true)∨
  ((isBl c=false∧isSg c=false)∧((c.toNat:Int)==32)=false∧((c.toNat:Int)==10)=false∧((c.toNat:Int)==40)=false∧((c.toNat:Int)==41)=false∧((c.toNat:Int)==44)=false):=by
 have h1:=bl_bytes c
 have h2:=sg_bytes c
 have h3:=fun h=>(sg_not (c:=c) h).1
 revert h1 h2 h3
 cases((c.toNat:Int)==32)<;>cases((c.toNat:Int)==10)<;>cases((c.toNat:Int)==40)<;>cases((c.toNat:Int)==41)<;>cases((c.toNat:Int)==44)<;>cases isBl c<;>cases isSg c<;>simp
theorem rtoken_yes(x:List UInt8)(S:ByteArray)(p k n:Int)(hS:Hid (S=B x))(h:Hid (tokOf x=some (k,n)))(hl:x.length≤9223372036854775807)(w0 w:World)(hr:Rel w0 w):
  Calls Tryz.prog 71 #[.string S,.int .i64 p] w fun e w'=>e= .returned (.tuple #[TK (k,x,n,p),.bool true])∧Rel w0 w':=by
 rw[hS.out]
 refine(rtoken_any x p hl w0 w hr).mono ?_
 rintro e w' ⟨⟨k',n',h',he⟩|⟨h',_⟩,hr'⟩
 ·rw[h.out] at h'
  injection h' with h'
  injection h' with a b
  subst a;subst b
  exact⟨he,hr'⟩
 ·rw[h.out] at h';cases h'
theorem rtoken_no(x:List UInt8)(S:ByteArray)(p:Int)(hS:Hid (S=B x))(h:Hid (tokOf x=none))(hl:x.length≤9223372036854775807)(w0 w:World)(hr:Rel w0 w):
  Calls Tryz.prog 71 #[.string S,.int .i64 p] w fun e w'=>(∃t:Tok,e= .returned (.tuple #[TK t,.bool false]))∧Rel w0 w':=by
 rw[hS.out]
 refine(rtoken_any x p hl w0 w hr).mono ?_
 rintro e w' ⟨⟨k',n',h',he⟩|⟨h',t,he⟩,hr'⟩
 ·rw[h.out] at h';cases h'
 ·exact⟨⟨t,he⟩,hr'⟩
theorem rlex_any(s:ByteArray)(hs:s.size≤9223372036854775807)(w0 w:World)(hr:Rel w0 w):
  Calls Tryz.prog 62 #[.string s] w (LexPost s.data.toList w0):=by
 obtain⟨i0,hi,hz0,hz1,hz2⟩:=info_parts tok_info
 have el:s.data.toList.length=s.size:=by simp
 have EL:=yH el
 have HR:=yH hr
 have HW:=yH hr.self
 clear el
 by_cases hlong:2000<s.size
 ·go_enter Tryz.func62,Tryz.ntmps62
  go_wp2_with (fail)
  go_ret3
  exact⟨[],none,0,60,2000,rfl,HR.out,ToksAt.nil _ _,.inl ⟨by rw[EL.out];exact hlong,rfl,rfl,rfl⟩⟩
 ·have hlong':(s.size:Int)≤2000:=by omega
  clear hs
  go_enter Tryz.func62,Tryz.ntmps62
  go_wp2_with (fail)
  go_loopw [5,6] (fun v i wr=>∃(p:Nat)(A:Option Addr)(c:Nat)(ts:List Tok),p≤s.size∧i= .int .i64 p∧v= .slice A ts.length c∧Rel w wr∧TokOwn wr w.heap.size (.slice A ts.length c) ts∧Hid (At s.data.toList p ts)) (fun _ i _=>s.size-(RowKit.intOf i).toNat)
  case atStart=>exact⟨0,none,0,[],by omega,rfl,rfl,HW.out,TokOwn.nil _ _,yH (At.start _)⟩
  case round=>
   obtain⟨p,A,c,ts,hp,rfl,rfl,hR2,hE,HS⟩:=hrel
   have htl:=HS.out.2
   have hsz:=hR2.size
   by_cases hlt:p<s.size
   ·obtain⟨e,x,hpe,hes,hin,hout,hx,hxt,hxl,hxd⟩:=run_to s p hp
    have HIN:=yH hin
    have HOUT:=yH hout
    have HX:=yH hx
    have HXT:=yH hxt
    have HXL:=yH hxl
    have HXD:=yH hxd
    clear hin hout hx hxt hxl hxd
    go_wp2_with (fail)
    go_loop [7] (fun k=>∃q:Nat,p≤q∧q≤e∧k= .int .i64 (q:Int)) (fun k=>e-(RowKit.intOf k).toNat)
    case atStart=>exact⟨p,by omega,by omega,rfl⟩
    case round=>
     obtain⟨q,hq1,hq2,rfl⟩:=hrel
     by_cases hqe:q<e
     ·have hqs:q<s.size:=by omega
      have ht:=HIN.out q hqs hq1 hqe
      obtain⟨y,hy⟩:∃y,y=s[q]'hqs:=⟨_,rfl⟩
      rw[←hy] at ht
      have hg:∀h,s[q]'h=y:=fun h=>hy.symm
      clear hy
      rcases pt_ways ht with h1|⟨h1,h2⟩|⟨h1,h2,h3⟩
      all_goals
       have H1:=yH h1
       try have H2:=yH h2
       clear h1 ht
       try clear h2
       go_wp2_with (first
           |(go_at_call 68;(with_reducible refine(bool_at _ (rletter_any y _) H1).mono ?_);rintro e w' ⟨rfl,rfl⟩)
           |(go_at_call 70;(with_reducible refine(bool_at _ (rdigit_any y _) H2).mono ?_);rintro e w' ⟨rfl,rfl⟩))
       go_round
       case rel=>exact⟨q+1,by omega,by omega,by go_num⟩
       case measure=>simp[RowKit.intOf];omega
     ·obtain rfl:q=e:=by omega
      have hgo:∀h,s[p]'h=s[p]'hlt:=fun h=>rfl
      obtain⟨cc,hcc⟩:∃cc,cc=s[p]'hlt:=⟨_,rfl⟩
      rw[←hcc] at hgo
      have HCC:=yH hcc
      clear hcc
      have hx9:x.length≤9223372036854775807:=by have:=HXL.out;omega
      have hend:(∃(hlt':q<s.size)(y:UInt8),Hid (y=s[q]'hlt')∧Hid (isL y=false)∧Hid (isD y=false)∧((y.toNat:Int)==46)=false)∨q=s.size:=by
       rcases Nat.lt_or_ge q s.size with h|h
       ·have:=pt_none (HOUT.out h)
        exact .inl ⟨h,s[q]'h,yH rfl,yH this.1,yH this.2.1,this.2.2⟩
       ·exact .inr (by omega)
      rcases hend with ⟨hqs,y,HY,H1,H2,h3⟩|hqs
      ·have hg2:∀h,s[q]'h=y:=fun h=>HY.out.symm
       rcases ways cc with ⟨hb,b1⟩|⟨hb,b1,b2⟩|⟨hb,b1,b2,b3⟩|⟨hb,b1,b2,b3,b4⟩|⟨hb,b1,b2,b3,b4,b5⟩|⟨hb,b1,b2,b3,b4,b5⟩
       iterate 2
           ·have HN:=yH (HS.out.blank hlt (by rw[←HCC.out];exact hb))
            clear hb hqe
            go_wp2_with (first
            |(go_at_call 68;(with_reducible refine(bool_at _ (rletter_any y _) H1).mono ?_);rintro e w' ⟨rfl,rfl⟩)
            |(go_at_call 70;(with_reducible refine(bool_at _ (rdigit_any y _) H2).mono ?_);rintro e w' ⟨rfl,rfl⟩))
            go_roundw
            case rel=>exact⟨p+1,A,c,ts,by omega,by go_num,rfl,hR2,hE,HN⟩
            case measure=>simp[RowKit.intOf];omega
       iterate 3
           ·have HN:=yH (HS.out.sign hlt (by rw[←HCC.out];exact hb))
            have hcut:=cut_one s p hlt
            rw[←HCC.out] at HN hcut
            clear hb hqe
            go_wp2_with (first
            |(go_at_call 68;(with_reducible refine(bool_at _ (rletter_any y _) H1).mono ?_);rintro e w' ⟨rfl,rfl⟩)
            |(go_at_call 70;(with_reducible refine(bool_at _ (rdigit_any y _) H2).mono ?_);rintro e w' ⟨rfl,rfl⟩)
            |(at_builtin;(refine wpList_append_lies _ rfl _ _ 80 rfl w.heap.size 87 i0 (.agg #[.int .i64 0,.string ⟨#[]⟩,.int .i64 0,.int .i64 0]) 4 40 Tryz.underlying80 hi hz0 hz1 hz2 rfl (by decide) _ ts.length (cellsOf ts) rfl (hE.row.alloc _) ⟨(wr).heap.size,0,none⟩ 1 1 (cells4 (4,[cc],0,(p:Int))) rfl rfl (World.news_of_block (Bk.new (wr) 87 #[.int .i64 4,.string (B [cc]),.int .i64 0,.int .i64 (p:Int)])) (cells4_one _) (by decide) (by unfold maxLen;omega) (by omega) (by simp;omega) _ rfl ?_);intro g cap w1 hown1 hgrow hat hlt1))
            have hE5:=TokOwn.more (t:=(4,[cc],0,(p:Int))) hown1
            have hR6:Rel w w1:=(hR2.alloc _).grown hgrow (fun k hk=>(hE.row.lt k hk).1)
            have HL:=yH (show(ts++[(4,[cc],0,(p:Int))]).length=ts.length+1 by simp)
            go_roundw
            case rel=>exact⟨p+1,some ⟨g,0,none⟩,cap,ts++[(4,[cc],0,(p:Int))],by omega,by go_num,by rw[HL.out],hR6,by rw[HL.out];exact hE5,HN⟩
            case measure=>simp[RowKit.intOf];omega
       ·have hxx:=HX.out
        have hqs2:q≤s.size:=by omega
        rcases htk:tokOf x with _|⟨k,n⟩
        ·have HT:=yH htk
         have HN:=yH (HS.out.bad hlt (by rw[←HCC.out];exact hb.1) (by rw[←HCC.out];exact hb.2) HXT.out htk)
         clear hb hqe htk
         go_wp2_with (first
         |(go_at_call 68;(with_reducible refine(bool_at _ (rletter_any y _) H1).mono ?_);rintro e w' ⟨rfl,rfl⟩)
         |(go_at_call 70;(with_reducible refine(bool_at _ (rdigit_any y _) H2).mono ?_);rintro e w' ⟨rfl,rfl⟩)
         |(go_at_call 71;(with_reducible refine(rtoken_no x _ _ (yH rfl) HT hx9 _ _ hR2.self).mono ?_);rintro e w3 ⟨⟨t,rfl⟩,h3⟩))
         go_ret3
         exact⟨[],none,0,61,p,rfl,HR.out.trans ((hR2.trans h3).alloc _),ToksAt.nil _ _,.inr (.inr ⟨by rw[EL.out];omega,p,HN.out,rfl,rfl,rfl⟩)⟩
        ·have HT:=yH htk
         have HN:=yH (HS.out.tok hlt (by rw[←HCC.out];exact hb.1) (by rw[←HCC.out];exact hb.2) HXT.out rfl (by rw[HXD.out,HXL.out]) htk)
         rw[HXL.out] at HN
         have hpq:p<q:=by
          have:=HN.out.2
          have h1:=HXL.out
          have h2:=tokOf_ne htk
          rcases x with _|⟨a,b⟩
          ·exact absurd rfl h2
          ·simp at h1;omega
         clear hb hqe htk
         go_wp2_with (first
         |(go_at_call 68;(with_reducible refine(bool_at _ (rletter_any y _) H1).mono ?_);rintro e w' ⟨rfl,rfl⟩)
         |(go_at_call 70;(with_reducible refine(bool_at _ (rdigit_any y _) H2).mono ?_);rintro e w' ⟨rfl,rfl⟩)
         |(go_at_call 71;(with_reducible refine(rtoken_yes x _ _ k n (yH rfl) HT hx9 _ _ hR2.self).mono ?_);rintro e w3 ⟨rfl,h3⟩;have hE3:=(hE.rel h3).row;have hsz3:w.heap.size≤w3.heap.size:=(hR2.trans h3).size;obtain⟨⟨c0,c1,c2,c3⟩,_⟩:=(Bk.new w3 87 #[.int .i64 k,.string (B x),.int .i64 n,.int .i64 (p:Int)]).four)
         |(at_builtin;(refine wpList_append_lies _ rfl _ _ 80 rfl w.heap.size 87 i0 (.agg #[.int .i64 0,.string ⟨#[]⟩,.int .i64 0,.int .i64 0]) 4 40 Tryz.underlying80 hi hz0 hz1 hz2 rfl (by decide) _ ts.length (cellsOf ts) rfl ((hE3.alloc _).alloc _) ⟨w3.heap.size+1,0,none⟩ 1 1 (cells4 (k,x,n,(p:Int))) rfl rfl (World.news_of_block (Bk.snd w3 #[.int .i64 k,.string (B x),.int .i64 n,.int .i64 (p:Int)] #[.int .i64 k,.string (B x),.int .i64 n,.int .i64 (p:Int)] 87 87)) (cells4_one _) (by decide) (by unfold maxLen;omega) (by omega) (by simp;omega) _ rfl ?_);intro g cap w1 hown1 hgrow hat hlt1))
         have hE5:=TokOwn.more (t:=(k,x,n,(p:Int))) hown1
         have hR6:Rel w w1:=(((hR2.trans h3).alloc _).alloc _).grown hgrow (fun k hk=>(hE3.lt k hk).1)
         have HL:=yH (show(ts++[(k,x,n,(p:Int))]).length=ts.length+1 by simp)
         go_roundw
         case rel=>exact⟨q,some ⟨g,0,none⟩,cap,ts++[(k,x,n,(p:Int))],by omega,by go_num,by rw[HL.out],hR6,by rw[HL.out];exact hE5,HN⟩
         case measure=>simp[RowKit.intOf];omega
      ·have hqs3:q=s.size:=hqs
       subst hqs3
       rcases ways cc with ⟨hb,b1⟩|⟨hb,b1,b2⟩|⟨hb,b1,b2,b3⟩|⟨hb,b1,b2,b3,b4⟩|⟨hb,b1,b2,b3,b4,b5⟩|⟨hb,b1,b2,b3,b4,b5⟩
       iterate 2
           ·have HN:=yH (HS.out.blank hlt (by rw[←HCC.out];exact hb))
            clear hb
            go_wp2_with (fail)
            go_roundw
            case rel=>exact⟨p+1,A,c,ts,by omega,by go_num,rfl,hR2,hE,HN⟩
            case measure=>simp[RowKit.intOf];omega
       iterate 3
           ·have HN:=yH (HS.out.sign hlt (by rw[←HCC.out];exact hb))
            have hcut:=cut_one s p hlt
            rw[←HCC.out] at HN hcut
            clear hb
            go_wp2_with (first
            |(at_builtin;(refine wpList_append_lies _ rfl _ _ 80 rfl w.heap.size 87 i0 (.agg #[.int .i64 0,.string ⟨#[]⟩,.int .i64 0,.int .i64 0]) 4 40 Tryz.underlying80 hi hz0 hz1 hz2 rfl (by decide) _ ts.length (cellsOf ts) rfl (hE.row.alloc _) ⟨(wr).heap.size,0,none⟩ 1 1 (cells4 (4,[cc],0,(p:Int))) rfl rfl (World.news_of_block (Bk.new (wr) 87 #[.int .i64 4,.string (B [cc]),.int .i64 0,.int .i64 (p:Int)])) (cells4_one _) (by decide) (by unfold maxLen;omega) (by omega) (by simp;omega) _ rfl ?_);intro g cap w1 hown1 hgrow hat hlt1))
            have hE5:=TokOwn.more (t:=(4,[cc],0,(p:Int))) hown1
            have hR6:Rel w w1:=(hR2.alloc _).grown hgrow (fun k hk=>(hE.row.lt k hk).1)
            have HL:=yH (show(ts++[(4,[cc],0,(p:Int))]).length=ts.length+1 by simp)
            go_roundw
            case rel=>exact⟨p+1,some ⟨g,0,none⟩,cap,ts++[(4,[cc],0,(p:Int))],by omega,by go_num,by rw[HL.out],hR6,by rw[HL.out];exact hE5,HN⟩
            case measure=>simp[RowKit.intOf];omega
       ·have hxx:=HX.out
        have hqs2:s.size≤s.size:=by omega
        rcases htk:tokOf x with _|⟨k,n⟩
        ·have HT:=yH htk
         have HN:=yH (HS.out.bad hlt (by rw[←HCC.out];exact hb.1) (by rw[←HCC.out];exact hb.2) HXT.out htk)
         clear hb htk
         go_wp2_with (first
         |(go_at_call 71;(with_reducible refine(rtoken_no x _ _ (yH rfl) HT hx9 _ _ hR2.self).mono ?_);rintro e w3 ⟨⟨t,rfl⟩,h3⟩))
         go_ret3
         exact⟨[],none,0,61,p,rfl,HR.out.trans ((hR2.trans h3).alloc _),ToksAt.nil _ _,.inr (.inr ⟨by rw[EL.out];omega,p,HN.out,rfl,rfl,rfl⟩)⟩
        ·have HT:=yH htk
         have HN:=yH (HS.out.tok hlt (by rw[←HCC.out];exact hb.1) (by rw[←HCC.out];exact hb.2) HXT.out rfl (by rw[HXD.out,HXL.out]) htk)
         rw[HXL.out] at HN
         have hpq:p<s.size:=by
          have:=HN.out.2
          have h1:=HXL.out
          have h2:=tokOf_ne htk
          rcases x with _|⟨a,b⟩
          ·exact absurd rfl h2
          ·simp at h1;omega
         clear hb htk
         go_wp2_with (first
         |(go_at_call 71;(with_reducible refine(rtoken_yes x _ _ k n (yH rfl) HT hx9 _ _ hR2.self).mono ?_);rintro e w3 ⟨rfl,h3⟩;have hE3:=(hE.rel h3).row;have hsz3:w.heap.size≤w3.heap.size:=(hR2.trans h3).size;obtain⟨⟨c0,c1,c2,c3⟩,_⟩:=(Bk.new w3 87 #[.int .i64 k,.string (B x),.int .i64 n,.int .i64 (p:Int)]).four)
         |(at_builtin;(refine wpList_append_lies _ rfl _ _ 80 rfl w.heap.size 87 i0 (.agg #[.int .i64 0,.string ⟨#[]⟩,.int .i64 0,.int .i64 0]) 4 40 Tryz.underlying80 hi hz0 hz1 hz2 rfl (by decide) _ ts.length (cellsOf ts) rfl ((hE3.alloc _).alloc _) ⟨w3.heap.size+1,0,none⟩ 1 1 (cells4 (k,x,n,(p:Int))) rfl rfl (World.news_of_block (Bk.snd w3 #[.int .i64 k,.string (B x),.int .i64 n,.int .i64 (p:Int)] #[.int .i64 k,.string (B x),.int .i64 n,.int .i64 (p:Int)] 87 87)) (cells4_one _) (by decide) (by unfold maxLen;omega) (by omega) (by simp;omega) _ rfl ?_);intro g cap w1 hown1 hgrow hat hlt1))
         have hE5:=TokOwn.more (t:=(k,x,n,(p:Int))) hown1
         have hR6:Rel w w1:=(((hR2.trans h3).alloc _).alloc _).grown hgrow (fun k hk=>(hE3.lt k hk).1)
         have HL:=yH (show(ts++[(k,x,n,(p:Int))]).length=ts.length+1 by simp)
         go_roundw
         case rel=>exact⟨s.size,some ⟨g,0,none⟩,cap,ts++[(k,x,n,(p:Int))],by omega,by go_num,by rw[HL.out],hR6,by rw[HL.out];exact hE5,HN⟩
         case measure=>simp[RowKit.intOf];omega
   ·obtain rfl:p=s.size:=by omega
    have HN:=yH HS.out.done
    go_wp2_with (at_builtin;(refine wpList_append_lies _ rfl _ _ 80 rfl w.heap.size 87 i0 (.agg #[.int .i64 0,.string ⟨#[]⟩,.int .i64 0,.int .i64 0]) 4 40 Tryz.underlying80 hi hz0 hz1 hz2 rfl (by decide) _ ts.length (cellsOf ts) rfl (hE.row.alloc _) ⟨wr.heap.size,0,none⟩ 1 1 (cells4 (5,[],0,(s.size:Int))) rfl rfl (World.news_of_block (Bk.new wr 87 #[.int .i64 5,.string (B []),.int .i64 0,.int .i64 (s.size:Int)])) (cells4_one _) (by decide) (by unfold maxLen;omega) (by omega) (by simp;omega) _ rfl ?_);intro g cap w1 hown1 hgrow hat hlt1)
    have hE5:=TokOwn.more (t:=(5,[],0,(s.size:Int))) hown1
    have hR6:Rel w w1:=(hR2.alloc _).grown hgrow (fun k hk=>(hE.row.lt k hk).1)
    have HL:=show(ts++[((5:Int),([]:List UInt8),(0:Int),(s.size:Int))]).length=ts.length+1 by simp
    go_ret3
    exact⟨ts++[(5,[],0,(s.size:Int))],some ⟨g,0,none⟩,cap,0,0,by rw[HL];rfl,HR.out.trans hR6,hE5.toks HL.symm,.inr (.inl ⟨by rw[EL.out];omega,HN.out,rfl,rfl⟩)⟩
def InR(V:World)(A:Option Addr)(c:Nat)(all:List Tok)(U w:World)(g gx:Nat)(x:Ex)(s:PS):Prop:=StR V A c all w g s∧g<U.heap.size∧U.heap.size≤gx∧U.grownBy w (some g)∧∃B' c' es,XP gx w x B' c' es
theorem InR.step{V U w w':World}{A:Option Addr}{c:Nat}{all:List Tok}{g gx:Nat}{x:Ex}{s s':PS}(h:InR V A c all U w g gx x s)(hg:w.grownBy w' (some g))(hs:StR V A c all w' g s'):InR V A c all U w' g gx x s':=by
 obtain⟨h1,h2,h3,h4,B',c',es,h5⟩:=h
 exact⟨hs,h2,h3,grown_trans h4 hg,B',c',es,h5.grown hg (by omega)⟩
theorem InR.rel{V U w w':World}{A:Option Addr}{c:Nat}{all:List Tok}{g gx:Nat}{x:Ex}{s:PS}(h:InR V A c all U w g gx x s)(hr:Rel w w'):InR V A c all U w' g gx x s:=h.step (grown_rel (some g) hr) (h.1.rel hr)
theorem InR.set{V U w:World}{A:Option Addr}{c:Nat}{all:List Tok}{g gx:Nat}{x y:Ex}{s:PS}(h:InR V A c all U w g gx x s)(o:Nat)(v:Value)(hy:∀A n c,(#[.int .i64 x.k,.int .i64 x.n,.string (B x.nm),.slice A n c]:Array Value).setIfInBounds o v= #[.int .i64 y.k,.int .i64 y.n,.string (B y.nm),.slice A n c])
  (hl:y.l=x.l) (hk:i64 y.k) (hn:i64 y.n) (hm:y.nm.length≤100):InR V A c all U (w.setCell ⟨gx,o,none⟩ v) g gx y s:=by
 obtain⟨h1,h2,h3,h4,B',c',es,h5⟩:=h
 have gs:=set_grown w gx o v
 have hVg:V.heap.size≤g:=by obtain⟨_,_,hh,_⟩:=h1;exact hh
 exact⟨h1.grown gs (fun e=>by injection e;omega) (fun k e=>by cases e;omega),h2,h3,grown_of h4 gs (fun k e=>by cases e;exact h3),B',c',es,h5.set o v y (hy _ _ _) hl hk hn hm⟩
theorem InR.box{V U w:World}{A:Option Addr}{c:Nat}{all:List Tok}{g gx:Nat}{x:Ex}{s:PS}(h:InR V A c all U w g gx x s):∃B' c' es,Bk w gx 54 #[.int .i64 x.k,.int .i64 x.n,.string (B x.nm),.slice B' x.l.length c']∧XP gx w x B' c' es:=by
 obtain⟨h1,h2,h3,h4,B',c',es,h5⟩:=h
 have h6:=h5.1
 rw[h5.2.2.1] at h6
 exact⟨B',c',es,h6,h5⟩
theorem InR.own{V U w w2:World}{A:Option Addr}{c:Nat}{all:List Tok}{g gx:Nat}{x:Ex}{s:PS}(h:InR V A c all U w g gx x s){B':Option Addr}{c':Nat}{es:List El}(hX:XP gx w x B' c' es)(hg:w.grownBy w2 (some g)):w2.ownsRow (gx+1) 54 4 (.slice B' x.l.length c') x.l.length (cellsEs es):=by
 have:=(hX.grown hg (by have:=h.2.1;have:=h.2.2.1;omega)).2.1
 rwa [hX.2.2.1] at this
theorem InR.push{V U w w2 w3:World}{A:Option Addr}{c:Nat}{all:List Tok}{g gx:Nat}{x y:Ex}{s s':PS}(h:InR V A c all U w g gx x s){B':Option Addr}{c':Nat}{es:List El}(hX:XP gx w x B' c' es)(hx:x.l.length≤2){wd:World}(hd:Rel w wd)(g2:wd.grownBy w2 (some g))(s2:StR V A c all w2 g s'){v:El}(ex:ExAt (fun q=>wd.heap.size≤q) w2 v y)(o:Obj)
  {g' cap:Nat} (hown:w3.ownsRow (gx+1) 54 4 (.slice (some ⟨g',0,none⟩) (x.l.length+1) cap) (x.l.length+1) (cellsEs es++cellsE v)) (hgrow:(w2.alloc o).grownBy w3 (Value.slice B' x.l.length c').ownBlock) (hat:(Value.slice B' x.l.length c').ownBlock=some g'∨g'=w2.heap.size+1) (W:World) (hW:w3.setCell ⟨gx,3,none⟩ (.slice (some ⟨g',0,none⟩) (x.l.length+1) cap)=W):
  InR V A c all U W g gx (x.push y) s':=by
 obtain⟨h1,hg,hU,hG,_⟩:=h
 have R2:Rel w2 (w2.alloc o):=by obtain⟨_,a,_⟩:=s2;exact a.self.alloc o
 have gb:=grown_trans (grown_trans (grown_rel (some g) hd) g2) (grown_rel (some g) R2)
 have hXb:=hX.grown gb (by omega)
 have sb:=s2.rel R2
 have exb:=(ex.rel R2).weak (S':=fun q=>gx<q∧some q≠(Value.slice B' es.length c').ownBlock) fun q hq=>⟨by have:=hX.lt;have:=hd.size;omega,fun e=>by have:=(hX.2.1.lt q e.symm).2;have:=hd.size;omega⟩
 have hGb:=grown_trans hG gb
 have zb:(w2.alloc o).heap.size=w2.heap.size+1:=World.size_alloc ..
 obtain⟨wb,hwb⟩:∃wb,w2.alloc o=wb:=⟨_,rfl⟩
 rw[hwb] at hXb sb exb hGb zb hgrow
 rw[←zb] at hat
 clear gb R2 hwb zb s2 ex g2 hG hd h1
 have hn:=hXb.2.2.1
 rw[←hn] at hown hgrow hat hW
 obtain⟨m1,m2,m3,m4,m5,m6,m7,m8⟩:=hXb
 have ho:=fun j (hj:(Value.slice B' es.length c').ownBlock=some j)=>m2.lt j hj
 have hg':=hown.lt g' rfl
 have hsz:=hgrow.size
 have hgx:gx<wb.heap.size:=m1.lt
 have gno:∀q,q≤gx→some q≠(Value.slice B' es.length c').ownBlock:=fun q hq e=>by have:=(ho q e.symm).1;omega
 have m1':Bk w3 gx 54 #[.int .i64 x.k,.int .i64 x.n,.string (B x.nm),.slice B' es.length c']:=m1.grown hgrow (gno gx (Nat.le_refl _))
 have gs:=set_grown w3 gx 3 (.slice (some ⟨g',0,none⟩) (es.length+1) cap)
 rw[hW] at gs
 have p1:Bk W gx 54 #[.int .i64 x.k,.int .i64 x.n,.string (B x.nm),.slice (some ⟨g',0,none⟩) (es.length+1) cap]:=by rw[←hW];exact m1'.set_ 3 _
 have p2:W.ownsRow (gx+1) 54 4 (.slice (some ⟨g',0,none⟩) (es.length+1) cap) (es.length+1) (cellsEs (es++[v])):=by
  rw[←hW,cellsEs_snoc]
  exact own_set hown (p:=⟨gx,3,none⟩) (fun e=>by have e:some gx=some g':=e;injection e;omega) _
 have zW:W.heap.size=w3.heap.size:=by rw[←hW];exact World.size_setCell ..
 have blk:∀q,q<wb.heap.size→q≠gx→some q≠(Value.slice B' es.length c').ownBlock→W.heap[q]?=wb.heap[q]?:=fun q hq hne hno=>
  (gs.block q (by omega) (fun e=>by injection e;omega)).trans (hgrow.block q hq hno)
 have exs:∀{e:El}{z:Ex},ExAt (fun q=>gx<q∧some q≠(Value.slice B' es.length c').ownBlock) wb e z→ExAt (fun q=>gx<q∧some q≠(Value.slice (some ⟨g',0,none⟩) (es.length+1) cap).ownBlock) W e z:=fun he=>he.mono (by omega) fun q hq hl=>by
  refine⟨⟨hq.1,fun e=> ?_⟩,blk q hl (by omega) hq.2⟩
  have e:q=g':=by injection e
  subst e
  rcases hat with h|h
  ·exact hq.2 h.symm
  ·omega
 have hlen:(es++[v]).length=es.length+1:=by rw[List.length_append];rfl
 have sp:StR V A c all W g s':=by
  obtain⟨j,q1,q2,q3,q4,q5,q6,q7⟩:=sb
  refine⟨j,⟨q1.1,⟨gs.os.trans (hgrow.os.trans q1.2.os),gs.tape.trans (hgrow.tape.trans q1.2.tape),gs.output.trans (hgrow.output.trans q1.2.output),by have:=q1.2.size;omega,fun k hk=> ?_⟩⟩,q2,q3,q4,(blk g (by omega) (by omega) (gno g (by omega))).trans q5,q6,q7⟩
  have:=q1.2.size
  exact(blk k (by omega) (by omega) (gno k (by omega))).trans (q1.2.block k hk)
 refine⟨sp,hg,hU,⟨gs.os.trans (hgrow.os.trans hGb.os),gs.tape.trans (hgrow.tape.trans hGb.tape),gs.output.trans (hgrow.output.trans hGb.output),by have:=hGb.size;omega,fun k hk hne=> ?_⟩,some ⟨g',0,none⟩,cap,es++[v], ?_⟩
 ·have:=hGb.size
  exact(blk k (by omega) (by omega) (gno k (by omega))).trans (hGb.block k hk hne)
 ·unfold XP
  rw[←hlen] at p1 p2
  have hpl:(x.push y).l=x.l++[y]:=rfl
  have all':∀i (hi:i<(es++[v]).length) (hi':i<(x.l++[y]).length),ExAt (fun q=>gx<q∧some q≠(Value.slice (some ⟨g',0,none⟩) (es.length+1) cap).ownBlock) W (es++[v])[i] (x.l++[y])[i]:=fun i hi hi'=>by
   rcases Nat.lt_or_ge i es.length with hlt|hge
   ·simp only[List.getElem_append_left hlt,List.getElem_append_left (show i<x.l.length by omega)]
    exact exs (m4 i hlt (by omega))
   ·have hie:i=es.length:=by rw[hlen] at hi;omega
    subst hie
    simp only[List.getElem_append_right (Nat.le_refl _),List.getElem_append_right (show x.l.length≤es.length by omega),Nat.sub_self,show es.length-x.l.length=0 by omega,List.getElem_cons_zero]
    exact exs exb
  refine⟨p1,p2,by rw[hlen,hpl,List.length_append,←m3];rfl,fun i hi hi'=>all' i hi hi',m5,m6,m7,by rw[hpl,List.length_append];simp;omega⟩
theorem upto_lenR(f:Bool→PS→Ex×PS)(k:Int)(s:PS):∀j,(uptoR f k j s).1.length=j:=by
 intro j
 induction j with
 |zero=>rfl
 |succ j ih=>unfold uptoR;rw[List.length_append,ih];rfl
end Go.Proofs.YtjhjdiaomnpkmaaGreatDoor
