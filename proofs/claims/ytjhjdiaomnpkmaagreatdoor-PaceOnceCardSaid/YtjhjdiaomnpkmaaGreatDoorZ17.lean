/- The landed parser. -/

import Derived.Test.YtjhjdiaomnpkmaaGreatDoorZ16
set_option maxRecDepth 100000
set_option maxHeartbeats 8000000
set_option linter.unusedVariables false
set_option linter.unusedSimpArgs false
namespace Go.Proofs.YtjhjdiaomnpkmaaGreatDoor
open Go.RowKit Go.Lib
theorem exprOk:∀d,d≤32→ExprOk d:=by
 intro d
 induction d with
 |zero=>
  intro _ V g a ts w had h
  have hA:=h.V.1.self.alloc (.cells #[.int .i64 0,.int .i64 0,.string ⟨#[]⟩,.slice none 0 0] 54)
  have HB:=yH (pbegin_not V g a ts _ (h.rel hA) (by omega))
  have HG:=yH (grown_rel (some g) hA)
  have H0:=yH (exprT_deep false ts)
  have H1:=yH (exprT_deep true ts)
  clear h hA
  constructor
  ·go_enter Tryz.func76,Tryz.ntmps76
   go_wp2_with (go_at_call 87;(with_reducible refine HB.out.mono ?_);rintro e w2 ⟨rfl,g2⟩)
   exact⟨rfl,ExPost.no H0.out rfl (grown_trans HG.out g2)⟩
  ·go_enter Tryz.func111,Tryz.ntmps111
   go_wp2_with (go_at_call 87;(with_reducible refine HB.out.mono ?_);rintro e w2 ⟨rfl,g2⟩)
   exact⟨rfl,ExPost.no H1.out rfl (grown_trans HG.out g2)⟩
 |succ d ih=>
  intro hd V g a ts w had h
  exact⟨pexpr_succ d (ih (by omega)) V g a ts w had h,pcondition_succ d (ih (by omega)) V g a ts w had h⟩
def StrPost(r:Except (Int×Int) Ex)(w0:World)(lb:Nat)(e:Ending)(w':World):Prop:=match r with
 | .ok x=>∃v:El,e= .returned (.tuple #[EV v,.int .i64 0,.int .i64 0])∧ExAt (fun k=>lb≤k) w' v x∧Rel w0 w'
 | .error E=>e= .returned (.tuple #[EV (0,0,[],none,0,0),.int .i64 E.1,.int .i64 E.2])∧Rel w0 w'
theorem StrPost.yes{r:Except (Int×Int) Ex}{lb:Nat}{w0 w':World}{e:Ending}{x:Ex}(h:r= .ok x)(hv:∃v:El,e= .returned (.tuple #[EV v,.int .i64 0,.int .i64 0])∧ExAt (fun k=>lb≤k) w' v x∧Rel w0 w'):StrPost r w0 lb e w':=by subst h;exact hv
theorem StrPost.no{r:Except (Int×Int) Ex}{lb:Nat}{w0 w':World}{e:Ending}{E:Int×Int}(h:r= .error E)(hv:e= .returned (.tuple #[EV (0,0,[],none,0,0),.int .i64 E.1,.int .i64 E.2])∧Rel w0 w'):StrPost r w0 lb e w':=by subst h;exact hv
theorem strat_world{A:Option Addr}{n c:Nat}{ts:List Tok}{w0 w:World}(hn:ts.length=n)(hf:FineP ts)(hr:Rel w0 w)(hT:ToksAt w A ts)(hc:n≤c)(hc':c≤9223372036854775807):
  ∃W:World,W=((((w.alloc (.cells #[.int .i64 0,.int .i64 0,.string ⟨#[]⟩,.slice none 0 0] 54)).alloc (.cells #[.int .i64 0] 49)).alloc (.cells #[.int .i64 0] 3)).alloc (.cells #[.slice A n c,.int .i64 0] 105))∧StP w W (w.heap.size+1+1+1) ts 0∧
   Bk W w.heap.size 54 #[.int .i64 0,.int .i64 0,.string ⟨#[]⟩,.slice none 0 0]∧Bk W (w.heap.size+1) 49 #[.int .i64 0]∧Bk W (w.heap.size+1+1) 3 #[.int .i64 0]∧Rel w0 W∧w0.heap.size≤w.heap.size∧w.heap.size+1+1+1<W.heap.size:=by
 subst hn
 have R1:=hr.self.alloc (.cells #[.int .i64 0,.int .i64 0,.string ⟨#[]⟩,.slice none 0 0] 54)
 have R2:=R1.self.alloc (.cells #[.int .i64 0] 49)
 have R3:=R2.self.alloc (.cells #[.int .i64 0] 3)
 have R4:=R3.self.alloc (.cells #[.slice A ts.length c,.int .i64 0] 105)
 have z1:(w.alloc (.cells #[.int .i64 0,.int .i64 0,.string ⟨#[]⟩,.slice none 0 0] 54)).heap.size=w.heap.size+1:=World.size_alloc ..
 have z2:((w.alloc (.cells #[.int .i64 0,.int .i64 0,.string ⟨#[]⟩,.slice none 0 0] 54)).alloc (.cells #[.int .i64 0] 49)).heap.size=w.heap.size+1+1:=by rw[World.size_alloc,z1]
 have z3:(((w.alloc (.cells #[.int .i64 0,.int .i64 0,.string ⟨#[]⟩,.slice none 0 0] 54)).alloc (.cells #[.int .i64 0] 49)).alloc (.cells #[.int .i64 0] 3)).heap.size=w.heap.size+1+1+1:=by rw[World.size_alloc,z2]
 have b1:=Bk.new w 54 #[.int .i64 0,.int .i64 0,.string ⟨#[]⟩,.slice none 0 0]
 have b2:=Bk.new (w.alloc (.cells #[.int .i64 0,.int .i64 0,.string ⟨#[]⟩,.slice none 0 0] 54)) 49 #[.int .i64 0]
 have b3:=Bk.new ((w.alloc (.cells #[.int .i64 0,.int .i64 0,.string ⟨#[]⟩,.slice none 0 0] 54)).alloc (.cells #[.int .i64 0] 49)) 3 #[.int .i64 0]
 have b4:=Bk.new (((w.alloc (.cells #[.int .i64 0,.int .i64 0,.string ⟨#[]⟩,.slice none 0 0] 54)).alloc (.cells #[.int .i64 0] 49)).alloc (.cells #[.int .i64 0] 3)) 105 #[.slice A ts.length c,.int .i64 0]
 rw[z1] at b2
 rw[z2] at b3
 rw[z3] at b4
 refine⟨_,rfl,⟨A,c,((R1.trans R2).trans R3).trans R4,by omega,hT,hf,hc,hc',by decide,b4⟩,b1.rel ((R2.trans R3).trans R4),b2.rel (R3.trans R4),b3.rel R4,(((hr.trans R1).trans R2).trans R3).trans R4,hr.size,by rw[World.size_alloc,z3];omega⟩
theorem pstrat_any(A:Option Addr)(c:Nat)(ts:List Tok)(hf:FineP ts)(hc:ts.length≤c)(hc':c≤9223372036854775807)(w0 w:World)(hr:Rel w0 w)(hT:ToksAt w A ts):
  Calls Tryz.prog 66 #[.slice A ts.length c] w (StrPost (stratT ts) w0 w.heap.size):=by
 have hmf:∀(fn:Fn)(first cap:Array Value)(w:World),(Instr.makeFunc fn first cap).run Tryz.prog w= .ok (.func fn first cap) w:=fun _ _ _ _=>rfl
 obtain⟨n,hn⟩:∃n,ts.length=n:=⟨_,rfl⟩
 rw[hn] at hc⊢
 obtain⟨W,hW,hs,hbx,hbe,hba,hrW,h0w,hgW⟩:=strat_world hn hf hr hT hc hc'
 have HW:=yH hW
 have HS:=yH hs
 have HBX:=yH hbx
 have HBE:=yH hbe
 have HBA:=yH hba
 have HRW:=yH hrW
 clear hW hs hbx hbe hba hrW hf hr hT hn
 cases hx:exprT 32 false ts with
 |error E=>
  have HSt:=yH (show stratT ts= .error E by unfold stratT;rw[hx])
  have HC:=yH (ex_no (exprOk 32 (Nat.le_refl _)) (by omega) HS.out hx)
  clear hx
  go_enter_defers Tryz.func66,Tryz.ntmps66
  go_wp2_with (go_at_call 76;rw[←HW.out];(with_reducible refine HC.out.mono ?_);rintro e w2 ⟨rfl,g2⟩)
  refine leaves_cons (f:=75) (args:= #[.pointer (some ⟨w.heap.size,0,none⟩),.pointer (some ⟨w.heap.size+1,0,none⟩),.pointer (some ⟨w.heap.size+1+1,0,none⟩)]) (by simp) (by simp[go_sem]) ?_
  refine(pcatch_panicking w.heap.size (w.heap.size+1) (w.heap.size+1+1) E.1 E.2 w2 [] (HBX.out.grown g2 (fun e=>by injection e;omega)) (HBE.out.grown g2 (fun e=>by injection e;omega)) (HBA.out.grown g2 (fun e=>by injection e;omega)) (by omega) (by omega) (by omega)).mono ?_
  rintro e u' w3 ⟨rfl,rfl,b1,b2,b3,hs3,⟨o1,o2,o3⟩,hb3⟩
  have R2:=HRW.out.grown g2 (fun k e=>by cases e;omega)
  have R3:Rel w0 w3:=⟨R2.1,⟨o1.trans R2.2.os,o2.trans R2.2.tape,o3.trans R2.2.output,Nat.le_trans R2.2.size hs3,fun k hk=>(hb3 k (by have:=R2.2.size;omega) (by omega) (by omega) (by omega)).trans (R2.2.block k hk)⟩⟩
  obtain⟨⟨y0,y1,y2,y3⟩,_⟩:=b1.four
  have y4:=b2.cell 0
  have y5:=b3.cell 0
  simp only[List.getElem?_toArray,List.getElem?_cons_zero] at y4 y5
  refine⟨_,by simp[results,Tryz.results66,go_sem,y0,y1,y2,y3,y4,y5];rfl,StrPost.no HSt.out ⟨rfl,R3⟩⟩
 |ok q=>
  obtain⟨x,r⟩:=q
  have HC:=yH (ex_yes (exprOk 32 (Nat.le_refl _)) (by omega) HS.out hx)
  have hP:∀(w2:World)(v:El),W.grownBy w2 (some (w.heap.size+1+1+1))→ExAt (fun k=>W.heap.size≤k) w2 v x→StP w w2 (w.heap.size+1+1+1) r 0→∀w3:World,(((w2.setCell ⟨w.heap.size,0,none⟩ (.int .i64 v.1)).setCell ⟨w.heap.size,1,none⟩ (.int .i64 v.2.1)).setCell ⟨w.heap.size,2,none⟩ (.string (B v.2.2.1))).setCell ⟨w.heap.size,3,none⟩ (.slice v.2.2.2.1 v.2.2.2.2.1 v.2.2.2.2.2)=w3→
    ExAt (fun k=>W.heap.size≤k) w3 v x∧StP w w3 (w.heap.size+1+1+1) r 0∧Rel w0 w3∧Bk w3 w.heap.size 54 #[.int .i64 v.1,.int .i64 v.2.1,.string (B v.2.2.1),.slice v.2.2.2.1 v.2.2.2.2.1 v.2.2.2.2.2]∧Bk w3 (w.heap.size+1) 49 #[.int .i64 0]∧Bk w3 (w.heap.size+1+1) 3 #[.int .i64 0]:=fun w2 v g2 ex s2 w3 hw3=>by
   have gp:=put4_grown w2 w.heap.size (.int .i64 v.1) (.int .i64 v.2.1) (.string (B v.2.2.1)) (.slice v.2.2.2.1 v.2.2.2.2.1 v.2.2.2.2.2)
   have hb:=(HBX.out.grown g2 (fun e=>by injection e;omega)).put4 (.int .i64 v.1) (.int .i64 v.2.1) (.string (B v.2.2.1)) (.slice v.2.2.2.1 v.2.2.2.2.1 v.2.2.2.2.2)
   rw[hw3] at gp hb
   refine⟨ex.grown gp (fun k hk=>⟨hk,fun e=>by injection e;omega⟩),s2.grown gp (fun e=>by injection e;omega) (fun k e=>by cases e;exact Nat.le_refl _),(HRW.out.grown g2 (fun k e=>by cases e;omega)).grown gp (fun k e=>by cases e;exact h0w),hb,(HBE.out.grown g2 (fun e=>by injection e;omega)).grown gp (fun e=>by injection e;omega),(HBA.out.grown g2 (fun e=>by injection e;omega)).grown gp (fun e=>by injection e;omega)⟩
  have HP:=yH hP
  clear hP
  by_cases h5:(hdT r).1=5
  ·have HSt:=yH (show stratT ts= .ok x by unfold stratT;rw[hx];simp only;unfold takeT;rw[if_pos ⟨h5,.inl rfl⟩])
   have HEn:=yH (fun(w3:World)(h:StP w w3 (w.heap.size+1+1+1) r 0)=>pend_yes w (w.heap.size+1+1+1) 0 r w3 h h5)
   clear hx h5
   go_enter_defers Tryz.func66,Tryz.ntmps66
   go_wp2_with (first
    |(go_at_call 76;rw[←HW.out];(with_reducible refine HC.out.mono ?_);rintro e w2 ⟨v,rfl,ex,s2,g2⟩;obtain⟨⟨b0,b1,b2,b3⟩,u0,u1,u2,u3⟩:=(HBX.out.grown g2 (fun e=>by injection e;omega)).four;obtain⟨w3,hw3⟩:∃w3,(((w2.setCell ⟨w.heap.size,0,none⟩ (.int .i64 v.1)).setCell ⟨w.heap.size,1,none⟩ (.int .i64 v.2.1)).setCell ⟨w.heap.size,2,none⟩ (.string (B v.2.2.1))).setCell ⟨w.heap.size,3,none⟩ (.slice v.2.2.2.1 v.2.2.2.2.1 v.2.2.2.2.2)=w3:=⟨_,rfl⟩;have HP3:=yH (HP.out w2 v g2 ex s2 w3 hw3);have HW3:=yH hw3;clear hw3 ex s2 g2)
    |(go_at_call 77;rw[HW3.out];(with_reducible refine(HEn.out _ HP3.out.2.1).mono ?_);rintro e w4 ⟨rfl,g4⟩;have G4:=yH g4;obtain⟨⟨x0,x1,x2,x3⟩,v0,v1,v2,v3⟩:=(HP3.out.2.2.2.1.grown g4 (fun e=>by injection e;omega)).four;have HBE4:=yH (HP3.out.2.2.2.2.1.grown g4 (fun e=>by injection e;omega));have HBA4:=yH (HP3.out.2.2.2.2.2.grown g4 (fun e=>by injection e;omega));have y4:=HBE4.out.cell 0;have y5:=HBA4.out.cell 0;have f4:=HBE4.out.frozen 0;have f5:=HBA4.out.frozen 0;simp only[List.getElem?_toArray,List.getElem?_cons_zero] at y4 y5;clear g4))
   have fin:∀w5:World,((((((w4.setCell ⟨w.heap.size,0,none⟩ (.int .i64 v.1)).setCell ⟨w.heap.size,1,none⟩ (.int .i64 v.2.1)).setCell ⟨w.heap.size,2,none⟩ (.string (B v.2.2.1))).setCell ⟨w.heap.size,3,none⟩ (.slice v.2.2.2.1 v.2.2.2.2.1 v.2.2.2.2.2)).setCell ⟨w.heap.size+1,0,none⟩ (.int .i64 0)).setCell ⟨w.heap.size+1+1,0,none⟩ (.int .i64 0))=w5→
     Rel w0 w5∧Bk w5 w.heap.size 54 #[.int .i64 v.1,.int .i64 v.2.1,.string (B v.2.2.1),.slice v.2.2.2.1 v.2.2.2.2.1 v.2.2.2.2.2]∧Bk w5 (w.heap.size+1) 49 #[.int .i64 0]∧Bk w5 (w.heap.size+1+1) 3 #[.int .i64 0]∧ExAt (fun k=>W.heap.size≤k) w5 v x:=fun w5 hw5=>by
    have R4:=HP3.out.2.2.1.grown G4.out (fun k e=>by cases e;omega)
    have gp:=put4_grown w4 w.heap.size (.int .i64 v.1) (.int .i64 v.2.1) (.string (B v.2.2.1)) (.slice v.2.2.2.1 v.2.2.2.2.1 v.2.2.2.2.2)
    have hb:=(HP3.out.2.2.2.1.grown G4.out (fun e=>by injection e;omega)).put4 (.int .i64 v.1) (.int .i64 v.2.1) (.string (B v.2.2.1)) (.slice v.2.2.2.1 v.2.2.2.2.1 v.2.2.2.2.2)
    have ex4:=HP3.out.1.grown G4.out (S':=fun k=>W.heap.size≤k) (fun k hk=>⟨hk,fun e=>by injection e;omega⟩)
    obtain⟨w6,hw6⟩:∃w6,(((w4.setCell ⟨w.heap.size,0,none⟩ (.int .i64 v.1)).setCell ⟨w.heap.size,1,none⟩ (.int .i64 v.2.1)).setCell ⟨w.heap.size,2,none⟩ (.string (B v.2.2.1))).setCell ⟨w.heap.size,3,none⟩ (.slice v.2.2.2.1 v.2.2.2.2.1 v.2.2.2.2.2)=w6:=⟨_,rfl⟩
    rw[hw6] at gp hb hw5
    have g1:=set_grown w6 (w.heap.size+1) 0 (.int .i64 0)
    have g2:=set_grown (w6.setCell ⟨w.heap.size+1,0,none⟩ (.int .i64 0)) (w.heap.size+1+1) 0 (.int .i64 0)
    rw[hw5] at g2
    refine⟨((R4.grown gp (fun k e=>by cases e;exact h0w)).grown g1 (fun k e=>by cases e;omega)).grown g2 (fun k e=>by cases e;omega),(hb.grown g1 (fun e=>by injection e;omega)).grown g2 (fun e=>by injection e;omega), ?_, ?_, ?_⟩
    ·exact((HBE4.out.grown gp (fun e=>by injection e;omega)).set_ 0 (.int .i64 0):Bk (w6.setCell ⟨w.heap.size+1,0,none⟩ (.int .i64 0)) _ _ _).grown g2 (fun e=>by injection e;omega)
    ·rw[←hw5]
     exact((HBA4.out.grown gp (fun e=>by injection e;omega)).grown g1 (fun e=>by injection e;omega)).set_ 0 (.int .i64 0)
    ·exact((ex4.grown gp (S':=fun k=>W.heap.size≤k) (fun k hk=>⟨hk,fun e=>by injection e;omega⟩)).grown g1 (S':=fun k=>W.heap.size≤k) (fun k hk=>⟨hk,fun e=>by injection e;omega⟩)).grown g2 (fun k hk=>⟨hk,fun e=>by injection e;omega⟩)
   obtain⟨w5,hw5⟩:∃w5,((((((w4.setCell ⟨w.heap.size,0,none⟩ (.int .i64 v.1)).setCell ⟨w.heap.size,1,none⟩ (.int .i64 v.2.1)).setCell ⟨w.heap.size,2,none⟩ (.string (B v.2.2.1))).setCell ⟨w.heap.size,3,none⟩ (.slice v.2.2.2.1 v.2.2.2.2.1 v.2.2.2.2.2)).setCell ⟨w.heap.size+1,0,none⟩ (.int .i64 0)).setCell ⟨w.heap.size+1+1,0,none⟩ (.int .i64 0))=w5:=⟨_,rfl⟩
   obtain⟨R5,k1,k2,k3,k4⟩:=fin w5 hw5
   rw[hw5]
   clear fin hw5
   refine leaves_cons (f:=75) (args:= #[.pointer (some ⟨w.heap.size,0,none⟩),.pointer (some ⟨w.heap.size+1,0,none⟩),.pointer (some ⟨w.heap.size+1+1,0,none⟩)]) (by simp) (by simp[go_sem]) ?_
   refine(pcatch_idle w.heap.size (w.heap.size+1) (w.heap.size+1+1) w5).mono ?_
   rintro e u' w7 ⟨rfl,rfl,rfl⟩
   have R7:=R5.self.alloc (.cells #[.int .i64 0,.int .i64 0] 102)
   obtain⟨⟨z0,z1,z2,z3⟩,_⟩:=(k1.rel R7).four
   have z4:=(k2.rel R7).cell 0
   have z5:=(k3.rel R7).cell 0
   have k7:=k4.rel R7
   have R8:=R5.trans R7
   obtain⟨w7,hw7⟩:∃w7,w5.alloc (.cells #[.int .i64 0,.int .i64 0] 102)=w7:=⟨_,rfl⟩
   simp only[List.getElem?_toArray,List.getElem?_cons_zero] at z4 z5
   rw[hw7] at z0 z1 z2 z3 z4 z5 k7 R8⊢
   refine⟨.tuple #[EV v,.int .i64 0,.int .i64 0],by simp[results,Tryz.results66,go_sem,z0,z1,z2,z3,z4,z5],StrPost.yes HSt.out ⟨v,rfl,k7.weak fun k hk=>by omega,R8⟩⟩
  ·have HSt:=yH (show stratT ts= .error (80,atT r) by unfold stratT;rw[hx];simp only;unfold takeT;rw[if_neg (fun hh=>h5 hh.1)])
   have HEn:=yH (fun(w3:World)(h:StP w w3 (w.heap.size+1+1+1) r 0)=>pend_not w (w.heap.size+1+1+1) 0 r w3 h h5)
   clear hx h5
   go_enter_defers Tryz.func66,Tryz.ntmps66
   go_wp2_with (first
    |(go_at_call 76;rw[←HW.out];(with_reducible refine HC.out.mono ?_);rintro e w2 ⟨v,rfl,ex,s2,g2⟩;obtain⟨⟨b0,b1,b2,b3⟩,u0,u1,u2,u3⟩:=(HBX.out.grown g2 (fun e=>by injection e;omega)).four;obtain⟨w3,hw3⟩:∃w3,(((w2.setCell ⟨w.heap.size,0,none⟩ (.int .i64 v.1)).setCell ⟨w.heap.size,1,none⟩ (.int .i64 v.2.1)).setCell ⟨w.heap.size,2,none⟩ (.string (B v.2.2.1))).setCell ⟨w.heap.size,3,none⟩ (.slice v.2.2.2.1 v.2.2.2.2.1 v.2.2.2.2.2)=w3:=⟨_,rfl⟩;have HP3:=yH (HP.out w2 v g2 ex s2 w3 hw3);have HW3:=yH hw3;clear hw3 ex s2 g2)
    |(go_at_call 77;rw[HW3.out];(with_reducible refine(HEn.out _ HP3.out.2.1).mono ?_);rintro e w4 ⟨rfl,g4⟩))
   refine leaves_cons (f:=75) (args:= #[.pointer (some ⟨w.heap.size,0,none⟩),.pointer (some ⟨w.heap.size+1,0,none⟩),.pointer (some ⟨w.heap.size+1+1,0,none⟩)]) (by simp) (by simp[go_sem]) ?_
   refine(pcatch_panicking w.heap.size (w.heap.size+1) (w.heap.size+1+1) 80 (atT r) w4 [] (HP3.out.2.2.2.1.grown g4 (fun e=>by injection e;omega)) (HP3.out.2.2.2.2.1.grown g4 (fun e=>by injection e;omega)) (HP3.out.2.2.2.2.2.grown g4 (fun e=>by injection e;omega)) (by omega) (by omega) (by omega)).mono ?_
   rintro e u' w5 ⟨rfl,rfl,b1,b2,b3,hs3,⟨o1,o2,o3⟩,hb3⟩
   have R2:=HP3.out.2.2.1.grown g4 (fun k e=>by cases e;omega)
   have hz4:w.heap.size+1+1<w4.heap.size:=by have:=(HP3.out.2.2.2.2.2.grown g4 (fun e=>by injection e;omega)).lt;omega
   have R3:Rel w0 w5:=⟨R2.1,⟨o1.trans R2.2.os,o2.trans R2.2.tape,o3.trans R2.2.output,Nat.le_trans R2.2.size hs3,fun k hk=>(hb3 k (by omega) (by omega) (by omega) (by omega)).trans (R2.2.block k hk)⟩⟩
   obtain⟨⟨y0,y1,y2,y3⟩,_⟩:=b1.four
   have y4:=b2.cell 0
   have y5:=b3.cell 0
   simp only[List.getElem?_toArray,List.getElem?_cons_zero] at y4 y5
   refine⟨_,by simp[results,Tryz.results66,go_sem,y0,y1,y2,y3,y4,y5];rfl,StrPost.no HSt.out ⟨rfl,R3⟩⟩
end Go.Proofs.YtjhjdiaomnpkmaaGreatDoor

namespace Go.Proofs.YtjhjdiaomnpkmaaGreatDoor
open Go.RowKit
open Go.Lib
attribute [local go_sem] Oper.semAt_some
theorem put_ne(W:World)(k j:Nat)(o:Obj)(h:j≠k):(W.putObj k o).heap[j]?=W.heap[j]?:=World.putObj_heap_other h
theorem rel_put{w W:World}(h:Rel w W){k:Nat}(hk:w.heap.size≤k)(o:Obj):Rel w (W.putObj k o):=h.grown (grownBy_putObj' W k o) (fun j e=>by cases e;exact hk)
theorem heap_rel{W W':World}(h:Rel W W'){k:Nat}{o:Obj}(hk:W.heap[k]?=some o):W'.heap[k]?=some o:=by
 have hl:k<W.heap.size:=(Array.getElem?_eq_some_iff.1 hk).1
 exact(h.2.block k hl).trans hk
def roundEnds(d e:Nat)(I:World→Prop)(Ix:World→Prop)(W:World):Exit→Act→World→Prop
 | .normal,_,W'=>(W'.heap[d]?=W.heap[d]?∧W'.heap[e]?=W.heap[e]?)∧I W'
 | .ret,_,W'=>(W'.heap[d]?=W.heap[d]?∧W'.heap[e]?=W.heap[e]?)∧Ix W'
 | .exit _,_,_=>False
 | .goto _,_,_=>False
 | .panic _,_,_=>False
 | .outgrown,_,_=>False
def Keep(m:Nat)(W W':World):Prop:=W.heap.size≤W'.heap.size∧∀k,m≤k→k<W.heap.size→W'.heap[k]?=W.heap[k]?
theorem Keep.trans{m:Nat}{W W' W'':World}(h:Keep m W W')(h':Keep m W' W''):Keep m W W'':=
 ⟨Nat.le_trans h.1 h'.1,fun k hk hl=>(h'.2 k hk (Nat.lt_of_lt_of_le hl h.1)).trans (h.2 k hk hl)⟩
theorem Keep.rel{m:Nat}{W W':World}(h:Rel W W'):Keep m W W':=⟨h.size,fun k _ hl=>h.2.block k hl⟩
theorem Keep.put{m:Nat}(W:World){j:Nat}(hj:j<m)(o:Obj):Keep m W (W.putObj j o):=
 ⟨by rw[World.putObj_size];exact Nat.le_refl _,fun k hk _=>World.putObj_heap_other (by omega)⟩
theorem Keep.set{m:Nat}(W:World){j:Nat}(hj:j<m)(i:Nat)(v:Value):Keep m W (W.setCell ⟨j,i,none⟩ v):=
 ⟨by rw[World.size_setCell];exact Nat.le_refl _,fun k hk _=>Below.heap_setCell W ⟨j,i,none⟩ v _ (by simp only;omega)⟩
theorem Keep.bk{m:Nat}{W W':World}(h:Keep m W W'){g:Nat}{t:TypeId}{cs:Array Value}(hb:Bk W g t cs)(hg:m≤g):Bk W' g t cs:=(h.2 g hg (Bk.lt hb)).trans hb
def IterOk(n:Nat)(f:FuncId)(caps:Array Value)(ys:List (Array Value))(Cap:World→Prop):Prop:=
 ∀(l:Nat)(J:List (Array Value)→Nat→World→Prop) (Jx:World→Prop),
  (∀pre m W W',J pre m W→Rel W W'→J pre m W')→
  (∀pre m W,J pre m W→Cap W∧m≤W.heap.size)→
  (∀pre m y W,J pre m W→(∃rest,ys=pre++y::rest)→YieldAt Fence.wide (n-1) Tryz.prog l y W fun e W'=>(e= .returned (.bool true)∧J (pre++[y]) W'.heap.size W'∧Keep m W W')∨(e= .returned (.bool false)∧Jx W'))→
  ∀m W,J [] m W→CallsIn Fence.wide n Tryz.prog f (#[.func (.yield l) #[] #[]]++caps) W fun e W'=>(∃v,e= .returned v)∧((∃m',J ys m' W')∨Jx W')
theorem wpIn_iter{n:Nat}{g:Operand}{ps:Array Tmp}{assign body:Code}{Q:Exit→Act→World→Prop}{a:Act}{w:World}(h1:2≤n)(f:FuncId)(fnc:Func)(hfn:Tryz.prog.funcs[f]?=some fnc)(henter:∀args w,(callFunc f args).run Tryz.prog w= .ok (.enter f args) w)
  (caps:Array Value) (ys:List (Array Value)) (Cap:World→Prop)
  (hg:a.eval g= .func (.func f) #[] caps) (hps:∀y∈ys,y.size=ps.size)
  (hIter:IterOk (n-1) f caps ys Cap)
  (I:List (Array Value)→Nat→World→Prop) (Ix:World→Prop)
  (hIrel:∀pre m W W',I pre m W→Rel W W'→I pre m W') (hIw:∀pre m W,I pre m W→Cap W)
  (hIl:∀pre m W o,I pre m W→I pre m (W.putObj (w.heap.size+1) o)) (hIxl:∀W o,Ix W→Ix (W.putObj (w.heap.size+1) o))
  (h0:∀o o',I [] (w.heap.size+2) ((w.alloc o).alloc o')) (P1:List (Array Value)→Array Value→Act→World→Prop) (hP1:∀pre y a' W o,P1 pre y a' W→P1 pre y a' (W.putObj (w.heap.size+1) o))
  (hassign:∀(l:Nat)(pre:List (Array Value)) (m:Nat) (y:Array Value) (W:World) (K:Act→World→Prop),I pre m W→(∃rest,ys=pre++y::rest)→w.heap.size+1<W.heap.size→(∀a' W',Rel W W'→P1 pre y a' W'→K a' W')→
   assign.wpIn (Fence.wide.inRound l) (n-1-1) Tryz.prog (Exit.then K (fun _ _ _=>False)) {tmps:=(ps.zip y).foldl (fun t (p,v)=>t.setIfInBounds p v) a.tmps,defers:=[]} W)
  (hbody:∀(l:Nat)(pre:List (Array Value)) (m:Nat) (y:Array Value) (a':Act) (W:World),I pre m W→w.heap.size+1<m→P1 pre y a' W→(∃rest,ys=pre++y::rest)→m≤W.heap.size→
   body.wpIn (Fence.wide.inRound l) (n-1-1) Tryz.prog (roundEnds w.heap.size (w.heap.size+1) (fun W'=>I (pre++[y]) W'.heap.size W'∧Keep m W W') Ix W) a' W)
  (hdone:∀m W,I ys m W→W.heap[w.heap.size]?=some (.deferred (some []))→Q .normal {a with defers:={target:= .collected w.heap.size,args:= #[]}::a.defers} W)
  (hstop:∀W,Ix W→W.heap[w.heap.size]?=some (.deferred (some []))→Code.ret.wpIn Fence.wide n Tryz.prog Q {a with defers:={target:= .collected w.heap.size,args:= #[]}::a.defers} W):
  (Code.rangeFunc g ps assign body).wpIn Fence.wide n Tryz.prog Q a w:=by
 refine wpIn_rangeFunc ?_
 intro fn _
 obtain⟨D,hD⟩:∃D,D=w.heap.size:=⟨_,rfl⟩
 obtain⟨mk,hmk⟩:∃mk:LoopState→Option Code→Loop,mk=fun st pe=>{state:=st,pending:=pe,fn,tmps:=a.tmps,params:=ps,assign,body,defers:=w.heap.size}:=⟨_,rfl⟩
 obtain⟨W1,hW1⟩:∃W1,(w.alloc (.deferred (some []))).alloc (.loop (mk .ready none))=W1:=⟨_,rfl⟩
 have hL1:W1.heap[D+1]?=some (.loop (mk .ready none)):=by
  rw[←hW1,hD]
  have:=World.alloc_heap_new (w.alloc (.deferred (some []))) (.loop (mk .ready none))
  rwa [World.size_alloc] at this
 have hK1:W1.heap[D]?=some (.deferred (some [])):=by
  rw[←hW1,hD];exact(Below.heap_alloc _ _ _ (by simp)).trans (World.alloc_heap_new w _)
 have hI1:I [] (D+2) W1:=by rw[←hW1,hD];exact h0 _ _
 have hS1:D+2≤W1.heap.size:=by have:=(Array.getElem?_eq_some_iff.1 hL1).1;omega
 rw[←hD] at hIl hIxl hP1 hassign hbody hdone hstop
 refine⟨D+1,[{target:= .collected D,args:= #[]}],W1,{target:= .fn (.func f) caps,args:= #[.func (.yield (D+1)) #[] #[]]},W1,f,
  #[.func (.yield (D+1)) #[] #[]]++caps,W1, ?_, ?_,fun _ _=>trivial, ?_,fun _=>by omega, ?_⟩
 ·rw[←hW1,hmk,hD];exact run_enterLoop_outer _ _ _ _ _
 ·simp only[resolve,hg]
  simp[go_sem]
 ·simp[invoke,go_sem,henter]
 ·refine(hIter (D+1)
   (fun pre m W=>I pre m W∧(D+1<m∧m≤W.heap.size)∧W.heap[D+1]?=some (.loop (mk .ready none))∧W.heap[D]?=some (.deferred (some [])))
   (fun W=>Ix W∧W.heap[D+1]?=some (.loop (mk .done (some .ret)))∧W.heap[D]?=some (.deferred (some [])))
   ?_ ?_ ?_ (D+2) W1 ⟨hI1,⟨by omega,hS1⟩,hL1,hK1⟩).mono ?_
  ·rintro pre m W W' ⟨k1,km,k2,k3⟩ hr
   exact⟨hIrel _ _ _ _ k1 hr,⟨km.1,Nat.le_trans km.2 hr.size⟩,heap_rel hr k2,heap_rel hr k3⟩
  ·rintro pre m W ⟨k1,km,_,_⟩
   exact⟨hIw _ _ _ k1,km.2⟩
  ·rintro pre m y W ⟨k1,km,k2,k3⟩ hrest
   have hlt:D+1<W.heap.size:=(Array.getElem?_eq_some_iff.1 k2).1
   have hyp:ps.size=y.size:=(hps y (by obtain⟨rest,e⟩:=hrest;rw[e];simp)).symm
   have hy:=run_yield (P:=Tryz.prog) (args:=y) k2 (by rw[hmk];exact hyp.symm)
   refine⟨_,_,_,_,hy, ?_⟩
   have e1:(mk .ready none).fn=fn:=by rw[hmk]
   have e2:(mk .ready none).tmps=a.tmps:=by rw[hmk]
   have e3:(mk .ready none).assign=assign:=by rw[hmk]
   have e4:(mk .ready none).body=body:=by rw[hmk]
   have e5:(mk .ready none).params=ps:=by rw[hmk]
   rw[e1,e2,e3,e4,e5]
   refine roundIn_of_wpIn trivial (hassign _ pre m y W _ k1 hrest hlt fun a' Wa hra hp1=>⟨_,run_beginRound (heap_rel hra k2) (by rw[hmk]), ?_⟩)
   have m1:{mk .ready none with state:= .busy}=mk .busy none:=by rw[hmk]
   rw[m1]
   have k1a:=hIrel _ _ _ _ k1 hra
   have k2a:=heap_rel hra k2
   have k3a:=heap_rel hra k3
   have hlta:D+1<Wa.heap.size:=(Array.getElem?_eq_some_iff.1 k2a).1
   have k2':(Wa.putObj (D+1) (.loop (mk .busy none))).heap[D+1]?=some (.loop (mk .busy none)):=World.putObj_heap_same hlta
   have k3':=(World.putObj_heap_other (w:=Wa) (o:= .loop (mk .busy none)) (show D≠D+1 by omega)).trans k3a
   have kk:=(Keep.rel (m:=m) hra).trans (Keep.put Wa km.1 (.loop (mk .busy none)))
   refine wpIn_mono (hbody _ pre m y a' _ (hIl _ _ _ _ k1a) km.1 (hP1 _ _ _ _ _ hp1) hrest (by rw[World.putObj_size];exact Nat.le_trans km.2 hra.size)) ?_
   have fin:∀(jump:Option Code)(W3:World),W3.heap[D+1]?=(Wa.putObj (D+1) (.loop (mk .busy none))).heap[D+1]?→
     (Instr.endRound (D+1) jump).run Tryz.prog W3= .ok (.bool jump.isNone) (W3.putObj (D+1) (.loop (mk (if jump.isNone then .ready else .done) jump)))∧D+1<W3.heap.size:=fun jump W3 hk=>by
    have h3:=hk.trans k2'
    have:=run_endRound (P:=Tryz.prog) jump h3
    have m2:{mk .busy none with state:=(if jump.isNone then LoopState.ready else .done),pending:=jump}=mk (if jump.isNone then .ready else .done) jump:=by rw[hmk]
    rw[m2] at this
    exact⟨this,(Array.getElem?_eq_some_iff.1 h3).1⟩
   rintro e a3 W3 hp
   cases e with
   |normal=>
    obtain⟨⟨j4,j5⟩,hi3,hk3⟩:=hp
    obtain⟨hr,hl3⟩:=fin none W3 j5
    exact⟨_,_,hr,.inl ⟨rfl,⟨by rw[World.putObj_size];exact hIl _ _ _ _ hi3,⟨by rw[World.putObj_size];exact hl3,Nat.le_refl _⟩,World.putObj_heap_same hl3,(World.putObj_heap_other (by omega)).trans (j4.trans k3')⟩,(kk.trans hk3).trans (Keep.put W3 km.1 _)⟩⟩
   |ret=>
    obtain⟨⟨j4,j5⟩,hi3⟩:=hp
    obtain⟨hr,hl3⟩:=fin (some .ret) W3 j5
    exact⟨_,_,hr,.inr ⟨rfl,hIxl _ _ hi3,World.putObj_heap_same hl3,(World.putObj_heap_other (by omega)).trans (j4.trans k3')⟩⟩
   |exit id=>exact hp.elim
   |goto t=>exact hp.elim
   |panic ch=>exact hp.elim
   |outgrown=>exact hp.elim
  ·rintro e W2 ⟨⟨v,rfl⟩,(⟨m',hi,_,hl,hk⟩|⟨hi,hl,hk⟩)⟩
   ·have hend:=run_endLoop (P:=Tryz.prog) hl (by rw[hmk];simp)
    have m3:(mk .ready none).pending=none:=by rw[hmk]
    rw[m3] at hend
    exact⟨none,_,hend,hdone _ _ (hIl _ _ _ _ hi) ((World.putObj_heap_other (by omega)).trans hk)⟩
   ·have hend:=run_endLoop (P:=Tryz.prog) hl (by rw[hmk];simp)
    have m3:(mk .done (some .ret)).pending=some .ret:=by rw[hmk]
    rw[m3] at hend
    exact⟨some .ret,_,hend,hstop _ (hIxl _ _ hi) ((World.putObj_heap_other (by omega)).trans hk)⟩
end Go.Proofs.YtjhjdiaomnpkmaaGreatDoor

namespace Go.Proofs.YtjhjdiaomnpkmaaGreatDoor
open Go.RowKit Go.Lib
theorem lclone_any(s:ByteArray)(hs:s.size≤1000000000)(w0 w:World)(hr:Rel w0 w):Calls Tryz.prog 108 #[.string s] w fun e w'=>e= .returned (.string s)∧Rel w0 w':=by
 have hc:=fun w=>Tryz.stringslite_Clone s w (by omega)
 go_enter Tryz.func108,Tryz.ntmps108
 go_wp2_with (go_at_call 123;refine(hc _).mono ?_;rintro e w' ⟨rfl,hw⟩)
 go_ret
 exact⟨rfl,hr.step hw⟩
theorem lclone_of(s t:ByteArray)(h:Hid (s=t))(hs:t.size≤1000000000)(w0 w:World)(hr:Rel w0 w):Calls Tryz.prog 108 #[.string s] w fun e w'=>e= .returned (.string t)∧Rel w0 w':=by
 rw[h.out];exact lclone_any t hs w0 w hr
theorem run_list(l:List UInt8)(m:Nat)(hm:(l.takeWhile isPt).length=m):m≤l.length∧(∀j (h:j<(B l).size),j<m→isPt ((B l)[j]'h)=true)∧(∀h:m<(B l).size,isPt ((B l)[m]'h)=false):=by
 obtain⟨m',h1,h2,h3,_,h5,_⟩:=run_at (B l) 0 (by omega)
 rw[B_list,List.drop_zero,hm] at h5
 subst h5
 rw[B_size] at h1
 refine⟨by omega,fun j h hj=> ?_,fun h=> ?_⟩
 ·have:=h2 j (by omega) hj
  simpa using this
 ·have:=h3 (by omega)
  simpa using this
theorem lpiece_list(c:UInt8)(t:List UInt8)(hl:t.length+1≤2000)(w0 w:World)(hr:Rel w0 w):
  Calls Tryz.prog 86 #[.string (B (c::t))] w fun e w'=>e= .returned (.string (B (pcOf (c::t))))∧Rel w0 w':=by
 obtain⟨m,hm⟩:∃m,((c::t).takeWhile isPt).length=m:=⟨_,rfl⟩
 obtain⟨hml,hin,hout⟩:=run_list (c::t) m hm
 obtain⟨X,hX⟩:∃X,X=B (pcOf (c::t)):=⟨_,rfl⟩
 have hcut:(B (c::t)).extract 0 (max m 1)=X:=by
  rw[hX,(pc_max c t).1,hm,B_cut,B_list];rfl
 have zX:X.size≤1000000000:=by rw[hX,B_size];have:=pc_len_le (c::t);simp only[List.length_cons] at this;omega
 have HB:=B_cons_size c t
 have HX:=yH hX
 have HIN:=yH hin
 have HOUT:=yH hout
 have HR:=yH hr
 simp only[List.length_cons] at hml
 clear hm hin hout hX
 go_enter Tryz.func86,Tryz.ntmps86
 go_wp2_with (fail)
 go_loop [3] (fun k=>∃q:Nat,q≤m∧k= .int .i64 (q:Int)) (fun k=>m-(RowKit.intOf k).toNat)
 case atStart=>exact⟨0,by omega,rfl⟩
 case round=>
  obtain⟨q,hq,rfl⟩:=hrel
  by_cases hqm:q<m
  ·have hqs:q<(B (c::t)).size:=by omega
   have ht:=HIN.out q hqs hqm
   obtain⟨y,hy⟩:∃y,y=(B (c::t))[q]'hqs:=⟨_,rfl⟩
   rw[←hy] at ht
   have hg:∀h,(B (c::t))[q]'h=y:=fun h=>hy.symm
   have HY:=yH ht
   clear hy ht
   go_wp2_with (go_at_call 107;(with_reducible refine(bool_at true (lpart_any y _) HY).mono ?_);rintro e w' ⟨rfl,rfl⟩)
   go_round
   case rel=>exact⟨q+1,by omega,by go_num⟩
   case measure=>simp[RowKit.intOf];omega
  ·obtain rfl:q=m:=by omega
   have hend:(∃(hlt':q<(B (c::t)).size) (y:UInt8),(∀h,(B (c::t))[q]'h=y)∧Hid (isPt y=false))∨q=t.length+1:=by
    rcases Nat.lt_or_ge q (B (c::t)).size with h|h
    ·exact .inl ⟨h,_,fun _=>rfl,yH (HOUT.out h)⟩
    ·exact .inr (by omega)
   rcases hend with ⟨hqs,y,hg,HY⟩|hqs
   ·rcases Nat.eq_zero_or_pos q with h0|h0
    ·subst h0
     have HE:=yH (show(B (c::t)).extract 0 (max (0:Int) 1).toNat=X from hcut)
     clear hcut
     go_wp2_with (first
      |(go_at_call 107;(with_reducible refine(bool_at false (lpart_any y _) HY).mono ?_);rintro e w' ⟨rfl,rfl⟩)
      |(go_at_call 108;(with_reducible refine(lclone_of _ X HE zX _ _ HR.out).mono ?_);rintro e w1 ⟨rfl,h1⟩))
     go_ret
     exact⟨ret_str HX.out,h1⟩
    ·have HE:=yH (show(B (c::t)).extract 0 (max (q:Int) 1).toNat=X by rw[show(max (q:Int) 1).toNat=max q 1 by omega];exact hcut)
     clear hcut
     go_wp2_with (first
      |(go_at_call 107;(with_reducible refine(bool_at false (lpart_any y _) HY).mono ?_);rintro e w' ⟨rfl,rfl⟩)
      |(go_at_call 108;(with_reducible refine(lclone_of _ X HE zX _ _ HR.out).mono ?_);rintro e w1 ⟨rfl,h1⟩))
     go_ret
     exact⟨ret_str HX.out,h1⟩
   ·have HE:=yH (show(B (c::t)).extract 0 (max ((t.length:Int)+1) 1).toNat=X by rw[show(max ((t.length:Int)+1) 1).toNat=max q 1 by omega];exact hcut)
    clear hcut
    go_wp2_with (go_at_call 108;(with_reducible refine(lclone_of _ X HE zX _ _ HR.out).mono ?_);rintro e w1 ⟨rfl,h1⟩)
    go_ret
    exact⟨ret_str HX.out,h1⟩
def TokEnd'(l:List UInt8)(e:Ending):Prop:=
 (∃k n,told l=some (k,n)∧e= .returned (.tuple #[TK (k,l,n,0),.int .i64 0]))∨(told l=none∧e= .returned (.tuple #[TK (0,[],0,0),.int .i64 61]))
theorem ltoken_any(c:UInt8)(t:List UInt8)(hl:t.length+1≤2000)(w0 w:World)(hr:Rel w0 w):
  Calls Tryz.prog 85 #[.string (B (c::t))] w fun e w'=>TokEnd' (c::t) e∧Rel w0 w':=by
 have H0:=B_zero c t
 have HBs:=B_cons_size c t
 have z:=hr.size
 have hr1:=hr.alloc (.cells #[.int .i64 0,.string ⟨#[]⟩,.int .i64 0,.int .i64 0] 87)
 have HB:=yH (Bk.new w 87 #[.int .i64 0,.string ⟨#[]⟩,.int .i64 0,.int .i64 0])
 have HR:=yH hr1
 cases hs:isSg c
 ·have HS:=yH hs
  have hT:=told_not (t:=t) hs
  obtain⟨l,hL⟩:∃l,l=c::t:=⟨_,rfl⟩
  rw[←hL] at hT H0 HBs⊢
  have hBL:(B l).data.toList=l:=B_list l
  have hz:(B l).size≤9223372036854775807:=by omega
  clear hL hs hr1
  cases hw:isWord l
  ·cases hn:isName l
   ·obtain⟨n,hN⟩:∃n,cnt l 100000=n:=⟨_,rfl⟩
    have HWd:=yH (show isWord (B l).data.toList=false by rw[hBL];exact hw)
    have HNd:=yH (show isName (B l).data.toList=false by rw[hBL];exact hn)
    have HCd:=yH (show cnt (B l).data.toList 100000=n by rw[hBL];exact hN)
    by_cases hc:0≤n
    ·have HF:=yH (hT.trans (tok_count hw hn (by rw[hN];exact hc)))
     rw[hN] at HF
     clear hw hn hN hBL hT
     go_enter Tryz.func85,Tryz.ntmps85
     go_wp2_with (first
      |(go_at_call 102;(with_reducible refine(bool_at false (lsign_any c _) HS).mono ?_);rintro e w' ⟨rfl,rfl⟩)
      |(go_at_call 103;(with_reducible refine(bool_at false (lword_any _ _ _ HR.out.self) HWd).mono ?_);rintro e w1 ⟨rfl,h1⟩)
      |(go_at_call 104;(with_reducible refine(bool_at false (lname_any _ hz _ _ h1.self) HNd).mono ?_);rintro e w2 ⟨rfl,h2⟩)
      |(go_at_call 105;(with_reducible refine(int_at n (count_any _ _ hz _ _ h2.self) HCd).mono ?_);rintro e w3 ⟨rfl,h3⟩;obtain⟨⟨c0,c1,c2,c3⟩,f0,f1,f2,f3⟩:=(((HB.out.rel h1).rel h2).rel h3).four))
     obtain⟨⟨r0,r1,r2,r3⟩,_⟩:=((((HB.out.rel h1).rel h2).rel h3).put4 (.int .i64 2) (.string (B l)) (.int .i64 n) (.int .i64 0)).four
     exact bodyPost_ret (v:= .tuple #[TK (2,l,n,0),.int .i64 0]) (by simp[results,Tryz.results85,go_sem,r0,r1,r2,r3]) rfl ⟨.inl ⟨2,n,HF.out,rfl⟩,(((HR.out.trans h1).trans h2).trans h3).put4 z _ _ _ _⟩
    ·have hF:=hT.trans (tok_money hw hn (by rw[hN];exact hc))
     obtain⟨m,hm⟩:∃m,prs1 l=m:=⟨_,rfl⟩
     obtain⟨e,he⟩:∃m,prs2 l=m:=⟨_,rfl⟩
     have HM1:=yH (show prs1 (B l).data.toList=m by rw[hBL];exact hm)
     have HM2:=yH (show prs2 (B l).data.toList=e by rw[hBL];exact he)
     have hP:(told l=some (3,m)∧e=0)∨(told l=none∧e≠0):=by
      unfold prs1 at hm
      unfold prs2 at he
      cases h:prs l with
      |none=>rw[h] at he hF;exact .inr ⟨hF,by simp at he;omega⟩
      |some a=>rw[h] at he hm hF;exact .inl ⟨by rw[hF];simp at hm;rw[←hm];rfl,by simp at he;omega⟩
     clear hw hn hN hBL hT hm he hF
     rcases hP with ⟨hP,rfl⟩|⟨hP,he⟩
     ·have HF:=yH hP
      clear hP
      go_enter Tryz.func85,Tryz.ntmps85
      go_wp2_with (first
       |(go_at_call 102;(with_reducible refine(bool_at false (lsign_any c _) HS).mono ?_);rintro e w' ⟨rfl,rfl⟩)
       |(go_at_call 103;(with_reducible refine(bool_at false (lword_any _ _ _ HR.out.self) HWd).mono ?_);rintro e w1 ⟨rfl,h1⟩)
       |(go_at_call 104;(with_reducible refine(bool_at false (lname_any _ hz _ _ h1.self) HNd).mono ?_);rintro e w2 ⟨rfl,h2⟩)
       |(go_at_call 105;(with_reducible refine(int_at n (count_any _ _ hz _ _ h2.self) HCd).mono ?_);rintro e w3 ⟨rfl,h3⟩)
       |(go_at_call 106;(with_reducible refine(two_at m 0 (parse_any _ hz _ _ h3.self) HM1 HM2).mono ?_);rintro e w4 ⟨rfl,h4⟩;obtain⟨⟨c0,c1,c2,c3⟩,f0,f1,f2,f3⟩:=((((HB.out.rel h1).rel h2).rel h3).rel h4).four))
      obtain⟨⟨r0,r1,r2,r3⟩,_⟩:=(((((HB.out.rel h1).rel h2).rel h3).rel h4).put4 (.int .i64 3) (.string (B l)) (.int .i64 m) (.int .i64 0)).four
      exact bodyPost_ret (v:= .tuple #[TK (3,l,m,0),.int .i64 0]) (by simp[results,Tryz.results85,go_sem,r0,r1,r2,r3]) rfl ⟨.inl ⟨3,m,HF.out,rfl⟩,((((HR.out.trans h1).trans h2).trans h3).trans h4).put4 z _ _ _ _⟩
     ·have HF:=yH hP
      have he':(e==0)=false:=by simpa using he
      clear hP he
      go_enter Tryz.func85,Tryz.ntmps85
      go_wp2_with (first
       |(go_at_call 102;(with_reducible refine(bool_at false (lsign_any c _) HS).mono ?_);rintro e w' ⟨rfl,rfl⟩)
       |(go_at_call 103;(with_reducible refine(bool_at false (lword_any _ _ _ HR.out.self) HWd).mono ?_);rintro e w1 ⟨rfl,h1⟩)
       |(go_at_call 104;(with_reducible refine(bool_at false (lname_any _ hz _ _ h1.self) HNd).mono ?_);rintro e w2 ⟨rfl,h2⟩)
       |(go_at_call 105;(with_reducible refine(int_at n (count_any _ _ hz _ _ h2.self) HCd).mono ?_);rintro e w3 ⟨rfl,h3⟩)
       |(go_at_call 106;(with_reducible refine(two_at m e (parse_any _ hz _ _ h3.self) HM1 HM2).mono ?_);rintro e w4 ⟨rfl,h4⟩;obtain⟨⟨c0,c1,c2,c3⟩,f0,f1,f2,f3⟩:=((((HB.out.rel h1).rel h2).rel h3).rel h4).four))
      obtain⟨⟨r0,r1,r2,r3⟩,_⟩:=(((((HB.out.rel h1).rel h2).rel h3).rel h4).put4 (.int .i64 0) (.string ⟨#[]⟩) (.int .i64 0) (.int .i64 0)).four
      exact bodyPost_ret (v:= .tuple #[.agg #[.int .i64 0,.string ⟨#[]⟩,.int .i64 0,.int .i64 0],.int .i64 61]) (by simp[results,Tryz.results85,go_sem,r0,r1,r2,r3]) rfl ⟨.inr ⟨HF.out,rfl⟩,((((HR.out.trans h1).trans h2).trans h3).trans h4).put4 z _ _ _ _⟩
   ·have HF:=yH (hT.trans (tok_word (.inr hn)))
    have HWd:=yH (show isWord (B l).data.toList=false by rw[hBL];exact hw)
    have HNd:=yH (show isName (B l).data.toList=true by rw[hBL];exact hn)
    clear hw hn hBL hT
    go_enter Tryz.func85,Tryz.ntmps85
    go_wp2_with (first
     |(go_at_call 102;(with_reducible refine(bool_at false (lsign_any c _) HS).mono ?_);rintro e w' ⟨rfl,rfl⟩)
     |(go_at_call 103;(with_reducible refine(bool_at false (lword_any _ _ _ HR.out.self) HWd).mono ?_);rintro e w1 ⟨rfl,h1⟩)
     |(go_at_call 104;(with_reducible refine(bool_at true (lname_any _ hz _ _ h1.self) HNd).mono ?_);rintro e w2 ⟨rfl,h2⟩;obtain⟨⟨c0,c1,c2,c3⟩,f0,f1,f2,f3⟩:=((HB.out.rel h1).rel h2).four))
    obtain⟨⟨r0,r1,r2,r3⟩,_⟩:=(((HB.out.rel h1).rel h2).put4 (.int .i64 1) (.string (B l)) (.int .i64 0) (.int .i64 0)).four
    exact bodyPost_ret (v:= .tuple #[TK (1,l,0,0),.int .i64 0]) (by simp[results,Tryz.results85,go_sem,r0,r1,r2,r3]) rfl ⟨.inl ⟨1,0,HF.out,rfl⟩,((HR.out.trans h1).trans h2).put4 z _ _ _ _⟩
  ·have HF:=yH (hT.trans (tok_word (.inl hw)))
   have HWd:=yH (show isWord (B l).data.toList=true by rw[hBL];exact hw)
   clear hw hBL hT
   go_enter Tryz.func85,Tryz.ntmps85
   go_wp2_with (first
    |(go_at_call 102;(with_reducible refine(bool_at false (lsign_any c _) HS).mono ?_);rintro e w' ⟨rfl,rfl⟩)
    |(go_at_call 103;(with_reducible refine(bool_at true (lword_any _ _ _ HR.out.self) HWd).mono ?_);rintro e w1 ⟨rfl,h1⟩;obtain⟨⟨c0,c1,c2,c3⟩,f0,f1,f2,f3⟩:=(HB.out.rel h1).four))
   obtain⟨⟨r0,r1,r2,r3⟩,_⟩:=((HB.out.rel h1).put4 (.int .i64 1) (.string (B l)) (.int .i64 0) (.int .i64 0)).four
   exact bodyPost_ret (v:= .tuple #[TK (1,l,0,0),.int .i64 0]) (by simp[results,Tryz.results85,go_sem,r0,r1,r2,r3]) rfl ⟨.inl ⟨1,0,HF.out,rfl⟩,(HR.out.trans h1).put4 z _ _ _ _⟩
 ·have HS:=yH hs
  have HF:=yH (told_sign (t:=t) hs)
  obtain⟨l,hL⟩:∃l,l=c::t:=⟨_,rfl⟩
  rw[←hL] at HF H0 HBs⊢
  obtain⟨⟨c0,c1,c2,c3⟩,f0,f1,f2,f3⟩:=HB.out.four
  clear hL hs hr1
  go_enter Tryz.func85,Tryz.ntmps85
  go_wp2_with (go_at_call 102;(with_reducible refine(bool_at true (lsign_any c _) HS).mono ?_);rintro e w' ⟨rfl,rfl⟩)
  obtain⟨⟨r0,r1,r2,r3⟩,_⟩:=(Bk.new w 87 #[.int .i64 4,.string (B l),.int .i64 0,.int .i64 0]).four
  exact bodyPost_ret (v:= .tuple #[TK (4,l,0,0),.int .i64 0]) (by simp[results,Tryz.results85,go_sem,r0,r1,r2,r3]) rfl ⟨.inl ⟨4,0,HF.out,rfl⟩,hr.alloc _⟩
end Go.Proofs.YtjhjdiaomnpkmaaGreatDoor

namespace Go.Proofs.YtjhjdiaomnpkmaaGreatDoor
open Go.RowKit
open Go.Lib
attribute [local go_sem] Oper.semAt_some
def Y(t:Tok):Array Value:= #[TK t,.int .i64 0]
def yields(l:List UInt8):List (Array Value):=(lxP 0 l).1.map Y++(match (lxP 0 l).2 with|none=>[]|some k=>[#[TK (0,[],0,(k:Int)),.int .i64 61]])
theorem piece_as(S:ByteArray)(c:UInt8)(t x:List UInt8)(hS:Hid (S=B (c::t)))(hx:Hid (pcOf (c::t)=x))(hl:t.length+1≤2000)(w0 w:World)(hr:Rel w0 w):Calls Tryz.prog 86 #[.string S] w fun e w'=>e= .returned (.string (B x))∧Rel w0 w':=by
 rw[hS.out,←hx.out];exact lpiece_list c t hl w0 w hr
theorem token_yes(x:List UInt8)(k n:Int)(c:UInt8)(y:List UInt8)(hx:Hid (x=c::y))(h:Hid (told x=some (k,n)))(hl:x.length≤2000)(w0 w:World)(hr:Rel w0 w):Calls Tryz.prog 85 #[.string (B x)] w fun e w'=>e= .returned (.tuple #[TK (k,x,n,0),.int .i64 0])∧Rel w0 w':=by
 have hx:=hx.out
 subst hx
 refine(ltoken_any c y (by simpa using hl) w0 w hr).mono ?_
 rintro e w' ⟨⟨k',n',h',he⟩|⟨h',_⟩,hr'⟩
 ·rw[h.out] at h';injection h' with h';injection h' with a b;subst a;subst b;exact⟨he,hr'⟩
 ·rw[h.out] at h';cases h'
theorem token_no(x:List UInt8)(c:UInt8)(y:List UInt8)(hx:Hid (x=c::y))(h:Hid (told x=none))(hl:x.length≤2000)(w0 w:World)(hr:Rel w0 w):Calls Tryz.prog 85 #[.string (B x)] w fun e w'=>e= .returned (.tuple #[TK (0,[],0,0),.int .i64 61])∧Rel w0 w':=by
 have hx:=hx.out
 subst hx
 refine(ltoken_any c y (by simpa using hl) w0 w hr).mono ?_
 rintro e w' ⟨⟨k',n',h',he⟩|⟨h',he⟩,hr'⟩
 ·rw[h.out] at h';cases h'
 ·exact⟨he,hr'⟩
theorem yields_at{l:List UInt8}{ts r:List Tok}{t:Tok}(h:(lxP 0 l).1=ts++t::r):∃rest,yields l=ts.map Y++Y t::rest:=by
 unfold yields
 obtain⟨q,hq⟩:∃q,(match (lxP 0 l).2 with|none=>[]|some k=>[#[TK (0,[],0,(k:Int)),Value.int .i64 61]])=q:=⟨_,rfl⟩
 rw[hq,h]
 exact⟨r.map Y++q,by simp⟩
theorem yields_end{l:List UInt8}{ts:List Tok}{k:Nat}(h:lxP 0 l=(ts,some k)):yields l=ts.map Y++[#[TK (0,[],0,(k:Int)),.int .i64 61]]:=by
 unfold yields;rw[h]
theorem yields_all{l:List UInt8}{ts:List Tok}(h:lxP 0 l=(ts,none)):yields l=ts.map Y:=by
 unfold yields;rw[h];simp
theorem tokens_in(n:Nat)(hn:2≤n)(s:ByteArray)(hs:s.size≤2000)(b:Nat):
  IterOk n 83 #[.pointer (some ⟨b,0,none⟩)] (yields s.data.toList) (fun W=>Tab W∧Bk W b 9 #[.string s]):=by
 intro l' J Jx hJr hJw hY m0 W h0
 have hn1:1≤n:=by omega
 have HY:=yH hY
 have HJr:=yH hJr
 have HJw:=yH hJw
 have H0:=yH h0
 clear hY hJr hJw h0
 refine callsIn_of_wp Tryz.func83 rfl trivial ?_ rfl
 simp only[Tryz.ntmps83,List.size_toArray,List.length_cons,List.length_nil,Nat.reduceAdd,Nat.reduceSub,Array.replicate_succ,Array.replicate_zero,List.push_toArray,List.append_toArray,List.nil_append,List.cons_append]
 gi_wp2
 have hsl:s.data.toList.length=s.size:=by simp
 have HSL:=yH hsl
 clear hsl
 gi_loopw [3] (fun at' wr=>∃(p m:Nat)(ts:List Tok),p≤s.size∧at'= .int .i64 p∧Hid (AtP s.data.toList p ts)∧Hid (J (ts.map Y) m wr)) (fun at' _=>s.size-(RowKit.intOf at').toNat)
 case atStart=>exact⟨0,m0,[],by omega,rfl,yH (AtP.start _),H0⟩
 case round=>
  obtain⟨p,m,ts,hp,rfl,HA,HJ⟩:=hrel
  have p1:=(HJw.out _ _ _ HJ.out).1.2.cell 0
  have hmw:=(HJw.out _ _ _ HJ.out).2
  simp only[List.getElem?_toArray,List.getElem?_cons_zero] at p1
  by_cases hlt:p<s.size
  ·have hgo:∀h,s[p]'h=s[p]'hlt:=fun h=>rfl
   obtain⟨cc,hcc⟩:∃cc,cc=s[p]'hlt:=⟨_,rfl⟩
   rw[←hcc] at hgo
   have hdp:=drop_cons s p hlt
   rw[←hcc] at hdp
   obtain⟨tl,htl⟩:∃tl,tl=s.data.toList.drop (p+1):=⟨_,rfl⟩
   rw[←htl] at hdp
   have hll:tl.length+1+p=s.size:=by rw[htl,List.length_drop,HSL.out];omega
   have HD:=yH hdp
   clear hcc hdp htl
   cases hb:isBl cc
   ·have HBl:=yH hb
    have hd1:s.extract p s.size=B (cc::tl):=by rw[B_cut,List.take_of_length_le (by rw[List.length_drop,HSL.out];omega),HD.out]
    obtain⟨x,hx⟩:∃x,pcOf (cc::tl)=x:=⟨_,rfl⟩
    obtain⟨y,hy0⟩:=pc_head cc tl
    have hxl:x.length≤tl.length+1:=by rw[←hx];exact pc_len_le (cc::tl)
    have hx1:1≤x.length:=by rw[←hx,hy0];simp
    have hpc:=HA.out.piece HD.out hb
    rw[hx] at hpc hy0
    have HXC:=yH hy0
    have HPX:=yH hx
    have hS9:=Rel.start (HJw.out _ _ _ HJ.out).1.1
    have ltl:tl.length+1≤2000:=by omega
    have lx2:x.length≤2000:=by omega
    have bxs:(B x).size=x.length:=B_size x
    clear hb hx hy0
    rcases hpc with ⟨k,n0,htd,hat,hrest⟩|⟨htd,hend⟩
    ·have HTD:=yH htd
     have HN:=yH hat
     have HYr:=yH hrest
     clear htd hat hrest
     gi_wp2_with (first
      |(refine⟨trivial, ?_⟩;gi_at_call 84;refine(callsIn_wide.2 (bool_at false (lblank_any cc _) HBl)).mono ?_;rintro e w' ⟨rfl,rfl⟩)
      |(refine⟨trivial, ?_⟩;gi_at_call 86;refine(callsIn_wide.2 (piece_as (B (cc::tl)) cc tl x (yH rfl) HPX ltl _ _ hS9.self)).mono ?_;rintro e w3 ⟨rfl,h3⟩)
      |(refine⟨trivial, ?_⟩;gi_at_call 85;refine(callsIn_wide.2 (token_yes x k n0 cc y HXC HTD lx2 _ _ h3.self)).mono ?_;rintro e w4 ⟨rfl,h4⟩;obtain⟨fn,tmps,assign,body,hy,hR⟩:=HY.out (ts.map Y) m (Y (k,x,n0,(p:Int))) (w4.alloc (.cells #[.int .i64 k,.string (B x),.int .i64 n0,.int .i64 (p:Int)] 87)) (HJr.out _ _ _ _ HJ.out ((h3.trans h4).alloc _)) (by obtain⟨r,hr⟩:=HYr.out;exact yields_at hr);change (Instr.yield l' #[.agg #[.int .i64 k,.string (B x),.int .i64 n0,.int .i64 (p:Int)],.int .i64 0]).run _ _=_ at hy))
     refine hR.mono ?_
     rintro e W3 (⟨rfl,hJ3,hk3⟩|⟨rfl,hx3⟩)
     ·have hgm:m≤w4.heap.size:=by have:=h3.size;have:=h4.size;omega
      have c1:=(hk3.bk (Bk.new w4 87 #[.int .i64 k,.string (B x),.int .i64 n0,.int .i64 (p:Int)]) hgm).cell 1
      simp only[List.getElem?_toArray,List.getElem?_cons_succ,List.getElem?_cons_zero] at c1
      gi_wp2
      go_roundw
      case rel=>exact⟨p+x.length,_,ts++[(k,x,n0,(p:Int))],by omega,by go_num,HN,yH (by rw[List.map_append];exact hJ3)⟩
      case measure=>simp[RowKit.intOf];omega
     ·gi_wp2
      first|go_end0|refine bodyPost_ret (results_none rfl _ _ _) rfl ?_
      exact⟨⟨_,rfl⟩,.inr hx3⟩
    ·have HTD:=yH htd
     have HYE:=yH (yields_end hend)
     clear htd hend
     gi_wp2_with (first
      |(refine⟨trivial, ?_⟩;gi_at_call 84;refine(callsIn_wide.2 (bool_at false (lblank_any cc _) HBl)).mono ?_;rintro e w' ⟨rfl,rfl⟩)
      |(refine⟨trivial, ?_⟩;gi_at_call 86;refine(callsIn_wide.2 (piece_as (B (cc::tl)) cc tl x (yH rfl) HPX ltl _ _ hS9.self)).mono ?_;rintro e w3 ⟨rfl,h3⟩)
      |(refine⟨trivial, ?_⟩;gi_at_call 85;refine(callsIn_wide.2 (token_no x cc y HXC HTD lx2 _ _ h3.self)).mono ?_;rintro e w4 ⟨rfl,h4⟩;obtain⟨fn,tmps,assign,body,hy,hR⟩:=HY.out (ts.map Y) m #[TK (0,[],0,(p:Int)),.int .i64 61] (w4.alloc (.cells #[.int .i64 0,.string (B []),.int .i64 0,.int .i64 (p:Int)] 87)) (HJr.out _ _ _ _ HJ.out ((h3.trans h4).alloc _)) (⟨[],HYE.out⟩);change (Instr.yield l' #[.agg #[.int .i64 0,.string (B []),.int .i64 0,.int .i64 (p:Int)],.int .i64 61]).run _ _=_ at hy))
     refine hR.mono ?_
     rintro e W3 (⟨rfl,hJ3,_⟩|⟨rfl,hx3⟩)
     ·gi_wp2
      first|go_end0|refine bodyPost_ret (results_none rfl _ _ _) rfl ?_
      exact⟨⟨_,rfl⟩,.inl ⟨_,by rw[HYE.out];exact hJ3⟩⟩
     ·gi_wp2
      first|go_end0|refine bodyPost_ret (results_none rfl _ _ _) rfl ?_
      exact⟨⟨_,rfl⟩,.inr hx3⟩
   ·have HN:=yH (HA.out.blank HD.out hb)
    have HBl:=yH hb
    clear hb
    gi_wp2_with (refine⟨trivial, ?_⟩;gi_at_call 84;refine(callsIn_wide.2 (bool_at true (lblank_any cc _) HBl)).mono ?_;rintro e w' ⟨rfl,rfl⟩)
    go_roundw
    case rel=>exact⟨p+1,m,ts,by omega,by go_num,HN,HJ⟩
    case measure=>simp[RowKit.intOf];omega
  ·obtain rfl:p=s.size:=by omega
   have hA2:AtP s.data.toList s.data.toList.length ts:=by rw[HSL.out];exact HA.out
   have HYE:=yH (yields_all hA2.done)
   have HYF:Hid (yields s.data.toList=ts.map Y++[Y (5,[],0,(s.size:Int))]):=yH (by rw[HYE.out,HSL.out];simp)
   obtain⟨fn,tmps,assign,body,hy,hR⟩:=HY.out (ts.map Y) m (Y (5,[],0,(s.size:Int))) wr HJ.out ⟨[],HYF.out⟩
   change (Instr.yield l' #[.agg #[.int .i64 5,.string ⟨#[]⟩,.int .i64 0,.int .i64 (s.size:Int)],.int .i64 0]).run _ _=_ at hy
   gi_wp2
   refine hR.mono ?_
   rintro e W3 (⟨rfl,hJ3,_⟩|⟨rfl,hx3⟩)
   ·gi_wp2
    first|go_end0|refine bodyPost_ret (results_none rfl _ _ _) rfl ?_
    exact⟨⟨_,rfl⟩,.inl ⟨_,by rw[HYF.out];exact hJ3⟩⟩
   ·gi_wp2
    first|go_end0|refine bodyPost_ret (results_none rfl _ _ _) rfl ?_
    exact⟨⟨_,rfl⟩,.inr hx3⟩
end Go.Proofs.YtjhjdiaomnpkmaaGreatDoor
