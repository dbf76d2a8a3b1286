/- What the law makes of raw numbers. -/

import Derived.Test.YtjhjdiaomnpkmaaGreatDoorZ06
set_option maxRecDepth 100000
set_option maxHeartbeats 8000000
set_option linter.unusedVariables false
set_option linter.unusedSimpArgs false
namespace Go.Proofs.YtjhjdiaomnpkmaaGreatDoor
open Go.RowKit Go.Lib
def LoopE(w w1:World)(g d:Nat)(k:Int)(L1:List Int)(j:Nat)(A:Option Addr)(c:Nat)(es:List El)(wr:World):Prop:=
 es.length=j∧Bk wr w.heap.size 54 #[.int .i64 0,.int .i64 0,.string ⟨#[]⟩,.slice none 0 0]∧Bk wr w1.heap.size 54 #[.int .i64 k,.int .i64 0,.string ⟨#[]⟩,.slice A j c]∧wr.ownsRow (w1.heap.size+1) 54 4 (.slice A j c) j (cellsEs es)∧
 (∀i (h:i<es.length) (h':i<(upto (gen d) k j L1).1.length),ExAt (fun q=>w1.heap.size<q∧some q≠(Value.slice A j c).ownBlock) wr es[i] (upto (gen d) k j L1).1[i])∧SrcAt wr g (upto (gen d) k j L1).2∧w.grownBy wr (some g)∧w1.heap.size<wr.heap.size
theorem expr_at{d d':Nat}(E:ExprAt d')(hd:d=d'+1)(c:Bool)(L:List Int)(x:Ex)(L':List Int)(hx:Hid (gen d c L=(x,L')))(g:Nat)(w0 w:World)(hr:Rel w0 w)(hg:w0.heap.size≤g)(hs:SrcAt w g L):
  Calls Tryz.prog 37 #[.pointer (some ⟨g,0,none⟩),.int .i64 (d:Int),.bool c] w fun e w'=>∃v:El,e= .returned (EV v)∧ExAt (fun k=>w.heap.size≤k) w' v x∧SrcAt w' g L'∧w.grownBy w' (some g):=by
 subst hd
 exact expr_as E c L x L' hx g w0 w hr hg hs
theorem len_more{α:Type}(es:List α)(e:α):(es++[e]).length=es.length+1:=by simp
theorem loop_next{w w1 wr w2 w3:World}{g d:Nat}{k:Int}{L1 L':List Int}{A:Option Addr}{c:Nat}{es:List El}{v:El}{x:Ex}{b:Bool}{g' cap:Nat}{w0:World}(hr:Rel w0 w2)(hz:w1.heap.size=w.heap.size+1)(hgl:g<w.heap.size){j0:Nat}(h:LoopE w w1 g d k L1 j0 A c es wr)(hb:b=(decide (k=10)&&decide (j0=0)))
  (hx:gen d b (upto (gen d) k j0 L1).2=(x,L')) (wd:World) (hwd:Rel wr wd) (hwd':wd.heap.size=wr.heap.size) (ex:ExAt (fun q=>wd.heap.size≤q) w2 v x) (s2:SrcAt w2 g L') (g2:wd.grownBy w2 (some g))
  (hown:w3.ownsRow (w1.heap.size+1) 54 4 (.slice (some ⟨g',0,none⟩) (j0+1) cap) (j0+1) (cellsEs es++cellsE v)) (o:Obj) (hgrow:(w2.alloc o).grownBy w3 (Value.slice A j0 c).ownBlock)
  (hat:(Value.slice A j0 c).ownBlock=some g'∨g'=w2.heap.size+1) (W:World) (hW:w3.setCell ⟨w1.heap.size,3,none⟩ (.slice (some ⟨g',0,none⟩) (j0+1) cap)=W):LoopE w w1 g d k L1 (j0+1) (some ⟨g',0,none⟩) cap (es++[v]) W:=by
 subst hW
 obtain⟨hj,h0,h1,h2,h3,h4,h5,h6⟩:=h
 have hl:=len_more es v
 have ho:=fun j (hj:(Value.slice A j0 c).ownBlock=some j)=>h2.lt j hj
 have hz2:=g2.size
 have ga:w2.grownBy (w2.alloc o) none:=grown_rel none (hr.self.alloc o)
 have za:(w2.alloc o).heap.size=w2.heap.size+1:=World.size_alloc ..
 have hz3:=hgrow.size
 have gs:=set_grown w3 w1.heap.size 3 (.slice (some ⟨g',0,none⟩) (j0+1) cap)
 have hgw:∀j,(Value.slice A j0 c).ownBlock=some j→some g≠some j:=fun j hj e=>by have:=(ho j hj).1;injection e;omega
 unfold LoopE
 have hup:upto (gen d) k (j0+1) L1=((upto (gen d) k j0 L1).1++[x],L'):=by
  simp only[upto]
  rw[←hb,hx]
 rw[hup]
 have kb:∀{q:Nat}{t:TypeId}{cs:Array Value},q<w1.heap.size+1→q≠g→Bk wr q t cs→Bk w3 q t cs:=fun hq hn hbk=>
  (((hbk.rel hwd).grown g2 (fun e=>hn (by injection e))).grown ga (fun e=>by cases e)).grown hgrow (fun e=>by have:=(ho _ e.symm).1;omega)
 refine⟨by rw[hl,hj], ?_, ?_, ?_, ?_, ?_, ?_, ?_⟩
 ·exact(kb (by omega) (by omega) h0).far (p:=⟨w1.heap.size,3,none⟩) (by simp only;omega) _
 ·exact(kb (by omega) (by omega) h1).set_ 3 _
 ·rw[cellsEs_snoc]
  exact own_set hown (fun e=>by have:=(hown.lt _ e.symm).1;simp only at this;omega) _
 ·intro i hi hi'
  have step:∀{e:El}{y:Ex}{S:Nat→Prop},ExAt S w2 e y→(∀q,S q→q<w2.heap.size→w1.heap.size<q∧some q≠(Value.slice A j0 c).ownBlock)→ExAt (fun q=>w1.heap.size<q∧some q≠(Value.slice (some ⟨g',0,none⟩) (j0+1) cap).ownBlock) (w3.setCell ⟨w1.heap.size,3,none⟩ (.slice (some ⟨g',0,none⟩) (j0+1) cap)) e y:=by
   intro e y S he hS
   refine he.mono (by rw[World.size_setCell];omega) fun q hq hl=> ?_
   obtain⟨s1,s2⟩:=hS q hq hl
   refine⟨⟨s1,fun e=> ?_⟩, ?_⟩
   ·have e:q=g':=by injection e
    subst e
    rcases hat with h|h
    ·exact s2 h.symm
    ·omega
   ·exact(gs.block q (by omega) (fun e=>by injection e;omega)).trans ((hgrow.block q (by omega) s2).trans (ga.block q (by omega) (fun e=>by cases e)))
  have hul:(upto (gen d) k j0 L1).1.length=es.length:=by rw[hj];exact upto_len ..
  rcases Nat.lt_or_ge i es.length with hlt|hge
  ·simp only[List.getElem_append_left hlt,List.getElem_append_left (show i<(upto (gen d) k j0 L1).1.length by omega)]
   have:=(h3 i hlt (by omega)).rel hwd
   refine step (S:=fun q=>(w1.heap.size<q∧some q≠(Value.slice A j0 c).ownBlock)) (this.grown g2 (fun q hq=>⟨hq,fun e=>by injection e;omega⟩)) (fun q hq _=>hq)
  ·have hie:i=es.length:=by simp at hi;omega
   subst hie
   simp only[List.getElem_append_right (Nat.le_refl _),List.getElem_append_right (show(upto (gen d) k j0 L1).1.length≤es.length by omega),Nat.sub_self,hul,List.getElem_cons_zero]
   exact step ex (fun q hq _=>⟨by omega,fun e=>by have:=(ho q e.symm).2;omega⟩)
 ·exact((s2.grown ga (fun k e=>by cases e)).grown hgrow (fun j hj=>by have:=(ho j hj).1;omega)).grown gs (fun j hj=>by cases hj;omega)
 ·have q1:=grown_trans h5 (grown_rel (some g) hwd)
  have q2:=grown_of (grown_trans q1 g2) ga (fun j hj=>by cases hj)
  exact grown_of (grown_of q2 hgrow (fun j hj=>by have:=(ho j hj).1;omega)) gs (fun j hj=>by cases hj;omega)
 ·rw[World.size_setCell];omega
theorem loop_done{w w1 wr W:World}{g d m:Nat}{k:Int}{L1:List Int}{A:Option Addr}{c:Nat}{es:List El}(hz:w1.heap.size=w.heap.size+1)(h:LoopE w w1 g d k L1 m A c es wr)
  (hs:wr.heap.size≤W.heap.size) (hW:∀q,w1.heap.size<q→q<wr.heap.size→W.heap[q]?=wr.heap[q]?) (n:Int) (nm:List UInt8) (hk:i64 k) (hn:i64 n) (hm:nm.length≤100):
  ExAt (fun q=>w.heap.size≤q) W (k,n,nm,A,m,c) (.mk k n nm (upto (gen d) k m L1).1):=by
 obtain⟨hj,h0,h1,h2,h3,h4,h5,h6⟩:=h
 obtain⟨l,hl⟩:∃l,(upto (gen d) k m L1).1=l:=⟨_,rfl⟩
 have hlen:l.length=m:=by rw[←hl];exact upto_len ..
 rw[hl] at h3⊢
 subst hlen
 refine .mk k n nm A c l es hk hn hm hj ?_ (fun i hi hi'=> ?_)
 ·have hrow:RowE (fun q=>w1.heap.size<q) wr A es:=ElsOwn.toks (base:=w1.heap.size+1) (n:=l.length) (c:=c) (by unfold ElsOwn;rw[hj];exact h2) hj.symm (fun q hq=>by have:=(h2.lt q hq).1;omega)
  exact hrow.mono hs fun q hq hl=>⟨by omega,hW q hq hl⟩
 ·exact(h3 i hi hi').mono hs fun q hq hl=>⟨by have:=hq.1;omega,hW q hq.1 hl⟩
theorem expr_tree(d:Nat)(hd:d≤10)(H:∀d',d=d'+1→ExprAt d')(L:List Int)(g:Nat)(w0 w:World)(hr:Rel w0 w)(hg0:w0.heap.size≤g)(hs:SrcAt w g L):
  Calls Tryz.prog 37 #[.pointer (some ⟨g,0,none⟩),.int .i64 ((d:Int)+1),.bool false] w fun e w'=>
   ∃v:El,e= .returned (EV v)∧ExAt (fun k=>w.heap.size≤k) w' v (gen (d+1) false L).1∧SrcAt w' g (gen (d+1) false L).2∧w.grownBy w' (some g):=by
 obtain⟨i0,hi,hz0,hz1,hz2'⟩:=info_parts ex_info
 have hgl:=hs.lt
 have hA:=hr.self.alloc (.cells #[.int .i64 0,.int .i64 0,.string ⟨#[]⟩,.slice none 0 0] 54)
 have hS:=yH (hs.rel hA)
 have HB:=yH (Bk.new w 54 #[.int .i64 0,.int .i64 0,.string ⟨#[]⟩,.slice none 0 0])
 have HG:=yH (grown_rel (some g) hA)
 have HR:=yH (hr.alloc (.cells #[.int .i64 0,.int .i64 0,.string ⟨#[]⟩,.slice none 0 0] 54))
 have z0:(w.alloc (.cells #[.int .i64 0,.int .i64 0,.string ⟨#[]⟩,.slice none 0 0] 54)).heap.size=w.heap.size+1:=World.size_alloc ..
 have Z0:=yH z0
 obtain⟨⟨v,L1⟩,hv⟩:∃p,nx 10 L=p:=⟨_,rfl⟩
 have HV:=yH hv
 have hb:=nx_bd 10 (by omega) L
 have hkb:=kind_bd d L
 rw[hv] at hb hkb
 simp only at hb hkb
 obtain⟨k,hk⟩:∃k,kindOf d v=k:=⟨_,rfl⟩
 rw[hk] at hkb
 have hgen:gen (d+1) false L=fill k (upto (gen d) k (argsN k).toNat L1):=by rw[gen,hv,hk]
 have HGen:=yH hgen
 obtain⟨m,hm⟩:∃m:Nat,argsN k=(m:Int):=⟨(argsN k).toNat,args_nat hkb.1 (by omega)⟩
 have HM:=yH hm
 have hm3:m≤3:=by have:=args_le k;omega
 obtain⟨k1,k2,k3⟩:=hkb
 have hm0:d=0→m=0:=fun e=>by
  have:=k3 e
  have:k=1∨k=2∨k=3∨k=4:=by omega
  rcases this with rfl|rfl|rfl|rfl<;>(simp[argsN] at hm;omega)
 have HM0:=yH hm0
 clear hA hs hv hgen hm hm0 k3 z0
 have hways:(d=0∧∃r,(1+v).tmod 4=r∧1+r=k)∨(d≠0∧1+v=k):=by
  unfold kindOf at hk
  by_cases h0:d=0
  ·rw[if_pos h0] at hk
   exact .inl ⟨h0,_,rfl,by have:=tdt (1+v) 4 (by omega);omega⟩
  ·rw[if_neg h0] at hk;exact .inr ⟨h0,hk⟩
 clear hk
 rcases hways with ⟨h0,r,hr4,hkr⟩|⟨h0,hkr⟩
 all_goals
  go_enter Tryz.func37,Tryz.ntmps37
  go_upto_region 8 with (go_at_call 49;(with_reducible refine(next_as g L 10 v L1 HV (by decide) (by decide) _ hS.out).mono ?_);rintro e w1 ⟨rfl,s1,g1,z1⟩)
  have hz1:w1.heap.size=w.heap.size+1:=z1.trans Z0.out
  have HB1:=yH (HB.out.grown g1 (fun e=>by injection e;omega))
  have R1:=HR.out.grown g1 (fun k e=>by cases e;exact hg0)
  have HA1:=yH (R1.self.alloc (.cells #[.int .i64 k,.int .i64 0,.string ⟨#[]⟩,.slice none 0 0] 54))
  have HI0:Hid (LoopE w w1 g d k L1 0 none 0 [] (w1.alloc (.cells #[.int .i64 k,.int .i64 0,.string ⟨#[]⟩,.slice none 0 0] 54))):=
   yH ⟨rfl,HB1.out.alloc _,Bk.new w1 _ _,World.ownsRow_nil _ _ _ _,fun i h=>absurd h (by simp),s1.rel HA1.out,grown_trans (grown_trans HG.out g1) (grown_rel _ HA1.out),by rw[World.size_alloc];omega⟩
  have HRR:=yH R1
  have HZ1:=yH hz1
  have hrb:w.heap.size<w1.heap.size:=by omega
  clear R1 hz1 z1
  go_wp2_with (fail)
  go_loopw [9] (fun i wr=>∃(j:Nat)(A:Option Addr)(c:Nat)(es:List El),j≤m∧i= .int .i64 (j:Int)∧Hid (LoopE w w1 g d k L1 j A c es wr)) (fun i _=>m-(RowKit.intOf i).toNat)
  case atStart=>exact⟨0,none,0,[],by omega,rfl,HI0⟩
  case round=>
   obtain⟨j,A,c,es,hem,rfl,HE⟩:=hrel
   by_cases hlt:j<m
   ·by_cases hdz:d=0
    ·exfalso;have:=HM0.out hdz;omega
    ·try exact absurd h0 hdz
     all_goals
      obtain⟨d',hd'⟩:∃d',d=d'+1:=⟨d-1,by omega⟩
      have E:=H d' hd'
      have HD:=yH hd'
      clear hd'
      obtain⟨b,hb⟩:∃b,b=(decide (k=10)&&decide (j=0)):=⟨_,rfl⟩
      obtain⟨⟨x,L'⟩,hx⟩:∃p,gen d b (upto (gen d) k j L1).2=p:=⟨_,rfl⟩
      have HX:=yH hx
      have HBB:=yH hb
      have hbw:((k==10)=true∧((j:Int)==0)=true∧b=true)∨((k==10)=true∧((j:Int)==0)=false∧b=false)∨((k==10)=false∧b=false):=by
       by_cases e1:k=10<;>by_cases e2:j=0<;>simp[hb,e1,e2]
      obtain⟨hkj,hk0,hk1,hk2,hk3,hk4,hk5,hk6⟩:=HE.out
      obtain⟨⟨c0,c1,c2,c3⟩,f0,f1,f2,f3⟩:=hk1.four
      have HK1:=yH hk1
      have HO:=yH hk2
      have hzl:w1.heap.size<wr.heap.size:=hk6
      have Rr:Rel w0 wr:=hr.grown hk5 (fun j e=>by cases e;exact hg0)
      have HRr:=yH Rr
      have HSr:=yH hk4
      have HRd:=yH Rr.drew
      have HSd:=yH (hk4.rel Rr.self.drew)
      have hw1:IntKind.i64.wrap (d:Int)=(d:Int):=IntWalk.i64_in _ (by omega)
      have hw2:IntKind.i64.wrap ((d:Int)+1-1)=(d:Int):=by rw[show(d:Int)+1-1=d by omega];exact hw1
      have hm9:j≤3:=by omega
      have HO2:∀w2,wr.drew.grownBy w2 (some g)→w2.ownsRow (w1.heap.size+1) 54 4 (.slice A j c) j (cellsEs es):=fun w2 g2=>World.ownsRow.kept (own_rel hk2 Rr.self.drew) g2 (by
       cases hv:(Value.slice A j c).ownBlock with
       |none=>exact .inl rfl
       |some q=>exact .inr (fun e=>by have:=(hk2.lt q hv).1;injection e;omega))
      clear hb hx hkj hk0 hk1 hk2 hk3 hk4 hk5 hk6 Rr
      rcases hbw with ⟨b1,b2,rfl⟩|⟨b1,b2,rfl⟩|⟨b1,rfl⟩
      ·go_wp2_with (go_at_call 50;(with_reducible refine(args_as k (m:Int) HM _).mono ?_);rintro e w' ⟨rfl,rfl⟩)
       refine wp_region_any (by kernel_rfl) ?_
       change wpAny _ _ _ _ _ _ _ wr.drew
       refine yM [0,2,3,4,5,6,7,8,9,10] (by kernel_rfl) (fun _ _ _ _ _=>id) ?_
       iterate 10
        refine yT rfl rfl (by rfl) ?_ ?_ ?_
        rotate_left
        ·intro w';go_simp;try with_reducible rfl
        try simp only[Act.put,yA,yB,yC]
       refine yZ ?_
       refine till_take (i:=1) (v:= ?_) (S:=fun w'=>w'.cell? ⟨w1.heap.size,3,none⟩=some (.slice A j c)) (some 48) rfl rfl (by kernel_rfl) (by kernel_rfl) (by kernel_rfl) (fun _ _ _ h=>h) (Or.inl ⟨by rfl, ?_⟩) c3 ?_
       rotate_left 1
       ·intro w' hSw;go_simp;try with_reducible rfl
       try simp only[Act.put,yA,yB,yC]
       refine till_one (j:=11) (by kernel_rfl) rfl (fun K hK=> ?_)
       try simp only[yD,yE,yF]
       rw[if_pos (by rfl)]
       go_simp
       go_at_call 37
       (with_reducible refine(expr_at E HD.out _ _ x L' HX g _ _ HRd.out hg0 HSd.out).mono ?_)
       rintro e w2 ⟨vx,rfl,ex,s2,g2⟩
       have K2:=HK1.out.drew.grown g2 (fun e=>by injection e;omega)
       have hz2:=g2.size
       have d3:=K2.cell 3
       have e3:=(K2.alloc (.cells #[.int .i64 vx.1,.int .i64 vx.2.1,.string (B vx.2.2.1),.slice vx.2.2.2.1 vx.2.2.2.2.1 vx.2.2.2.2.2] 54)).cell 3
       refine hK.out _ _ d3 ?_
       clear hK K
       try simp only[Act.put,yA,yB,yC]
       refine till_one (j:=12) (by kernel_rfl) rfl (fun K hK=> ?_)
       try simp only[yD,yE,yF]
       go_simp
       refine hK.out _ _ e3 ?_
       clear hK K
       try simp only[Act.put,yA,yB,yC]
       refine till_late (j:=13) (by kernel_rfl) rfl (by kernel_rfl) (fun K hK=> ?_)
       try simp only[yD,yE,yF]
       have hOA:=(HO2 _ g2).alloc (.cells #[.int .i64 vx.1,.int .i64 vx.2.1,.string (B vx.2.2.1),.slice vx.2.2.2.1 vx.2.2.2.2.1 vx.2.2.2.2.2] 54)
       have hb4:w1.heap.size+1≤(w2.alloc (.cells #[.int .i64 vx.1,.int .i64 vx.2.1,.string (B vx.2.2.1),.slice vx.2.2.2.1 vx.2.2.2.2.1 vx.2.2.2.2.2] 54)).heap.size:=by rw[World.size_alloc];have e:wr.drew.heap.size=wr.heap.size:=rfl;omega
       rw[if_pos (by rfl)]
       refine wp_append_lies _ _ _ _ rfl (w1.heap.size+1) 54 i0 _ 4 56 Tryz.underlying52 hi hz0 hz1 hz2' rfl (by decide) (.slice A j c) j (cellsEs es) rfl hOA ⟨w2.heap.size,0,none⟩ 1 1 (cellsE vx) rfl rfl (World.news_of_block (Bk.new w2 54 #[.int .i64 vx.1,.int .i64 vx.2.1,.string (B vx.2.2.1),.slice vx.2.2.2.1 vx.2.2.2.2.1 vx.2.2.2.2.2])) (cellsE_one _) (by decide) (by unfold maxLen;omega) (by omega) hb4 (w2.heap.size+1) (by simp) ?_
       intro g' cap w3 hown3 hgrow hat hlt3
       have K3:=(K2.alloc (.cells #[.int .i64 vx.1,.int .i64 vx.2.1,.string (B vx.2.2.1),.slice vx.2.2.2.1 vx.2.2.2.2.1 vx.2.2.2.2.2] 54)).grown hgrow (fun e=>by have:=(HO.out.lt _ e.symm).1;omega)
       have y3:=K3.cell 3
       have u3:=K3.frozen 3
       simp only[List.getElem?_toArray,List.getElem?_cons_succ,List.getElem?_cons_zero] at y3
       refine hK.out _ _ ?_
       clear hK K
       try simp only[Act.put,yA,yB,yC]
       refine till_late (j:=14) (by kernel_rfl) rfl (by kernel_rfl) (fun K hK=> ?_)
       try simp only[yD,yE,yF]
       go_simp
       refine hK.out _ _ ?_
       clear hK K
       try simp only[Act.put,yA,yB,yC]
       refine till_late (j:=15) (by kernel_rfl) rfl (by kernel_rfl) (fun K hK=> ?_)
       try simp only[yD,yE,yF]
       go_simp
       refine hK.out _ _ ?_
       clear hK K
       try simp only[Act.put,yA,yB,yC]
       refine till_done (by kernel_rfl) ?_ _
       have hx1:=HX.out
       have hbb:=HBB.out
       have HNx:=yH (loop_next (w0:=w0) (wr:=wr) (w3:=w3) (g':=g') (cap:=cap) (HRd.out.grown g2 (fun q e=>by cases e;exact hg0)) HZ1.out hgl HE.out hbb hx1 wr.drew HRr.out.self.drew rfl ex s2 g2 hown3 (.cells #[.int .i64 vx.1,.int .i64 vx.2.1,.string (B vx.2.2.1),.slice vx.2.2.2.1 vx.2.2.2.2.1 vx.2.2.2.2.2] 54) hgrow hat _ rfl)
       go_wp2_with (fail)
       go_roundw
       case rel=>exact⟨j+1,some ⟨g',0,none⟩,cap,es++[vx],by omega,by go_num,HNx⟩
       case measure=>simp[RowKit.intOf];omega
      ·go_wp2_with (go_at_call 50;(with_reducible refine(args_as k (m:Int) HM _).mono ?_);rintro e w' ⟨rfl,rfl⟩)
       refine wp_region_any (by kernel_rfl) ?_
       change wpAny _ _ _ _ _ _ _ wr.drew
       refine yM [0,2,3,4,5,6,7,8,9,10] (by kernel_rfl) (fun _ _ _ _ _=>id) ?_
       iterate 10
        refine yT rfl rfl (by rfl) ?_ ?_ ?_
        rotate_left
        ·intro w';go_simp;try with_reducible rfl
        try simp only[Act.put,yA,yB,yC]
       refine yZ ?_
       refine till_take (i:=1) (v:= ?_) (S:=fun w'=>w'.cell? ⟨w1.heap.size,3,none⟩=some (.slice A j c)) (some 48) rfl rfl (by kernel_rfl) (by kernel_rfl) (by kernel_rfl) (fun _ _ _ h=>h) (Or.inl ⟨by rfl, ?_⟩) c3 ?_
       rotate_left 1
       ·intro w' hSw;go_simp;try with_reducible rfl
       try simp only[Act.put,yA,yB,yC]
       refine till_one (j:=11) (by kernel_rfl) rfl (fun K hK=> ?_)
       try simp only[yD,yE,yF]
       rw[if_pos (by rfl)]
       go_simp
       go_at_call 37
       (with_reducible refine(expr_at E HD.out _ _ x L' HX g _ _ HRd.out hg0 HSd.out).mono ?_)
       rintro e w2 ⟨vx,rfl,ex,s2,g2⟩
       have K2:=HK1.out.drew.grown g2 (fun e=>by injection e;omega)
       have hz2:=g2.size
       have d3:=K2.cell 3
       have e3:=(K2.alloc (.cells #[.int .i64 vx.1,.int .i64 vx.2.1,.string (B vx.2.2.1),.slice vx.2.2.2.1 vx.2.2.2.2.1 vx.2.2.2.2.2] 54)).cell 3
       refine hK.out _ _ d3 ?_
       clear hK K
       try simp only[Act.put,yA,yB,yC]
       refine till_one (j:=12) (by kernel_rfl) rfl (fun K hK=> ?_)
       try simp only[yD,yE,yF]
       go_simp
       refine hK.out _ _ e3 ?_
       clear hK K
       try simp only[Act.put,yA,yB,yC]
       refine till_late (j:=13) (by kernel_rfl) rfl (by kernel_rfl) (fun K hK=> ?_)
       try simp only[yD,yE,yF]
       have hOA:=(HO2 _ g2).alloc (.cells #[.int .i64 vx.1,.int .i64 vx.2.1,.string (B vx.2.2.1),.slice vx.2.2.2.1 vx.2.2.2.2.1 vx.2.2.2.2.2] 54)
       have hb4:w1.heap.size+1≤(w2.alloc (.cells #[.int .i64 vx.1,.int .i64 vx.2.1,.string (B vx.2.2.1),.slice vx.2.2.2.1 vx.2.2.2.2.1 vx.2.2.2.2.2] 54)).heap.size:=by rw[World.size_alloc];have e:wr.drew.heap.size=wr.heap.size:=rfl;omega
       rw[if_pos (by rfl)]
       refine wp_append_lies _ _ _ _ rfl (w1.heap.size+1) 54 i0 _ 4 56 Tryz.underlying52 hi hz0 hz1 hz2' rfl (by decide) (.slice A j c) j (cellsEs es) rfl hOA ⟨w2.heap.size,0,none⟩ 1 1 (cellsE vx) rfl rfl (World.news_of_block (Bk.new w2 54 #[.int .i64 vx.1,.int .i64 vx.2.1,.string (B vx.2.2.1),.slice vx.2.2.2.1 vx.2.2.2.2.1 vx.2.2.2.2.2])) (cellsE_one _) (by decide) (by unfold maxLen;omega) (by omega) hb4 (w2.heap.size+1) (by simp) ?_
       intro g' cap w3 hown3 hgrow hat hlt3
       have K3:=(K2.alloc (.cells #[.int .i64 vx.1,.int .i64 vx.2.1,.string (B vx.2.2.1),.slice vx.2.2.2.1 vx.2.2.2.2.1 vx.2.2.2.2.2] 54)).grown hgrow (fun e=>by have:=(HO.out.lt _ e.symm).1;omega)
       have y3:=K3.cell 3
       have u3:=K3.frozen 3
       simp only[List.getElem?_toArray,List.getElem?_cons_succ,List.getElem?_cons_zero] at y3
       refine hK.out _ _ ?_
       clear hK K
       try simp only[Act.put,yA,yB,yC]
       refine till_late (j:=14) (by kernel_rfl) rfl (by kernel_rfl) (fun K hK=> ?_)
       try simp only[yD,yE,yF]
       go_simp
       refine hK.out _ _ ?_
       clear hK K
       try simp only[Act.put,yA,yB,yC]
       refine till_late (j:=15) (by kernel_rfl) rfl (by kernel_rfl) (fun K hK=> ?_)
       try simp only[yD,yE,yF]
       go_simp
       refine hK.out _ _ ?_
       clear hK K
       try simp only[Act.put,yA,yB,yC]
       refine till_done (by kernel_rfl) ?_ _
       have hx1:=HX.out
       have hbb:=HBB.out
       have HNx:=yH (loop_next (w0:=w0) (wr:=wr) (w3:=w3) (g':=g') (cap:=cap) (HRd.out.grown g2 (fun q e=>by cases e;exact hg0)) HZ1.out hgl HE.out hbb hx1 wr.drew HRr.out.self.drew rfl ex s2 g2 hown3 (.cells #[.int .i64 vx.1,.int .i64 vx.2.1,.string (B vx.2.2.1),.slice vx.2.2.2.1 vx.2.2.2.2.1 vx.2.2.2.2.2] 54) hgrow hat _ rfl)
       go_wp2_with (fail)
       go_roundw
       case rel=>exact⟨j+1,some ⟨g',0,none⟩,cap,es++[vx],by omega,by go_num,HNx⟩
       case measure=>simp[RowKit.intOf];omega
      ·go_wp2_with (go_at_call 50;(with_reducible refine(args_as k (m:Int) HM _).mono ?_);rintro e w' ⟨rfl,rfl⟩)
       refine wp_region_any (by kernel_rfl) ?_
       change wpAny _ _ _ _ _ _ _ wr.drew
       refine yM [0,2,3,4,5,6,7] (by kernel_rfl) (fun _ _ _ _ _=>id) ?_
       iterate 7
        refine yT rfl rfl (by rfl) ?_ ?_ ?_
        rotate_left
        ·intro w';go_simp;try with_reducible rfl
        try simp only[Act.put,yA,yB,yC]
       refine yZ ?_
       refine any_take (i:=8) (v:=undef) (some 55) rfl rfl (by kernel_rfl) (by kernel_rfl) (by kernel_rfl) (fun _ _ _ h=>h) (Or.inr ⟨by rfl,rfl⟩) ?_
       try simp only[Act.put,yA,yB,yC]
       refine any_take (i:=9) (v:=undef) (some 56) rfl rfl (by kernel_rfl) (by kernel_rfl) (by kernel_rfl) (fun _ _ _ h=>h) (Or.inr ⟨by rfl,rfl⟩) ?_
       try simp only[Act.put,yA,yB,yC]
       refine yM [10] (by kernel_rfl) (fun _ _ _ _ _=>id) ?_
       refine yT rfl rfl (by rfl) ?_ ?_ ?_
       rotate_left
       ·intro w';go_simp;try with_reducible rfl
       try simp only[Act.put,yA,yB,yC]
       refine yZ ?_
       refine till_take (i:=1) (v:= ?_) (S:=fun w'=>w'.cell? ⟨w1.heap.size,3,none⟩=some (.slice A j c)) (some 48) rfl rfl (by kernel_rfl) (by kernel_rfl) (by kernel_rfl) (fun _ _ _ h=>h) (Or.inl ⟨by rfl, ?_⟩) c3 ?_
       rotate_left 1
       ·intro w' hSw;go_simp;try with_reducible rfl
       try simp only[Act.put,yA,yB,yC]
       refine till_one (j:=11) (by kernel_rfl) rfl (fun K hK=> ?_)
       try simp only[yD,yE,yF]
       rw[if_pos (by rfl)]
       go_simp
       go_at_call 37
       (with_reducible refine(expr_at E HD.out _ _ x L' HX g _ _ HRd.out hg0 HSd.out).mono ?_)
       rintro e w2 ⟨vx,rfl,ex,s2,g2⟩
       have K2:=HK1.out.drew.grown g2 (fun e=>by injection e;omega)
       have hz2:=g2.size
       have d3:=K2.cell 3
       have e3:=(K2.alloc (.cells #[.int .i64 vx.1,.int .i64 vx.2.1,.string (B vx.2.2.1),.slice vx.2.2.2.1 vx.2.2.2.2.1 vx.2.2.2.2.2] 54)).cell 3
       refine hK.out _ _ d3 ?_
       clear hK K
       try simp only[Act.put,yA,yB,yC]
       refine till_one (j:=12) (by kernel_rfl) rfl (fun K hK=> ?_)
       try simp only[yD,yE,yF]
       go_simp
       refine hK.out _ _ e3 ?_
       clear hK K
       try simp only[Act.put,yA,yB,yC]
       refine till_late (j:=13) (by kernel_rfl) rfl (by kernel_rfl) (fun K hK=> ?_)
       try simp only[yD,yE,yF]
       have hOA:=(HO2 _ g2).alloc (.cells #[.int .i64 vx.1,.int .i64 vx.2.1,.string (B vx.2.2.1),.slice vx.2.2.2.1 vx.2.2.2.2.1 vx.2.2.2.2.2] 54)
       have hb4:w1.heap.size+1≤(w2.alloc (.cells #[.int .i64 vx.1,.int .i64 vx.2.1,.string (B vx.2.2.1),.slice vx.2.2.2.1 vx.2.2.2.2.1 vx.2.2.2.2.2] 54)).heap.size:=by rw[World.size_alloc];have e:wr.drew.heap.size=wr.heap.size:=rfl;omega
       rw[if_pos (by rfl)]
       refine wp_append_lies _ _ _ _ rfl (w1.heap.size+1) 54 i0 _ 4 56 Tryz.underlying52 hi hz0 hz1 hz2' rfl (by decide) (.slice A j c) j (cellsEs es) rfl hOA ⟨w2.heap.size,0,none⟩ 1 1 (cellsE vx) rfl rfl (World.news_of_block (Bk.new w2 54 #[.int .i64 vx.1,.int .i64 vx.2.1,.string (B vx.2.2.1),.slice vx.2.2.2.1 vx.2.2.2.2.1 vx.2.2.2.2.2])) (cellsE_one _) (by decide) (by unfold maxLen;omega) (by omega) hb4 (w2.heap.size+1) (by simp) ?_
       intro g' cap w3 hown3 hgrow hat hlt3
       have K3:=(K2.alloc (.cells #[.int .i64 vx.1,.int .i64 vx.2.1,.string (B vx.2.2.1),.slice vx.2.2.2.1 vx.2.2.2.2.1 vx.2.2.2.2.2] 54)).grown hgrow (fun e=>by have:=(HO.out.lt _ e.symm).1;omega)
       have y3:=K3.cell 3
       have u3:=K3.frozen 3
       simp only[List.getElem?_toArray,List.getElem?_cons_succ,List.getElem?_cons_zero] at y3
       refine hK.out _ _ ?_
       clear hK K
       try simp only[Act.put,yA,yB,yC]
       refine till_late (j:=14) (by kernel_rfl) rfl (by kernel_rfl) (fun K hK=> ?_)
       try simp only[yD,yE,yF]
       go_simp
       refine hK.out _ _ ?_
       clear hK K
       try simp only[Act.put,yA,yB,yC]
       refine till_late (j:=15) (by kernel_rfl) rfl (by kernel_rfl) (fun K hK=> ?_)
       try simp only[yD,yE,yF]
       go_simp
       refine hK.out _ _ ?_
       clear hK K
       try simp only[Act.put,yA,yB,yC]
       refine till_done (by kernel_rfl) ?_ _
       have hx1:=HX.out
       have hbb:=HBB.out
       have HNx:=yH (loop_next (w0:=w0) (wr:=wr) (w3:=w3) (g':=g') (cap:=cap) (HRd.out.grown g2 (fun q e=>by cases e;exact hg0)) HZ1.out hgl HE.out hbb hx1 wr.drew HRr.out.self.drew rfl ex s2 g2 hown3 (.cells #[.int .i64 vx.1,.int .i64 vx.2.1,.string (B vx.2.2.1),.slice vx.2.2.2.1 vx.2.2.2.2.1 vx.2.2.2.2.2] 54) hgrow hat _ rfl)
       go_wp2_with (fail)
       go_roundw
       case rel=>exact⟨j+1,some ⟨g',0,none⟩,cap,es++[vx],by omega,by go_num,HNx⟩
       case measure=>simp[RowKit.intOf];omega
   ·obtain rfl:j=m:=by omega
    obtain⟨hkj,hk0,hk1,hk2,hk3,hk4,hk5,hk6⟩:=HE.out
    obtain⟨⟨c0,c1,c2,c3⟩,f0,f1,f2,f3⟩:=hk1.four
    obtain⟨⟨r0,r1,r2,r3⟩,q0,q1,q2,q3⟩:=hk0.four
    have HK0:=yH hk0
    have HK1:=yH hk1
    have HSr:=yH hk4
    have HGr:=yH hk5
    have hzl:w1.heap.size<wr.heap.size:=hk6
    have HRr:=yH (hr.grown hk5 (fun j e=>by cases e;exact hg0))
    obtain⟨⟨l,L2⟩,hl⟩:∃p,upto (gen d) k j L1=p:=⟨_,rfl⟩
    have hm':(argsN k).toNat=j:=by have:=HM.out;omega
    have HGe:=yH (show gen (d+1) false L=fill k (l,L2) by rw[HGen.out,hm',hl])
    have HL:=yH hl
    have HD1:=yH (show ∀(W:World),wr.heap.size≤W.heap.size→(∀q,w1.heap.size<q→q<wr.heap.size→W.heap[q]?=wr.heap[q]?)→∀(n:Int)(nm:List UInt8),i64 n→nm.length≤100→ExAt (fun q=>w.heap.size≤q) W (k,n,nm,A,j,c) (.mk k n nm l) from fun W hs hW n nm hn hm=>by
     have:=loop_done HZ1.out HE.out hs hW n nm ⟨by omega,by omega⟩ hn hm
     rw[hl] at this
     exact this)
    rw[hl] at HSr
    simp only at HSr
    have hways2:k=3∨(k=4∨k=5)∨k=6∨((k==3)=false∧(k==4)=false∧(k==5)=false∧(k==6)=false):=by
     by_cases e3:k=3
     ·exact .inl e3
     ·by_cases e4:k=4∨k=5
      ·exact .inr (.inl e4)
      ·by_cases e6:k=6
       ·exact .inr (.inr (.inl e6))
       ·exact .inr (.inr (.inr (by simp;omega)))
    clear hkj hk0 hk1 hk2 hk3 hk4 hk5 hk6 hm' hl
    rcases hways2 with rfl|h45|rfl|⟨n3,n4,n5,n6⟩
    ·obtain⟨⟨u,L3⟩,hu⟩:∃p,nx 60 L2=p:=⟨_,rfl⟩
     have HU:=yH hu
     have hub:=nx_bd 60 (by omega) L2
     rw[hu] at hub
     simp only at hub
     have HFF:=yH (show fill 3 (l,L2)=(.mk 3 0 (sellerL (pk u 60)) l,L3) by simp[fill,hu])
     have hnm:(sellerL (pk u 60)).length≤100:=by
      have:=(name_parts (seller_name (pk u 60) (pk_bd u 60 (by omega)).1 (pk_bd u 60 (by omega)).2)).2.2.1
      omega
     obtain⟨nm,hnme⟩:∃nm,sellerL (pk u 60)=nm:=⟨_,rfl⟩
     have HSe:=yH (fun(w0 w:World)(hr:Rel w0 w)=>seller_any u (by omega) (by omega) w0 w hr)
     rw[hnme] at HFF hnm HSe
     clear hu hnme
     go_wp2_with (first
      |(go_at_call 50;(with_reducible refine(args_as 3 (j:Int) HM _).mono ?_);rintro e w' ⟨rfl,rfl⟩)
      |(go_at_call 49;(with_reducible refine(next_as g L2 60 u L3 HU (by decide) (by decide) _ HSr.out).mono ?_);rintro e w2 ⟨rfl,s2,g2,z2⟩;have R2:=HRr.out.grown g2 (fun k e=>by cases e;exact hg0))
      |(go_at_call 51;(with_reducible refine(HSe.out _ _ R2.self).mono ?_);rintro e w3 ⟨rfl,h3⟩;have K1:=(HK1.out.grown g2 (fun e=>by injection e;omega)).rel h3;have K0:=(HK0.out.grown g2 (fun e=>by injection e;omega)).rel h3;obtain⟨⟨d0,d1,d2,d3⟩,v0,v1,v2,v3⟩:=K1.four;obtain⟨⟨x0,x1,x2,x3⟩,y0,y1,y2,y3⟩:=K0.four))
     have g3:=grown_rel none h3
     have gs:=set_grown w3 w1.heap.size 2 (.string (B nm))
     have gp:=put4_grown (w3.setCell ⟨w1.heap.size,2,none⟩ (.string (B nm))) w.heap.size (.int .i64 3) (.int .i64 0) (.string (B nm)) (.slice A j c)
     obtain⟨⟨t0,t1,t2,t3⟩,_⟩:=((K0.far (p:=⟨w1.heap.size,2,none⟩) (by simp only;omega) (.string (B nm))).put4 (.int .i64 3) (.int .i64 0) (.string (B nm)) (.slice A j c)).four
     have hz3:=h3.size
     have hz2:(w3.setCell ⟨w1.heap.size,2,none⟩ (.string (B nm))).heap.size=w3.heap.size:=World.size_setCell ..
     refine bodyPost_ret (v:=EV (3,0,nm,A,j,c)) (by simp[results,Tryz.results37,go_sem,t0,t1,t2,t3]) rfl ⟨_,rfl, ?_, ?_, ?_⟩
     ·rw[HGe.out,HFF.out]
      exact HD1.out _ (by have:=gp.size;omega) (fun q hq hl=>(gp.block q (by omega) (fun e=>by injection e;omega)).trans ((gs.block q (by omega) (fun e=>by injection e;omega)).trans ((g3.block q (by omega) (fun e=>by cases e)).trans (g2.block q hl (fun e=>by injection e;omega))))) 0 nm ⟨by omega,by omega⟩ hnm
     ·rw[HGe.out,HFF.out];exact((s2.grown g3 (fun k e=>by cases e)).grown gs (fun k e=>by cases e;omega)).grown gp (fun k e=>by cases e;exact hgl)
     ·exact grown_of (grown_of (grown_of (grown_trans HGr.out g2) g3 (fun k e=>by cases e)) gs (fun k e=>by cases e;omega)) gp (fun k e=>by cases e;exact Nat.le_refl _)
    ·rcases h45 with rfl|rfl
     ·obtain⟨⟨u,L3⟩,hu⟩:∃p,nx 3000 L2=p:=⟨_,rfl⟩
      have HU:=yH hu
      have hub:=nx_bd 3000 (by omega) L2
      rw[hu] at hub
      simp only at hub
      have HFF:=yH (show fill 4 (l,L2)=(.mk 4 u [] l,L3) by simp[fill,hu])
      clear hu
      go_wp2_with (first
       |(go_at_call 50;(with_reducible refine(args_as 4 (j:Int) HM _).mono ?_);rintro e w' ⟨rfl,rfl⟩)
       |(go_at_call 49;(with_reducible refine(next_as g L2 3000 u L3 HU (by decide) (by decide) _ HSr.out).mono ?_);rintro e w2 ⟨rfl,s2,g2,z2⟩;have K1:=HK1.out.grown g2 (fun e=>by injection e;omega);have K0:=HK0.out.grown g2 (fun e=>by injection e;omega);obtain⟨⟨d0,d1,d2,d3⟩,v0,v1,v2,v3⟩:=K1.four;obtain⟨⟨x0,x1,x2,x3⟩,y0,y1,y2,y3⟩:=K0.four))
      have gs:=set_grown w2 w1.heap.size 1 (.int .i64 u)
      have gp:=put4_grown (w2.setCell ⟨w1.heap.size,1,none⟩ (.int .i64 u)) w.heap.size (.int .i64 4) (.int .i64 u) (.string ⟨#[]⟩) (.slice A j c)
      obtain⟨⟨t0,t1,t2,t3⟩,_⟩:=((K0.far (p:=⟨w1.heap.size,1,none⟩) (by simp only;omega) (.int .i64 u)).put4 (.int .i64 4) (.int .i64 u) (.string ⟨#[]⟩) (.slice A j c)).four
      have hz2:(w2.setCell ⟨w1.heap.size,1,none⟩ (.int .i64 u)).heap.size=wr.heap.size:=by rw[World.size_setCell];exact z2
      refine bodyPost_ret (v:=EV (4,u,[],A,j,c)) (by simp[results,Tryz.results37,go_sem,t0,t1,t2,t3];rfl) rfl ⟨_,rfl, ?_, ?_, ?_⟩
      ·rw[HGe.out,HFF.out]
       exact HD1.out _ (by have:=gp.size;omega) (fun q hq hl=>(gp.block q (by omega) (fun e=>by injection e;omega)).trans ((gs.block q (by omega) (fun e=>by injection e;omega)).trans (g2.block q hl (fun e=>by injection e;omega)))) u [] ⟨by omega,by omega⟩ (Nat.zero_le _)
      ·rw[HGe.out,HFF.out];exact(s2.grown gs (fun k e=>by cases e;omega)).grown gp (fun k e=>by cases e;exact hgl)
      ·exact grown_of (grown_of (grown_trans HGr.out g2) gs (fun k e=>by cases e;omega)) gp (fun k e=>by cases e;exact Nat.le_refl _)
     ·obtain⟨⟨u,L3⟩,hu⟩:∃p,nx 3000 L2=p:=⟨_,rfl⟩
      have HU:=yH hu
      have hub:=nx_bd 3000 (by omega) L2
      rw[hu] at hub
      simp only at hub
      have HFF:=yH (show fill 5 (l,L2)=(.mk 5 u [] l,L3) by simp[fill,hu])
      clear hu
      go_wp2_with (first
       |(go_at_call 50;(with_reducible refine(args_as 5 (j:Int) HM _).mono ?_);rintro e w' ⟨rfl,rfl⟩)
       |(go_at_call 49;(with_reducible refine(next_as g L2 3000 u L3 HU (by decide) (by decide) _ HSr.out).mono ?_);rintro e w2 ⟨rfl,s2,g2,z2⟩;have K1:=HK1.out.grown g2 (fun e=>by injection e;omega);have K0:=HK0.out.grown g2 (fun e=>by injection e;omega);obtain⟨⟨d0,d1,d2,d3⟩,v0,v1,v2,v3⟩:=K1.four;obtain⟨⟨x0,x1,x2,x3⟩,y0,y1,y2,y3⟩:=K0.four))
      have gs:=set_grown w2 w1.heap.size 1 (.int .i64 u)
      have gp:=put4_grown (w2.setCell ⟨w1.heap.size,1,none⟩ (.int .i64 u)) w.heap.size (.int .i64 5) (.int .i64 u) (.string ⟨#[]⟩) (.slice A j c)
      obtain⟨⟨t0,t1,t2,t3⟩,_⟩:=((K0.far (p:=⟨w1.heap.size,1,none⟩) (by simp only;omega) (.int .i64 u)).put4 (.int .i64 5) (.int .i64 u) (.string ⟨#[]⟩) (.slice A j c)).four
      have hz2:(w2.setCell ⟨w1.heap.size,1,none⟩ (.int .i64 u)).heap.size=wr.heap.size:=by rw[World.size_setCell];exact z2
      refine bodyPost_ret (v:=EV (5,u,[],A,j,c)) (by simp[results,Tryz.results37,go_sem,t0,t1,t2,t3];rfl) rfl ⟨_,rfl, ?_, ?_, ?_⟩
      ·rw[HGe.out,HFF.out]
       exact HD1.out _ (by have:=gp.size;omega) (fun q hq hl=>(gp.block q (by omega) (fun e=>by injection e;omega)).trans ((gs.block q (by omega) (fun e=>by injection e;omega)).trans (g2.block q hl (fun e=>by injection e;omega)))) u [] ⟨by omega,by omega⟩ (Nat.zero_le _)
      ·rw[HGe.out,HFF.out];exact(s2.grown gs (fun k e=>by cases e;omega)).grown gp (fun k e=>by cases e;exact hgl)
      ·exact grown_of (grown_of (grown_trans HGr.out g2) gs (fun k e=>by cases e;omega)) gp (fun k e=>by cases e;exact Nat.le_refl _)
    ·obtain⟨⟨u,L3⟩,hu⟩:∃p,nx 12000 L2=p:=⟨_,rfl⟩
     have HU:=yH hu
     have hub:=nx_bd 12000 (by omega) L2
     rw[hu] at hub
     simp only at hub
     have HFF:=yH (show fill 6 (l,L2)=(.mk 6 u [] l,L3) by simp[fill,hu])
     clear hu
     go_wp2_with (first
      |(go_at_call 50;(with_reducible refine(args_as 6 (j:Int) HM _).mono ?_);rintro e w' ⟨rfl,rfl⟩)
      |(go_at_call 49;(with_reducible refine(next_as g L2 12000 u L3 HU (by decide) (by decide) _ HSr.out).mono ?_);rintro e w2 ⟨rfl,s2,g2,z2⟩;have K1:=HK1.out.grown g2 (fun e=>by injection e;omega);have K0:=HK0.out.grown g2 (fun e=>by injection e;omega);obtain⟨⟨d0,d1,d2,d3⟩,v0,v1,v2,v3⟩:=K1.four;obtain⟨⟨x0,x1,x2,x3⟩,y0,y1,y2,y3⟩:=K0.four))
     have gs:=set_grown w2 w1.heap.size 1 (.int .i64 u)
     have gp:=put4_grown (w2.setCell ⟨w1.heap.size,1,none⟩ (.int .i64 u)) w.heap.size (.int .i64 6) (.int .i64 u) (.string ⟨#[]⟩) (.slice A j c)
     obtain⟨⟨t0,t1,t2,t3⟩,_⟩:=((K0.far (p:=⟨w1.heap.size,1,none⟩) (by simp only;omega) (.int .i64 u)).put4 (.int .i64 6) (.int .i64 u) (.string ⟨#[]⟩) (.slice A j c)).four
     have hz2:(w2.setCell ⟨w1.heap.size,1,none⟩ (.int .i64 u)).heap.size=wr.heap.size:=by rw[World.size_setCell];exact z2
     refine bodyPost_ret (v:=EV (6,u,[],A,j,c)) (by simp[results,Tryz.results37,go_sem,t0,t1,t2,t3];rfl) rfl ⟨_,rfl, ?_, ?_, ?_⟩
     ·rw[HGe.out,HFF.out]
      exact HD1.out _ (by have:=gp.size;omega) (fun q hq hl=>(gp.block q (by omega) (fun e=>by injection e;omega)).trans ((gs.block q (by omega) (fun e=>by injection e;omega)).trans (g2.block q hl (fun e=>by injection e;omega)))) u [] ⟨by omega,by omega⟩ (Nat.zero_le _)
     ·rw[HGe.out,HFF.out];exact(s2.grown gs (fun k e=>by cases e;omega)).grown gp (fun k e=>by cases e;exact hgl)
     ·exact grown_of (grown_of (grown_trans HGr.out g2) gs (fun k e=>by cases e;omega)) gp (fun k e=>by cases e;exact Nat.le_refl _)
    ·have HFF:=yH (show fill k (l,L2)=(.mk k 0 [] l,L2) by
      simp only[beq_eq_false_iff_ne] at n3 n4 n5 n6
      unfold fill;rw[if_neg n3,if_neg (by omega),if_neg n6])
     go_wp2_with (go_at_call 50;(with_reducible refine(args_as k (j:Int) HM _).mono ?_);rintro e w' ⟨rfl,rfl⟩)
     have gp:=put4_grown wr w.heap.size (.int .i64 k) (.int .i64 0) (.string ⟨#[]⟩) (.slice A j c)
     obtain⟨⟨t0,t1,t2,t3⟩,_⟩:=(HK0.out.put4 (.int .i64 k) (.int .i64 0) (.string ⟨#[]⟩) (.slice A j c)).four
     refine bodyPost_ret (v:=EV (k,0,[],A,j,c)) (by simp[results,Tryz.results37,go_sem,t0,t1,t2,t3];rfl) rfl ⟨_,rfl, ?_, ?_, ?_⟩
     ·rw[HGe.out,HFF.out]
      exact HD1.out _ gp.size (fun q hq hl=>gp.block q hl (fun e=>by injection e;omega)) 0 [] ⟨by omega,by omega⟩ (Nat.zero_le _)
     ·rw[HGe.out,HFF.out];exact HSr.out.grown gp (fun k e=>by cases e;exact hgl)
     ·exact grown_of HGr.out gp (fun k e=>by cases e;exact Nat.le_refl _)
theorem isWord_len{x:List UInt8}(h:isWord x=true):x.length≤6:=by
 have hm:∀y∈theWords,y.length≤6:=by decide
 exact hm x (by simpa [isWord] using h)
theorem tok_short{x:List UInt8}{k n:Int}(h:Good x k n):x.length≤100∧i64 k∧i64 n∧(k=1→x≠[]):=by
 rcases h with ⟨c,rfl,_,rfl,rfl⟩|⟨hne,_,ht⟩
 ·exact⟨by simp,⟨by decide,by decide⟩,⟨by decide,by decide⟩,fun h=>absurd h (by decide)⟩
 ·refine⟨?_, ?_, ?_,fun _=>hne⟩
  all_goals
   unfold tokOf at ht
   split at ht
   ·rename_i hw
    injection ht with ht;injection ht with a b;subst a;subst b
    first
     |(rcases(by simpa using hw:isWord x=true∨isName x=true) with h|h
       ·have:=isWord_len h;omega
       ·have:=(name_parts h).2.2.1;omega)
     |exact⟨by decide,by decide⟩
   ·split at ht
    ·rename_i hc
     injection ht with ht;injection ht with a b;subst a
     have hbd:=cnt_bd x 100000
     first
         |(rcases Nat.lt_or_ge 13 x.length with h|h
           ·rw[cnt_long h] at hc;omega
           ·omega)
         |exact⟨by decide,by decide⟩
         |exact⟨by omega,by omega⟩
    ·split at ht
     ·rename_i a hp
      injection ht with ht;injection ht with a' b;subst a'
      have htx:=txt_of_prs hp
      have hr:=htx.1
      simp only[rt,Bool.and_eq_true,decide_eq_true_eq] at hr
      first
       |(have:=txt_len a;rw[htx.2] at this;omega)
       |exact⟨by decide,by decide⟩
       |exact⟨by omega,by omega⟩
     ·cases ht
abbrev RV(r:Rs):Value:= .tuple #[.int .i64 (rsV r),.bool (rsB r),.int .i64 (rsE r)]
end Go.Proofs.YtjhjdiaomnpkmaaGreatDoor
