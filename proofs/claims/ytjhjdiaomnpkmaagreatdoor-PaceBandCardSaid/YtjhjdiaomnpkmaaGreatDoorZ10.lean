/- The document's own fine. -/

import Derived.Test.YtjhjdiaomnpkmaaGreatDoorZ09
set_option maxRecDepth 100000
set_option maxHeartbeats 8000000
set_option linter.unusedVariables false
set_option linter.unusedSimpArgs false
namespace Go.Proofs.YtjhjdiaomnpkmaaGreatDoor
open Go.RowKit Go.Lib
theorem ExAt.kind{S:Nat→Prop}{w:World}{e:El}{x:Ex}(h:ExAt S w e x):x.k=e.1:=by cases h;rfl
def okA(d:Nat)(k:Int)(l:List Ex)(i:Nat)(h:i<l.length):Prop:=isCond l[i].k=(decide (k=10)&&decide (i=0))∧fine d l[i]=true
theorem rfine_args(k n:Int)(l:List Ex)(A:Option Addr)(c:Nat)(d:Nat)(hd:d≤40)(hl9:l.length≤1000000)(w0 w:World)(hr:Rel w0 w)(M1 M2:Int)(HM1:Hid (argsN k=M1))(HM2:Hid (mostN k=M2))(NM:ByteArray)(zNM:NM.size≤100)(q0:decide ((d:Int)+1<1)=false)(q1:(M1 !=(l.length:Int))=false)(q1':(M1==(l.length:Int))=true)(q2:decide (n<0)=false)(q3:decide (M2<n)=false)(q4:(NM.toList !=[])=false)(q4':(NM.toList==[])=true)(q5:(k==3)=false)(S0:Nat→Prop)(es:List El)(hl:es.length=l.length)(HRow:Hid (RowE S0 w A es))(HSub:Hid (∀i (h:i<es.length) (h':i<l.length),ExAt S0 w es[i] l[i]))(hzl:sizes l≤1000000)
  (HIH:Hid (∀(x:Ex)(S:Nat→Prop)(e:El)(w0 w:World),Rel w0 w→ExAt S w e x→size x≤1000000→Calls Tryz.prog 43 #[EV e,.int .i64 (d:Int)] w fun r w'=>r= .returned (.bool (fine d x))∧Rel w0 w'))
  (b:Bool) (hb:Hid (b=true↔∀i (h:i<l.length),okA d k l i h)):
  Calls Tryz.prog 43 #[.agg #[.int .i64 k,.int .i64 n,.string NM,.slice A l.length c],.int .i64 ((d:Int)+1)] w fun e w'=>e= .returned (.bool b)∧Rel w0 w':=by
 have HAw:=yH (hr.self.alloc (.cells #[.int .i64 k,.int .i64 n,.string NM,.slice A l.length c] 54))
 have HB:=yH (Bk.new w 54 #[.int .i64 k,.int .i64 n,.string NM,.slice A l.length c])
 have HA:=yH (hr.alloc (.cells #[.int .i64 k,.int .i64 n,.string NM,.slice A l.length c] 54))
 go_enter Tryz.func43,Tryz.ntmps43
 go_wp2_with (fail)
 obtain⟨W,hW⟩:∃W,w.alloc (.cells #[.int .i64 k,.int .i64 n,.string NM,.slice A l.length c] 54)=W:=⟨_,rfl⟩
 rw[hW] at HB HA HAw⊢
 clear hW
 obtain⟨⟨c0,c1,c2,c3⟩,_⟩:=HB.out.four
 refine wp_region_held_drew (S:=(fun w'=>w'.cell? ⟨w.heap.size,0,none⟩=some (.int .i64 k)∧w'.cell? ⟨w.heap.size,1,none⟩=some (.int .i64 n)∧w'.cell? ⟨w.heap.size,2,none⟩=some (.string NM)∧w'.cell? ⟨w.heap.size,3,none⟩=some (.slice A l.length c))) (by kernel_rfl) ⟨c0,c1,c2,c3⟩ (fun hH=> ?_)
 refine yL [0,1,2,3,4,6,7,8] (by kernel_rfl) hH (fun _ _ _ _ _=>id) ?_
 iterate 8
  refine yS rfl rfl (by rfl) ?_ ?_ ?_
  rotate_left
  ·rintro w' ⟨s0,s1,s2,s3⟩;go_simp;try with_reducible rfl
  try simp only[Act.put,yA,yB,yC]
 refine yZ ?_
 refine held_one (j:=5) (by kernel_rfl) rfl (fun K hK=> ?_)
 try simp only[yD,yE,yF]
 rw[if_pos (by rfl)]
 go_simp
 go_at_call 50
 (with_reducible refine(args_as k M1 HM1 _).mono ?_)
 rintro e w' ⟨rfl,rfl⟩
 refine hK.out _ _ hH (fun hH=> ?_)
 clear hK K
 try simp only[Act.put,yA,yB,yC]
 refine yL [9,10,11,12,13,14,15,16,17,18,19,20] (by kernel_rfl) hH (fun _ _ _ _ _=>id) ?_
 iterate 12
  refine yS rfl rfl (by rfl) ?_ ?_ ?_
  rotate_left
  ·rintro w' ⟨s0,s1,s2,s3⟩;go_simp;try with_reducible rfl
  try simp only[Act.put,yA,yB,yC]
 refine yZ ?_
 refine held_one (j:=21) (by kernel_rfl) rfl (fun K hK=> ?_)
 try simp only[yD,yE,yF]
 rw[if_pos (by rfl)]
 go_simp
 go_at_call 56
 (with_reducible refine(most_as k M2 HM2 _).mono ?_)
 rintro e w' ⟨rfl,rfl⟩
 refine hK.out _ _ hH (fun hH=> ?_)
 clear hK K
 try simp only[Act.put,yA,yB,yC]
 refine yL [22,23,24,25,26,27,28,29,30,31,32,33,34,35,36,37,38,39,40,41,42,43] (by kernel_rfl) hH (fun _ _ _ _ _=>id) ?_
 iterate 16
  refine yS rfl rfl (by rfl) ?_ ?_ ?_
  rotate_left
  ·rintro w' ⟨s0,s1,s2,s3⟩;go_simp;try with_reducible rfl
  try simp only[Act.put,yA,yB,yC]
 iterate 4
  refine yV rfl rfl (by rfl) ?_
  try simp only[Act.put,yA,yB,yC]
 iterate 2
  refine yS rfl rfl (by rfl) ?_ ?_ ?_
  rotate_left
  ·rintro w' ⟨s0,s1,s2,s3⟩;go_simp;try with_reducible rfl
  try simp only[Act.put,yA,yB,yC]
 refine yZ ?_
 refine wpAnyH_done (by kernel_rfl) ?_ _
 go_wp2_with (fail)
 have HB2:=yH HB.out.drew
 have HA2:=yH HAw.out.drew
 have HR0:=yH hr
 obtain⟨V,hV⟩:∃V,V=W.drew:=⟨_,rfl⟩
 rw[←hV] at HB2 HA2⊢
 clear hV HB HA HAw c0 c1 c2 c3 hH q0 q1 q1' q2 q3 q4 q4' q5
 go_loopw [5] (fun i wr=>∃j:Nat,j≤l.length∧i= .int .i64 (j:Int)∧Hid (∀i (h:i<l.length),i<j→okA d k l i h)∧Rel V wr) (fun i _=>l.length-(RowKit.intOf i).toNat)
 case atStart=>exact⟨0,by omega,rfl,yH (fun i h hi=>absurd hi (by omega)),(HR0.out.trans HA2.out).self⟩
 case round=>
  obtain⟨j,hj,rfl,HJ,hRw⟩:=hrel
  obtain⟨⟨c0,c1,c2,c3⟩,_⟩:=(HB2.out.rel hRw).four
  have HRw:=yH hRw
  by_cases hlt:j<l.length
  ·obtain⟨g,off,k1,n1,nm1,A1,m1,c1',hA,a0,a1,a2,a3,ha⟩:=ExAt.arg HRow.out HSub.out hl (HA2.out.trans hRw) j hlt
   subst hA
   have hs1:=size_mem (List.getElem_mem (l:=l) (n:=j) hlt)
   have hkj:l[j].k=k1:=ha.kind
   have HWR:=yH ((HR0.out.trans HA2.out).trans hRw).self.drew
   have HSK:=yH (show ∀w',Rel wr w'→(w'.cell? ⟨w.heap.size,0,none⟩=some (.int .i64 k)∧w'.cell? ⟨w.heap.size,3,none⟩=some (.slice (some ⟨g,off,none⟩) l.length c)∧w'.cell? ⟨g,off+j*4,none⟩=some (.int .i64 k1)∧w'.cell? ⟨g,off+j*4+1,none⟩=some (.int .i64 n1)∧w'.cell? ⟨g,off+j*4+2,none⟩=some (.string (B nm1))∧w'.cell? ⟨g,off+j*4+3,none⟩=some (.slice A1 m1 c1')) from fun w' h=>by
    obtain⟨⟨x0,x1,x2,x3⟩,_⟩:=((HB2.out.rel hRw).rel h).four
    have hgl:=blk_of_cell a0
    have hk:∀i,w'.cell? ⟨g,i,none⟩=wr.cell? ⟨g,i,none⟩:=fun i=>h.2.cell (p:=⟨g,i,none⟩) hgl
    exact⟨x0,x3,by rw[hk];exact a0,by rw[hk];exact a1,by rw[hk];exact a2,by rw[hk];exact a3⟩)
   obtain⟨bc,hbc⟩:∃bc,isCond k1=bc:=⟨_,rfl⟩
   have HBC:=yH hbc
   obtain⟨f,hf⟩:∃f,fine d l[j]=f:=⟨_,rfl⟩
   have HC:=yH (HIH.out l[j] S0 (k1,n1,nm1,A1,m1,c1') wr.drew wr.drew ((HR0.out.trans HA2.out).trans hRw).drew.self (ha.rel HWR.out) (by omega))
   rw[hf] at HC
   have hw1:IntKind.i64.wrap (d:Int)=(d:Int):=IntWalk.i64_in _ (by omega)
   have hw2:IntKind.i64.wrap ((d:Int)+1-1)=(d:Int):=by rw[show(d:Int)+1-1=d by omega];exact hw1
   have hj1:(j:Int)<(l.length:Int):=by omega
   have HOK:=yH (show okA d k l j hlt↔(bc=(decide (k=10)&&decide (j=0))∧f=true) by unfold okA;rw[hkj,hbc,hf])
   have HNx:=yH (show okA d k l j hlt→∀i (h:i<l.length),i<j+1→okA d k l i h from fun ho i h hi=>by
    rcases Nat.lt_or_ge i j with q|q
    ·exact HJ.out i h q
    ·obtain rfl:i=j:=by omega
     exact ho)
   have HNo:=yH (show ¬okA d k l j hlt→b=false from fun hn=>by
    cases b with
    |false=>rfl
    |true=>exact absurd (hb.out.1 rfl j hlt) hn)
   clear ha hkj hbc hf hs1 hRw c1 c2
   by_cases e10:k=10
   ·by_cases ej:j=0
    ·skip
     have k10:(k==10)=true:=by simp[e10]
     have kj:((j:Int)==0)=true:=by simp[ej]
     have hwant:(decide (k=10)&&decide (j=0))=true:=by simp[e10,ej]
     have HOK2:=HOK.out
     rw[hwant] at HOK2
     have HOK3:=yH HOK2
     clear hwant HOK2 HOK e10 ej
     cases bc
     ·skip
      have hbf:=HNo.out (fun h=>by have:=(HOK3.out.1 h).1;cases this)
      subst hbf
      go_wp2_with (fail)
      refine wp_region_held_drew (S:=(fun w'=>w'.cell? ⟨w.heap.size,0,none⟩=some (.int .i64 k)∧w'.cell? ⟨w.heap.size,3,none⟩=some (.slice (some ⟨g,off,none⟩) l.length c)∧w'.cell? ⟨g,off+j*4,none⟩=some (.int .i64 k1)∧w'.cell? ⟨g,off+j*4+1,none⟩=some (.int .i64 n1)∧w'.cell? ⟨g,off+j*4+2,none⟩=some (.string (B nm1))∧w'.cell? ⟨g,off+j*4+3,none⟩=some (.slice A1 m1 c1'))) (by kernel_rfl) (HSK.out _ HWR.out) (fun hH=> ?_)
      refine yL [0,1,2,3,4,5,7,8,9] (by kernel_rfl) hH (fun _ _ _ _ _=>id) ?_
      iterate 9
          refine yS rfl rfl (by rfl) ?_ ?_ ?_
          rotate_left
          ·rintro w' ⟨s0,s1,s2,s3,s4,s5⟩;go_simp;try with_reducible rfl
          try simp only[Act.put,yA,yB,yC]
      refine yZ ?_
      refine held_one (j:=6) (by kernel_rfl) rfl (fun K hK=> ?_)
      try simp only[yD,yE,yF]
      rw[if_pos (by rfl)]
      go_simp
      go_at_call 44
      (with_reducible refine(cond_as k1 _ HBC _).mono ?_)
      rintro e w' ⟨rfl,rfl⟩
      refine hK.out _ _ hH (fun hH=> ?_)
      clear hK K
      try simp only[Act.put,yA,yB,yC]
      refine yL [10,11,12,13,14,15,16,17,18,19,20,21,22,23,24,25] (by kernel_rfl) hH (fun _ _ _ _ _=>id) ?_
      iterate 6
          refine yS rfl rfl (by rfl) ?_ ?_ ?_
          rotate_left
          ·rintro w' ⟨s0,s1,s2,s3,s4,s5⟩;go_simp;try with_reducible rfl
          try simp only[Act.put,yA,yB,yC]
      iterate 9
          refine yV rfl rfl (by rfl) ?_
          try simp only[Act.put,yA,yB,yC]
      refine yS rfl rfl (by rfl) ?_ ?_ ?_
      rotate_left
      ·rintro w' ⟨s0,s1,s2,s3,s4,s5⟩;go_simp;try with_reducible rfl
      try simp only[Act.put,yA,yB,yC]
      refine yZ ?_
      refine wpAnyH_done (by kernel_rfl) ?_ _
      go_wp2_with (fail)
      go_ret
      exact⟨rfl,((HR0.out.trans HA2.out).trans HRw.out).drew⟩
     ·skip
      cases f
      ·have hbf:=HNo.out (fun h=>by have:=(HOK3.out.1 h).2;cases this)
       subst hbf
       go_wp2_with (fail)
       refine wp_region_held_drew (S:=(fun w'=>w'.cell? ⟨w.heap.size,0,none⟩=some (.int .i64 k)∧w'.cell? ⟨w.heap.size,3,none⟩=some (.slice (some ⟨g,off,none⟩) l.length c)∧w'.cell? ⟨g,off+j*4,none⟩=some (.int .i64 k1)∧w'.cell? ⟨g,off+j*4+1,none⟩=some (.int .i64 n1)∧w'.cell? ⟨g,off+j*4+2,none⟩=some (.string (B nm1))∧w'.cell? ⟨g,off+j*4+3,none⟩=some (.slice A1 m1 c1'))) (by kernel_rfl) (HSK.out _ HWR.out) (fun hH=> ?_)
       refine yL [0,1,2,3,4,5,7,8,9] (by kernel_rfl) hH (fun _ _ _ _ _=>id) ?_
       iterate 9
        refine yS rfl rfl (by rfl) ?_ ?_ ?_
        rotate_left
        ·rintro w' ⟨s0,s1,s2,s3,s4,s5⟩;go_simp;try with_reducible rfl
        try simp only[Act.put,yA,yB,yC]
       refine yZ ?_
       refine held_one (j:=6) (by kernel_rfl) rfl (fun K hK=> ?_)
       try simp only[yD,yE,yF]
       rw[if_pos (by rfl)]
       go_simp
       go_at_call 44
       (with_reducible refine(cond_as k1 _ HBC _).mono ?_)
       rintro e w' ⟨rfl,rfl⟩
       refine hK.out _ _ hH (fun hH=> ?_)
       clear hK K
       try simp only[Act.put,yA,yB,yC]
       refine yL [10,11,12,13,14,15,16,17,18,19,20,21,22] (by kernel_rfl) hH (fun _ _ _ _ _=>id) ?_
       iterate 13
        refine yS rfl rfl (by rfl) ?_ ?_ ?_
        rotate_left
        ·rintro w' ⟨s0,s1,s2,s3,s4,s5⟩;go_simp;try with_reducible rfl
        try simp only[Act.put,yA,yB,yC]
       refine yZ ?_
       refine held_one (j:=23) (by kernel_rfl) rfl (fun K hK=> ?_)
       try simp only[yD,yE,yF]
       rw[if_pos (by rfl)]
       go_simp
       go_at_call 43
       (with_reducible refine HC.out.mono ?_)
       rintro e w2 ⟨rfl,h2⟩
       refine hK.out _ _ (HSK.out _ (HWR.out.trans h2)) (fun hH=> ?_)
       clear hK K
       try simp only[Act.put,yA,yB,yC]
       refine yL [24,25] (by kernel_rfl) hH (fun _ _ _ _ _=>id) ?_
       iterate 2
        refine yS rfl rfl (by rfl) ?_ ?_ ?_
        rotate_left
        ·rintro w' ⟨s0,s1,s2,s3,s4,s5⟩;go_simp;try with_reducible rfl
        try simp only[Act.put,yA,yB,yC]
       refine yZ ?_
       refine wpAnyH_done (by kernel_rfl) ?_ _
       go_wp2_with (fail)
       go_ret
       exact⟨rfl,((HR0.out.trans HA2.out).trans HRw.out).drew.trans h2⟩
      ·have HNx2:=yH (HNx.out (HOK3.out.2 ⟨rfl,rfl⟩))
       go_wp2_with (fail)
       refine wp_region_held_drew (S:=(fun w'=>w'.cell? ⟨w.heap.size,0,none⟩=some (.int .i64 k)∧w'.cell? ⟨w.heap.size,3,none⟩=some (.slice (some ⟨g,off,none⟩) l.length c)∧w'.cell? ⟨g,off+j*4,none⟩=some (.int .i64 k1)∧w'.cell? ⟨g,off+j*4+1,none⟩=some (.int .i64 n1)∧w'.cell? ⟨g,off+j*4+2,none⟩=some (.string (B nm1))∧w'.cell? ⟨g,off+j*4+3,none⟩=some (.slice A1 m1 c1'))) (by kernel_rfl) (HSK.out _ HWR.out) (fun hH=> ?_)
       refine yL [0,1,2,3,4,5,7,8,9] (by kernel_rfl) hH (fun _ _ _ _ _=>id) ?_
       iterate 9
        refine yS rfl rfl (by rfl) ?_ ?_ ?_
        rotate_left
        ·rintro w' ⟨s0,s1,s2,s3,s4,s5⟩;go_simp;try with_reducible rfl
        try simp only[Act.put,yA,yB,yC]
       refine yZ ?_
       refine held_one (j:=6) (by kernel_rfl) rfl (fun K hK=> ?_)
       try simp only[yD,yE,yF]
       rw[if_pos (by rfl)]
       go_simp
       go_at_call 44
       (with_reducible refine(cond_as k1 _ HBC _).mono ?_)
       rintro e w' ⟨rfl,rfl⟩
       refine hK.out _ _ hH (fun hH=> ?_)
       clear hK K
       try simp only[Act.put,yA,yB,yC]
       refine yL [10,11,12,13,14,15,16,17,18,19,20,21,22] (by kernel_rfl) hH (fun _ _ _ _ _=>id) ?_
       iterate 13
        refine yS rfl rfl (by rfl) ?_ ?_ ?_
        rotate_left
        ·rintro w' ⟨s0,s1,s2,s3,s4,s5⟩;go_simp;try with_reducible rfl
        try simp only[Act.put,yA,yB,yC]
       refine yZ ?_
       refine held_one (j:=23) (by kernel_rfl) rfl (fun K hK=> ?_)
       try simp only[yD,yE,yF]
       rw[if_pos (by rfl)]
       go_simp
       go_at_call 43
       (with_reducible refine HC.out.mono ?_)
       rintro e w2 ⟨rfl,h2⟩
       refine hK.out _ _ (HSK.out _ (HWR.out.trans h2)) (fun hH=> ?_)
       clear hK K
       try simp only[Act.put,yA,yB,yC]
       refine yL [24,25] (by kernel_rfl) hH (fun _ _ _ _ _=>id) ?_
       iterate 2
        refine yS rfl rfl (by rfl) ?_ ?_ ?_
        rotate_left
        ·rintro w' ⟨s0,s1,s2,s3,s4,s5⟩;go_simp;try with_reducible rfl
        try simp only[Act.put,yA,yB,yC]
       refine yZ ?_
       refine wpAnyH_done (by kernel_rfl) ?_ _
       go_wp2_with (fail)
       go_roundw
       case rel=>exact⟨j+1,by omega,by go_num,HNx2,(HRw.out.drew).trans h2⟩
       case measure=>simp[RowKit.intOf];omega

    ·skip
     have k10:(k==10)=true:=by simp[e10]
     have kj:((j:Int)==0)=false:=by simp[ej]
     have hwant:(decide (k=10)&&decide (j=0))=false:=by simp[e10,ej]
     have HOK2:=HOK.out
     rw[hwant] at HOK2
     have HOK3:=yH HOK2
     clear hwant HOK2 HOK e10 ej
     cases bc
     ·skip
      cases f
      ·have hbf:=HNo.out (fun h=>by have:=(HOK3.out.1 h).2;cases this)
       subst hbf
       go_wp2_with (fail)
       refine wp_region_held_drew (S:=(fun w'=>w'.cell? ⟨w.heap.size,0,none⟩=some (.int .i64 k)∧w'.cell? ⟨w.heap.size,3,none⟩=some (.slice (some ⟨g,off,none⟩) l.length c)∧w'.cell? ⟨g,off+j*4,none⟩=some (.int .i64 k1)∧w'.cell? ⟨g,off+j*4+1,none⟩=some (.int .i64 n1)∧w'.cell? ⟨g,off+j*4+2,none⟩=some (.string (B nm1))∧w'.cell? ⟨g,off+j*4+3,none⟩=some (.slice A1 m1 c1'))) (by kernel_rfl) (HSK.out _ HWR.out) (fun hH=> ?_)
       refine yL [0,1,2,3,4,5,7,8,9] (by kernel_rfl) hH (fun _ _ _ _ _=>id) ?_
       iterate 9
        refine yS rfl rfl (by rfl) ?_ ?_ ?_
        rotate_left
        ·rintro w' ⟨s0,s1,s2,s3,s4,s5⟩;go_simp;try with_reducible rfl
        try simp only[Act.put,yA,yB,yC]
       refine yZ ?_
       refine held_one (j:=6) (by kernel_rfl) rfl (fun K hK=> ?_)
       try simp only[yD,yE,yF]
       rw[if_pos (by rfl)]
       go_simp
       go_at_call 44
       (with_reducible refine(cond_as k1 _ HBC _).mono ?_)
       rintro e w' ⟨rfl,rfl⟩
       refine hK.out _ _ hH (fun hH=> ?_)
       clear hK K
       try simp only[Act.put,yA,yB,yC]
       refine yL [10,11,12,13,14,15,16,17,18,19,20,21,22] (by kernel_rfl) hH (fun _ _ _ _ _=>id) ?_
       iterate 13
        refine yS rfl rfl (by rfl) ?_ ?_ ?_
        rotate_left
        ·rintro w' ⟨s0,s1,s2,s3,s4,s5⟩;go_simp;try with_reducible rfl
        try simp only[Act.put,yA,yB,yC]
       refine yZ ?_
       refine held_one (j:=23) (by kernel_rfl) rfl (fun K hK=> ?_)
       try simp only[yD,yE,yF]
       rw[if_pos (by rfl)]
       go_simp
       go_at_call 43
       (with_reducible refine HC.out.mono ?_)
       rintro e w2 ⟨rfl,h2⟩
       refine hK.out _ _ (HSK.out _ (HWR.out.trans h2)) (fun hH=> ?_)
       clear hK K
       try simp only[Act.put,yA,yB,yC]
       refine yL [24,25] (by kernel_rfl) hH (fun _ _ _ _ _=>id) ?_
       iterate 2
        refine yS rfl rfl (by rfl) ?_ ?_ ?_
        rotate_left
        ·rintro w' ⟨s0,s1,s2,s3,s4,s5⟩;go_simp;try with_reducible rfl
        try simp only[Act.put,yA,yB,yC]
       refine yZ ?_
       refine wpAnyH_done (by kernel_rfl) ?_ _
       go_wp2_with (fail)
       go_ret
       exact⟨rfl,((HR0.out.trans HA2.out).trans HRw.out).drew.trans h2⟩
      ·have HNx2:=yH (HNx.out (HOK3.out.2 ⟨rfl,rfl⟩))
       go_wp2_with (fail)
       refine wp_region_held_drew (S:=(fun w'=>w'.cell? ⟨w.heap.size,0,none⟩=some (.int .i64 k)∧w'.cell? ⟨w.heap.size,3,none⟩=some (.slice (some ⟨g,off,none⟩) l.length c)∧w'.cell? ⟨g,off+j*4,none⟩=some (.int .i64 k1)∧w'.cell? ⟨g,off+j*4+1,none⟩=some (.int .i64 n1)∧w'.cell? ⟨g,off+j*4+2,none⟩=some (.string (B nm1))∧w'.cell? ⟨g,off+j*4+3,none⟩=some (.slice A1 m1 c1'))) (by kernel_rfl) (HSK.out _ HWR.out) (fun hH=> ?_)
       refine yL [0,1,2,3,4,5,7,8,9] (by kernel_rfl) hH (fun _ _ _ _ _=>id) ?_
       iterate 9
        refine yS rfl rfl (by rfl) ?_ ?_ ?_
        rotate_left
        ·rintro w' ⟨s0,s1,s2,s3,s4,s5⟩;go_simp;try with_reducible rfl
        try simp only[Act.put,yA,yB,yC]
       refine yZ ?_
       refine held_one (j:=6) (by kernel_rfl) rfl (fun K hK=> ?_)
       try simp only[yD,yE,yF]
       rw[if_pos (by rfl)]
       go_simp
       go_at_call 44
       (with_reducible refine(cond_as k1 _ HBC _).mono ?_)
       rintro e w' ⟨rfl,rfl⟩
       refine hK.out _ _ hH (fun hH=> ?_)
       clear hK K
       try simp only[Act.put,yA,yB,yC]
       refine yL [10,11,12,13,14,15,16,17,18,19,20,21,22] (by kernel_rfl) hH (fun _ _ _ _ _=>id) ?_
       iterate 13
        refine yS rfl rfl (by rfl) ?_ ?_ ?_
        rotate_left
        ·rintro w' ⟨s0,s1,s2,s3,s4,s5⟩;go_simp;try with_reducible rfl
        try simp only[Act.put,yA,yB,yC]
       refine yZ ?_
       refine held_one (j:=23) (by kernel_rfl) rfl (fun K hK=> ?_)
       try simp only[yD,yE,yF]
       rw[if_pos (by rfl)]
       go_simp
       go_at_call 43
       (with_reducible refine HC.out.mono ?_)
       rintro e w2 ⟨rfl,h2⟩
       refine hK.out _ _ (HSK.out _ (HWR.out.trans h2)) (fun hH=> ?_)
       clear hK K
       try simp only[Act.put,yA,yB,yC]
       refine yL [24,25] (by kernel_rfl) hH (fun _ _ _ _ _=>id) ?_
       iterate 2
        refine yS rfl rfl (by rfl) ?_ ?_ ?_
        rotate_left
        ·rintro w' ⟨s0,s1,s2,s3,s4,s5⟩;go_simp;try with_reducible rfl
        try simp only[Act.put,yA,yB,yC]
       refine yZ ?_
       refine wpAnyH_done (by kernel_rfl) ?_ _
       go_wp2_with (fail)
       go_roundw
       case rel=>exact⟨j+1,by omega,by go_num,HNx2,(HRw.out.drew).trans h2⟩
       case measure=>simp[RowKit.intOf];omega
     ·skip
      have hbf:=HNo.out (fun h=>by have:=(HOK3.out.1 h).1;cases this)
      subst hbf
      go_wp2_with (fail)
      refine wp_region_held_drew (S:=(fun w'=>w'.cell? ⟨w.heap.size,0,none⟩=some (.int .i64 k)∧w'.cell? ⟨w.heap.size,3,none⟩=some (.slice (some ⟨g,off,none⟩) l.length c)∧w'.cell? ⟨g,off+j*4,none⟩=some (.int .i64 k1)∧w'.cell? ⟨g,off+j*4+1,none⟩=some (.int .i64 n1)∧w'.cell? ⟨g,off+j*4+2,none⟩=some (.string (B nm1))∧w'.cell? ⟨g,off+j*4+3,none⟩=some (.slice A1 m1 c1'))) (by kernel_rfl) (HSK.out _ HWR.out) (fun hH=> ?_)
      refine yL [0,1,2,3,4,5,7,8,9] (by kernel_rfl) hH (fun _ _ _ _ _=>id) ?_
      iterate 9
          refine yS rfl rfl (by rfl) ?_ ?_ ?_
          rotate_left
          ·rintro w' ⟨s0,s1,s2,s3,s4,s5⟩;go_simp;try with_reducible rfl
          try simp only[Act.put,yA,yB,yC]
      refine yZ ?_
      refine held_one (j:=6) (by kernel_rfl) rfl (fun K hK=> ?_)
      try simp only[yD,yE,yF]
      rw[if_pos (by rfl)]
      go_simp
      go_at_call 44
      (with_reducible refine(cond_as k1 _ HBC _).mono ?_)
      rintro e w' ⟨rfl,rfl⟩
      refine hK.out _ _ hH (fun hH=> ?_)
      clear hK K
      try simp only[Act.put,yA,yB,yC]
      refine yL [10,11,12,13,14,15,16,17,18,19,20,21,22,23,24,25] (by kernel_rfl) hH (fun _ _ _ _ _=>id) ?_
      iterate 6
          refine yS rfl rfl (by rfl) ?_ ?_ ?_
          rotate_left
          ·rintro w' ⟨s0,s1,s2,s3,s4,s5⟩;go_simp;try with_reducible rfl
          try simp only[Act.put,yA,yB,yC]
      iterate 9
          refine yV rfl rfl (by rfl) ?_
          try simp only[Act.put,yA,yB,yC]
      refine yS rfl rfl (by rfl) ?_ ?_ ?_
      rotate_left
      ·rintro w' ⟨s0,s1,s2,s3,s4,s5⟩;go_simp;try with_reducible rfl
      try simp only[Act.put,yA,yB,yC]
      refine yZ ?_
      refine wpAnyH_done (by kernel_rfl) ?_ _
      go_wp2_with (fail)
      go_ret
      exact⟨rfl,((HR0.out.trans HA2.out).trans HRw.out).drew⟩

   ·skip
    have k10:(k==10)=false:=by simp[e10]
    have hwant:(decide (k=10)&&decide (j=0))=false:=by simp[e10]
    have HOK2:=HOK.out
    rw[hwant] at HOK2
    have HOK3:=yH HOK2
    clear hwant HOK2 HOK e10
    cases bc
    ·skip
     cases f
     ·have hbf:=HNo.out (fun h=>by have:=(HOK3.out.1 h).2;cases this)
      subst hbf
      go_wp2_with (fail)
      refine wp_region_held_drew (S:=(fun w'=>w'.cell? ⟨w.heap.size,0,none⟩=some (.int .i64 k)∧w'.cell? ⟨w.heap.size,3,none⟩=some (.slice (some ⟨g,off,none⟩) l.length c)∧w'.cell? ⟨g,off+j*4,none⟩=some (.int .i64 k1)∧w'.cell? ⟨g,off+j*4+1,none⟩=some (.int .i64 n1)∧w'.cell? ⟨g,off+j*4+2,none⟩=some (.string (B nm1))∧w'.cell? ⟨g,off+j*4+3,none⟩=some (.slice A1 m1 c1'))) (by kernel_rfl) (HSK.out _ HWR.out) (fun hH=> ?_)
      refine yL [0,1,2,3,4,5,7,8,9] (by kernel_rfl) hH (fun _ _ _ _ _=>id) ?_
      iterate 9
          refine yS rfl rfl (by rfl) ?_ ?_ ?_
          rotate_left
          ·rintro w' ⟨s0,s1,s2,s3,s4,s5⟩;go_simp;try with_reducible rfl
          try simp only[Act.put,yA,yB,yC]
      refine yZ ?_
      refine held_one (j:=6) (by kernel_rfl) rfl (fun K hK=> ?_)
      try simp only[yD,yE,yF]
      rw[if_pos (by rfl)]
      go_simp
      go_at_call 44
      (with_reducible refine(cond_as k1 _ HBC _).mono ?_)
      rintro e w' ⟨rfl,rfl⟩
      refine hK.out _ _ hH (fun hH=> ?_)
      clear hK K
      try simp only[Act.put,yA,yB,yC]
      refine yL [10,11,12,13,14,15,16,17,18,19,20,21,22] (by kernel_rfl) hH (fun _ _ _ _ _=>id) ?_
      refine yS rfl rfl (by rfl) ?_ ?_ ?_
      rotate_left
      ·rintro w' ⟨s0,s1,s2,s3,s4,s5⟩;go_simp;try with_reducible rfl
      try simp only[Act.put,yA,yB,yC]
      iterate 2
          refine yV rfl rfl (by rfl) ?_
          try simp only[Act.put,yA,yB,yC]
      iterate 10
          refine yS rfl rfl (by rfl) ?_ ?_ ?_
          rotate_left
          ·rintro w' ⟨s0,s1,s2,s3,s4,s5⟩;go_simp;try with_reducible rfl
          try simp only[Act.put,yA,yB,yC]
      refine yZ ?_
      refine held_one (j:=23) (by kernel_rfl) rfl (fun K hK=> ?_)
      try simp only[yD,yE,yF]
      rw[if_pos (by rfl)]
      go_simp
      go_at_call 43
      (with_reducible refine HC.out.mono ?_)
      rintro e w2 ⟨rfl,h2⟩
      refine hK.out _ _ (HSK.out _ (HWR.out.trans h2)) (fun hH=> ?_)
      clear hK K
      try simp only[Act.put,yA,yB,yC]
      refine yL [24,25] (by kernel_rfl) hH (fun _ _ _ _ _=>id) ?_
      iterate 2
          refine yS rfl rfl (by rfl) ?_ ?_ ?_
          rotate_left
          ·rintro w' ⟨s0,s1,s2,s3,s4,s5⟩;go_simp;try with_reducible rfl
          try simp only[Act.put,yA,yB,yC]
      refine yZ ?_
      refine wpAnyH_done (by kernel_rfl) ?_ _
      go_wp2_with (fail)
      go_ret
      exact⟨rfl,((HR0.out.trans HA2.out).trans HRw.out).drew.trans h2⟩
     ·have HNx2:=yH (HNx.out (HOK3.out.2 ⟨rfl,rfl⟩))
      go_wp2_with (fail)
      refine wp_region_held_drew (S:=(fun w'=>w'.cell? ⟨w.heap.size,0,none⟩=some (.int .i64 k)∧w'.cell? ⟨w.heap.size,3,none⟩=some (.slice (some ⟨g,off,none⟩) l.length c)∧w'.cell? ⟨g,off+j*4,none⟩=some (.int .i64 k1)∧w'.cell? ⟨g,off+j*4+1,none⟩=some (.int .i64 n1)∧w'.cell? ⟨g,off+j*4+2,none⟩=some (.string (B nm1))∧w'.cell? ⟨g,off+j*4+3,none⟩=some (.slice A1 m1 c1'))) (by kernel_rfl) (HSK.out _ HWR.out) (fun hH=> ?_)
      refine yL [0,1,2,3,4,5,7,8,9] (by kernel_rfl) hH (fun _ _ _ _ _=>id) ?_
      iterate 9
          refine yS rfl rfl (by rfl) ?_ ?_ ?_
          rotate_left
          ·rintro w' ⟨s0,s1,s2,s3,s4,s5⟩;go_simp;try with_reducible rfl
          try simp only[Act.put,yA,yB,yC]
      refine yZ ?_
      refine held_one (j:=6) (by kernel_rfl) rfl (fun K hK=> ?_)
      try simp only[yD,yE,yF]
      rw[if_pos (by rfl)]
      go_simp
      go_at_call 44
      (with_reducible refine(cond_as k1 _ HBC _).mono ?_)
      rintro e w' ⟨rfl,rfl⟩
      refine hK.out _ _ hH (fun hH=> ?_)
      clear hK K
      try simp only[Act.put,yA,yB,yC]
      refine yL [10,11,12,13,14,15,16,17,18,19,20,21,22] (by kernel_rfl) hH (fun _ _ _ _ _=>id) ?_
      refine yS rfl rfl (by rfl) ?_ ?_ ?_
      rotate_left
      ·rintro w' ⟨s0,s1,s2,s3,s4,s5⟩;go_simp;try with_reducible rfl
      try simp only[Act.put,yA,yB,yC]
      iterate 2
          refine yV rfl rfl (by rfl) ?_
          try simp only[Act.put,yA,yB,yC]
      iterate 10
          refine yS rfl rfl (by rfl) ?_ ?_ ?_
          rotate_left
          ·rintro w' ⟨s0,s1,s2,s3,s4,s5⟩;go_simp;try with_reducible rfl
          try simp only[Act.put,yA,yB,yC]
      refine yZ ?_
      refine held_one (j:=23) (by kernel_rfl) rfl (fun K hK=> ?_)
      try simp only[yD,yE,yF]
      rw[if_pos (by rfl)]
      go_simp
      go_at_call 43
      (with_reducible refine HC.out.mono ?_)
      rintro e w2 ⟨rfl,h2⟩
      refine hK.out _ _ (HSK.out _ (HWR.out.trans h2)) (fun hH=> ?_)
      clear hK K
      try simp only[Act.put,yA,yB,yC]
      refine yL [24,25] (by kernel_rfl) hH (fun _ _ _ _ _=>id) ?_
      iterate 2
          refine yS rfl rfl (by rfl) ?_ ?_ ?_
          rotate_left
          ·rintro w' ⟨s0,s1,s2,s3,s4,s5⟩;go_simp;try with_reducible rfl
          try simp only[Act.put,yA,yB,yC]
      refine yZ ?_
      refine wpAnyH_done (by kernel_rfl) ?_ _
      go_wp2_with (fail)
      go_roundw
      case rel=>exact⟨j+1,by omega,by go_num,HNx2,(HRw.out.drew).trans h2⟩
      case measure=>simp[RowKit.intOf];omega
    ·skip
     have hbf:=HNo.out (fun h=>by have:=(HOK3.out.1 h).1;cases this)
     subst hbf
     go_wp2_with (fail)
     refine wp_region_held_drew (S:=(fun w'=>w'.cell? ⟨w.heap.size,0,none⟩=some (.int .i64 k)∧w'.cell? ⟨w.heap.size,3,none⟩=some (.slice (some ⟨g,off,none⟩) l.length c)∧w'.cell? ⟨g,off+j*4,none⟩=some (.int .i64 k1)∧w'.cell? ⟨g,off+j*4+1,none⟩=some (.int .i64 n1)∧w'.cell? ⟨g,off+j*4+2,none⟩=some (.string (B nm1))∧w'.cell? ⟨g,off+j*4+3,none⟩=some (.slice A1 m1 c1'))) (by kernel_rfl) (HSK.out _ HWR.out) (fun hH=> ?_)
     refine yL [0,1,2,3,4,5,7,8,9] (by kernel_rfl) hH (fun _ _ _ _ _=>id) ?_
     iterate 9
      refine yS rfl rfl (by rfl) ?_ ?_ ?_
      rotate_left
      ·rintro w' ⟨s0,s1,s2,s3,s4,s5⟩;go_simp;try with_reducible rfl
      try simp only[Act.put,yA,yB,yC]
     refine yZ ?_
     refine held_one (j:=6) (by kernel_rfl) rfl (fun K hK=> ?_)
     try simp only[yD,yE,yF]
     rw[if_pos (by rfl)]
     go_simp
     go_at_call 44
     (with_reducible refine(cond_as k1 _ HBC _).mono ?_)
     rintro e w' ⟨rfl,rfl⟩
     refine hK.out _ _ hH (fun hH=> ?_)
     clear hK K
     try simp only[Act.put,yA,yB,yC]
     refine yL [10,11,12,13,14,15,16,17,18,19,20,21,22,23,24,25] (by kernel_rfl) hH (fun _ _ _ _ _=>id) ?_
     refine yS rfl rfl (by rfl) ?_ ?_ ?_
     rotate_left
     ·rintro w' ⟨s0,s1,s2,s3,s4,s5⟩;go_simp;try with_reducible rfl
     try simp only[Act.put,yA,yB,yC]
     iterate 2
      refine yV rfl rfl (by rfl) ?_
      try simp only[Act.put,yA,yB,yC]
     iterate 3
      refine yS rfl rfl (by rfl) ?_ ?_ ?_
      rotate_left
      ·rintro w' ⟨s0,s1,s2,s3,s4,s5⟩;go_simp;try with_reducible rfl
      try simp only[Act.put,yA,yB,yC]
     iterate 9
      refine yV rfl rfl (by rfl) ?_
      try simp only[Act.put,yA,yB,yC]
     refine yS rfl rfl (by rfl) ?_ ?_ ?_
     rotate_left
     ·rintro w' ⟨s0,s1,s2,s3,s4,s5⟩;go_simp;try with_reducible rfl
     try simp only[Act.put,yA,yB,yC]
     refine yZ ?_
     refine wpAnyH_done (by kernel_rfl) ?_ _
     go_wp2_with (fail)
     go_ret
     exact⟨rfl,((HR0.out.trans HA2.out).trans HRw.out).drew⟩

  ·obtain rfl:j=l.length:=by omega
   have hbt:b=true:=hb.out.2 fun i h=>HJ.out i h h
   subst hbt
   go_wp2_with (fail)
   go_ret
   exact⟨rfl,(HR0.out.trans HA2.out).trans HRw.out⟩
end Go.Proofs.YtjhjdiaomnpkmaaGreatDoor
