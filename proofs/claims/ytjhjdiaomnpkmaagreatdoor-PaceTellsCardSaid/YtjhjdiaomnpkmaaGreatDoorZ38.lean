/- The document's own Right of layer 15. -/

import Derived.Test.YtjhjdiaomnpkmaaGreatDoorZ11
set_option maxRecDepth 100000
set_option maxHeartbeats 8000000
set_option linter.unusedVariables false
set_option linter.unusedSimpArgs false
namespace Go.Proofs.YtjhjdiaomnpkmaaGreatDoor
open Go.RowKit Go.Lib
theorem right_is{la at_ sw:Int}{L:List Int}{n:Nat}(hn:L.length=n)(h0:la≠0)(hr:ringOk L=true):rightP (la,at_,L,sw)=(decide (0≤at_)&&decide (at_≤1099511627776)&&decide (1≤(n:Int))&&decide ((n:Int)≤3)&&decide (L.getLast?=some la)&&decide (0≤sw)&&decide (sw≤6)):=by
 unfold rightP
 rw[if_neg h0]
 show(ringOk L&&decide (0≤at_∧at_≤1099511627776∧1≤L.length∧L.length≤3∧L.getLast?=some la∧0≤sw∧sw≤6))=_
 rw[hr,hn,Bool.true_and,Bool.eq_iff_iff]
 simp only[Bool.and_eq_true,decide_eq_true_eq]
 constructor
 ·rintro⟨a,b,c,d,e,f,g⟩;exact⟨⟨⟨⟨⟨⟨a,b⟩,by omega⟩,by omega⟩,e⟩,f⟩,g⟩
 ·rintro⟨⟨⟨⟨⟨⟨a,b⟩,c⟩,d⟩,e⟩,f⟩,g⟩;exact⟨a,b,by omega,by omega,e,f,g⟩
theorem right_no{la at_ sw:Int}{L:List Int}(h0:la≠0)(hr:ringOk L=false):rightP (la,at_,L,sw)=false:=by
 unfold rightP
 rw[if_neg h0]
 show(ringOk L&&_)=false
 rw[hr,Bool.false_and]
theorem right_zero{at_ sw:Int}{L:List Int}{n:Nat}(hn:L.length=n):rightP (0,at_,L,sw)=((at_==0)&&((n:Int)==0)&&(sw==0)):=by
 unfold rightP
 rw[if_pos rfl]
 show decide (at_=0∧L.length=0∧sw=0)=_
 rw[hn,Bool.eq_iff_iff]
 simp only[Bool.and_eq_true,decide_eq_true_eq,beq_iff_eq]
 omega
theorem rright15_any(la at_ sw:Int)(L:List Int)(A:Option Addr)(n k:Nat)(hn:L.length=n)(w:World)(hr:Rel w w)(hi:IntsIn w A k L):
  Calls Tryz.prog 11 #[.agg #[.int .i64 la,.int .i64 at_,.slice A n k,.int .i64 sw]] w fun e w'=>e= .returned (.bool (rightP (la,at_,L,sw)))∧Rel w w':=by
 have HP0:=yH (Bk.new w 27 #[.int .i64 la,.int .i64 at_,.slice A n k,.int .i64 sw])
 have HR0:=yH (hr.alloc (.cells #[.int .i64 la,.int .i64 at_,.slice A n k,.int .i64 sw] 27))
 have HI0:=yH (hi.rel HR0.out)
 have hmax:n≤k∧k≤maxLen:=by rw[←hn];exact⟨hi.1,hi.2.1⟩
 obtain⟨hnk,hkm⟩:=hmax
 unfold maxLen at hkm
 have HN:=yH hn
 by_cases h0:la=0
 ·subst h0
  rw[right_zero hn]
  obtain⟨q1,hq1⟩:∃q,(at_==0)=q:=⟨_,rfl⟩
  obtain⟨q2,hq2⟩:∃q,((n:Int)==0)=q:=⟨_,rfl⟩
  obtain⟨q3,hq3⟩:∃q,(sw==0)=q:=⟨_,rfl⟩
  have hq4:(n==0)=q2:=by rw[←hq2,Bool.eq_iff_iff,beq_iff_eq,beq_iff_eq];omega
  rw[hq1,hq2,hq3]
  clear hr hi hn
  go_enter Tryz.func11,Tryz.ntmps11
  go_upto_region 1 with (fail)
  have HP:=HP0
  have HR:=HR0
  obtain⟨W,hW⟩:∃W,w.alloc (.cells #[.int .i64 0,.int .i64 at_,.slice A n k,.int .i64 sw] 27)=W:=⟨_,rfl⟩
  obtain⟨gp,hgp⟩:∃g,w.heap.size=g:=⟨_,rfl⟩
  rw[hW] at HP HR
  rw[hgp] at HP
  try rw[hW]
  try rw[hgp]
  clear hW hgp HP0 HR0 HI0
  obtain⟨⟨p0,p1,p2,p3⟩,_⟩:=four_of HP.out
  cases q1<;>cases q2<;>cases q3
  all_goals
   go_wp2_with (fail)
   go_ret
   exact⟨ret_bool (by first|rfl|assumption|simp_all),HR.out⟩
 ·have k0:(la==0)=false:=by simpa using h0
  have H0:=yH h0
  obtain⟨RP,hRP⟩:∃q,rightP (la,at_,L,sw)=q:=⟨_,rfl⟩
  have HRP:=yH hRP
  rw[hRP]
  clear hr hi hn h0 hRP
  go_enter Tryz.func11,Tryz.ntmps11
  go_upto_region 1 with (fail)
  have HP:=HP0
  have HR:=HR0
  have HI:=HI0
  obtain⟨W,hW⟩:∃W,w.alloc (.cells #[.int .i64 la,.int .i64 at_,.slice A n k,.int .i64 sw] 27)=W:=⟨_,rfl⟩
  obtain⟨gp,hgp⟩:∃g,w.heap.size=g:=⟨_,rfl⟩
  rw[hW] at HP HR HI
  rw[hgp] at HP
  try rw[hW]
  try rw[hgp]
  clear hW hgp HP0 HR0 HI0
  obtain⟨⟨p0,p1,p2,p3⟩,_⟩:=four_of HP.out
  go_upto_block 0 with (fail)
  go_wp2_with (fail)
  go_loopw [3] (fun i wr=>∃j:Nat,i= .int .i64 (j:Int)∧j≤n∧Hid (ringOk (L.take j)=true)∧Hid (wr=W)) (fun i _=>n-(RowKit.intOf i).toNat)
  case atStart=>exact⟨0,rfl,by omega,yH rfl,yH rfl⟩
  case round=>
   obtain⟨j,rfl,hj,HT,HW⟩:=hrel
   obtain rfl:=HW.out
   by_cases hlt:j<n
   ·have hjL:j<L.length:=by rw[HN.out];exact hlt
    obtain⟨g,off,rfl,hc⟩:=ints_row HI.out (by omega)
    have px:=hc j hjL
    have hpx:=HI.out.2.2.1 L[j] (List.getElem_mem hjL)
    have hnext:ringOk (L.take (j+1))=(ringOk (L.take j)&&decide (1≤L[j]∧L[j]≤1000000000000)):=by
     unfold ringOk
     rw[List.take_succ_eq_append_getElem hjL,List.all_append]
     simp
    have HNo:=yH (fun(h: ¬(1≤L[j]∧L[j]≤1000000000000))=>right_no (at_:=at_) (sw:=sw) H0.out (show ringOk L=false by
     cases e:ringOk L with
     |false=>rfl
     |true=>exact absurd (ringOk_mem.1 e _ (List.getElem_mem hjL)) h))
    obtain⟨x,hx⟩:∃x,L[j]=x:=⟨_,rfl⟩
    rw[hx] at px hnext HNo
    have hij:(j:Int)<(n:Int):=by omega
    have hij0:(0:Int)≤(j:Int):=by omega
    clear hc hx hpx
    by_cases e1:x<1
    ·have k1:decide (x<1)=true:=decide_eq_true e1
     have hf:RP=false:=by rw[←HRP.out];exact HNo.out (by omega)
     subst hf
     clear hnext HNo e1
     go_wp2_with (fail)
     go_ret
     exact⟨rfl,HR.out⟩
    ·have k1:decide (x<1)=false:=decide_eq_false e1
     by_cases e2:1000000000000<x
     ·have k2:decide (1000000000000<x)=true:=decide_eq_true e2
      have hf:RP=false:=by rw[←HRP.out];exact HNo.out (by omega)
      subst hf
      clear hnext HNo e1 e2
      go_wp2_with (fail)
      go_ret
      exact⟨rfl,HR.out⟩
     ·have k2:decide (1000000000000<x)=false:=decide_eq_false e2
      have HNx:=yH (show ringOk (L.take (j+1))=true by rw[hnext,HT.out,decide_eq_true (show 1≤x∧x≤1000000000000 by omega)];rfl)
      clear hnext HNo e1 e2
      go_wp2_with (fail)
      go_roundw
      case rel=>exact⟨j+1,by go_num,by omega,HNx,by first|exact yH rfl|trivial⟩
      case measure=>simp[RowKit.intOf];omega
   ·obtain rfl:j=n:=by omega
    have hro:ringOk L=true:=by have h:=HT.out;rw[←HN.out,List.take_length] at h;exact h
    have HE:=right_is (at_:=at_) (sw:=sw) HN.out H0.out hro
    rw[HRP.out] at HE
    clear hro HT
    go_upto_region 9 with (fail)
    by_cases d1:0≤at_
    rotate_left 1
    ·have k1:decide (0≤at_)=false:=decide_eq_false d1
     rw[k1] at HE
     simp only[Bool.false_and] at HE
     subst HE
     clear d1
     refine wp_region_held_drew (S:=(fun w'=>Rel w w'∧w'.cell? ⟨gp,0,none⟩=some (.int .i64 la)∧w'.cell? ⟨gp,1,none⟩=some (.int .i64 at_)∧w'.cell? ⟨gp,2,none⟩=some (.slice A j k)∧w'.cell? ⟨gp,3,none⟩=some (.int .i64 sw))) (by kernel_rfl) ⟨HR.out.drew,p0,p1,p2,p3⟩ (fun hH=> ?_)
     refine yL [0,1,2,3,4,5,6,7,8,9,10,11,12,13,14,15,16,17,18,19,20,21,22,23,24,25,26,27,28,29,30,31,32,33,34,35,36,37] (by kernel_rfl) hH (fun _ _ _ _ _=>id) ?_
     iterate 4
      refine yS rfl rfl (by rfl) ?_ ?_ ?_
      rotate_left
      ·rintro w' ⟨s0,s1,s2,s3,s4⟩;go_simp;try with_reducible rfl
      try simp only[Act.put,yA,yB,yC]
     iterate 3
      refine yV rfl rfl (by rfl) ?_
      try simp only[Act.put,yA,yB,yC]
     iterate 2
      refine yS rfl rfl (by rfl) ?_ ?_ ?_
      rotate_left
      ·rintro w' ⟨s0,s1,s2,s3,s4⟩;go_simp;try with_reducible rfl
      try simp only[Act.put,yA,yB,yC]
     iterate 2
      refine yV rfl rfl (by rfl) ?_
      try simp only[Act.put,yA,yB,yC]
     iterate 2
      refine yS rfl rfl (by rfl) ?_ ?_ ?_
      rotate_left
      ·rintro w' ⟨s0,s1,s2,s3,s4⟩;go_simp;try with_reducible rfl
      try simp only[Act.put,yA,yB,yC]
     iterate 2
      refine yV rfl rfl (by rfl) ?_
      try simp only[Act.put,yA,yB,yC]
     iterate 2
      refine yS rfl rfl (by rfl) ?_ ?_ ?_
      rotate_left
      ·rintro w' ⟨s0,s1,s2,s3,s4⟩;go_simp;try with_reducible rfl
      try simp only[Act.put,yA,yB,yC]
     iterate 9
      refine yV rfl rfl (by rfl) ?_
      try simp only[Act.put,yA,yB,yC]
     iterate 2
      refine yS rfl rfl (by rfl) ?_ ?_ ?_
      rotate_left
      ·rintro w' ⟨s0,s1,s2,s3,s4⟩;go_simp;try with_reducible rfl
      try simp only[Act.put,yA,yB,yC]
     iterate 3
      refine yV rfl rfl (by rfl) ?_
      try simp only[Act.put,yA,yB,yC]
     iterate 2
      refine yS rfl rfl (by rfl) ?_ ?_ ?_
      rotate_left
      ·rintro w' ⟨s0,s1,s2,s3,s4⟩;go_simp;try with_reducible rfl
      try simp only[Act.put,yA,yB,yC]
     iterate 3
      refine yV rfl rfl (by rfl) ?_
      try simp only[Act.put,yA,yB,yC]
     iterate 2
      refine yS rfl rfl (by rfl) ?_ ?_ ?_
      rotate_left
      ·rintro w' ⟨s0,s1,s2,s3,s4⟩;go_simp;try with_reducible rfl
      try simp only[Act.put,yA,yB,yC]
     refine yZ ?_
     refine wpAnyH_done (by kernel_rfl) ?_ _
     go_wp2_with (fail)
     go_ret
     exact⟨ret_bool (by first|rfl|assumption|simp_all),hH.1⟩
    have k1:decide (0≤at_)=true:=decide_eq_true d1
    rw[k1,Bool.true_and] at HE
    by_cases d2:at_≤1099511627776
    rotate_left 1
    ·have k2:decide (at_≤1099511627776)=false:=decide_eq_false d2
     rw[k2] at HE
     simp only[Bool.false_and] at HE
     subst HE
     clear d1 d2
     refine wp_region_held_drew (S:=(fun w'=>Rel w w'∧w'.cell? ⟨gp,0,none⟩=some (.int .i64 la)∧w'.cell? ⟨gp,1,none⟩=some (.int .i64 at_)∧w'.cell? ⟨gp,2,none⟩=some (.slice A j k)∧w'.cell? ⟨gp,3,none⟩=some (.int .i64 sw))) (by kernel_rfl) ⟨HR.out.drew,p0,p1,p2,p3⟩ (fun hH=> ?_)
     refine yL [0,1,2,3,4,5,6,7,8,9,10,11,12,13,14,15,16,17,18,19,20,21,22,23,24,25,26,27,28,29,30,31,32,33,34,35,36,37] (by kernel_rfl) hH (fun _ _ _ _ _=>id) ?_
     iterate 9
      refine yS rfl rfl (by rfl) ?_ ?_ ?_
      rotate_left
      ·rintro w' ⟨s0,s1,s2,s3,s4⟩;go_simp;try with_reducible rfl
      try simp only[Act.put,yA,yB,yC]
     iterate 2
      refine yV rfl rfl (by rfl) ?_
      try simp only[Act.put,yA,yB,yC]
     iterate 2
      refine yS rfl rfl (by rfl) ?_ ?_ ?_
      rotate_left
      ·rintro w' ⟨s0,s1,s2,s3,s4⟩;go_simp;try with_reducible rfl
      try simp only[Act.put,yA,yB,yC]
     iterate 2
      refine yV rfl rfl (by rfl) ?_
      try simp only[Act.put,yA,yB,yC]
     iterate 2
      refine yS rfl rfl (by rfl) ?_ ?_ ?_
      rotate_left
      ·rintro w' ⟨s0,s1,s2,s3,s4⟩;go_simp;try with_reducible rfl
      try simp only[Act.put,yA,yB,yC]
     iterate 9
      refine yV rfl rfl (by rfl) ?_
      try simp only[Act.put,yA,yB,yC]
     iterate 2
      refine yS rfl rfl (by rfl) ?_ ?_ ?_
      rotate_left
      ·rintro w' ⟨s0,s1,s2,s3,s4⟩;go_simp;try with_reducible rfl
      try simp only[Act.put,yA,yB,yC]
     iterate 3
      refine yV rfl rfl (by rfl) ?_
      try simp only[Act.put,yA,yB,yC]
     iterate 2
      refine yS rfl rfl (by rfl) ?_ ?_ ?_
      rotate_left
      ·rintro w' ⟨s0,s1,s2,s3,s4⟩;go_simp;try with_reducible rfl
      try simp only[Act.put,yA,yB,yC]
     iterate 3
      refine yV rfl rfl (by rfl) ?_
      try simp only[Act.put,yA,yB,yC]
     iterate 2
      refine yS rfl rfl (by rfl) ?_ ?_ ?_
      rotate_left
      ·rintro w' ⟨s0,s1,s2,s3,s4⟩;go_simp;try with_reducible rfl
      try simp only[Act.put,yA,yB,yC]
     refine yZ ?_
     refine wpAnyH_done (by kernel_rfl) ?_ _
     go_wp2_with (fail)
     go_ret
     exact⟨ret_bool (by first|rfl|assumption|simp_all),hH.1⟩
    have k2:decide (at_≤1099511627776)=true:=decide_eq_true d2
    rw[k2,Bool.true_and] at HE
    by_cases d3:1≤(j:Int)
    rotate_left 1
    ·have k3:decide (1≤(j:Int))=false:=decide_eq_false d3
     rw[k3] at HE
     simp only[Bool.false_and] at HE
     subst HE
     have k3': ¬1≤j:=by omega
     have k3'':j=0:=by omega
     clear d1 d2
     refine wp_region_held_drew (S:=(fun w'=>Rel w w'∧w'.cell? ⟨gp,0,none⟩=some (.int .i64 la)∧w'.cell? ⟨gp,1,none⟩=some (.int .i64 at_)∧w'.cell? ⟨gp,2,none⟩=some (.slice A j k)∧w'.cell? ⟨gp,3,none⟩=some (.int .i64 sw))) (by kernel_rfl) ⟨HR.out.drew,p0,p1,p2,p3⟩ (fun hH=> ?_)
     refine yL [0,1,2,3,4,5,6,7,8,9,10,11,12,13,14,15,16,17,18,19,20,21,22,23,24,25,26,27,28,29,30,31,32,33,34,35,36,37] (by kernel_rfl) hH (fun _ _ _ _ _=>id) ?_
     iterate 13
      refine yS rfl rfl (by rfl) ?_ ?_ ?_
      rotate_left
      ·rintro w' ⟨s0,s1,s2,s3,s4⟩;go_simp;try with_reducible rfl
      try simp only[Act.put,yA,yB,yC]
     iterate 2
      refine yV rfl rfl (by rfl) ?_
      try simp only[Act.put,yA,yB,yC]
     iterate 2
      refine yS rfl rfl (by rfl) ?_ ?_ ?_
      rotate_left
      ·rintro w' ⟨s0,s1,s2,s3,s4⟩;go_simp;try with_reducible rfl
      try simp only[Act.put,yA,yB,yC]
     iterate 9
      refine yV rfl rfl (by rfl) ?_
      try simp only[Act.put,yA,yB,yC]
     iterate 2
      refine yS rfl rfl (by rfl) ?_ ?_ ?_
      rotate_left
      ·rintro w' ⟨s0,s1,s2,s3,s4⟩;go_simp;try with_reducible rfl
      try simp only[Act.put,yA,yB,yC]
     iterate 3
      refine yV rfl rfl (by rfl) ?_
      try simp only[Act.put,yA,yB,yC]
     iterate 2
      refine yS rfl rfl (by rfl) ?_ ?_ ?_
      rotate_left
      ·rintro w' ⟨s0,s1,s2,s3,s4⟩;go_simp;try with_reducible rfl
      try simp only[Act.put,yA,yB,yC]
     iterate 3
      refine yV rfl rfl (by rfl) ?_
      try simp only[Act.put,yA,yB,yC]
     iterate 2
      refine yS rfl rfl (by rfl) ?_ ?_ ?_
      rotate_left
      ·rintro w' ⟨s0,s1,s2,s3,s4⟩;go_simp;try with_reducible rfl
      try simp only[Act.put,yA,yB,yC]
     refine yZ ?_
     refine wpAnyH_done (by kernel_rfl) ?_ _
     go_wp2_with (fail)
     go_ret
     exact⟨ret_bool (by first|rfl|assumption|simp_all),hH.1⟩
    have k3:decide (1≤(j:Int))=true:=decide_eq_true d3
    rw[k3,Bool.true_and] at HE
    by_cases d4:(j:Int)≤3
    rotate_left 1
    ·have k4:decide ((j:Int)≤3)=false:=decide_eq_false d4
     rw[k4] at HE
     simp only[Bool.false_and] at HE
     subst HE
     clear d1 d2
     refine wp_region_held_drew (S:=(fun w'=>Rel w w'∧w'.cell? ⟨gp,0,none⟩=some (.int .i64 la)∧w'.cell? ⟨gp,1,none⟩=some (.int .i64 at_)∧w'.cell? ⟨gp,2,none⟩=some (.slice A j k)∧w'.cell? ⟨gp,3,none⟩=some (.int .i64 sw))) (by kernel_rfl) ⟨HR.out.drew,p0,p1,p2,p3⟩ (fun hH=> ?_)
     refine yL [0,1,2,3,4,5,6,7,8,9,10,11,12,13,14,15,16,17,18,19,20,21,22,23,24,25,26,27,28,29,30,31,32,33,34,35,36,37] (by kernel_rfl) hH (fun _ _ _ _ _=>id) ?_
     iterate 17
      refine yS rfl rfl (by rfl) ?_ ?_ ?_
      rotate_left
      ·rintro w' ⟨s0,s1,s2,s3,s4⟩;go_simp;try with_reducible rfl
      try simp only[Act.put,yA,yB,yC]
     iterate 9
      refine yV rfl rfl (by rfl) ?_
      try simp only[Act.put,yA,yB,yC]
     iterate 2
      refine yS rfl rfl (by rfl) ?_ ?_ ?_
      rotate_left
      ·rintro w' ⟨s0,s1,s2,s3,s4⟩;go_simp;try with_reducible rfl
      try simp only[Act.put,yA,yB,yC]
     iterate 3
      refine yV rfl rfl (by rfl) ?_
      try simp only[Act.put,yA,yB,yC]
     iterate 2
      refine yS rfl rfl (by rfl) ?_ ?_ ?_
      rotate_left
      ·rintro w' ⟨s0,s1,s2,s3,s4⟩;go_simp;try with_reducible rfl
      try simp only[Act.put,yA,yB,yC]
     iterate 3
      refine yV rfl rfl (by rfl) ?_
      try simp only[Act.put,yA,yB,yC]
     iterate 2
      refine yS rfl rfl (by rfl) ?_ ?_ ?_
      rotate_left
      ·rintro w' ⟨s0,s1,s2,s3,s4⟩;go_simp;try with_reducible rfl
      try simp only[Act.put,yA,yB,yC]
     refine yZ ?_
     refine wpAnyH_done (by kernel_rfl) ?_ _
     go_wp2_with (fail)
     go_ret
     exact⟨ret_bool (by first|rfl|assumption|simp_all),hH.1⟩
    have k4:decide ((j:Int)≤3)=true:=decide_eq_true d4
    rw[k4,Bool.true_and] at HE
    obtain⟨e,he⟩:∃e,j=e+1:=⟨j-1,by omega⟩
    have heL:e<L.length:=by rw[HN.out];omega
    obtain⟨g,off,rfl,hc⟩:=ints_row HI.out (by omega)
    have px:=hc e heL
    have hgl:L.getLast?=some L[e]:=by
     rw[List.getLast?_eq_getElem?,HN.out,he,Nat.add_sub_cancel,List.getElem?_eq_getElem heL]
    rw[hgl] at HE
    obtain⟨x,hx⟩:∃x,L[e]=x:=⟨_,rfl⟩
    rw[hx] at px HE
    have hw1:IntKind.i64.wrap ((j:Int)-1)=(e:Int):=by rw[IntKind.wrap_i64];omega
    have he1:(e:Int)<(j:Int):=by omega
    have he0:(0:Int)≤(e:Int):=by omega
    clear hc hx hgl heL he d1 d2
    by_cases d5:x=la
    rotate_left 1
    ·have k5:(x==la)=false:=by simpa using d5
     rw[decide_eq_false (show ¬some x=some la from fun e=>d5 (Option.some.inj e))] at HE
     simp only[Bool.false_and] at HE
     subst HE
     clear d5
     refine wp_region_held_drew (S:=(fun w'=>Rel w w'∧w'.cell? ⟨gp,0,none⟩=some (.int .i64 la)∧w'.cell? ⟨gp,1,none⟩=some (.int .i64 at_)∧w'.cell? ⟨gp,2,none⟩=some (.slice (some ⟨g,off,none⟩) j k)∧w'.cell? ⟨gp,3,none⟩=some (.int .i64 sw)∧w'.cell? ⟨g,off+e,none⟩=some (.int .i64 x))) (by kernel_rfl) ⟨HR.out.drew,p0,p1,p2,p3,px⟩ (fun hH=> ?_)
     refine yL [0,1,2,3,4,5,6,7,8,9,10,11,12,13,14,15,16,17,18,19,20,21,22,23,24,25,26,27,28,29,30,31,32,33,34,35,36,37] (by kernel_rfl) hH (fun _ _ _ _ _=>id) ?_
     iterate 28
      refine yS rfl rfl (by rfl) ?_ ?_ ?_
      rotate_left
      ·rintro w' ⟨s0,s1,s2,s3,s4,s5⟩;go_simp;try with_reducible rfl
      try simp only[Act.put,yA,yB,yC]
     iterate 3
      refine yV rfl rfl (by rfl) ?_
      try simp only[Act.put,yA,yB,yC]
     iterate 2
      refine yS rfl rfl (by rfl) ?_ ?_ ?_
      rotate_left
      ·rintro w' ⟨s0,s1,s2,s3,s4,s5⟩;go_simp;try with_reducible rfl
      try simp only[Act.put,yA,yB,yC]
     iterate 3
      refine yV rfl rfl (by rfl) ?_
      try simp only[Act.put,yA,yB,yC]
     iterate 2
      refine yS rfl rfl (by rfl) ?_ ?_ ?_
      rotate_left
      ·rintro w' ⟨s0,s1,s2,s3,s4,s5⟩;go_simp;try with_reducible rfl
      try simp only[Act.put,yA,yB,yC]
     refine yZ ?_
     refine wpAnyH_done (by kernel_rfl) ?_ _
     go_wp2_with (fail)
     go_ret
     exact⟨ret_bool (by first|rfl|assumption|simp_all),hH.1⟩
    have k5:(x==la)=true:=by simpa using d5
    rw[decide_eq_true (show some x=some la by rw[d5]),Bool.true_and] at HE
    clear d5
    by_cases d6:0≤sw
    rotate_left 1
    ·have k6:decide (0≤sw)=false:=decide_eq_false d6
     rw[k6] at HE
     simp only[Bool.false_and] at HE
     subst HE
     clear d6
     refine wp_region_held_drew (S:=(fun w'=>Rel w w'∧w'.cell? ⟨gp,0,none⟩=some (.int .i64 la)∧w'.cell? ⟨gp,1,none⟩=some (.int .i64 at_)∧w'.cell? ⟨gp,2,none⟩=some (.slice (some ⟨g,off,none⟩) j k)∧w'.cell? ⟨gp,3,none⟩=some (.int .i64 sw)∧w'.cell? ⟨g,off+e,none⟩=some (.int .i64 x))) (by kernel_rfl) ⟨HR.out.drew,p0,p1,p2,p3,px⟩ (fun hH=> ?_)
     refine yL [0,1,2,3,4,5,6,7,8,9,10,11,12,13,14,15,16,17,18,19,20,21,22,23,24,25,26,27,28,29,30,31,32,33,34,35,36,37] (by kernel_rfl) hH (fun _ _ _ _ _=>id) ?_
     iterate 33
      refine yS rfl rfl (by rfl) ?_ ?_ ?_
      rotate_left
      ·rintro w' ⟨s0,s1,s2,s3,s4,s5⟩;go_simp;try with_reducible rfl
      try simp only[Act.put,yA,yB,yC]
     iterate 3
      refine yV rfl rfl (by rfl) ?_
      try simp only[Act.put,yA,yB,yC]
     iterate 2
      refine yS rfl rfl (by rfl) ?_ ?_ ?_
      rotate_left
      ·rintro w' ⟨s0,s1,s2,s3,s4,s5⟩;go_simp;try with_reducible rfl
      try simp only[Act.put,yA,yB,yC]
     refine yZ ?_
     refine wpAnyH_done (by kernel_rfl) ?_ _
     go_wp2_with (fail)
     go_ret
     exact⟨ret_bool (by first|rfl|assumption|simp_all),hH.1⟩
    have k6:decide (0≤sw)=true:=decide_eq_true d6
    rw[k6,Bool.true_and] at HE
    clear d6
    obtain⟨q,hq⟩:∃q,decide (sw≤6)=q:=⟨_,rfl⟩
    rw[hq] at HE
    subst HE
    refine wp_region_held_drew (S:=(fun w'=>Rel w w'∧w'.cell? ⟨gp,0,none⟩=some (.int .i64 la)∧w'.cell? ⟨gp,1,none⟩=some (.int .i64 at_)∧w'.cell? ⟨gp,2,none⟩=some (.slice (some ⟨g,off,none⟩) j k)∧w'.cell? ⟨gp,3,none⟩=some (.int .i64 sw)∧w'.cell? ⟨g,off+e,none⟩=some (.int .i64 x))) (by kernel_rfl) ⟨HR.out.drew,p0,p1,p2,p3,px⟩ (fun hH=> ?_)
    refine yL [0,1,2,3,4,5,6,7,8,9,10,11,12,13,14,15,16,17,18,19,20,21,22,23,24,25,26,27,28,29,30,31,32,33,34,35,36,37] (by kernel_rfl) hH (fun _ _ _ _ _=>id) ?_
    iterate 38
     refine yS rfl rfl (by rfl) ?_ ?_ ?_
     rotate_left
     ·rintro w' ⟨s0,s1,s2,s3,s4,s5⟩;go_simp;try with_reducible rfl
     try simp only[Act.put,yA,yB,yC]
    refine yZ ?_
    refine wpAnyH_done (by kernel_rfl) ?_ _
    go_wp2_with (fail)
    go_ret
    exact⟨ret_bool (by first|rfl|assumption|simp_all),hH.1⟩
end Go.Proofs.YtjhjdiaomnpkmaaGreatDoor
