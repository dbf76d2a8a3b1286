/- What the landed package tree tells of ki. -/

import Derived.Test.YtjhjdiaomnpkmaaGreatDoorZ07
set_option maxRecDepth 100000
set_option maxHeartbeats 8000000
set_option linter.unusedVariables false
set_option linter.unusedSimpArgs false
namespace Go.Proofs.YtjhjdiaomnpkmaaGreatDoor
open Go.RowKit Go.Lib
theorem trow_any(k:Int)(w:World):
  Calls Tryz.prog 97 #[.int .i64 k] w fun e w'=>e= .returned (.tuple #[.string (B (wordK k)),.int .i64 (mostN k),.int .i64 (argsN k)])∧w=w':=by
 rcases kinds k with h|⟨k1,k2,k3,k4,k5,k6,k7,k8,k9,k10,k11,k12,ha,hm,_⟩
 ·rcases h with rfl|rfl|rfl|rfl|rfl|rfl|rfl|rfl|rfl|rfl|rfl|rfl
  all_goals
   go_enter Tryz.func97,Tryz.ntmps97
   go_wp2_with (fail)
   go_ret3
   exact⟨rfl,rfl⟩
 ·have HE:=yH (wordK_other ⟨k1,k2,k3,k5,k6,k7,k8,k9,k10,k11,k12⟩)
  have HA:=yH ha
  have HM:=yH hm
  clear ha hm
  go_enter Tryz.func97,Tryz.ntmps97
  go_wp2_with (fail)
  go_ret3
  exact⟨by rw[HE.out,HA.out,HM.out];rfl,rfl⟩
theorem trow_as(k:Int)(T:ByteArray)(m a:Int)(h:Hid (B (wordK k)=T∧mostN k=m∧argsN k=a))(w:World):
  Calls Tryz.prog 97 #[.int .i64 k] w fun e w'=>e= .returned (.tuple #[.string T,.int .i64 m,.int .i64 a])∧w=w':=by
 rw[←h.out.1,←h.out.2.1,←h.out.2.2];exact trow_any k w
theorem tcond_any(k n:Int)(NM:ByteArray)(A:Option Addr)(m c:Nat)(w0 w:World)(hr:Rel w0 w):
  Calls Tryz.prog 78 #[.agg #[.int .i64 k,.int .i64 n,.string NM,.slice A m c]] w fun e w'=>e= .returned (.bool (isCond k))∧Rel w0 w':=by
 have HA:=yH (hr.alloc (.cells #[.int .i64 k,.int .i64 n,.string NM,.slice A m c] 54))
 cases h1:(k==11)<;>cases h2:(k==12)
 all_goals
  have HF:=yH (show isCond k=(_||_) from rfl)
  rw[h1,h2] at HF
  go_enter Tryz.func78,Tryz.ntmps78
  go_wp2_with (fail)
  go_ret
  exact⟨ret_bool HF.out.symm,HA.out⟩
theorem tcond_as(k n:Int)(NM:ByteArray)(A:Option Addr)(m c:Nat)(b:Bool)(hb:Hid (isCond k=b))(w0 w:World)(hr:Rel w0 w):
  Calls Tryz.prog 78 #[.agg #[.int .i64 k,.int .i64 n,.string NM,.slice A m c]] w fun e w'=>e= .returned (.bool b)∧Rel w0 w':=by
 rw[←hb.out];exact tcond_any k n NM A m c w0 w hr
def namedB(k:Int)(nm:List UInt8):Bool:=if k=3 then isName nm else decide (nm=[])
theorem tnamed_any(k n:Int)(nm:List UInt8)(hm:nm.length≤100)(A:Option Addr)(m c:Nat)(w0 w:World)(hr:Rel w0 w):
  Calls Tryz.prog 112 #[.agg #[.int .i64 k,.int .i64 n,.string (B nm),.slice A m c]] w fun e w'=>e= .returned (.bool (namedB k nm))∧Rel w0 w':=by
 have HA:=yH (hr.alloc (.cells #[.int .i64 k,.int .i64 n,.string (B nm),.slice A m c] 54))
 by_cases hk:k=3
 ·subst hk
  have HF:=yH (show namedB 3 nm=isName nm from rfl)
  go_enter Tryz.func112,Tryz.ntmps112
  go_wp2_with (go_at_call 104;(with_reducible refine(lname_list nm (by omega) _ _ HA.out.self).mono ?_);rintro e w2 ⟨rfl,h2⟩)
  go_ret
  exact⟨ret_bool HF.out.symm,HA.out.trans h2⟩
 ·have k3:(k==3)=false:=by simpa using hk
  have HF:=yH (show(B nm).toList.isEmpty=namedB k nm by unfold namedB;rw[if_neg hk,B_toList];cases nm<;>rfl)
  clear hk
  go_enter Tryz.func112,Tryz.ntmps112
  go_wp2_with (fail)
  go_ret
  exact⟨ret_bool HF.out,HA.out⟩
theorem tnamed_as(k n:Int)(nm:List UInt8)(hm:nm.length≤100)(A:Option Addr)(m c:Nat)(b:Bool)(hb:Hid (namedB k nm=b))(w0 w:World)(hr:Rel w0 w):
  Calls Tryz.prog 112 #[.agg #[.int .i64 k,.int .i64 n,.string (B nm),.slice A m c]] w fun e w'=>e= .returned (.bool b)∧Rel w0 w':=by
 rw[←hb.out];exact tnamed_any k n nm hm A m c w0 w hr
def condsOk(k:Int)(l:List Ex):Prop:=∀i (h:i<l.length),isCond l[i].k=(decide (k=10)&&decide (i=0))
def fitsP(k n:Int)(nm:List UInt8)(l:List Ex):Prop:=(0≤n∧n≤mostN k)∧namedB k nm=true∧argsN k=(l.length:Int)∧condsOk k l
theorem named_iff(k:Int)(nm:List UInt8):namedB k nm=true↔(nm≠[]↔k=3)∧(k=3→isName nm=true):=by
 unfold namedB
 split
 ·rename_i h
  constructor
  ·intro hn
   exact⟨⟨fun _=>h,fun _=>(name_parts hn).1⟩,fun _=>hn⟩
  ·intro hn;exact hn.2 h
 ·rename_i h
  constructor
  ·intro hn
   have hn:nm=[]:=of_decide_eq_true hn
   exact⟨⟨fun e=>absurd hn e,fun e=>absurd e h⟩,fun e=>absurd e h⟩
  ·intro hn
   apply decide_eq_true
   rcases nm with _|⟨a,t⟩
   ·rfl
   ·exact absurd (hn.1.1 (by simp)) h
theorem fine_fits(d:Nat)(k n:Int)(nm:List UInt8)(l:List Ex):fine (d+1) (.mk k n nm l)=true↔fitsP k n nm l∧∀i (h:i<l.length),fine d l[i]=true:=by
 constructor
 ·intro h
  obtain⟨h1,h2,h3,h4,h5⟩:=fine_parts h
  exact⟨⟨h2,(named_iff k nm).2 ⟨h3,h4⟩,h1,fun i hi=>(h5 i hi).1⟩,fun i hi=>(h5 i hi).2⟩
 ·rintro⟨⟨h1,h2,h3,h4⟩,h5⟩
  obtain⟨h6,h7⟩:=(named_iff k nm).1 h2
  exact fine_mk h3 h1 h6 h7 fun i hi=>⟨h4 i hi,h5 i hi⟩
theorem tfits_any(k n:Int)(nm:List UInt8)(l:List Ex)(hm:nm.length≤100)(hl9:l.length≤1000000)(A:Option Addr)(c:Nat)(es:List El)(S:Nat→Prop)(w0 w:World)(hr:Rel w0 w)(hl:es.length=l.length)(HRow:Hid (RowE S w A es))(HSub:Hid (∀i (h:i<es.length) (h':i<l.length),ExAt S w es[i] l[i]))
  (b:Bool) (hb:Hid (b=true↔fitsP k n nm l)):
  Calls Tryz.prog 96 #[.agg #[.int .i64 k,.int .i64 n,.string (B nm),.slice A l.length c]] w fun e w'=>e= .returned (.bool b)∧Rel w0 w':=by
 have HR:=yH hr
 have HB:=yH (Bk.new w 54 #[.int .i64 k,.int .i64 n,.string (B nm),.slice A l.length c])
 have HA:=yH (hr.self.alloc (.cells #[.int .i64 k,.int .i64 n,.string (B nm),.slice A l.length c] 54))
 obtain⟨T,hT⟩:∃T,B (wordK k)=T:=⟨_,rfl⟩
 obtain⟨m,hmn⟩:∃m,mostN k=m:=⟨_,rfl⟩
 obtain⟨a,ha⟩:∃a,argsN k=a:=⟨_,rfl⟩
 have HRo:=yH (And.intro hT (And.intro hmn ha))
 obtain⟨bn,hbn⟩:∃b,namedB k nm=b:=⟨_,rfl⟩
 have HBn:=yH hbn
 have hno: ¬((0≤n∧n≤m)∧bn=true∧a=(l.length:Int))→b=false:=fun hd=>by
  cases b with
  |false=>rfl
  |true=>
   obtain⟨h1,h2,h3,_⟩:=hb.out.1 rfl
   exact absurd ⟨by rw[←hmn];exact h1,by rw[←hbn];exact h2,by rw[←ha];exact h3⟩ hd
 have HNo:=yH hno
 have HYes:=yH (show((0≤n∧n≤m)∧bn=true∧a=(l.length:Int))→(b=true↔condsOk k l) from fun hd=>by
  rw[hb.out]
  constructor
  ·exact fun h=>h.2.2.2
  ·exact fun h=>⟨by rw[hmn];exact hd.1,by rw[hbn];exact hd.2.1,by rw[ha];exact hd.2.2,h⟩)
 obtain⟨W,hW⟩:∃W,w.alloc (.cells #[.int .i64 k,.int .i64 n,.string (B nm),.slice A l.length c] 54)=W:=⟨_,rfl⟩
 rw[hW] at HB HA
 have HW:=yH hW
 have cc:=HB.out.four.1
 obtain⟨c0,c1,c2,c3⟩:=cc
 clear hW hT hmn ha hbn hno hr
 by_cases n1:n<0
 ·have hbf:=HNo.out (fun h=>by omega)
  subst hbf
  go_enter Tryz.func96,Tryz.ntmps96
  go_wp2_with (go_at_call 97;(with_reducible refine(trow_as k T m a HRo _).mono ?_);rintro e w1 ⟨rfl,rfl⟩)
  go_ret
  exact⟨rfl,by rw[HW.out];exact HR.out.trans HA.out⟩
 ·by_cases n2:m<n
  ·have hbf:=HNo.out (fun h=>by omega)
   subst hbf
   go_enter Tryz.func96,Tryz.ntmps96
   go_wp2_with (go_at_call 97;(with_reducible refine(trow_as k T m a HRo _).mono ?_);rintro e w1 ⟨rfl,rfl⟩)
   go_ret
   exact⟨rfl,by rw[HW.out];exact HR.out.trans HA.out⟩
  ·cases bn with
   |false=>
    have hbf:=HNo.out (fun h=>by cases h.2.1)
    subst hbf
    go_enter Tryz.func96,Tryz.ntmps96
    go_wp2_with (first
     |(go_at_call 97;(with_reducible refine(trow_as k T m a HRo _).mono ?_);rintro e w1 ⟨rfl,rfl⟩;rw[HW.out])
     |(go_at_call 112;(with_reducible refine(tnamed_as k n nm hm A l.length c false HBn _ _ (HR.out.trans HA.out).self).mono ?_);rintro e w2 ⟨rfl,h2⟩;obtain⟨⟨d0,d1,d2,d3⟩,_⟩:=(HB.out.rel h2).four))
    go_ret
    exact⟨rfl,(HR.out.trans HA.out).trans h2⟩
   |true=>
    by_cases n4:a=(l.length:Int)
    ·have HCo:=yH (HYes.out ⟨by omega,rfl,n4⟩)
     have q4:((l.length:Int) !=a)=false:=by simp[n4]
     go_enter Tryz.func96,Tryz.ntmps96
     go_wp2_with (first
      |(go_at_call 97;(with_reducible refine(trow_as k T m a HRo _).mono ?_);rintro e w1 ⟨rfl,rfl⟩;rw[HW.out])
      |(go_at_call 112;(with_reducible refine(tnamed_as k n nm hm A l.length c true HBn _ _ (HR.out.trans HA.out).self).mono ?_);rintro e w2 ⟨rfl,h2⟩;obtain⟨⟨d0,d1,d2,d3⟩,_⟩:=(HB.out.rel h2).four))
     have HH2:=yH h2
     clear c0 c1 c2 c3 d0 d1 d2 d3 h2
     go_loopw [39] (fun i wr=>∃j:Nat,j≤l.length∧i= .int .i64 (j:Int)∧Hid (∀i (h:i<l.length),i<j→isCond l[i].k=(decide (k=10)&&decide (i=0)))∧Rel w2 wr) (fun i _=>l.length-(RowKit.intOf i).toNat)
     case atStart=>exact⟨0,by omega,rfl,yH (fun i h hi=>absurd hi (by omega)),((HR.out.trans HA.out).trans HH2.out).self⟩
     case round=>
      obtain⟨j,hj,rfl,HJ,hRw⟩:=hrel
      have HRw:=yH hRw
      by_cases hlt:j<l.length
      ·obtain⟨g,off,k1,n1',nm1,A1,m1,c1',hA,a0,a1,a2,a3,hx⟩:=ExAt.arg HRow.out HSub.out hl ((HA.out.trans HH2.out).trans hRw) j hlt
       subst hA
       have hkx:l[j].k=k1:=by
        cases hlj:l[j] with
        |mk k' n' nm' l'=>
         rw[hlj] at hx
         obtain⟨_,_,_,e,_⟩:=hx.open
         injection e with e1
         exact e1.symm
       obtain⟨bc,hbc⟩:∃b,isCond k1=b:=⟨_,rfl⟩
       have HBc:=yH hbc
       have HNx:=yH (show bc=(decide (k=10)&&decide (j=0))→∀i (h:i<l.length),i<j+1→isCond l[i].k=(decide (k=10)&&decide (i=0)) from fun hc i h hi=>by
        rcases Nat.lt_or_ge i j with q|q
        ·exact HJ.out i h q
        ·obtain rfl:i=j:=by omega
         rw[hkx,hbc,hc])
       have HNo2:=yH (show bc≠(decide (k=10)&&decide (j=0))→b=false from fun hc=>by
        cases b with
        |false=>rfl
        |true=>
         have:=HCo.out.1 rfl j hlt
         rw[hkx,hbc] at this
         exact absurd this hc)
       clear hx hkx hbc
       have RV:=(((HR.out.trans HA.out).trans HH2.out).trans hRw).self.alloc (.cells #[.int .i64 k1,.int .i64 n1',.string (B nm1),.slice A1 m1 c1'] 54)
       have HRV:=yH RV
       obtain⟨⟨e0,e1,e2,e3⟩,_⟩:=((((HB.out.rel HH2.out).rel hRw).rel RV)).four
       have BX:=Bk.new wr 54 #[.int .i64 k1,.int .i64 n1',.string (B nm1),.slice A1 m1 c1']
       have HBX:=yH BX
       obtain⟨⟨x0,x1,x2,x3⟩,_⟩:=BX.four
       have HW2:=yH (((HB.out.rel HH2.out).rel hRw).rel RV)
       clear RV BX
       go_wp2_with (fail)
       by_cases e10:k=10
       ·by_cases ej:j=0
        ·skip
         have k10:(k==10)=true:=by simp[e10]
         have kj:((j:Int)==0)=true:=by simp[ej]
         have hw:(decide (k=10)&&decide (j=0))=true:=by simp[e10,ej]
         rw[hw] at HNx HNo2
         clear hw e10 ej
         cases bc
         ·skip
          have hbf:=HNo2.out (by simp)
          subst hbf
          go_wp2_with (fail)
          refine wp_region_held_drew (S:=(fun w'=>w'.cell? ⟨wr.heap.size,0,none⟩=some (.int .i64 k1)∧w'.cell? ⟨wr.heap.size,1,none⟩=some (.int .i64 n1')∧w'.cell? ⟨wr.heap.size,2,none⟩=some (.string (B nm1))∧w'.cell? ⟨wr.heap.size,3,none⟩=some (.slice A1 m1 c1')∧w'.cell? ⟨w.heap.size,0,none⟩=some (.int .i64 k))) (by kernel_rfl) ⟨x0,x1,x2,x3,e0⟩ (fun hH=> ?_)
          refine yL [0,2,3,4] (by kernel_rfl) hH (fun _ _ _ _ _=>id) ?_
          iterate 4
              refine yS rfl rfl (by rfl) ?_ ?_ ?_
              rotate_left
              ·rintro w' ⟨s0,s1,s2,s3,s4⟩;go_simp;try with_reducible rfl
              try simp only[Act.put,yA,yB,yC]
          refine yZ ?_
          refine held_one (j:=1) (by kernel_rfl) rfl (fun K hK=> ?_)
          try simp only[yD,yE,yF]
          rw[if_pos (by rfl)]
          go_simp
          go_at_call 78
          (with_reducible refine(tcond_as k1 n1' (B nm1) A1 m1 c1' false HBc _ _ HRV.out.drew.self).mono ?_)
          rintro e w3 ⟨rfl,h3⟩
          obtain⟨⟨f0,f1,f2,f3⟩,_⟩:=(HBX.out.drew.rel h3).four
          obtain⟨⟨g0,g1,g2,g3⟩,_⟩:=(HW2.out.drew.rel h3).four
          refine hK.out _ _ ⟨f0,f1,f2,f3,g0⟩ (fun hH=> ?_)
          clear hK K
          try simp only[Act.put,yA,yB,yC]
          refine yL [5,6,7,8,9] (by kernel_rfl) hH (fun _ _ _ _ _=>id) ?_
          iterate 5
              refine yS rfl rfl (by rfl) ?_ ?_ ?_
              rotate_left
              ·rintro w' ⟨s0,s1,s2,s3,s4⟩;go_simp;try with_reducible rfl
              try simp only[Act.put,yA,yB,yC]
          refine yZ ?_
          refine wpAnyH_done (by kernel_rfl) ?_ _
          go_wp2_with (fail)
          go_ret
          exact⟨rfl,(((((HR.out.trans HA.out).trans HH2.out).trans HRw.out).trans HRV.out).drew).trans h3⟩
         ·skip
          have HNx3:=yH (HNx.out rfl)
          go_wp2_with (fail)
          refine wp_region_held_drew (S:=(fun w'=>w'.cell? ⟨wr.heap.size,0,none⟩=some (.int .i64 k1)∧w'.cell? ⟨wr.heap.size,1,none⟩=some (.int .i64 n1')∧w'.cell? ⟨wr.heap.size,2,none⟩=some (.string (B nm1))∧w'.cell? ⟨wr.heap.size,3,none⟩=some (.slice A1 m1 c1')∧w'.cell? ⟨w.heap.size,0,none⟩=some (.int .i64 k))) (by kernel_rfl) ⟨x0,x1,x2,x3,e0⟩ (fun hH=> ?_)
          refine yL [0,2,3,4] (by kernel_rfl) hH (fun _ _ _ _ _=>id) ?_
          iterate 4
              refine yS rfl rfl (by rfl) ?_ ?_ ?_
              rotate_left
              ·rintro w' ⟨s0,s1,s2,s3,s4⟩;go_simp;try with_reducible rfl
              try simp only[Act.put,yA,yB,yC]
          refine yZ ?_
          refine held_one (j:=1) (by kernel_rfl) rfl (fun K hK=> ?_)
          try simp only[yD,yE,yF]
          rw[if_pos (by rfl)]
          go_simp
          go_at_call 78
          (with_reducible refine(tcond_as k1 n1' (B nm1) A1 m1 c1' true HBc _ _ HRV.out.drew.self).mono ?_)
          rintro e w3 ⟨rfl,h3⟩
          obtain⟨⟨f0,f1,f2,f3⟩,_⟩:=(HBX.out.drew.rel h3).four
          obtain⟨⟨g0,g1,g2,g3⟩,_⟩:=(HW2.out.drew.rel h3).four
          refine hK.out _ _ ⟨f0,f1,f2,f3,g0⟩ (fun hH=> ?_)
          clear hK K
          try simp only[Act.put,yA,yB,yC]
          refine yL [5,6,7,8,9] (by kernel_rfl) hH (fun _ _ _ _ _=>id) ?_
          iterate 5
              refine yS rfl rfl (by rfl) ?_ ?_ ?_
              rotate_left
              ·rintro w' ⟨s0,s1,s2,s3,s4⟩;go_simp;try with_reducible rfl
              try simp only[Act.put,yA,yB,yC]
          refine yZ ?_
          refine wpAnyH_done (by kernel_rfl) ?_ _
          go_wp2_with (fail)
          go_roundw
          case rel=>exact⟨j+1,by omega,by go_num,HNx3,((HRw.out.trans HRV.out).drew).trans h3⟩
          case measure=>simp[RowKit.intOf];omega
        ·skip
         have k10:(k==10)=true:=by simp[e10]
         have kj:((j:Int)==0)=false:=by simp[ej]
         have hw:(decide (k=10)&&decide (j=0))=false:=by simp[e10,ej]
         rw[hw] at HNx HNo2
         clear hw e10 ej
         cases bc
         ·skip
          have HNx3:=yH (HNx.out rfl)
          go_wp2_with (fail)
          refine wp_region_held_drew (S:=(fun w'=>w'.cell? ⟨wr.heap.size,0,none⟩=some (.int .i64 k1)∧w'.cell? ⟨wr.heap.size,1,none⟩=some (.int .i64 n1')∧w'.cell? ⟨wr.heap.size,2,none⟩=some (.string (B nm1))∧w'.cell? ⟨wr.heap.size,3,none⟩=some (.slice A1 m1 c1')∧w'.cell? ⟨w.heap.size,0,none⟩=some (.int .i64 k))) (by kernel_rfl) ⟨x0,x1,x2,x3,e0⟩ (fun hH=> ?_)
          refine yL [0,2,3,4] (by kernel_rfl) hH (fun _ _ _ _ _=>id) ?_
          iterate 4
              refine yS rfl rfl (by rfl) ?_ ?_ ?_
              rotate_left
              ·rintro w' ⟨s0,s1,s2,s3,s4⟩;go_simp;try with_reducible rfl
              try simp only[Act.put,yA,yB,yC]
          refine yZ ?_
          refine held_one (j:=1) (by kernel_rfl) rfl (fun K hK=> ?_)
          try simp only[yD,yE,yF]
          rw[if_pos (by rfl)]
          go_simp
          go_at_call 78
          (with_reducible refine(tcond_as k1 n1' (B nm1) A1 m1 c1' false HBc _ _ HRV.out.drew.self).mono ?_)
          rintro e w3 ⟨rfl,h3⟩
          obtain⟨⟨f0,f1,f2,f3⟩,_⟩:=(HBX.out.drew.rel h3).four
          obtain⟨⟨g0,g1,g2,g3⟩,_⟩:=(HW2.out.drew.rel h3).four
          refine hK.out _ _ ⟨f0,f1,f2,f3,g0⟩ (fun hH=> ?_)
          clear hK K
          try simp only[Act.put,yA,yB,yC]
          refine yL [5,6,7,8,9] (by kernel_rfl) hH (fun _ _ _ _ _=>id) ?_
          iterate 5
              refine yS rfl rfl (by rfl) ?_ ?_ ?_
              rotate_left
              ·rintro w' ⟨s0,s1,s2,s3,s4⟩;go_simp;try with_reducible rfl
              try simp only[Act.put,yA,yB,yC]
          refine yZ ?_
          refine wpAnyH_done (by kernel_rfl) ?_ _
          go_wp2_with (fail)
          go_roundw
          case rel=>exact⟨j+1,by omega,by go_num,HNx3,((HRw.out.trans HRV.out).drew).trans h3⟩
          case measure=>simp[RowKit.intOf];omega
         ·skip
          have hbf:=HNo2.out (by simp)
          subst hbf
          go_wp2_with (fail)
          refine wp_region_held_drew (S:=(fun w'=>w'.cell? ⟨wr.heap.size,0,none⟩=some (.int .i64 k1)∧w'.cell? ⟨wr.heap.size,1,none⟩=some (.int .i64 n1')∧w'.cell? ⟨wr.heap.size,2,none⟩=some (.string (B nm1))∧w'.cell? ⟨wr.heap.size,3,none⟩=some (.slice A1 m1 c1')∧w'.cell? ⟨w.heap.size,0,none⟩=some (.int .i64 k))) (by kernel_rfl) ⟨x0,x1,x2,x3,e0⟩ (fun hH=> ?_)
          refine yL [0,2,3,4] (by kernel_rfl) hH (fun _ _ _ _ _=>id) ?_
          iterate 4
              refine yS rfl rfl (by rfl) ?_ ?_ ?_
              rotate_left
              ·rintro w' ⟨s0,s1,s2,s3,s4⟩;go_simp;try with_reducible rfl
              try simp only[Act.put,yA,yB,yC]
          refine yZ ?_
          refine held_one (j:=1) (by kernel_rfl) rfl (fun K hK=> ?_)
          try simp only[yD,yE,yF]
          rw[if_pos (by rfl)]
          go_simp
          go_at_call 78
          (with_reducible refine(tcond_as k1 n1' (B nm1) A1 m1 c1' true HBc _ _ HRV.out.drew.self).mono ?_)
          rintro e w3 ⟨rfl,h3⟩
          obtain⟨⟨f0,f1,f2,f3⟩,_⟩:=(HBX.out.drew.rel h3).four
          obtain⟨⟨g0,g1,g2,g3⟩,_⟩:=(HW2.out.drew.rel h3).four
          refine hK.out _ _ ⟨f0,f1,f2,f3,g0⟩ (fun hH=> ?_)
          clear hK K
          try simp only[Act.put,yA,yB,yC]
          refine yL [5,6,7,8,9] (by kernel_rfl) hH (fun _ _ _ _ _=>id) ?_
          iterate 5
              refine yS rfl rfl (by rfl) ?_ ?_ ?_
              rotate_left
              ·rintro w' ⟨s0,s1,s2,s3,s4⟩;go_simp;try with_reducible rfl
              try simp only[Act.put,yA,yB,yC]
          refine yZ ?_
          refine wpAnyH_done (by kernel_rfl) ?_ _
          go_wp2_with (fail)
          go_ret
          exact⟨rfl,(((((HR.out.trans HA.out).trans HH2.out).trans HRw.out).trans HRV.out).drew).trans h3⟩
       ·skip
        have k10:(k==10)=false:=by simp[e10]
        have hw:(decide (k=10)&&decide (j=0))=false:=by simp[e10]
        rw[hw] at HNx HNo2
        clear hw e10
        cases bc
        ·skip
         have HNx3:=yH (HNx.out rfl)
         go_wp2_with (fail)
         refine wp_region_held_drew (S:=(fun w'=>w'.cell? ⟨wr.heap.size,0,none⟩=some (.int .i64 k1)∧w'.cell? ⟨wr.heap.size,1,none⟩=some (.int .i64 n1')∧w'.cell? ⟨wr.heap.size,2,none⟩=some (.string (B nm1))∧w'.cell? ⟨wr.heap.size,3,none⟩=some (.slice A1 m1 c1')∧w'.cell? ⟨w.heap.size,0,none⟩=some (.int .i64 k))) (by kernel_rfl) ⟨x0,x1,x2,x3,e0⟩ (fun hH=> ?_)
         refine yL [0,2,3,4] (by kernel_rfl) hH (fun _ _ _ _ _=>id) ?_
         iterate 4
          refine yS rfl rfl (by rfl) ?_ ?_ ?_
          rotate_left
          ·rintro w' ⟨s0,s1,s2,s3,s4⟩;go_simp;try with_reducible rfl
          try simp only[Act.put,yA,yB,yC]
         refine yZ ?_
         refine held_one (j:=1) (by kernel_rfl) rfl (fun K hK=> ?_)
         try simp only[yD,yE,yF]
         rw[if_pos (by rfl)]
         go_simp
         go_at_call 78
         (with_reducible refine(tcond_as k1 n1' (B nm1) A1 m1 c1' false HBc _ _ HRV.out.drew.self).mono ?_)
         rintro e w3 ⟨rfl,h3⟩
         obtain⟨⟨f0,f1,f2,f3⟩,_⟩:=(HBX.out.drew.rel h3).four
         obtain⟨⟨g0,g1,g2,g3⟩,_⟩:=(HW2.out.drew.rel h3).four
         refine hK.out _ _ ⟨f0,f1,f2,f3,g0⟩ (fun hH=> ?_)
         clear hK K
         try simp only[Act.put,yA,yB,yC]
         refine yL [5,6,7,8,9] (by kernel_rfl) hH (fun _ _ _ _ _=>id) ?_
         refine yS rfl rfl (by rfl) ?_ ?_ ?_
         rotate_left
         ·rintro w' ⟨s0,s1,s2,s3,s4⟩;go_simp;try with_reducible rfl
         try simp only[Act.put,yA,yB,yC]
         iterate 2
          refine yV rfl rfl (by rfl) ?_
          try simp only[Act.put,yA,yB,yC]
         iterate 2
          refine yS rfl rfl (by rfl) ?_ ?_ ?_
          rotate_left
          ·rintro w' ⟨s0,s1,s2,s3,s4⟩;go_simp;try with_reducible rfl
          try simp only[Act.put,yA,yB,yC]
         refine yZ ?_
         refine wpAnyH_done (by kernel_rfl) ?_ _
         go_wp2_with (fail)
         go_roundw
         case rel=>exact⟨j+1,by omega,by go_num,HNx3,((HRw.out.trans HRV.out).drew).trans h3⟩
         case measure=>simp[RowKit.intOf];omega
        ·skip
         have hbf:=HNo2.out (by simp)
         subst hbf
         go_wp2_with (fail)
         refine wp_region_held_drew (S:=(fun w'=>w'.cell? ⟨wr.heap.size,0,none⟩=some (.int .i64 k1)∧w'.cell? ⟨wr.heap.size,1,none⟩=some (.int .i64 n1')∧w'.cell? ⟨wr.heap.size,2,none⟩=some (.string (B nm1))∧w'.cell? ⟨wr.heap.size,3,none⟩=some (.slice A1 m1 c1')∧w'.cell? ⟨w.heap.size,0,none⟩=some (.int .i64 k))) (by kernel_rfl) ⟨x0,x1,x2,x3,e0⟩ (fun hH=> ?_)
         refine yL [0,2,3,4] (by kernel_rfl) hH (fun _ _ _ _ _=>id) ?_
         iterate 4
          refine yS rfl rfl (by rfl) ?_ ?_ ?_
          rotate_left
          ·rintro w' ⟨s0,s1,s2,s3,s4⟩;go_simp;try with_reducible rfl
          try simp only[Act.put,yA,yB,yC]
         refine yZ ?_
         refine held_one (j:=1) (by kernel_rfl) rfl (fun K hK=> ?_)
         try simp only[yD,yE,yF]
         rw[if_pos (by rfl)]
         go_simp
         go_at_call 78
         (with_reducible refine(tcond_as k1 n1' (B nm1) A1 m1 c1' true HBc _ _ HRV.out.drew.self).mono ?_)
         rintro e w3 ⟨rfl,h3⟩
         obtain⟨⟨f0,f1,f2,f3⟩,_⟩:=(HBX.out.drew.rel h3).four
         obtain⟨⟨g0,g1,g2,g3⟩,_⟩:=(HW2.out.drew.rel h3).four
         refine hK.out _ _ ⟨f0,f1,f2,f3,g0⟩ (fun hH=> ?_)
         clear hK K
         try simp only[Act.put,yA,yB,yC]
         refine yL [5,6,7,8,9] (by kernel_rfl) hH (fun _ _ _ _ _=>id) ?_
         refine yS rfl rfl (by rfl) ?_ ?_ ?_
         rotate_left
         ·rintro w' ⟨s0,s1,s2,s3,s4⟩;go_simp;try with_reducible rfl
         try simp only[Act.put,yA,yB,yC]
         iterate 2
          refine yV rfl rfl (by rfl) ?_
          try simp only[Act.put,yA,yB,yC]
         iterate 2
          refine yS rfl rfl (by rfl) ?_ ?_ ?_
          rotate_left
          ·rintro w' ⟨s0,s1,s2,s3,s4⟩;go_simp;try with_reducible rfl
          try simp only[Act.put,yA,yB,yC]
         refine yZ ?_
         refine wpAnyH_done (by kernel_rfl) ?_ _
         go_wp2_with (fail)
         go_ret
         exact⟨rfl,(((((HR.out.trans HA.out).trans HH2.out).trans HRw.out).trans HRV.out).drew).trans h3⟩
      ·obtain rfl:j=l.length:=by omega
       have hbt:b=true:=HCo.out.2 (fun i h=>HJ.out i h h)
       subst hbt
       go_wp2_with (fail)
       go_ret
       exact⟨rfl,((HR.out.trans HA.out).trans HH2.out).trans HRw.out⟩
    ·have hbf:=HNo.out (fun h=>n4 h.2.2)
     subst hbf
     have q4:((l.length:Int) !=a)=true:=by simp;omega
     go_enter Tryz.func96,Tryz.ntmps96
     go_wp2_with (first
      |(go_at_call 97;(with_reducible refine(trow_as k T m a HRo _).mono ?_);rintro e w1 ⟨rfl,rfl⟩;rw[HW.out])
      |(go_at_call 112;(with_reducible refine(tnamed_as k n nm hm A l.length c true HBn _ _ (HR.out.trans HA.out).self).mono ?_);rintro e w2 ⟨rfl,h2⟩;obtain⟨⟨d0,d1,d2,d3⟩,_⟩:=(HB.out.rel h2).four))
     go_ret
     exact⟨rfl,(HR.out.trans HA.out).trans h2⟩
theorem bld_size:(Tryz.prog.info? 109).map (·.size)=some 2:=by kernel_rfl
theorem prt_lies:liesAt Tryz.prog Tryz.prog.depth 111 (3/Tryz.prog.cellsOf 111) 0 109 1=true:=by kernel_rfl
theorem byte_info:(Tryz.prog.info? 5).map (fun i=>(i.zero,i.size,i.bytes))=some (some (.int .u8 0),1,1):=by kernel_rfl
def PrAt(C b:Nat)(p:Value)(l:List UInt8)(d:Nat)(w:World):Prop:=
 C≤b∧∃v,Bk w b 111 #[p,v,.int .i64 (d:Int)]∧w.ownsRowF C 5 1 v l.length (Lib.byteCells l)∧v.ownBlock≠some b
def Pr(C b:Nat)(l:List UInt8)(d:Nat)(w:World):Prop:=PrAt C b (.pointer none) l d w∨PrAt C b (.pointer (some ⟨b,0,none⟩)) l d w
def Kp(b:Nat)(w w':World):Prop:=Lib.OthersKept 5 (some b) w w'
theorem Kp.refl(b:Nat)(w:World):Kp b w w:=Lib.OthersKept.refl _ _ w
theorem Kp.trans{b:Nat}{w w' w'':World}(h:Kp b w w')(h':Kp b w' w''):Kp b w w'':=Lib.OthersKept.trans h h'
theorem Kp.alloc{b:Nat}{w w':World}(h:Kp b w w')(o:Obj):Kp b w (w'.alloc o):=Lib.OthersKept.alloc h o
theorem Kp.bk{b:Nat}{w w':World}(h:Kp b w w'){g:Nat}{t:TypeId}{cs:Array Value}(hb:Bk w g t cs)(hne:g≠b)(ht:t≠5):Bk w' g t cs:=
 h g _ hb (fun e=>hne (by injection e)) (fun c fz e=>ht (by injection e))
theorem PrAt.lt{C b:Nat}{p:Value}{l:List UInt8}{d:Nat}{w:World}(h:PrAt C b p l d w):b<w.heap.size:=by
 obtain⟨_,v,hb,_⟩:=h
 exact hb.lt
theorem Pr.lt{C b:Nat}{l:List UInt8}{d:Nat}{w:World}(h:Pr C b l d w):b<w.heap.size:=h.elim PrAt.lt PrAt.lt
theorem Pr.le{C b:Nat}{l:List UInt8}{d:Nat}{w:World}(h:Pr C b l d w):C≤b:=h.elim (·.1) (·.1)
theorem PrAt.alloc{C b:Nat}{p:Value}{l:List UInt8}{d:Nat}{w:World}(h:PrAt C b p l d w)(o:Obj):PrAt C b p l d (w.alloc o):=by
 obtain⟨hC,v,hb,hown,hne⟩:=h
 exact⟨hC,v,hb.alloc o,hown.kept (World.grownBy_alloc w o none) (by cases hv:v.ownBlock<;>simp),hne⟩
theorem Pr.alloc{C b:Nat}{l:List UInt8}{d:Nat}{w:World}(h:Pr C b l d w)(o:Obj):Pr C b l d (w.alloc o):=h.elim (fun x=> .inl (x.alloc o)) (fun x=> .inr (x.alloc o))
theorem Pr.drew{C b:Nat}{l:List UInt8}{d:Nat}{w:World}(h:Pr C b l d w):Pr C b l d w.drew:=h
theorem PrAt.rel{C b:Nat}{p:Value}{l:List UInt8}{d:Nat}{w w':World}(h:PrAt C b p l d w)(hr:Rel w w'):PrAt C b p l d w':=by
 obtain⟨hC,v,hb,hown,hne⟩:=h
 refine⟨hC,v,hb.rel hr, ?_,hne⟩
 exact hown.kept (row:=none) ⟨hr.2.os,hr.2.tape,hr.2.output,hr.2.size,fun k hk _=>hr.2.block k hk⟩ (by cases hv:v.ownBlock<;>simp)
theorem Pr.rel{C b:Nat}{l:List UInt8}{d:Nat}{w w':World}(h:Pr C b l d w)(hr:Rel w w'):Pr C b l d w':=h.elim (fun x=> .inl (x.rel hr)) (fun x=> .inr (x.rel hr))
theorem prt_ne:(111:TypeId)≠5:=by decide
theorem PrAt.put{C b:Nat}{p v' v0:Value}{l:List UInt8}{d:Nat}{w:World}(hC:C≤b)(hb:Bk w b 111 #[p,v0,.int .i64 (d:Int)])(hown:w.ownsRowF C 5 1 v' l.length (Lib.byteCells l)):PrAt C b p l d (w.setCell ⟨b,1,none⟩ v'):=by
 have hne:=Lib.ownBlock_neF hown hb prt_ne
 refine⟨hC,v',hb.set_ 1 v', ?_,hne⟩
 exact hown.kept (row:=some b) ⟨rfl,rfl,rfl,by simp[World.setCell],fun k _ hk=>Below.heap_setCell _ _ _ _ (fun e=>hk (by simp[e]))⟩ (Or.inr hne)
theorem PrAt.used{C b:Nat}{p:Value}{l:List UInt8}{d:Nat}{w:World}(h:PrAt C b p l d w)(q:Value):PrAt C b q l d (w.setCell ⟨b,0,none⟩ q):=by
 obtain⟨hC,v,hb,hown,hne⟩:=h
 refine⟨hC,v,hb.set_ 0 q, ?_,hne⟩
 exact hown.kept (row:=some b) ⟨rfl,rfl,rfl,by simp[World.setCell],fun k _ hk=>Below.heap_setCell _ _ _ _ (fun e=>hk (by simp[e]))⟩ (Or.inr hne)
theorem PrAt.open{C b:Nat}{p:Value}{l:List UInt8}{d e:Nat}{w:World}(h:PrAt C b p l d w):PrAt C b p l e (w.setCell ⟨b,2,none⟩ (.int .i64 (e:Int))):=by
 obtain⟨hC,v,hb,hown,hne⟩:=h
 refine⟨hC,v,hb.set_ 2 _, ?_,hne⟩
 exact hown.kept (row:=some b) ⟨rfl,rfl,rfl,by simp[World.setCell],fun k _ hk=>Below.heap_setCell _ _ _ _ (fun e=>hk (by simp[e]))⟩ (Or.inr hne)
theorem Pr.open{C b:Nat}{l:List UInt8}{d:Nat}{w:World}(h:Pr C b l d w)(e:Nat):Pr C b l e (w.setCell ⟨b,2,none⟩ (.int .i64 (e:Int))):=h.elim (fun x=> .inl x.open) (fun x=> .inr x.open)
theorem Pr.cells{C b:Nat}{l:List UInt8}{d:Nat}{w:World}(h:Pr C b l d w):∃p A c,w.cell? ⟨b,0,none⟩=some p∧w.cell? ⟨b,1,none⟩=some (.slice A l.length c)∧w.cell? ⟨b,2,none⟩=some (.int .i64 (d:Int))∧w.frozen? ⟨b,2,none⟩=false:=by
 obtain⟨p,hC,v,hb,hown,hne⟩:∃p,PrAt C b p l d w:=h.elim (fun h=>⟨_,h⟩) (fun h=>⟨_,h⟩)
 obtain⟨A,c,rfl⟩:∃A c,v= .slice A l.length c:=by
  rcases hown.2 with ⟨rfl,h0⟩|⟨g,cap,cur,fz,rfl,_⟩
  ·exact⟨none,0,by rw[h0]⟩
  ·exact⟨_,_,rfl⟩
 exact⟨p,A,c,by rw[hb.cell];rfl,by rw[hb.cell];rfl,by rw[hb.cell];rfl,hb.frozen 2⟩
theorem check_used(b:Nat)(w:World)(h0:w.cell? ⟨b,0,none⟩=some (.pointer (some ⟨b,0,none⟩))):
  Calls Tryz.prog 125 #[.pointer (some ⟨b,0,none⟩)] w fun e w'=>e= .returned (.tuple #[])∧w'=w:=by
 obtain⟨j,hj,_⟩:=Option.map_eq_some_iff.1 bld_size
 go_enter Tryz.func125,Tryz.ntmps125
 go_wp2
 rw[Lib.run_neq_ptr_same w _ Tryz.underlying107 hj]
 go_wp2
 go_end0
 exact⟨rfl,rfl⟩
theorem check_fresh(b:Nat)(w:World)(h0:w.cell? ⟨b,0,none⟩=some (.pointer none))(hsh:w.shape? b=some (111,3))(hfz:w.frozen? ⟨b,0,none⟩=false):
  Calls Tryz.prog 125 #[.pointer (some ⟨b,0,none⟩)] w fun e w'=>e= .returned (.tuple #[])∧w'=w.setCell ⟨b,0,none⟩ (.pointer (some ⟨b,0,none⟩)):=by
 obtain⟨j,hj,hjs⟩:=Option.map_eq_some_iff.1 bld_size
 go_enter Tryz.func125,Tryz.ntmps125
 go_wp2
 rw[Lib.run_to_unsafe w ⟨b,0,none⟩ Tryz.underlying107 Tryz.underlying143 hj (by rw[hjs];decide) hsh (Nat.zero_lt_succ 2)]
 simp only[Result.andThen]
 rw[Oper.upon_value]
 go_wp2
 rw[run_callFunc_extern Tryz.func130 (by kernel_rfl) (by kernel_rfl) (by kernel_rfl) (e:=Extern.AbiNoEscape.same) (by kernel_rfl)]
 rw[Lib.run_noEscape]
 simp only[Result.andThen]
 rw[Oper.upon_value]
 go_wp2
 rw[Lib.run_from_unsafe w ⟨b,0,none⟩ Tryz.underlying143 Tryz.underlying107 hj hsh prt_lies]
 simp only[Result.andThen]
 rw[Oper.upon_value]
 go_wp2
 go_end0
 exact⟨rfl,rfl⟩
theorem check_any(C b:Nat)(l:List UInt8)(d:Nat)(w:World)(h:Pr C b l d w):
  Calls Tryz.prog 125 #[.pointer (some ⟨b,0,none⟩)] w fun e w'=>e= .returned (.tuple #[])∧PrAt C b (.pointer (some ⟨b,0,none⟩)) l d w'∧Below C w w'∧Kp b w w':=by
 rcases h with h|h
 ·have h':=h
  obtain⟨hC,v,hb,hown,hne⟩:=h'
  refine(check_fresh b w (by rw[hb.cell];rfl) (by unfold Bk at hb;simp[World.shape?,hb]) (hb.frozen 0)).mono ?_
  rintro e w' ⟨rfl,rfl⟩
  exact⟨rfl,h.used _,(Below.refl C w).setCell (p:=⟨b,0,none⟩) hC _,(Lib.OthersKept.refl _ _ w).setCell ⟨b,0,none⟩ rfl _⟩
 ·have h':=h
  obtain⟨hC,v,hb,hown,hne⟩:=h'
  refine(check_used b w (by rw[hb.cell];rfl)).mono ?_
  rintro e w' ⟨rfl,rfl⟩
  exact⟨rfl,h,Below.refl C _,Kp.refl _ _⟩
theorem write_as(b:Nat)(l:List UInt8)(d:Nat)(s:ByteArray)(M:List UInt8)(hM:Hid (l++s.data.toList=M))(hlen:l.length+s.size≤1000000)(w0 w:World)(hr:Rel w0 w)(h:Pr w0.heap.size b l d w):
  Calls Tryz.prog 113 #[.pointer (some ⟨b,0,none⟩),.string s] w fun e w'=>e= .returned (.tuple #[.int .i64 s.size,.nilIface])∧Pr w0.heap.size b M d w'∧Rel w0 w'∧Kp b w w':=by
 obtain⟨i0,hi,hz0,hz1,hz2⟩:=info_parts byte_info
 have hCw:=hr.size
 have HR:=yH hr
 go_enter Tryz.func113,Tryz.ntmps113
 go_wp2_with (go_at_call 125;refine(check_any w0.heap.size b l d _ h).mono ?_)
 rintro e w1 ⟨rfl,h1,hb1,hk1⟩
 obtain⟨hC,v,hbk,hown,hne⟩:=h1
 have c0:w1.cell? ⟨b,0,none⟩=some (.pointer (some ⟨b,0,none⟩)):=by rw[hbk.cell];rfl
 have c1:w1.cell? ⟨b,1,none⟩=some v:=by rw[hbk.cell];rfl
 have hs1:=hb1.size
 have hbl:(Lib.byteCells l).length=l.length:=Lib.byteCells_length l
 go_wp2_with (at_builtin;refine Lib.wpList_append_own_stringF _ rfl _ _ 93 9 rfl w0.heap.size 5 i0 Tryz.underlying93 Tryz.underlying9 hi hz0 hz1 hz2 _ _ _ rfl hown s rfl (by unfold maxLen;omega) (by omega) (by omega) ?_)
 intro v' w2 hown' hgrow _
 have hlt:b<w1.heap.size:=hbk.lt
 have hb2:Bk w2 b 111 #[.pointer (some ⟨b,0,none⟩),v,.int .i64 (d:Int)]:=hbk.grown hgrow (fun e=>hne e.symm)
 have d0:w2.cell? ⟨b,0,none⟩=some (.pointer (some ⟨b,0,none⟩)):=by rw[hb2.cell];rfl
 have d1:w2.cell? ⟨b,1,none⟩=some v:=by rw[hb2.cell];rfl
 have f1:w2.frozen? ⟨b,1,none⟩=false:=hb2.frozen 1
 obtain⟨ao,n',cap,rfl⟩:∃ao n' cap,v'= .slice ao n' cap:=by
  rcases hown'.2 with ⟨hv,_⟩|⟨g,cap,cur,fz,hv,_⟩
  ·exact⟨_,_,_,hv⟩
  ·exact⟨_,_,_,hv⟩
 go_wp2
 go_ret2
 have hbelow:=(hb1.grown hgrow (by omega) (fun k hk=>(hown.lt k hk).1)).setCell (p:=⟨b,1,none⟩) hC (.slice ao n' cap)
 refine⟨rfl,.inr ?_,⟨HR.out.1,HR.out.2.trans hbelow⟩, ?_⟩
 ·refine PrAt.put hC hb2 ?_
  rw[←hM.out,Lib.byteCells_append,List.length_append]
  have e:s.data.toList.length=s.size:=by simp
  rw[e]
  exact hown'
 ·exact(Lib.OthersKept.grown hk1 hgrow (Lib.ownsRowF_kind hown)).setCell ⟨b,1,none⟩ rfl _
theorem plen_any(b:Nat)(l:List UInt8)(d:Nat)(C:Nat)(w:World)(h:Pr C b l d w):
  Calls Tryz.prog 114 #[.pointer (some ⟨b,0,none⟩)] w fun e w'=>e= .returned (.int .i64 (l.length:Int))∧w=w':=by
 obtain⟨p,A,c,c0,c1,c2,_⟩:=h.cells
 go_enter Tryz.func114,Tryz.ntmps114
 go_wp2_with (fail)
 go_ret
 exact⟨rfl,rfl⟩
theorem put_as(b:Nat)(l:List UInt8)(d:Nat)(s:ByteArray)(M:List UInt8)(hM:Hid (l++s.data.toList=M))(hlen:l.length+s.size≤1000000)(t:Bool)(ht:Hid (decide (M.length≤2000)=t))(w0 w:World)(hr:Rel w0 w)(h:Pr w0.heap.size b l d w):
  Calls Tryz.prog 98 #[.pointer (some ⟨b,0,none⟩),.string s] w fun e w'=>e= .returned (.bool t)∧Pr w0.heap.size b M d w'∧Rel w0 w'∧Kp b w w':=by
 have HP:=yH h
 have HR:=yH hr
 have HT:=yH (show decide ((M.length:Int)≤2000)=t by rw[←ht.out];exact decide_eq_decide.2 (by omega))
 go_enter Tryz.func98,Tryz.ntmps98
 go_wp2_with (first
  |(go_at_call 113;(with_reducible refine(write_as b l d s M hM hlen _ _ HR.out HP.out).mono ?_);rintro e w1 ⟨rfl,p1,r1,k1⟩)
  |(go_at_call 114;(with_reducible refine(plen_any b M d _ _ p1).mono ?_);rintro e w' ⟨rfl,rfl⟩))
 all_goals
  go_ret
  exact⟨ret_bool HT.out,p1,r1,k1⟩
theorem string_any(b:Nat)(l:List UInt8)(d:Nat)(w0 w:World)(hr:Rel w0 w)(h:Pr w0.heap.size b l d w)(h0:l≠[]):
  Calls Tryz.prog 80 #[.pointer (some ⟨b,0,none⟩)] w fun e w'=>e= .returned (.string (B l))∧Rel w0 w':=by
 obtain⟨p,hC,v,hbk,hown,hne⟩:∃p,PrAt w0.heap.size b p l d w:=h.elim (fun h=>⟨_,h⟩) (fun h=>⟨_,h⟩)
 have hl0:l.length≠0:=by simpa using h0
 have HR:=yH hr
 obtain⟨g,cap,cur,fz,rfl,hbg,hg,hfz,hnc,hcm,hcs,htake⟩:∃g cap cur fz,v= .slice (some ⟨g,0,none⟩) l.length cap∧w0.heap.size≤g∧w.heap[g]?=some (.cells cur 5 fz)∧fz.2≤l.length*1∧l.length≤cap∧cap≤maxLen∧cur.size=cap*1∧cur.toList.take (l.length*1)=Lib.byteCells l:=by
  rcases hown.2 with ⟨_,hz⟩|⟨g,cap,cur,fz,hv,r⟩
  ·exact absurd hz hl0
  ·exact⟨g,cap,cur,fz,hv,r⟩
 have c1:w.drew.cell? ⟨b,1,none⟩=some (.slice (some ⟨g,0,none⟩) l.length cap):=by rw[hbk.drew.cell];rfl
 have hSD:(Builtin.unsafeSliceData_ #[93] 129 #[.slice (some ⟨g,0,none⟩) l.length cap]).run Tryz.prog w.drew= .ok (.pointer (some ⟨g,0,none⟩)) w.drew:=
  Lib.run_unsafeSliceData_row _ _ _ _ _ _ (by omega)
 have hUS:(Builtin.unsafeString_ #[129,3] 9 #[.pointer (some ⟨g,0,none⟩),.int .i64 l.length]).run Tryz.prog w.drew= .ok (.string ⟨l.toArray⟩) (w.drew.freeze ⟨g,0,none⟩ l.length):=by
  refine Lib.run_unsafeString_row w.drew 129 3 9 5 Tryz.underlying129 (by kernel_rfl) g cur.size (by have hg':w.drew.heap[g]?=some (.cells cur 5 fz):=hg;simp[World.shape?,hg']) l h0 (by omega) (by unfold maxLen at hcm;omega) ?_
  intro j x hx
  have:=hown.cells (g:=g) rfl j (.int .u8 x.toNat) (by simp[Lib.byteCells,hx])
  exact this
 have HF:=yH (show Rel w0 (w.drew.freeze ⟨g,0,none⟩ l.length) from⟨hr.1,hr.2.trans (Lib.below_freeze (Below.drew (Below.refl w0.heap.size w)) (p:=⟨g,0,none⟩) hbg _)⟩)
 clear h hr hown hbk htake
 have mixed:Tryz.prog.follows .mixedOrders=true:=by kernel_rfl
 go_enter Tryz.func80,Tryz.ntmps80
 go_wp2
 go_region_o
 all_goals(go_wp2;go_ret;exact⟨rfl,HF.out⟩)
end Go.Proofs.YtjhjdiaomnpkmaaGreatDoor
