/- What the landed package tree tells of ki. -/

import Derived.Test.YtfekhbeaphpelaaGreatDoorY16
set_option maxRecDepth 100000
set_option maxHeartbeats 8000000
set_option linter.unusedVariables false
set_option linter.unusedSimpArgs false
namespace Go.Proofs.YtfekhbeaphpelaaGreatDoor
open Go.RowKit Go.Lib
theorem trow_any(k:Int)(w:World):
  Calls Tryz.prog 105 #[yI k] w fun e w'=>e= .returned (.tuple #[.string (B (wordK k)),yI (mostN k),yI (argsN k)])∧w=w':=by
 rcases kinds k with h|⟨k1,k2,k3,k4,k5,k6,k7,k8,k9,k10,k11,k12,ha,hm,_⟩
 ·rcases h with rfl|rfl|rfl|rfl|rfl|rfl|rfl|rfl|rfl|rfl|rfl|rfl
  all_goals
   go_enter Tryz.func105,Tryz.ntmps105
   go_wp2_with (fail)
   go_ret3
   exact⟨rfl,rfl⟩
 ·have HE:=yH (wordK_other ⟨k1,k2,k3,k5,k6,k7,k8,k9,k10,k11,k12⟩)
  have HA:=yH ha
  have HM:=yH hm
  clear ha hm
  go_enter Tryz.func105,Tryz.ntmps105
  go_wp2_with (fail)
  go_ret3
  exact⟨by rw[HE.out,HA.out,HM.out];rfl,rfl⟩
theorem trow_as(k:Int)(T:ByteArray)(m a:Int)(h:Hid (B (wordK k)=T∧mostN k=m∧argsN k=a))(w:World):
  Calls Tryz.prog 105 #[yI k] w fun e w'=>e= .returned (.tuple #[.string T,yI m,yI a])∧w=w':=by
 rw[←h.out.1,←h.out.2.1,←h.out.2.2];exact trow_any k w
theorem tcond_any(k n:Int)(NM:ByteArray)(A:Option Addr)(m c:Nat)(w0 w:World)(hr:Rel w0 w):
  Calls Tryz.prog 77 #[.agg #[yI k,yI n,.string NM,.slice A m c]] w fun e w'=>e= .returned (.bool (isCond k))∧Rel w0 w':=by
 have HA:=yH (hr.alloc (.cells #[yI k,yI n,.string NM,.slice A m c] 52))
 cases h1:(k==11)<;>cases h2:(k==12)
 all_goals
  have HF:=yH (show isCond k=(_||_) from rfl)
  rw[h1,h2] at HF
  go_enter Tryz.func77,Tryz.ntmps77
  go_wp2_with (fail)
  go_ret
  exact⟨ret_bool HF.out.symm,HA.out⟩
theorem tcond_as(k n:Int)(NM:ByteArray)(A:Option Addr)(m c:Nat)(b:Bool)(hb:Hid (isCond k=b))(w0 w:World)(hr:Rel w0 w):
  Calls Tryz.prog 77 #[.agg #[yI k,yI n,.string NM,.slice A m c]] w fun e w'=>e= .returned (.bool b)∧Rel w0 w':=by
 rw[←hb.out];exact tcond_any k n NM A m c w0 w hr
def namedB(k:Int)(nm:List UInt8):Bool:=if k=3 then isName nm else decide (nm=[])
theorem tnamed_any(k n:Int)(nm:List UInt8)(hm:nm.length≤100)(A:Option Addr)(m c:Nat)(w0 w:World)(hr:Rel w0 w):
  Calls Tryz.prog 137 #[.agg #[yI k,yI n,.string (B nm),.slice A m c]] w fun e w'=>e= .returned (.bool (namedB k nm))∧Rel w0 w':=by
 have HA:=yH (hr.alloc (.cells #[yI k,yI n,.string (B nm),.slice A m c] 52))
 by_cases hk:k=3
 ·subst hk
  have HF:=yH (show namedB 3 nm=isName nm from rfl)
  go_enter Tryz.func137,Tryz.ntmps137
  go_wp2_with (go_at_call 113;(with_reducible refine(lname_list nm (by omega) _ _ HA.out.self).mono ?_);rintro e w2 ⟨rfl,h2⟩)
  go_ret
  exact⟨ret_bool HF.out.symm,HA.out.trans h2⟩
 ·have k3:(k==3)=false:=by simpa using hk
  have HF:=yH (show(B nm).toList.isEmpty=namedB k nm by unfold namedB;rw[if_neg hk,B_toList];cases nm<;>rfl)
  clear hk
  go_enter Tryz.func137,Tryz.ntmps137
  go_wp2_with (fail)
  go_ret
  exact⟨ret_bool HF.out,HA.out⟩
theorem tnamed_as(k n:Int)(nm:List UInt8)(hm:nm.length≤100)(A:Option Addr)(m c:Nat)(b:Bool)(hb:Hid (namedB k nm=b))(w0 w:World)(hr:Rel w0 w):
  Calls Tryz.prog 137 #[.agg #[yI k,yI n,.string (B nm),.slice A m c]] w fun e w'=>e= .returned (.bool b)∧Rel w0 w':=by
 rw[←hb.out];exact tnamed_any k n nm hm A m c w0 w hr
def condsOk(k:Int)(l:List Ex):Prop:=∀i (h:i<l.length),isCond l[i].k=(decide (k=10)&&decide (i=0))
def fitsP(k n:Int)(nm:List UInt8)(l:List Ex):Prop:=(0≤n∧n≤mostN k)∧namedB k nm=true∧argsN k=(l.length:Int)∧condsOk k l
theorem named_iff(k:Int)(nm:List UInt8):namedB k nm=true↔(nm≠[]↔k=3)∧(k=3→isName nm=true):=by
 unfold namedB
 split
 ·rename_i h
  constructor
  ·intro hn
   exact⟨⟨fun _=>h,fun _=>(name_parts hn).1⟩,fun _=>hn⟩
  ·intro hn;exact hn.2 h
 ·rename_i h
  constructor
  ·intro hn
   have hn:nm=[]:=of_decide_eq_true hn
   exact⟨⟨fun e=>absurd hn e,fun e=>absurd e h⟩,fun e=>absurd e h⟩
  ·intro hn
   apply decide_eq_true
   rcases nm with _|⟨a,t⟩
   ·rfl
   ·exact absurd (hn.1.1 (by simp)) h
theorem fine_fits(d:Nat)(k n:Int)(nm:List UInt8)(l:List Ex):fine (d+1) (.mk k n nm l)=true↔fitsP k n nm l∧∀i (h:i<l.length),fine d l[i]=true:=by
 constructor
 ·intro h
  obtain⟨h1,h2,h3,h4,h5⟩:=fine_parts h
  exact⟨⟨h2,(named_iff k nm).2 ⟨h3,h4⟩,h1,fun i hi=>(h5 i hi).1⟩,fun i hi=>(h5 i hi).2⟩
 ·rintro⟨⟨h1,h2,h3,h4⟩,h5⟩
  obtain⟨h6,h7⟩:=(named_iff k nm).1 h2
  exact fine_mk h3 h1 h6 h7 fun i hi=>⟨h4 i hi,h5 i hi⟩
theorem tfits_any(k n:Int)(nm:List UInt8)(l:List Ex)(hm:nm.length≤100)(hl9:l.length≤1000000)(A:Option Addr)(c:Nat)(es:List El)(S:Nat→Prop)(w0 w:World)(hr:Rel w0 w)(hl:es.length=l.length)(HRow:Hid (RowE S w A es))(HSub:Hid (∀i (h:i<es.length) (h':i<l.length),ExAt S w es[i] l[i]))
  (b:Bool) (hb:Hid (b=true↔fitsP k n nm l)):
  Calls Tryz.prog 104 #[.agg #[yI k,yI n,.string (B nm),.slice A l.length c]] w fun e w'=>e= .returned (.bool b)∧Rel w0 w':=by
 have HR:=yH hr
 have HB:=yH (Bk.new w 52 #[yI k,yI n,.string (B nm),.slice A l.length c])
 have HA:=yH (hr.self.alloc (.cells #[yI k,yI n,.string (B nm),.slice A l.length c] 52))
 obtain⟨T,hT⟩:∃T,B (wordK k)=T:=⟨_,rfl⟩
 obtain⟨m,hmn⟩:∃m,mostN k=m:=⟨_,rfl⟩
 obtain⟨a,ha⟩:∃a,argsN k=a:=⟨_,rfl⟩
 have HRo:=yH (And.intro hT (And.intro hmn ha))
 obtain⟨bn,hbn⟩:∃b,namedB k nm=b:=⟨_,rfl⟩
 have HBn:=yH hbn
 have hno: ¬((0≤n∧n≤m)∧bn=true∧a=(l.length:Int))→b=false:=fun hd=>by
  cases b with
  |false=>rfl
  |true=>
   obtain⟨h1,h2,h3,_⟩:=hb.out.1 rfl
   exact absurd ⟨by rw[←hmn];exact h1,by rw[←hbn];exact h2,by rw[←ha];exact h3⟩ hd
 have HNo:=yH hno
 have HYes:=yH (show((0≤n∧n≤m)∧bn=true∧a=(l.length:Int))→(b=true↔condsOk k l) from fun hd=>by
  rw[hb.out]
  constructor
  ·exact fun h=>h.2.2.2
  ·exact fun h=>⟨by rw[hmn];exact hd.1,by rw[hbn];exact hd.2.1,by rw[ha];exact hd.2.2,h⟩)
 obtain⟨W,hW⟩:∃W,w.alloc (.cells #[yI k,yI n,.string (B nm),.slice A l.length c] 52)=W:=⟨_,rfl⟩
 rw[hW] at HB HA
 have HW:=yH hW
 have cc:=HB.out.four.1
 obtain⟨c0,c1,c2,c3⟩:=cc
 clear hW hT hmn ha hbn hno hr
 by_cases n1:n<0
 ·have hbf:=HNo.out (fun h=>by omega)
  subst hbf
  go_enter Tryz.func104,Tryz.ntmps104
  go_wp2_with (go_at_call 105;(with_reducible refine(trow_as k T m a HRo _).mono ?_);rintro e w1 ⟨rfl,rfl⟩)
  go_ret
  exact⟨rfl,by rw[HW.out];exact HR.out.trans HA.out⟩
 ·by_cases n2:m<n
  ·have hbf:=HNo.out (fun h=>by omega)
   subst hbf
   go_enter Tryz.func104,Tryz.ntmps104
   go_wp2_with (go_at_call 105;(with_reducible refine(trow_as k T m a HRo _).mono ?_);rintro e w1 ⟨rfl,rfl⟩)
   go_ret
   exact⟨rfl,by rw[HW.out];exact HR.out.trans HA.out⟩
  ·cases bn with
   |false=>
    have hbf:=HNo.out (fun h=>by cases h.2.1)
    subst hbf
    go_enter Tryz.func104,Tryz.ntmps104
    go_wp2_with (first
     |(go_at_call 105;(with_reducible refine(trow_as k T m a HRo _).mono ?_);rintro e w1 ⟨rfl,rfl⟩;rw[HW.out])
     |(go_at_call 137;(with_reducible refine(tnamed_as k n nm hm A l.length c false HBn _ _ (HR.out.trans HA.out).self).mono ?_);rintro e w2 ⟨rfl,h2⟩;obtain⟨⟨d0,d1,d2,d3⟩,_⟩:=(HB.out.rel h2).four))
    go_ret
    exact⟨rfl,(HR.out.trans HA.out).trans h2⟩
   |true=>
    by_cases n4:a=(l.length:Int)
    ·have HCo:=yH (HYes.out ⟨by omega,rfl,n4⟩)
     have q4:((l.length:Int) !=a)=false:=by simp[n4]
     go_enter Tryz.func104,Tryz.ntmps104
     go_wp2_with (first
      |(go_at_call 105;(with_reducible refine(trow_as k T m a HRo _).mono ?_);rintro e w1 ⟨rfl,rfl⟩;rw[HW.out])
      |(go_at_call 137;(with_reducible refine(tnamed_as k n nm hm A l.length c true HBn _ _ (HR.out.trans HA.out).self).mono ?_);rintro e w2 ⟨rfl,h2⟩;obtain⟨⟨d0,d1,d2,d3⟩,_⟩:=(HB.out.rel h2).four))
     have HH2:=yH h2
     clear c0 c1 c2 c3 d0 d1 d2 d3 h2
     go_loopw [39] (fun i wr=>∃j:Nat,j≤l.length∧i=yI (j:Int)∧Hid (∀i (h:i<l.length),i<j→isCond l[i].k=(decide (k=10)&&decide (i=0)))∧Rel w2 wr) (fun i _=>l.length-(RowKit.intOf i).toNat)
     case atStart=>exact⟨0,by omega,rfl,yH (fun i h hi=>absurd hi (by omega)),((HR.out.trans HA.out).trans HH2.out).self⟩
     case round=>
      obtain⟨j,hj,rfl,HJ,hRw⟩:=hrel
      have HRw:=yH hRw
      by_cases hlt:j<l.length
      ·obtain⟨g,off,k1,n1',nm1,A1,m1,c1',hA,a0,a1,a2,a3,hx⟩:=ExAt.arg HRow.out HSub.out hl ((HA.out.trans HH2.out).trans hRw) j hlt
       subst hA
       have hkx:l[j].k=k1:=by
        cases hlj:l[j] with
        |mk k' n' nm' l'=>
         rw[hlj] at hx
         obtain⟨_,_,_,e,_⟩:=hx.open
         injection e with e1
         exact e1.symm
       obtain⟨bc,hbc⟩:∃b,isCond k1=b:=⟨_,rfl⟩
       have HBc:=yH hbc
       have HNx:=yH (show bc=(decide (k=10)&&decide (j=0))→∀i (h:i<l.length),i<j+1→isCond l[i].k=(decide (k=10)&&decide (i=0)) from fun hc i h hi=>by
        rcases Nat.lt_or_ge i j with q|q
        ·exact HJ.out i h q
        ·obtain rfl:i=j:=by omega
         rw[hkx,hbc,hc])
       have HNo2:=yH (show bc≠(decide (k=10)&&decide (j=0))→b=false from fun hc=>by
        cases b with
        |false=>rfl
        |true=>
         have:=HCo.out.1 rfl j hlt
         rw[hkx,hbc] at this
         exact absurd this hc)
       clear hx hkx hbc
       have RV:=(((HR.out.trans HA.out).trans HH2.out).trans hRw).self.alloc (.cells #[yI k1,yI n1',.string (B nm1),.slice A1 m1 c1'] 52)
       have HRV:=yH RV
       obtain⟨⟨e0,e1,e2,e3⟩,_⟩:=((((HB.out.rel HH2.out).rel hRw).rel RV)).four
       have BX:=Bk.new wr 52 #[yI k1,yI n1',.string (B nm1),.slice A1 m1 c1']
       have HBX:=yH BX
       obtain⟨⟨x0,x1,x2,x3⟩,_⟩:=BX.four
       have HW2:=yH (((HB.out.rel HH2.out).rel hRw).rel RV)
       clear RV BX
       go_wp2_with (fail)
       by_cases e10:k=10
       ·by_cases ej:j=0
        ·skip
         have k10:(k==10)=true:=by simp[e10]
         have kj:((j:Int)==0)=true:=by simp[ej]
         have hw:(decide (k=10)&&decide (j=0))=true:=by simp[e10,ej]
         rw[hw] at HNx HNo2
         clear hw e10 ej
         cases bc
         ·skip
          have hbf:=HNo2.out (by simp)
          subst hbf
          go_wp2_with (fail)
          refine wp_region_held_drew (S:=(fun w'=>w'.cell? ⟨wr.heap.size,0,none⟩=some (yI k1)∧w'.cell? ⟨wr.heap.size,1,none⟩=some (yI n1')∧w'.cell? ⟨wr.heap.size,2,none⟩=some (.string (B nm1))∧w'.cell? ⟨wr.heap.size,3,none⟩=some (.slice A1 m1 c1')∧w'.cell? ⟨w.heap.size,0,none⟩=some (yI k))) (by kernel_rfl) ⟨x0,x1,x2,x3,e0⟩ (fun hH=> ?_)
          refine yL [0,2,3,4] (by kernel_rfl) hH (fun _ _ _ _ _=>id) ?_
          iterate 4
              refine yS rfl rfl (by rfl) ?_ ?_ ?_
              rotate_left
              ·rintro w' ⟨s0,s1,s2,s3,s4⟩;go_simp;try with_reducible rfl
              try simp only[Act.put,yA,yB,yC]
          refine yZ ?_
          refine held_one (j:=1) (by kernel_rfl) rfl (fun K hK=> ?_)
          try simp only[yD,yE,yF]
          rw[if_pos (by rfl)]
          go_simp
          go_at_call 77
          (with_reducible refine(tcond_as k1 n1' (B nm1) A1 m1 c1' false HBc _ _ HRV.out.drew.self).mono ?_)
          rintro e w3 ⟨rfl,h3⟩
          obtain⟨⟨f0,f1,f2,f3⟩,_⟩:=(HBX.out.drew.rel h3).four
          obtain⟨⟨g0,g1,g2,g3⟩,_⟩:=(HW2.out.drew.rel h3).four
          refine hK.out _ _ ⟨f0,f1,f2,f3,g0⟩ (fun hH=> ?_)
          clear hK K
          try simp only[Act.put,yA,yB,yC]
          refine yL [5,6,7,8,9] (by kernel_rfl) hH (fun _ _ _ _ _=>id) ?_
          iterate 5
              refine yS rfl rfl (by rfl) ?_ ?_ ?_
              rotate_left
              ·rintro w' ⟨s0,s1,s2,s3,s4⟩;go_simp;try with_reducible rfl
              try simp only[Act.put,yA,yB,yC]
          refine yZ ?_
          refine wpAnyH_done (by kernel_rfl) ?_ _
          go_wp2_with (fail)
          go_ret
          exact⟨rfl,(((((HR.out.trans HA.out).trans HH2.out).trans HRw.out).trans HRV.out).drew).trans h3⟩
         ·skip
          have HNx3:=yH (HNx.out rfl)
          go_wp2_with (fail)
          refine wp_region_held_drew (S:=(fun w'=>w'.cell? ⟨wr.heap.size,0,none⟩=some (yI k1)∧w'.cell? ⟨wr.heap.size,1,none⟩=some (yI n1')∧w'.cell? ⟨wr.heap.size,2,none⟩=some (.string (B nm1))∧w'.cell? ⟨wr.heap.size,3,none⟩=some (.slice A1 m1 c1')∧w'.cell? ⟨w.heap.size,0,none⟩=some (yI k))) (by kernel_rfl) ⟨x0,x1,x2,x3,e0⟩ (fun hH=> ?_)
          refine yL [0,2,3,4] (by kernel_rfl) hH (fun _ _ _ _ _=>id) ?_
          iterate 4
              refine yS rfl rfl (by rfl) ?_ ?_ ?_
              rotate_left
              ·rintro w' ⟨s0,s1,s2,s3,s4⟩;go_simp;try with_reducible rfl
              try simp only[Act.put,yA,yB,yC]
          refine yZ ?_
          refine held_one (j:=1) (by kernel_rfl) rfl (fun K hK=> ?_)
          try simp only[yD,yE,yF]
          rw[if_pos (by rfl)]
          go_simp
          go_at_call 77
          (with_reducible refine(tcond_as k1 n1' (B nm1) A1 m1 c1' true HBc _ _ HRV.out.drew.self).mono ?_)
          rintro e w3 ⟨rfl,h3⟩
          obtain⟨⟨f0,f1,f2,f3⟩,_⟩:=(HBX.out.drew.rel h3).four
          obtain⟨⟨g0,g1,g2,g3⟩,_⟩:=(HW2.out.drew.rel h3).four
          refine hK.out _ _ ⟨f0,f1,f2,f3,g0⟩ (fun hH=> ?_)
          clear hK K
          try simp only[Act.put,yA,yB,yC]
          refine yL [5,6,7,8,9] (by kernel_rfl) hH (fun _ _ _ _ _=>id) ?_
          iterate 5
              refine yS rfl rfl (by rfl) ?_ ?_ ?_
              rotate_left
              ·rintro w' ⟨s0,s1,s2,s3,s4⟩;go_simp;try with_reducible rfl
              try simp only[Act.put,yA,yB,yC]
          refine yZ ?_
          refine wpAnyH_done (by kernel_rfl) ?_ _
          go_wp2_with (fail)
          go_roundw
          case rel=>exact⟨j+1,by omega,by go_num,HNx3,((HRw.out.trans HRV.out).drew).trans h3⟩
          case measure=>simp[RowKit.intOf];omega
        ·skip
         have k10:(k==10)=true:=by simp[e10]
         have kj:((j:Int)==0)=false:=by simp[ej]
         have hw:(decide (k=10)&&decide (j=0))=false:=by simp[e10,ej]
         rw[hw] at HNx HNo2
         clear hw e10 ej
         cases bc
         ·skip
          have HNx3:=yH (HNx.out rfl)
          go_wp2_with (fail)
          refine wp_region_held_drew (S:=(fun w'=>w'.cell? ⟨wr.heap.size,0,none⟩=some (yI k1)∧w'.cell? ⟨wr.heap.size,1,none⟩=some (yI n1')∧w'.cell? ⟨wr.heap.size,2,none⟩=some (.string (B nm1))∧w'.cell? ⟨wr.heap.size,3,none⟩=some (.slice A1 m1 c1')∧w'.cell? ⟨w.heap.size,0,none⟩=some (yI k))) (by kernel_rfl) ⟨x0,x1,x2,x3,e0⟩ (fun hH=> ?_)
          refine yL [0,2,3,4] (by kernel_rfl) hH (fun _ _ _ _ _=>id) ?_
          iterate 4
              refine yS rfl rfl (by rfl) ?_ ?_ ?_
              rotate_left
              ·rintro w' ⟨s0,s1,s2,s3,s4⟩;go_simp;try with_reducible rfl
              try simp only[Act.put,yA,yB,yC]
          refine yZ ?_
          refine held_one (j:=1) (by kernel_rfl) rfl (fun K hK=> ?_)
          try simp only[yD,yE,yF]
          rw[if_pos (by rfl)]
          go_simp
          go_at_call 77
          (with_reducible refine(tcond_as k1 n1' (B nm1) A1 m1 c1' false HBc _ _ HRV.out.drew.self).mono ?_)
          rintro e w3 ⟨rfl,h3⟩
          obtain⟨⟨f0,f1,f2,f3⟩,_⟩:=(HBX.out.drew.rel h3).four
          obtain⟨⟨g0,g1,g2,g3⟩,_⟩:=(HW2.out.drew.rel h3).four
          refine hK.out _ _ ⟨f0,f1,f2,f3,g0⟩ (fun hH=> ?_)
          clear hK K
          try simp only[Act.put,yA,yB,yC]
          refine yL [5,6,7,8,9] (by kernel_rfl) hH (fun _ _ _ _ _=>id) ?_
          iterate 5
              refine yS rfl rfl (by rfl) ?_ ?_ ?_
              rotate_left
              ·rintro w' ⟨s0,s1,s2,s3,s4⟩;go_simp;try with_reducible rfl
              try simp only[Act.put,yA,yB,yC]
          refine yZ ?_
          refine wpAnyH_done (by kernel_rfl) ?_ _
          go_wp2_with (fail)
          go_roundw
          case rel=>exact⟨j+1,by omega,by go_num,HNx3,((HRw.out.trans HRV.out).drew).trans h3⟩
          case measure=>simp[RowKit.intOf];omega
         ·skip
          have hbf:=HNo2.out (by simp)
          subst hbf
          go_wp2_with (fail)
          refine wp_region_held_drew (S:=(fun w'=>w'.cell? ⟨wr.heap.size,0,none⟩=some (yI k1)∧w'.cell? ⟨wr.heap.size,1,none⟩=some (yI n1')∧w'.cell? ⟨wr.heap.size,2,none⟩=some (.string (B nm1))∧w'.cell? ⟨wr.heap.size,3,none⟩=some (.slice A1 m1 c1')∧w'.cell? ⟨w.heap.size,0,none⟩=some (yI k))) (by kernel_rfl) ⟨x0,x1,x2,x3,e0⟩ (fun hH=> ?_)
          refine yL [0,2,3,4] (by kernel_rfl) hH (fun _ _ _ _ _=>id) ?_
          iterate 4
              refine yS rfl rfl (by rfl) ?_ ?_ ?_
              rotate_left
              ·rintro w' ⟨s0,s1,s2,s3,s4⟩;go_simp;try with_reducible rfl
              try simp only[Act.put,yA,yB,yC]
          refine yZ ?_
          refine held_one (j:=1) (by kernel_rfl) rfl (fun K hK=> ?_)
          try simp only[yD,yE,yF]
          rw[if_pos (by rfl)]
          go_simp
          go_at_call 77
          (with_reducible refine(tcond_as k1 n1' (B nm1) A1 m1 c1' true HBc _ _ HRV.out.drew.self).mono ?_)
          rintro e w3 ⟨rfl,h3⟩
          obtain⟨⟨f0,f1,f2,f3⟩,_⟩:=(HBX.out.drew.rel h3).four
          obtain⟨⟨g0,g1,g2,g3⟩,_⟩:=(HW2.out.drew.rel h3).four
          refine hK.out _ _ ⟨f0,f1,f2,f3,g0⟩ (fun hH=> ?_)
          clear hK K
          try simp only[Act.put,yA,yB,yC]
          refine yL [5,6,7,8,9] (by kernel_rfl) hH (fun _ _ _ _ _=>id) ?_
          iterate 5
              refine yS rfl rfl (by rfl) ?_ ?_ ?_
              rotate_left
              ·rintro w' ⟨s0,s1,s2,s3,s4⟩;go_simp;try with_reducible rfl
              try simp only[Act.put,yA,yB,yC]
          refine yZ ?_
          refine wpAnyH_done (by kernel_rfl) ?_ _
          go_wp2_with (fail)
          go_ret
          exact⟨rfl,(((((HR.out.trans HA.out).trans HH2.out).trans HRw.out).trans HRV.out).drew).trans h3⟩
       ·skip
        have k10:(k==10)=false:=by simp[e10]
        have hw:(decide (k=10)&&decide (j=0))=false:=by simp[e10]
        rw[hw] at HNx HNo2
        clear hw e10
        cases bc
        ·skip
         have HNx3:=yH (HNx.out rfl)
         go_wp2_with (fail)
         refine wp_region_held_drew (S:=(fun w'=>w'.cell? ⟨wr.heap.size,0,none⟩=some (yI k1)∧w'.cell? ⟨wr.heap.size,1,none⟩=some (yI n1')∧w'.cell? ⟨wr.heap.size,2,none⟩=some (.string (B nm1))∧w'.cell? ⟨wr.heap.size,3,none⟩=some (.slice A1 m1 c1')∧w'.cell? ⟨w.heap.size,0,none⟩=some (yI k))) (by kernel_rfl) ⟨x0,x1,x2,x3,e0⟩ (fun hH=> ?_)
         refine yL [0,2,3,4] (by kernel_rfl) hH (fun _ _ _ _ _=>id) ?_
         iterate 4
          refine yS rfl rfl (by rfl) ?_ ?_ ?_
          rotate_left
          ·rintro w' ⟨s0,s1,s2,s3,s4⟩;go_simp;try with_reducible rfl
          try simp only[Act.put,yA,yB,yC]
         refine yZ ?_
         refine held_one (j:=1) (by kernel_rfl) rfl (fun K hK=> ?_)
         try simp only[yD,yE,yF]
         rw[if_pos (by rfl)]
         go_simp
         go_at_call 77
         (with_reducible refine(tcond_as k1 n1' (B nm1) A1 m1 c1' false HBc _ _ HRV.out.drew.self).mono ?_)
         rintro e w3 ⟨rfl,h3⟩
         obtain⟨⟨f0,f1,f2,f3⟩,_⟩:=(HBX.out.drew.rel h3).four
         obtain⟨⟨g0,g1,g2,g3⟩,_⟩:=(HW2.out.drew.rel h3).four
         refine hK.out _ _ ⟨f0,f1,f2,f3,g0⟩ (fun hH=> ?_)
         clear hK K
         try simp only[Act.put,yA,yB,yC]
         refine yL [5,6,7,8,9] (by kernel_rfl) hH (fun _ _ _ _ _=>id) ?_
         refine yS rfl rfl (by rfl) ?_ ?_ ?_
         rotate_left
         ·rintro w' ⟨s0,s1,s2,s3,s4⟩;go_simp;try with_reducible rfl
         try simp only[Act.put,yA,yB,yC]
         iterate 2
          refine yV rfl rfl (by rfl) ?_
          try simp only[Act.put,yA,yB,yC]
         iterate 2
          refine yS rfl rfl (by rfl) ?_ ?_ ?_
          rotate_left
          ·rintro w' ⟨s0,s1,s2,s3,s4⟩;go_simp;try with_reducible rfl
          try simp only[Act.put,yA,yB,yC]
         refine yZ ?_
         refine wpAnyH_done (by kernel_rfl) ?_ _
         go_wp2_with (fail)
         go_roundw
         case rel=>exact⟨j+1,by omega,by go_num,HNx3,((HRw.out.trans HRV.out).drew).trans h3⟩
         case measure=>simp[RowKit.intOf];omega
        ·skip
         have hbf:=HNo2.out (by simp)
         subst hbf
         go_wp2_with (fail)
         refine wp_region_held_drew (S:=(fun w'=>w'.cell? ⟨wr.heap.size,0,none⟩=some (yI k1)∧w'.cell? ⟨wr.heap.size,1,none⟩=some (yI n1')∧w'.cell? ⟨wr.heap.size,2,none⟩=some (.string (B nm1))∧w'.cell? ⟨wr.heap.size,3,none⟩=some (.slice A1 m1 c1')∧w'.cell? ⟨w.heap.size,0,none⟩=some (yI k))) (by kernel_rfl) ⟨x0,x1,x2,x3,e0⟩ (fun hH=> ?_)
         refine yL [0,2,3,4] (by kernel_rfl) hH (fun _ _ _ _ _=>id) ?_
         iterate 4
          refine yS rfl rfl (by rfl) ?_ ?_ ?_
          rotate_left
          ·rintro w' ⟨s0,s1,s2,s3,s4⟩;go_simp;try with_reducible rfl
          try simp only[Act.put,yA,yB,yC]
         refine yZ ?_
         refine held_one (j:=1) (by kernel_rfl) rfl (fun K hK=> ?_)
         try simp only[yD,yE,yF]
         rw[if_pos (by rfl)]
         go_simp
         go_at_call 77
         (with_reducible refine(tcond_as k1 n1' (B nm1) A1 m1 c1' true HBc _ _ HRV.out.drew.self).mono ?_)
         rintro e w3 ⟨rfl,h3⟩
         obtain⟨⟨f0,f1,f2,f3⟩,_⟩:=(HBX.out.drew.rel h3).four
         obtain⟨⟨g0,g1,g2,g3⟩,_⟩:=(HW2.out.drew.rel h3).four
         refine hK.out _ _ ⟨f0,f1,f2,f3,g0⟩ (fun hH=> ?_)
         clear hK K
         try simp only[Act.put,yA,yB,yC]
         refine yL [5,6,7,8,9] (by kernel_rfl) hH (fun _ _ _ _ _=>id) ?_
         refine yS rfl rfl (by rfl) ?_ ?_ ?_
         rotate_left
         ·rintro w' ⟨s0,s1,s2,s3,s4⟩;go_simp;try with_reducible rfl
         try simp only[Act.put,yA,yB,yC]
         iterate 2
          refine yV rfl rfl (by rfl) ?_
          try simp only[Act.put,yA,yB,yC]
         iterate 2
          refine yS rfl rfl (by rfl) ?_ ?_ ?_
          rotate_left
          ·rintro w' ⟨s0,s1,s2,s3,s4⟩;go_simp;try with_reducible rfl
          try simp only[Act.put,yA,yB,yC]
         refine yZ ?_
         refine wpAnyH_done (by kernel_rfl) ?_ _
         go_wp2_with (fail)
         go_ret
         exact⟨rfl,(((((HR.out.trans HA.out).trans HH2.out).trans HRw.out).trans HRV.out).drew).trans h3⟩
      ·obtain rfl:j=l.length:=by omega
       have hbt:b=true:=HCo.out.2 (fun i h=>HJ.out i h h)
       subst hbt
       go_wp2_with (fail)
       go_ret
       exact⟨rfl,((HR.out.trans HA.out).trans HH2.out).trans HRw.out⟩
    ·have hbf:=HNo.out (fun h=>n4 h.2.2)
     subst hbf
     have q4:((l.length:Int) !=a)=true:=by simp;omega
     go_enter Tryz.func104,Tryz.ntmps104
     go_wp2_with (first
      |(go_at_call 105;(with_reducible refine(trow_as k T m a HRo _).mono ?_);rintro e w1 ⟨rfl,rfl⟩;rw[HW.out])
      |(go_at_call 137;(with_reducible refine(tnamed_as k n nm hm A l.length c true HBn _ _ (HR.out.trans HA.out).self).mono ?_);rintro e w2 ⟨rfl,h2⟩;obtain⟨⟨d0,d1,d2,d3⟩,_⟩:=(HB.out.rel h2).four))
     go_ret
     exact⟨rfl,(HR.out.trans HA.out).trans h2⟩
theorem bld_size:(Tryz.prog.info? 129).map (·.size)=some 2:=by kernel_rfl
theorem prt_lies:liesAt Tryz.prog Tryz.prog.depth 131 (3/Tryz.prog.cellsOf 131) 0 129 1=true:=by kernel_rfl
theorem byte_info:(Tryz.prog.info? 5).map (fun i=>(i.zero,i.size,i.bytes))=some (some (.int .u8 0),1,1):=by kernel_rfl
def PrAt(C b:Nat)(p:Value)(l:List UInt8)(d:Nat)(w:World):Prop:=
 C≤b∧∃v,Bk w b 131 #[p,v,yI (d:Int)]∧w.ownsRowF C 5 1 v l.length (Lib.byteCells l)∧v.ownBlock≠some b
def Pr(C b:Nat)(l:List UInt8)(d:Nat)(w:World):Prop:=PrAt C b (.pointer none) l d w∨PrAt C b (.pointer (some ⟨b,0,none⟩)) l d w
def Kp(b:Nat)(w w':World):Prop:=Lib.OthersKept 5 (some b) w w'
theorem Kp.refl(b:Nat)(w:World):Kp b w w:=Lib.OthersKept.refl _ _ w
theorem Kp.trans{b:Nat}{w w' w'':World}(h:Kp b w w')(h':Kp b w' w''):Kp b w w'':=Lib.OthersKept.trans h h'
theorem Kp.alloc{b:Nat}{w w':World}(h:Kp b w w')(o:Obj):Kp b w (w'.alloc o):=Lib.OthersKept.alloc h o
theorem Kp.bk{b:Nat}{w w':World}(h:Kp b w w'){g:Nat}{t:TypeId}{cs:Array Value}(hb:Bk w g t cs)(hne:g≠b)(ht:t≠5):Bk w' g t cs:=
 h g _ hb (fun e=>hne (by injection e)) (fun c fz e=>ht (by injection e))
theorem PrAt.lt{C b:Nat}{p:Value}{l:List UInt8}{d:Nat}{w:World}(h:PrAt C b p l d w):b<w.heap.size:=by
 obtain⟨_,v,hb,_⟩:=h
 exact hb.lt
theorem Pr.lt{C b:Nat}{l:List UInt8}{d:Nat}{w:World}(h:Pr C b l d w):b<w.heap.size:=h.elim PrAt.lt PrAt.lt
theorem Pr.le{C b:Nat}{l:List UInt8}{d:Nat}{w:World}(h:Pr C b l d w):C≤b:=h.elim (·.1) (·.1)
theorem PrAt.alloc{C b:Nat}{p:Value}{l:List UInt8}{d:Nat}{w:World}(h:PrAt C b p l d w)(o:Obj):PrAt C b p l d (w.alloc o):=by
 obtain⟨hC,v,hb,hown,hne⟩:=h
 exact⟨hC,v,hb.alloc o,hown.kept (World.grownBy_alloc w o none) (by cases hv:v.ownBlock<;>simp),hne⟩
theorem Pr.alloc{C b:Nat}{l:List UInt8}{d:Nat}{w:World}(h:Pr C b l d w)(o:Obj):Pr C b l d (w.alloc o):=h.elim (fun x=> .inl (x.alloc o)) (fun x=> .inr (x.alloc o))
theorem Pr.drew{C b:Nat}{l:List UInt8}{d:Nat}{w:World}(h:Pr C b l d w):Pr C b l d w.drew:=h
theorem PrAt.rel{C b:Nat}{p:Value}{l:List UInt8}{d:Nat}{w w':World}(h:PrAt C b p l d w)(hr:Rel w w'):PrAt C b p l d w':=by
 obtain⟨hC,v,hb,hown,hne⟩:=h
 refine⟨hC,v,hb.rel hr, ?_,hne⟩
 exact hown.kept (row:=none) ⟨hr.2.os,hr.2.tape,hr.2.output,hr.2.size,fun k hk _=>hr.2.block k hk⟩ (by cases hv:v.ownBlock<;>simp)
theorem Pr.rel{C b:Nat}{l:List UInt8}{d:Nat}{w w':World}(h:Pr C b l d w)(hr:Rel w w'):Pr C b l d w':=h.elim (fun x=> .inl (x.rel hr)) (fun x=> .inr (x.rel hr))
theorem prt_ne:(131:TypeId)≠5:=by decide
theorem PrAt.put{C b:Nat}{p v' v0:Value}{l:List UInt8}{d:Nat}{w:World}(hC:C≤b)(hb:Bk w b 131 #[p,v0,yI (d:Int)])(hown:w.ownsRowF C 5 1 v' l.length (Lib.byteCells l)):PrAt C b p l d (w.setCell ⟨b,1,none⟩ v'):=by
 have hne:=Lib.ownBlock_neF hown hb prt_ne
 refine⟨hC,v',hb.set_ 1 v', ?_,hne⟩
 exact hown.kept (row:=some b) ⟨rfl,rfl,rfl,by simp[World.setCell],fun k _ hk=>Below.heap_setCell _ _ _ _ (fun e=>hk (by simp[e]))⟩ (Or.inr hne)
theorem PrAt.used{C b:Nat}{p:Value}{l:List UInt8}{d:Nat}{w:World}(h:PrAt C b p l d w)(q:Value):PrAt C b q l d (w.setCell ⟨b,0,none⟩ q):=by
 obtain⟨hC,v,hb,hown,hne⟩:=h
 refine⟨hC,v,hb.set_ 0 q, ?_,hne⟩
 exact hown.kept (row:=some b) ⟨rfl,rfl,rfl,by simp[World.setCell],fun k _ hk=>Below.heap_setCell _ _ _ _ (fun e=>hk (by simp[e]))⟩ (Or.inr hne)
theorem PrAt.open{C b:Nat}{p:Value}{l:List UInt8}{d e:Nat}{w:World}(h:PrAt C b p l d w):PrAt C b p l e (w.setCell ⟨b,2,none⟩ (yI (e:Int))):=by
 obtain⟨hC,v,hb,hown,hne⟩:=h
 refine⟨hC,v,hb.set_ 2 _, ?_,hne⟩
 exact hown.kept (row:=some b) ⟨rfl,rfl,rfl,by simp[World.setCell],fun k _ hk=>Below.heap_setCell _ _ _ _ (fun e=>hk (by simp[e]))⟩ (Or.inr hne)
theorem Pr.open{C b:Nat}{l:List UInt8}{d:Nat}{w:World}(h:Pr C b l d w)(e:Nat):Pr C b l e (w.setCell ⟨b,2,none⟩ (yI (e:Int))):=h.elim (fun x=> .inl x.open) (fun x=> .inr x.open)
theorem Pr.cells{C b:Nat}{l:List UInt8}{d:Nat}{w:World}(h:Pr C b l d w):∃p A c,w.cell? ⟨b,0,none⟩=some p∧w.cell? ⟨b,1,none⟩=some (.slice A l.length c)∧w.cell? ⟨b,2,none⟩=some (yI (d:Int))∧w.frozen? ⟨b,2,none⟩=false:=by
 obtain⟨p,hC,v,hb,hown,hne⟩:∃p,PrAt C b p l d w:=h.elim (fun h=>⟨_,h⟩) (fun h=>⟨_,h⟩)
 obtain⟨A,c,rfl⟩:∃A c,v= .slice A l.length c:=by
  rcases hown.2 with ⟨rfl,h0⟩|⟨g,cap,cur,fz,rfl,_⟩
  ·exact⟨none,0,by rw[h0]⟩
  ·exact⟨_,_,rfl⟩
 exact⟨p,A,c,by rw[hb.cell];rfl,by rw[hb.cell];rfl,by rw[hb.cell];rfl,hb.frozen 2⟩
theorem check_used(b:Nat)(w:World)(h0:w.cell? ⟨b,0,none⟩=some (.pointer (some ⟨b,0,none⟩))):
  Calls Tryz.prog 163 #[.pointer (some ⟨b,0,none⟩)] w fun e w'=>e= .returned (.tuple #[])∧w'=w:=by
 obtain⟨j,hj,_⟩:=Option.map_eq_some_iff.1 bld_size
 go_enter Tryz.func163,Tryz.ntmps163
 go_wp2
 rw[Lib.run_neq_ptr_same w _ Tryz.underlying127 hj]
 go_wp2
 go_end0
 exact⟨rfl,rfl⟩
theorem check_fresh(b:Nat)(w:World)(h0:w.cell? ⟨b,0,none⟩=some (.pointer none))(hsh:w.shape? b=some (131,3))(hfz:w.frozen? ⟨b,0,none⟩=false):
  Calls Tryz.prog 163 #[.pointer (some ⟨b,0,none⟩)] w fun e w'=>e= .returned (.tuple #[])∧w'=w.setCell ⟨b,0,none⟩ (.pointer (some ⟨b,0,none⟩)):=by
 obtain⟨j,hj,hjs⟩:=Option.map_eq_some_iff.1 bld_size
 go_enter Tryz.func163,Tryz.ntmps163
 go_wp2
 rw[Lib.run_to_unsafe w ⟨b,0,none⟩ Tryz.underlying127 Tryz.underlying194 hj (by rw[hjs];decide) hsh (Nat.zero_lt_succ 2)]
 simp only[Result.andThen]
 rw[Oper.upon_value]
 go_wp2
 rw[run_callFunc_extern Tryz.func172 (by kernel_rfl) (by kernel_rfl) (by kernel_rfl) (e:=Extern.AbiNoEscape.same) (by kernel_rfl)]
 rw[Lib.run_noEscape]
 simp only[Result.andThen]
 rw[Oper.upon_value]
 go_wp2
 rw[Lib.run_from_unsafe w ⟨b,0,none⟩ Tryz.underlying194 Tryz.underlying127 hj hsh prt_lies]
 simp only[Result.andThen]
 rw[Oper.upon_value]
 go_wp2
 go_end0
 exact⟨rfl,rfl⟩
theorem check_any(C b:Nat)(l:List UInt8)(d:Nat)(w:World)(h:Pr C b l d w):
  Calls Tryz.prog 163 #[.pointer (some ⟨b,0,none⟩)] w fun e w'=>e= .returned (.tuple #[])∧PrAt C b (.pointer (some ⟨b,0,none⟩)) l d w'∧Below C w w'∧Kp b w w':=by
 rcases h with h|h
 ·have h':=h
  obtain⟨hC,v,hb,hown,hne⟩:=h'
  refine(check_fresh b w (by rw[hb.cell];rfl) (by unfold Bk at hb;simp[World.shape?,hb]) (hb.frozen 0)).mono ?_
  rintro e w' ⟨rfl,rfl⟩
  exact⟨rfl,h.used _,(Below.refl C w).setCell (p:=⟨b,0,none⟩) hC _,(Lib.OthersKept.refl _ _ w).setCell ⟨b,0,none⟩ rfl _⟩
 ·have h':=h
  obtain⟨hC,v,hb,hown,hne⟩:=h'
  refine(check_used b w (by rw[hb.cell];rfl)).mono ?_
  rintro e w' ⟨rfl,rfl⟩
  exact⟨rfl,h,Below.refl C _,Kp.refl _ _⟩
theorem write_as(b:Nat)(l:List UInt8)(d:Nat)(s:ByteArray)(M:List UInt8)(hM:Hid (l++s.data.toList=M))(hlen:l.length+s.size≤1000000)(w0 w:World)(hr:Rel w0 w)(h:Pr w0.heap.size b l d w):
  Calls Tryz.prog 138 #[.pointer (some ⟨b,0,none⟩),.string s] w fun e w'=>e= .returned (.tuple #[yI s.size,.nilIface])∧Pr w0.heap.size b M d w'∧Rel w0 w'∧Kp b w w':=by
 obtain⟨i0,hi,hz0,hz1,hz2⟩:=info_parts byte_info
 have hCw:=hr.size
 have HR:=yH hr
 go_enter Tryz.func138,Tryz.ntmps138
 go_wp2_with (go_at_call 163;refine(check_any w0.heap.size b l d _ h).mono ?_)
 rintro e w1 ⟨rfl,h1,hb1,hk1⟩
 obtain⟨hC,v,hbk,hown,hne⟩:=h1
 have c0:w1.cell? ⟨b,0,none⟩=some (.pointer (some ⟨b,0,none⟩)):=by rw[hbk.cell];rfl
 have c1:w1.cell? ⟨b,1,none⟩=some v:=by rw[hbk.cell];rfl
 have hs1:=hb1.size
 have hbl:(Lib.byteCells l).length=l.length:=Lib.byteCells_length l
 go_wp2_with (at_builtin;refine Lib.wpList_append_own_stringF _ rfl _ _ 98 9 rfl w0.heap.size 5 i0 Tryz.underlying98 Tryz.underlying9 hi hz0 hz1 hz2 _ _ _ rfl hown s rfl (by unfold maxLen;omega) (by omega) (by omega) ?_)
 intro v' w2 hown' hgrow _
 have hlt:b<w1.heap.size:=hbk.lt
 have hb2:Bk w2 b 131 #[.pointer (some ⟨b,0,none⟩),v,yI (d:Int)]:=hbk.grown hgrow (fun e=>hne e.symm)
 have d0:w2.cell? ⟨b,0,none⟩=some (.pointer (some ⟨b,0,none⟩)):=by rw[hb2.cell];rfl
 have d1:w2.cell? ⟨b,1,none⟩=some v:=by rw[hb2.cell];rfl
 have f1:w2.frozen? ⟨b,1,none⟩=false:=hb2.frozen 1
 obtain⟨ao,n',cap,rfl⟩:∃ao n' cap,v'= .slice ao n' cap:=by
  rcases hown'.2 with ⟨hv,_⟩|⟨g,cap,cur,fz,hv,_⟩
  ·exact⟨_,_,_,hv⟩
  ·exact⟨_,_,_,hv⟩
 go_wp2
 go_ret2
 have hbelow:=(hb1.grown hgrow (by omega) (fun k hk=>(hown.lt k hk).1)).setCell (p:=⟨b,1,none⟩) hC (.slice ao n' cap)
 refine⟨rfl,.inr ?_,⟨HR.out.1,HR.out.2.trans hbelow⟩, ?_⟩
 ·refine PrAt.put hC hb2 ?_
  rw[←hM.out,Lib.byteCells_append,List.length_append]
  have e:s.data.toList.length=s.size:=by simp
  rw[e]
  exact hown'
 ·exact(Lib.OthersKept.grown hk1 hgrow (Lib.ownsRowF_kind hown)).setCell ⟨b,1,none⟩ rfl _
theorem plen_any(b:Nat)(l:List UInt8)(d:Nat)(C:Nat)(w:World)(h:Pr C b l d w):
  Calls Tryz.prog 139 #[.pointer (some ⟨b,0,none⟩)] w fun e w'=>e= .returned (yI (l.length:Int))∧w=w':=by
 obtain⟨p,A,c,c0,c1,c2,_⟩:=h.cells
 go_enter Tryz.func139,Tryz.ntmps139
 go_wp2_with (fail)
 go_ret
 exact⟨rfl,rfl⟩
theorem put_as(b:Nat)(l:List UInt8)(d:Nat)(s:ByteArray)(M:List UInt8)(hM:Hid (l++s.data.toList=M))(hlen:l.length+s.size≤1000000)(t:Bool)(ht:Hid (decide (M.length≤2000)=t))(w0 w:World)(hr:Rel w0 w)(h:Pr w0.heap.size b l d w):
  Calls Tryz.prog 106 #[.pointer (some ⟨b,0,none⟩),.string s] w fun e w'=>e= .returned (.bool t)∧Pr w0.heap.size b M d w'∧Rel w0 w'∧Kp b w w':=by
 have HP:=yH h
 have HR:=yH hr
 have HT:=yH (show decide ((M.length:Int)≤2000)=t by rw[←ht.out];exact decide_eq_decide.2 (by omega))
 go_enter Tryz.func106,Tryz.ntmps106
 go_wp2_with (first
  |(go_at_call 138;(with_reducible refine(write_as b l d s M hM hlen _ _ HR.out HP.out).mono ?_);rintro e w1 ⟨rfl,p1,r1,k1⟩)
  |(go_at_call 139;(with_reducible refine(plen_any b M d _ _ p1).mono ?_);rintro e w' ⟨rfl,rfl⟩))
 all_goals
  go_ret
  exact⟨ret_bool HT.out,p1,r1,k1⟩
theorem string_any(b:Nat)(l:List UInt8)(d:Nat)(w0 w:World)(hr:Rel w0 w)(h:Pr w0.heap.size b l d w)(h0:l≠[]):
  Calls Tryz.prog 79 #[.pointer (some ⟨b,0,none⟩)] w fun e w'=>e= .returned (.string (B l))∧Rel w0 w':=by
 obtain⟨p,hC,v,hbk,hown,hne⟩:∃p,PrAt w0.heap.size b p l d w:=h.elim (fun h=>⟨_,h⟩) (fun h=>⟨_,h⟩)
 have hl0:l.length≠0:=by simpa using h0
 have HR:=yH hr
 obtain⟨g,cap,cur,fz,rfl,hbg,hg,hfz,hnc,hcm,hcs,htake⟩:∃g cap cur fz,v= .slice (some ⟨g,0,none⟩) l.length cap∧w0.heap.size≤g∧w.heap[g]?=some (.cells cur 5 fz)∧fz.2≤l.length*1∧l.length≤cap∧cap≤maxLen∧cur.size=cap*1∧cur.toList.take (l.length*1)=Lib.byteCells l:=by
  rcases hown.2 with ⟨_,hz⟩|⟨g,cap,cur,fz,hv,r⟩
  ·exact absurd hz hl0
  ·exact⟨g,cap,cur,fz,hv,r⟩
 have c1:w.drew.cell? ⟨b,1,none⟩=some (.slice (some ⟨g,0,none⟩) l.length cap):=by rw[hbk.drew.cell];rfl
 have hSD:(Builtin.unsafeSliceData_ #[98] 158 #[.slice (some ⟨g,0,none⟩) l.length cap]).run Tryz.prog w.drew= .ok (.pointer (some ⟨g,0,none⟩)) w.drew:=
  Lib.run_unsafeSliceData_row _ _ _ _ _ _ (by omega)
 have hUS:(Builtin.unsafeString_ #[158,3] 9 #[.pointer (some ⟨g,0,none⟩),yI l.length]).run Tryz.prog w.drew= .ok (.string ⟨l.toArray⟩) (w.drew.freeze ⟨g,0,none⟩ l.length):=by
  refine Lib.run_unsafeString_row w.drew 158 3 9 5 Tryz.underlying158 (by kernel_rfl) g cur.size (by have hg':w.drew.heap[g]?=some (.cells cur 5 fz):=hg;simp[World.shape?,hg']) l h0 (by omega) (by unfold maxLen at hcm;omega) ?_
  intro j x hx
  have:=hown.cells (g:=g) rfl j (.int .u8 x.toNat) (by simp[Lib.byteCells,hx])
  exact this
 have HF:=yH (show Rel w0 (w.drew.freeze ⟨g,0,none⟩ l.length) from⟨hr.1,hr.2.trans (Lib.below_freeze (Below.drew (Below.refl w0.heap.size w)) (p:=⟨g,0,none⟩) hbg _)⟩)
 clear h hr hown hbk htake
 have mixed:Tryz.prog.follows .mixedOrders=true:=by kernel_rfl
 go_enter Tryz.func79,Tryz.ntmps79
 go_wp2
 go_region_o
 all_goals(go_wp2;go_ret;exact⟨rfl,HF.out⟩)
set_option linter.unusedSimpArgs false

/-! A call's text,piece by piece:plain mathematics. -/
def btw(first:Bool):List UInt8:=if first then [40] else [44,32]
def glue(first:Bool):List (List UInt8)→List UInt8
 |[]=>[]
 |p::t=>btw first++(p++glue false t)
theorem glue_append(a b:List (List UInt8)):∀first,glue first (a++b)=glue first a++glue (first&&a.isEmpty) b:=by
 induction a with
 |nil=>intro first;simp[glue]
 |cons p t ih=>
  intro first
  rw[List.cons_append,glue,glue,ih]
  simp
theorem glue_one(first:Bool)(p:List UInt8):glue first [p]=btw first++p:=by simp[glue]
theorem glue_snoc(a:List (List UInt8))(p:List UInt8):glue true (a++[p])=glue true a++(btw a.isEmpty++p):=by
 rw[glue_append,glue_one,Bool.true_and]
theorem glue_le(a b:List (List UInt8))(first:Bool):(glue first a).length≤(glue first (a++b)).length:=by
 rw[glue_append,List.length_append];omega
theorem btw_le(first:Bool):(btw first).length≤2:=by cases first<;>decide
theorem len_two{α:Type}{l:List α}(h:l.length=2):∃a b,l=[a,b]:=by
 match l,h with
 |[a,b],_=>exact⟨a,b,rfl⟩
theorem len_three{α:Type}{l:List α}(h:l.length=3):∃a b c,l=[a,b,c]:=by
 match l,h with
 |[a,b,c],_=>exact⟨a,b,c,rfl⟩
def beh(k n:Int)(nm:List UInt8):List (List UInt8):=if k=3 then [nm] else if k=5 then [txt n] else if k=6∨k=11 then [itoa n] else []
theorem text_glue{k n:Int}{nm:List UInt8}{l:List Ex}(hl:argsN k=(l.length:Int))(h1:k≠1)(h2:k≠2)(h4:k≠4):text (.mk k n nm l)=wordK k++(glue true (l.map text++beh k n nm)++[41]):=by
 have hk:k=3∨k=5∨k=6∨k=7∨k=8∨k=9∨k=10∨k=11∨k=12:=by
  unfold argsN at hl
  split at hl
  ·omega
  ·split at hl
   ·omega
   ·split at hl
    ·omega
    ·split at hl
     ·omega
     ·omega
 rw[text_mk,if_neg h4,if_neg (by omega)]
 congr 1
 rcases hk with rfl|rfl|rfl|rfl|rfl|rfl|rfl|rfl|rfl
 ·obtain rfl:l=[]:=List.length_eq_zero_iff.1 (by simp[argsN] at hl;omega)
  simp[texts_nil,tailK,beh,glue,btw]
 ·obtain⟨a,rfl⟩:∃a,l=[a]:=List.length_eq_one_iff.1 (by simp[argsN] at hl;omega)
  simp[texts_cons,mores_nil,tailK,beh,glue,btw]
 ·obtain⟨a,rfl⟩:∃a,l=[a]:=List.length_eq_one_iff.1 (by simp[argsN] at hl;omega)
  simp[texts_cons,mores_nil,tailK,beh,glue,btw]
 ·obtain⟨a,b,rfl⟩:∃a b,l=[a,b]:=len_two (by simp[argsN] at hl;omega)
  simp[texts_cons,mores_nil,mores_cons,tailK,beh,glue,btw]
 ·obtain⟨a,b,rfl⟩:∃a b,l=[a,b]:=len_two (by simp[argsN] at hl;omega)
  simp[texts_cons,mores_nil,mores_cons,tailK,beh,glue,btw]
 ·obtain⟨a,b,rfl⟩:∃a b,l=[a,b]:=len_two (by simp[argsN] at hl;omega)
  simp[texts_cons,mores_nil,mores_cons,tailK,beh,glue,btw]
 ·obtain⟨a,b,c,rfl⟩:∃a b c,l=[a,b,c]:=len_three (by simp[argsN] at hl;omega)
  simp[texts_cons,mores_nil,mores_cons,tailK,beh,glue,btw]
 ·obtain rfl:l=[]:=List.length_eq_zero_iff.1 (by simp[argsN] at hl;omega)
  simp[texts_nil,tailK,beh,glue,btw]
 ·obtain⟨a,b,rfl⟩:∃a b,l=[a,b]:=len_two (by simp[argsN] at hl;omega)
  simp[texts_cons,mores_nil,mores_cons,tailK,beh,glue,btw]
theorem text_leaf(k n:Int)(nm:List UInt8)(l:List Ex)(h:k=1∨k=2):text (.mk k n nm l)=wordK k:=by
 rw[text_mk,if_neg (by omega),if_pos h]
theorem text_four(n:Int)(nm:List UInt8)(l:List Ex):text (.mk 4 n nm l)=txt n:=by rw[text_mk,if_pos rfl]
theorem map_take_succ{l:List Ex}{j:Nat}(h:j<l.length):(l.take (j+1)).map text=(l.take j).map text++[text l[j]]:=by
 rw[List.take_succ_eq_append_getElem h,List.map_append];rfl
theorem take_empty{l:List Ex}{j:Nat}(h:j<l.length):((l.take j).map text).isEmpty=decide (j=0):=by
 cases j with
 |zero=>simp
 |succ j=>
  cases l with
  |nil=>simp at h
  |cons a t=>simp
theorem all_empty(l:List Ex):(l.map text).isEmpty=decide (l.length=0):=by cases l<;>simp
theorem glue_take_le{l:List Ex}{j:Nat}(h:j<l.length)(bs:List (List UInt8)):(glue true ((l.take j).map text)).length+(btw (decide (j=0))).length+(text l[j]).length≤(glue true (l.map text++bs)).length:=by
 have e1:l.map text++bs=(l.take (j+1)).map text++((l.drop (j+1)).map text++bs):=by
  rw[←List.append_assoc,←List.map_append,List.take_append_drop]
 have e2:=glue_le ((l.take (j+1)).map text) ((l.drop (j+1)).map text++bs) true
 rw[←e1,map_take_succ h,glue_snoc,take_empty h] at e2
 simp only[List.length_append] at e2
 omega
theorem Pr.open_at{C b:Nat}{l:List UInt8}{d:Nat}{w:World}(h:Pr C b l d w)(e:Nat)(z:Int)(hz:z=(e:Int)):Pr C b l e (w.setCell ⟨b,2,none⟩ (yI z)):=by subst hz;exact h.open e
theorem Kp.set2{b:Nat}{w w':World}(h:Kp b w w')(i:Nat)(v:Value):Kp b w (w'.setCell ⟨b,i,none⟩ v):=Lib.OthersKept.setCell h ⟨b,i,none⟩ rfl v
def ExprC(x:Ex):Prop:=∀(S:Nat→Prop)(e:El)(b:Nat)(l:List UInt8)(d:Nat)(t:Bool)(w0 w:World),Rel w0 w→ExAt S w0 e x→Pr w0.heap.size b l d w→d≤32→l.length≤2000+8*d→size x≤100000→
  Hid (t=true↔fine (32-d) x=true∧l.length+(text x).length≤2000)→
  Calls Tryz.prog 78 #[.pointer (some ⟨b,0,none⟩),EV e] w fun r w'=>r= .returned (.bool t)∧(t=true→Pr w0.heap.size b (l++text x) d w')∧Rel w0 w'∧Kp b w w'
theorem ExAt.arg0{S:Nat→Prop}{w wr:World}{A:Option Addr}{es:List El}{l:List Ex}(hrow:RowE S w A es)(hsub:∀i (h:i<es.length) (h':i<l.length),ExAt S w es[i] l[i])(hl:es.length=l.length)(hr:Rel w wr)(j:Nat)(hj:j<l.length):
  ∃(g off:Nat)(k n:Int)(nm:List UInt8)(A':Option Addr)(m c:Nat),A=some ⟨g,off,none⟩∧wr.cell? ⟨g,off+j*4,none⟩=some (yI k)∧wr.cell? ⟨g,off+j*4+1,none⟩=some (yI n)∧wr.cell? ⟨g,off+j*4+2,none⟩=some (.string (B nm))∧wr.cell? ⟨g,off+j*4+3,none⟩=some (.slice A' m c)∧ExAt S w (k,n,nm,A',m,c) l[j]:=by
 obtain⟨g,off,e,hl2,_,h0,h1,h2,h3⟩:=hrow j (by omega)
 have hs:=hsub j (by omega) hj
 generalize es[j]=e0 at*
 obtain⟨k,n,nm,A',m,c⟩:=e0
 have hk:∀i,wr.cell? ⟨g,i,none⟩=w.cell? ⟨g,i,none⟩:=fun i=>hr.2.cell (p:=⟨g,i,none⟩) hl2
 exact⟨g,off,k,n,nm,A',m,c,e,by rw[hk];exact h0,by rw[hk];exact h1,by rw[hk];exact h2,by rw[hk];exact h3,hs⟩
def StrRow(w:World)(A:Option Addr)(bs:List ByteArray):Prop:=bs=[]∨∃g s,bs=[s]∧A=some ⟨g,0,none⟩∧Bk w g 9 #[.string s]
theorem exprt_ne:(52:TypeId)≠5:=by decide
theorem strt_ne:(9:TypeId)≠5:=by decide
theorem prt_str:(131:TypeId)≠9:=by decide
theorem Pr.bk{C b:Nat}{l:List UInt8}{d:Nat}{w:World}(h:Pr C b l d w):∃cs,Bk w b 131 cs:=by
 obtain⟨p,hC,v,hb,_⟩:∃p,PrAt C b p l d w:=h.elim (fun h=>⟨_,h⟩) (fun h=>⟨_,h⟩)
 exact⟨_,hb⟩
def outs(bs:List ByteArray):List (List UInt8):=bs.map fun s=>s.data.toList
theorem pcall_any(b:Nat)(l0:List UInt8)(d:Nat)(T:ByteArray)(l:List Ex)(bs:List ByteArray)(A A2:Option Addr)(c c2:Nat)(es:List El)(S:Nat→Prop)(t:Bool)(w0 w:World)(hr:Rel w0 w)
  (HRow:Hid (RowE S w0 A es)) (HSub:Hid (∀i (h:i<es.length) (h':i<l.length),ExAt S w0 es[i] l[i])) (hl:es.length=l.length) (HIH:Hid (∀j (hj:j<l.length),ExprC l[j])) (hbs:StrRow w A2 bs)
  (hP:Pr w0.heap.size b l0 d w) (hd:d<32) (hlen:l0.length≤2000+8*d) (zT:T.size≤6) (zS:∀s∈bs,s.size≤100) (hz:sizes l≤100000)
  (ht:Hid (t=true↔(∀i (h:i<l.length),fine (32-(d+1)) l[i]=true)∧l0.length+T.size+(glue true (l.map text++outs bs)).length+1≤2000))
  (M:List UInt8) (hM:Hid (M=l0++(T.data.toList++(glue true (l.map text++outs bs)++[41])))):
  Calls Tryz.prog 108 #[.pointer (some ⟨b,0,none⟩),.string T,.slice A l.length c,.slice A2 bs.length c2] w fun r w'=>r= .returned (.bool t)∧(t=true→Pr w0.heap.size b M d w')∧Rel w0 w'∧Kp b w w':=by
 have HR:=yH hr
 have HP:=yH hP
 have hll:l.length≤100000:=by have:=len_le l;omega
 have HZ:=yH hz
 obtain⟨nb,hnb⟩:∃nb:Nat,bs.length=nb:=⟨_,rfl⟩
 have HNB:=yH hnb
 have hnb1:nb≤1:=by rcases hbs with rfl|⟨_,_,rfl,_⟩<;>simp at hnb<;>omega
 rw[hnb]
 clear hnb
 have zTl:T.data.toList.length=T.size:=by simp
 obtain⟨M1,hM1⟩:∃M1,l0++T.data.toList=M1:=⟨_,rfl⟩
 have HM1:=yH hM1
 have zM1:M1.length=l0.length+T.size:=by rw[←hM1,List.length_append,zTl]
 have HBS:=yH hbs
 have HZS:=yH zS
 have hwd:IntKind.i64.wrap ((d:Int)+1)=(d:Int)+1:=IntWalk.i64_in _ (by omega)
 clear hr hP hbs zS hz hM1 zTl
 go_enter Tryz.func108,Tryz.ntmps108
 go_wp2_with (go_at_call 138;(with_reducible refine(write_as b l0 d T M1 HM1 (by omega) _ _ HR.out HP.out).mono ?_);rintro e w1 ⟨rfl,p1,r1,k1⟩;have P1:=yH p1;obtain⟨pp1,AA1,cc1,x0,x1,x2,x3⟩:=p1.cells)
 have P2:=yH (P1.out.open_at (d+1) ((d:Int)+1) (by omega))
 have R2:=yH (r1.setCell (p:=⟨b,2,none⟩) P1.out.le (yI ((d:Int)+1)))
 have K2:=yH (k1.set2 2 (yI ((d:Int)+1)))
 clear p1 r1 k1 x0 x1 x2 x3
 go_loopw [9,28] (fun tb i wr=>∃(j:Nat)(TBa:ByteArray)(N:List UInt8),j≤l.length∧i=yI (j:Int)∧tb= .string TBa∧TBa.size≤2∧N.length+TBa.size≤2007+8*d∧
  Hid (TBa.data.toList=btw (decide (j=0))∧N=M1++glue true ((l.take j).map text)∧∀i (h:i<l.length),i<j→fine (32-(d+1)) l[i]=true)∧Hid (Pr w0.heap.size b N (d+1) wr∧Rel w0 wr∧Kp b w wr)) (fun _ i _=>l.length-(RowKit.intOf i).toNat)
 case atStart=>exact⟨0,⟨#[40]⟩,M1,by omega,rfl,rfl,by decide,by have:(⟨#[40]⟩:ByteArray).size=1:=rfl;omega,yH ⟨rfl,by simp[glue],fun i h hi=>absurd hi (by omega)⟩,yH ⟨P2.out,R2.out,K2.out⟩⟩
 case round=>
  obtain⟨j,TBa,N,hj,rfl,rfl,zTB,zN,HJ,HW⟩:=hrel
  obtain⟨N1,hN1⟩:∃N1,N++TBa.data.toList=N1:=⟨_,rfl⟩
  have HN1:=yH hN1
  have zN1:N1.length=N.length+TBa.size:=by rw[←hN1,List.length_append];simp
  clear hN1
  by_cases hlt:j<l.length
  ·obtain⟨g,off,k',n',nm',A',m',c',hA,a0,a1,a2,a3,hx⟩:=ExAt.arg0 HRow.out HSub.out hl HW.out.2.1 j hlt
   subst hA
   have BX:=Bk.new wr 52 #[yI k',yI n',.string (B nm'),.slice A' m' c']
   have hbx:wr.heap.size≠b:=by have:=HW.out.1.lt;omega
   have HBX:=yH BX
   have HV:=yH (HW.out.2.1.alloc (.cells #[yI k',yI n',.string (B nm'),.slice A' m' c'] 52))
   have HPV:=yH (HW.out.1.alloc (.cells #[yI k',yI n',.string (B nm'),.slice A' m' c'] 52))
   have HKV:=yH (HW.out.2.2.alloc (.cells #[yI k',yI n',.string (B nm'),.slice A' m' c'] 52))
   have zx:size l[j]≤100000:=by have:=size_mem (List.getElem_mem (l:=l) (n:=j) hlt);have:=HZ.out;omega
   obtain⟨tj,htj⟩:∃tj:Bool,tj=true↔(fine (32-(d+1)) l[j]=true∧N1.length+(text l[j]).length≤2000):=⟨decide _,decide_eq_true_iff⟩
   have HC:=yH (fun(w1:World)(hr1:Rel w0 w1)(hp1:Pr w0.heap.size b N1 (d+1) w1)=>HIH.out j hlt S (k',n',nm',A',m',c') b N1 (d+1) tj w0 w1 hr1 hx hp1 (by omega) (by omega) zx (yH htj))
   have HTJ:=yH htj
   have HG:=yH (glue_take_le hlt (outs bs))
   clear BX htj hx
   cases tj with
   |false=>
    have htf:t=false:=by
     cases t with
     |false=>rfl
     |true=>
      obtain⟨f1,f2⟩:=ht.out.1 rfl
      have e1:=HG.out
      have e2:=HJ.out
      have e3:(btw (decide (j=0))).length=TBa.size:=by rw[←e2.1];simp
      have e4:N.length=M1.length+(glue true ((l.take j).map text)).length:=by rw[e2.2.1,List.length_append]
      have:=HTJ.out.2 ⟨f1 j hlt,by omega⟩
      cases this
    subst htf
    go_wp2_with (first
     |(go_at_call 138;(with_reducible refine(write_as b N (d+1) TBa N1 HN1 (by omega) _ _ HV.out HPV.out).mono ?_);rintro e w2 ⟨rfl,p2,r2,k2⟩;obtain⟨⟨x0,x1,x2,x3⟩,_⟩:=(k2.bk HBX.out hbx exprt_ne).four)
     |(go_at_call 78;(with_reducible refine(HC.out _ r2 p2).mono ?_);rintro e w3 ⟨rfl,p3,r3,k3⟩))
    go_ret
    exact⟨rfl,(fun h=>by cases h),r3,(HKV.out.trans k2).trans k3⟩
   |true=>
    have zj:=(HTJ.out.1 rfl).2
    have HNx:=yH (show(⟨#[44,32]⟩:ByteArray).data.toList=btw (decide (j+1=0))∧N1++text l[j]=M1++glue true ((l.take (j+1)).map text)∧∀i (h:i<l.length),i<j+1→fine (32-(d+1)) l[i]=true from by
     have e2:=HJ.out
     refine⟨by simp[btw], ?_,fun i h hi=> ?_⟩
     ·rw[map_take_succ hlt,glue_snoc,take_empty hlt,←HN1.out,e2.1,e2.2.1]
      simp only[List.append_assoc]
     ·rcases Nat.lt_or_ge i j with q|q
      ·exact e2.2.2 i h q
      ·obtain rfl:i=j:=by omega
       exact(HTJ.out.1 rfl).1)
    go_wp2_with (first
     |(go_at_call 138;(with_reducible refine(write_as b N (d+1) TBa N1 HN1 (by omega) _ _ HV.out HPV.out).mono ?_);rintro e w2 ⟨rfl,p2,r2,k2⟩;obtain⟨⟨x0,x1,x2,x3⟩,_⟩:=(k2.bk HBX.out hbx exprt_ne).four)
     |(go_at_call 78;(with_reducible refine(HC.out _ r2 p2).mono ?_);rintro e w3 ⟨rfl,p3,r3,k3⟩))
    go_roundw
    case rel=>exact⟨j+1,⟨#[44,32]⟩,N1++text l[j],by omega,by go_num,rfl,by decide,by rw[List.length_append];have:(⟨#[44,32]⟩:ByteArray).size=2:=rfl;omega,HNx,yH ⟨p3 trivial,r3,(HKV.out.trans k2).trans k3⟩⟩
    case measure=>simp[RowKit.intOf];omega
  ·obtain rfl:j=l.length:=by omega
   obtain⟨wo,hwo⟩:∃wo,wo=wr:=⟨_,rfl⟩
   subst hwo
   have HF:=yH (show ∀i (h:i<l.length),fine (32-(d+1)) l[i]=true from fun i h=>HJ.out.2.2 i h h)
   have HN:=yH (show N=M1++glue true (l.map text) from by have:=HJ.out.2.1;rwa [List.take_length] at this)
   have zM1b:N.length+TBa.size≤2007+8*d:=zN
   have hTB:TBa.data.toList=btw (decide (l.length=0)):=HJ.out.1
   have HTB:=yH hTB
   have hwm:IntKind.i64.wrap (((d+1:Nat):Int)-1)=(d:Int):=by rw[show((d+1:Nat):Int)-1=(d:Int) by omega];exact IntWalk.i64_in _ (by omega)
   clear hTB zN zN1 HN1 zTB HJ
   have zTB:TBa.size≤2:=by
    have h1:=btw_le (decide (l.length=0))
    rw[←HTB.out] at h1
    simpa using h1
   go_wp2_with (fail)
   go_loopw [9,44] (fun tb i wr=>∃(q:Nat)(TBa':ByteArray)(N':List UInt8),q≤nb∧i=yI (q:Int)∧tb= .string TBa'∧TBa'.size≤2∧N'.length+TBa'.size≤2007+8*d+150*q∧
    Hid (TBa'.data.toList=btw (decide (l.length=0)&&decide (q=0))∧N'=M1++glue true (l.map text++(outs bs).take q))∧Hid (Pr w0.heap.size b N' (d+1) wr∧Rel w0 wr∧Kp b w wr)) (fun _ i _=>nb-(RowKit.intOf i).toNat)
   case atStart=>exact⟨0,TBa,N,by omega,rfl,rfl,zTB,by omega,yH ⟨by rw[HTB.out];simp,by rw[HN.out];simp⟩,yH HW.out⟩
   case round=>
    obtain⟨q,TBa',N',hq,rfl,rfl,zTB',zN',HJ',HW'⟩:=hrel
    by_cases hlt:q<nb
    ·obtain rfl:q=0:=by omega
     obtain rfl:nb=1:=by omega
     obtain⟨g2,s,hbs,hA2,hb2⟩:∃g s,bs=[s]∧A2=some ⟨g,0,none⟩∧Bk w g 9 #[.string s]:=by
      rcases HBS.out with h|h
      ·have:=HNB.out;rw[h] at this;simp at this
      ·exact h
     subst hA2
     have hne2:g2≠b:=by
      obtain⟨cs,hcs⟩:=HP.out.bk
      exact fun e=>Bk.ne hcs hb2 prt_str e.symm
     have hb3:=HW'.out.2.2.bk hb2 hne2 strt_ne
     have a0:wr.cell? ⟨g2,0,none⟩=some (.string s):=by rw[hb3.cell];rfl
     have zs:s.size≤100:=HZS.out s (by rw[hbs];simp)
     obtain⟨N2,hN2⟩:∃N2,N'++TBa'.data.toList=N2:=⟨_,rfl⟩
     have HN2:=yH hN2
     have zN2:N2.length=N'.length+TBa'.size:=by rw[←hN2,List.length_append];simp
     obtain⟨N3,hN3⟩:∃N3,N2++s.data.toList=N3:=⟨_,rfl⟩
     have HN3:=yH hN3
     have zN3:N3.length=N2.length+s.size:=by rw[←hN3,List.length_append];simp
     have HNx:=yH (show(⟨#[44,32]⟩:ByteArray).data.toList=btw (decide (l.length=0)&&decide (0+1=0))∧N3=M1++glue true (l.map text++(outs bs).take (0+1)) from by
      refine⟨by simp[btw], ?_⟩
      rw[←hN3,←hN2,HJ'.out.1,HJ'.out.2,hbs]
      simp only[outs,List.map_cons,List.map_nil,List.take_zero,List.append_nil,Nat.zero_add,List.take_succ_cons,List.take_zero,List.append_assoc]
      rw[glue_snoc,all_empty,decide_true,Bool.and_true]
      try simp only[List.append_assoc])
     clear hN2 hN3 hbs hb2 hb3 hne2
     go_wp2_with (first
      |(go_at_call 138;(with_reducible refine(write_as b N' (d+1) TBa' N2 HN2 (by omega) _ _ HW'.out.2.1 HW'.out.1).mono ?_);rintro e w2 ⟨rfl,p2,r2,k2⟩)
      |(go_at_call 138;(with_reducible refine(write_as b N2 (d+1) s N3 HN3 (by omega) _ _ r2 p2).mono ?_);rintro e w3 ⟨rfl,p3,r3,k3⟩))
     go_roundw
     case rel=>exact⟨_,_,_,_,_,_,_,_,_,_,_,_,_,_,_,_,_,⟨0+1,⟨#[44,32]⟩,N3,by omega,rfl,rfl,by decide,by have:(⟨#[44,32]⟩:ByteArray).size=2:=rfl;omega,HNx,yH ⟨p3,r3,(HW'.out.2.2.trans k2).trans k3⟩⟩,rfl⟩
     case measure=>simp[RowKit.intOf]
    ·obtain rfl:q=nb:=by omega
     have hN4:N'=M1++glue true (l.map text++outs bs):=by
      have h1:=HJ'.out.2
      have h2:(outs bs).take q=outs bs:=List.take_of_length_le (by simp[outs,HNB.out])
      rw[h2] at h1;exact h1
     have hM4:N'++(⟨#[41]⟩:ByteArray).data.toList=M:=by
      rw[hM.out,hN4,←HM1.out];simp
     have HM4:=yH hM4
     have ht4:decide (M.length≤2000)=t:=by
      have e:M.length=l0.length+T.size+(glue true (l.map text++outs bs)).length+1:=by
       rw[hM.out];simp only[List.length_append]
       have:T.data.toList.length=T.size:=by simp
       have h1:([41]:List UInt8).length=1:=rfl
       omega
      rw[e,Bool.eq_iff_iff,decide_eq_true_iff,ht.out]
      exact⟨fun h=>⟨HF.out,h⟩,fun h=>h.2⟩
     have HT4:=yH ht4
     obtain⟨pp2,AA2,cc2,x0,x1,x2,x3⟩:=HW'.out.1.cells
     have P5:=yH (HW'.out.1.open_at d (d:Int) rfl)
     have R5:=yH (HW'.out.2.1.setCell (p:=⟨b,2,none⟩) HW'.out.1.le (yI (d:Int)))
     have K5:=yH (HW'.out.2.2.set2 2 (yI (d:Int)))
     have z41:(⟨#[41]⟩:ByteArray).size=1:=rfl
     clear hN4 hM4 ht4
     go_wp2_with (go_at_call 106;(with_reducible refine(put_as b N' d ⟨#[41]⟩ M HM4 (by omega) t HT4 _ _ R5.out P5.out).mono ?_);rintro e w6 ⟨rfl,p6,r6,k6⟩)
     go_ret
     exact⟨rfl,fun _=>p6,r6,K5.out.trans k6⟩
end Go.Proofs.YtfekhbeaphpelaaGreatDoor
