/- The document's own fine. -/

import Derived.Test.YtfekhbeaphpelaaGreatDoorY09
import Derived.Test.YtfekhbeaphpelaaGreatDoorY11
set_option maxRecDepth 100000
set_option maxHeartbeats 8000000
set_option linter.unusedVariables false
set_option linter.unusedSimpArgs false
namespace Go.Proofs.YtfekhbeaphpelaaGreatDoor
open Go.RowKit Go.Lib
theorem rfine_name(k n:Int)(l:List Ex)(A:Option Addr)(c:Nat)(d:Nat)(hd:d≤40)(hl9:l.length≤1000000)(w0 w:World)(hr:Rel w0 w)(M1 M2:Int)(HM1:Hid (argsN k=M1))(HM2:Hid (mostN k=M2))(NM:ByteArray)(zNM:NM.size≤100)(q0:decide ((d:Int)+1<1)=false)(q1:(M1 !=(l.length:Int))=false)(q1':(M1==(l.length:Int))=true)(q2:decide (n<0)=false)(q3:decide (M2<n)=false)(q4:(NM.toList !=[])=true)(q4':(NM.toList==[])=false)(q5:(k==3)=true)(HNb:Hid (isName NM.data.toList=true))(hl0:l.length=0):
  Calls Tryz.prog 40 #[.agg #[yI k,yI n,.string NM,.slice A l.length c],yI ((d:Int)+1)] w fun e w'=>e= .returned (.bool true)∧Rel w0 w':=by
 have HL0:=yH hl0
 clear hl0
 have HB:=yH (Bk.new w 52 #[yI k,yI n,.string NM,.slice A l.length c])
 have HA:=yH (hr.alloc (.cells #[yI k,yI n,.string NM,.slice A l.length c] 52))
 go_enter Tryz.func40,Tryz.ntmps40
 go_wp2_with (fail)
 obtain⟨W,hW⟩:∃W,w.alloc (.cells #[yI k,yI n,.string NM,.slice A l.length c] 52)=W:=⟨_,rfl⟩
 rw[hW] at HB HA⊢
 clear hW
 obtain⟨⟨c0,c1,c2,c3⟩,_⟩:=HB.out.four
 refine wp_region_held_drew (S:=(fun w'=>w'.cell? ⟨w.heap.size,0,none⟩=some (yI k)∧w'.cell? ⟨w.heap.size,1,none⟩=some (yI n)∧w'.cell? ⟨w.heap.size,2,none⟩=some (.string NM)∧w'.cell? ⟨w.heap.size,3,none⟩=some (.slice A l.length c))) (by kernel_rfl) ⟨c0,c1,c2,c3⟩ (fun hH=> ?_)
 refine yL [0,1,2,3,4,6,7,8] (by kernel_rfl) hH (fun _ _ _ _ _=>id) ?_
 iterate 8
  refine yS rfl rfl (by rfl) ?_ ?_ ?_
  rotate_left
  ·rintro w' ⟨s0,s1,s2,s3⟩;go_simp;try with_reducible rfl
  try simp only[Act.put,yA,yB,yC]
 refine yZ ?_
 refine held_one (j:=5) (by kernel_rfl) rfl (fun K hK=> ?_)
 try simp only[yD,yE,yF]
 rw[if_pos (by rfl)]
 go_simp
 go_at_call 53
 (with_reducible refine(args_as k M1 HM1 _).mono ?_)
 rintro e w' ⟨rfl,rfl⟩
 refine hK.out _ _ hH (fun hH=> ?_)
 clear hK K
 try simp only[Act.put,yA,yB,yC]
 refine yL [9,10,11,12,13,14,15,16,17,18,19,20] (by kernel_rfl) hH (fun _ _ _ _ _=>id) ?_
 iterate 12
  refine yS rfl rfl (by rfl) ?_ ?_ ?_
  rotate_left
  ·rintro w' ⟨s0,s1,s2,s3⟩;go_simp;try with_reducible rfl
  try simp only[Act.put,yA,yB,yC]
 refine yZ ?_
 refine held_one (j:=21) (by kernel_rfl) rfl (fun K hK=> ?_)
 try simp only[yD,yE,yF]
 rw[if_pos (by rfl)]
 go_simp
 go_at_call 63
 (with_reducible refine(most_as k M2 HM2 _).mono ?_)
 rintro e w' ⟨rfl,rfl⟩
 refine hK.out _ _ hH (fun hH=> ?_)
 clear hK K
 try simp only[Act.put,yA,yB,yC]
 refine yL [22,23,24,25,26,27,28,29,30,31,32,33,34,35,36,37,38,39] (by kernel_rfl) hH (fun _ _ _ _ _=>id) ?_
 iterate 18
  refine yS rfl rfl (by rfl) ?_ ?_ ?_
  rotate_left
  ·rintro w' ⟨s0,s1,s2,s3⟩;go_simp;try with_reducible rfl
  try simp only[Act.put,yA,yB,yC]
 refine yZ ?_
 refine held_one (j:=40) (by kernel_rfl) rfl (fun K hK=> ?_)
 try simp only[yD,yE,yF]
 rw[if_pos (by rfl)]
 go_simp
 go_at_call 62
 (with_reducible refine(rname_as NM true HNb zNM _ _ HA.out.drew.self).mono ?_)
 rintro e w2 ⟨rfl,h2⟩
 obtain⟨⟨d0,d1,d2,d3⟩,_⟩:=(HB.out.drew.rel h2).four
 refine hK.out _ _ ⟨d0,d1,d2,d3⟩ (fun hH=> ?_)
 clear hK K
 try simp only[Act.put,yA,yB,yC]
 refine yL [41,42,43] (by kernel_rfl) hH (fun _ _ _ _ _=>id) ?_
 iterate 3
  refine yS rfl rfl (by rfl) ?_ ?_ ?_
  rotate_left
  ·rintro w' ⟨s0,s1,s2,s3⟩;go_simp;try with_reducible rfl
  try simp only[Act.put,yA,yB,yC]
 refine yZ ?_
 refine wpAnyH_done (by kernel_rfl) ?_ _
 have hl0:=HL0.out
 go_wp2_with (fail)
 go_loopw [5] (fun i wr=>i=yI 0∧Rel w2 wr) (fun i _=>0)
 case atStart=>exact⟨rfl,(HA.out.drew.trans h2).self⟩
 case round=>
  obtain⟨rfl,hRw⟩:=hrel
  obtain⟨⟨x0,x1,x2,x3⟩,_⟩:=((HB.out.drew.rel h2).rel hRw).four
  have hl1: ¬(0:Int)<(l.length:Int):=by omega
  have HRw:=yH hRw
  clear hl0
  go_wp2_with (fail)
  go_ret
  exact⟨rfl,(HA.out.drew.trans h2).trans HRw.out⟩
theorem str_empty(a:List UInt8):((B a).toList==[])=decide (a=[]):=by
 rw[B_toList];cases a<;>simp
theorem fine_all{d:Nat}{k:Int}{l:List Ex}:((l.zipIdx).all fun p=>(isCond p.1.k==(decide (k=10)&&decide (p.2=0)))&&fine d p.1)=true↔∀i (h:i<l.length),okA d k l i h:=by
 simp only[List.all_eq_true,Bool.and_eq_true,beq_iff_eq]
 constructor
 ·intro h i hi
  exact h (l[i],i) (by rw[List.mem_iff_getElem];exact⟨i,by simpa using hi,by simp⟩)
 ·rintro h ⟨y,i⟩ hy
  obtain⟨j,hj,e⟩:=List.mem_iff_getElem.1 hy
  simp at hj e
  obtain⟨rfl,rfl⟩:=e
  exact h j hj
theorem len_sizes:∀l:List Ex,l.length≤sizes l:=fun l=>by
 induction l with
 |nil=>simp
 |cons x t ih=>rw[sizes_cons,List.length_cons];have:=size_pos x;omega
theorem rfine_any:∀(d:Nat),d≤40→∀(x:Ex)(S:Nat→Prop)(e:El)(w0 w:World),Rel w0 w→ExAt S w e x→size x≤1000000→
  Calls Tryz.prog 40 #[EV e,yI (d:Int)] w fun r w'=>r= .returned (.bool (fine d x))∧Rel w0 w':=by
 intro d
 induction d with
 |zero=>
  intro _ x S e w0 w hr h hz
  cases x with
  |mk k n nm l=>
   obtain⟨A,c,es,rfl,hk,hn,hm,hl,hrow,hsub⟩:=h.open
   rw[size_mk] at hz
   have:=len_sizes l
   exact rfine_no0 k n l A c (by omega) w0 w hr (argsN k) (mostN k) (yH rfl) (yH rfl) (B nm) (by rw[B_size];exact hm)
 |succ d ih=>
  intro hd x S e w0 w hr h hz
  cases x with
  |mk k n nm l=>
   obtain⟨A,c,es,rfl,hk,hn,hm,hl,hrow,hsub⟩:=h.open
   rw[size_mk] at hz
   have hll:=len_sizes l
   have hl9:l.length≤1000000:=by omega
   have zNM:(B nm).size≤100:=by rw[B_size];exact hm
   have q0:decide ((d:Int)+1<1)=false:=by simp;omega
   have hcast:(((d+1:Nat):Int))=(d:Int)+1:=by omega
   rw[hcast,fine_eq]
   by_cases d1:argsN k=(l.length:Int)
   ·have q1:(argsN k !=(l.length:Int))=false:=by simp[d1]
    have q1':(argsN k==(l.length:Int))=true:=by simp[d1]
    by_cases d2:n<0
    ·have hf:(decide (0≤n∧n≤mostN k))=false:=by simp;omega
     rw[hf]
     simp only[Bool.and_false,Bool.false_and]
     exact rfine_no2 k n l A c d (by omega) hl9 w0 w hr _ _ (yH rfl) (yH rfl) (B nm) zNM q0 q1 q1' (by simpa using d2)
    ·have q2:decide (n<0)=false:=by simpa using d2
     by_cases d3:mostN k<n
     ·have hf:(decide (0≤n∧n≤mostN k))=false:=by simp;omega
      rw[hf]
      simp only[Bool.and_false,Bool.false_and]
      exact rfine_no3 k n l A c d (by omega) hl9 w0 w hr _ _ (yH rfl) (yH rfl) (B nm) zNM q0 q1 q1' q2 (by simpa using d3)
     ·have q3:decide (mostN k<n)=false:=by simpa using d3
      have hs:=str_empty nm
      by_cases d4:nm=[]
      ·have q4':((B nm).toList==[])=true:=by rw[hs];simpa using d4
       have q4:((B nm).toList !=[])=false:=by simp[bne,q4']
       by_cases d5:k=3
       ·have hf:(decide (nm≠[])==decide (k=3))=false:=by simp[d4,d5]
        rw[hf]
        simp only[Bool.and_false,Bool.false_and]
        exact rfine_no5 k n l A c d (by omega) hl9 w0 w hr _ _ (yH rfl) (yH rfl) (B nm) zNM q0 q1 q1' q2 q3 q4 q4' (by simpa using d5)
       ·have q5:(k==3)=false:=by simpa using d5
        obtain⟨b,hb⟩:∃b,((l.zipIdx).all fun p=>(isCond p.1.k==(decide (k=10)&&decide (p.2=0)))&&fine d p.1)=b:=⟨_,rfl⟩
        have hbb:=fine_all (d:=d) (k:=k) (l:=l)
        rw[hb] at hbb
        have hf:(decide (argsN k=(l.length:Int))&&decide (0≤n∧n≤mostN k)&&(decide (nm≠[])==decide (k=3))&&(decide (k≠3)||isName nm))=true:=by
         have e1:0≤n∧n≤mostN k:=⟨by omega,by omega⟩
         simp[d1,e1,d4,d5]
        rw[hf,hb,Bool.true_and]
        exact rfine_args k n l A c d (by omega) hl9 w0 w hr _ _ (yH rfl) (yH rfl) (B nm) zNM q0 q1 q1' q2 q3 q4 q4' q5 S es hl (yH hrow) (yH hsub) (by omega) (yH (ih (by omega))) b (yH hbb)
      ·have q4':((B nm).toList==[])=false:=by rw[hs];simpa using d4
       have q4:((B nm).toList !=[])=true:=by simp[bne,q4']
       by_cases d5:k=3
       ·have q5:(k==3)=true:=by simpa using d5
        cases hnm:isName nm
        ·have hf:(decide (k≠3)||isName nm)=false:=by simp[d5,hnm]
         rw[hnm] at hf
         rw[hf]
         simp only[Bool.and_false,Bool.false_and]
         exact rfine_no6 k n l A c d (by omega) hl9 w0 w hr _ _ (yH rfl) (yH rfl) (B nm) zNM q0 q1 q1' q2 q3 q4 q4' q5 (yH (by rw[B_list];exact hnm))
        ·have hl0:l.length=0:=by subst d5;have:argsN 3=0:=by decide
                                 omega
         have hln:l=[]:=List.length_eq_zero_iff.1 hl0
         have hf:(decide (argsN k=(l.length:Int))&&decide (0≤n∧n≤mostN k)&&(decide (nm≠[])==decide (k=3))&&(decide (k≠3)||true))=true:=by
          have e1:0≤n∧n≤mostN k:=⟨by omega,by omega⟩
          rw[decide_eq_true d1,decide_eq_true e1,decide_eq_true d4,decide_eq_true d5];simp
         rw[hf,hln]
         simp only[Bool.true_and,List.zipIdx_nil,List.all_nil]
         rw[hln] at hl9 q1 q1' hl0
         exact rfine_name k n [] A c d (by omega) hl9 w0 w hr _ _ (yH rfl) (yH rfl) (B nm) zNM q0 q1 q1' q2 q3 q4 q4' q5 (yH (by rw[B_list];exact hnm)) rfl
       ·have hf:(decide (nm≠[])==decide (k=3))=false:=by simp[d4,d5]
        rw[hf]
        simp only[Bool.and_false,Bool.false_and]
        exact rfine_no4 k n l A c d (by omega) hl9 w0 w hr _ _ (yH rfl) (yH rfl) (B nm) zNM q0 q1 q1' q2 q3 q4 q4' (by simpa using d5)
   ·have hf:decide (argsN k=(l.length:Int))=false:=by simpa using d1
    rw[hf]
    simp only[Bool.false_and]
    exact rfine_no1 k n l A c d (by omega) hl9 w0 w hr _ _ (yH rfl) (yH rfl) (B nm) zNM q0 (by simp[bne,d1]) (by simp[d1])
theorem rfine32(x:Ex)(S:Nat→Prop)(e:El)(w0 w:World)(hr:Rel w0 w)(h:ExAt S w e x)(hz:size x≤1000000):
  Calls Tryz.prog 40 #[EV e,yI 32] w fun r w'=>r= .returned (.bool (fine 32 x))∧Rel w0 w':=rfine_any 32 (by omega) x S e w0 w hr h hz
theorem rright_any(x:Ex)(S:Nat→Prop)(e:El)(w0 w:World)(hr:Rel w0 w)(h:ExAt S w e x)(hz:size x≤1000000):
  Calls Tryz.prog 25 #[EV e] w fun r w'=>r= .returned (.bool (rightX x))∧Rel w0 w':=by
 have HE:=yH h
 have HR:=yH hr
 obtain⟨k,n,nm,A,m,c⟩:=e
 have hke:x.k=k:=h.kind
 have HB:=yH (Bk.new w 52 #[yI k,yI n,.string (B nm),.slice A m c])
 have HA:=yH (hr.self.alloc (.cells #[yI k,yI n,.string (B nm),.slice A m c] 52))
 have HFi:=yH (fun(w':World)(h':Rel w w')=>rfine32 x S (k,n,nm,A,m,c) w' w' (hr.trans h').self (h.rel h') hz)
 have HSi:=yH (fun(w':World)(h':Rel w w')=>rsize_any x S (k,n,nm,A,m,c) w' w' (hr.trans h').self (h.rel h') hz)
 have hRX:rightX x=(fine 32 x&& !isCond k&&decide (size x≤2000)&&decide ((text x).length≤2000)):=by unfold rightX;rw[hke]
 obtain⟨b,hb⟩:∃b,fine 32 x=b:=⟨_,rfl⟩
 have HTx:=yH (fun(hf:fine 32 x=true)(hs:size x≤2000)(w':World)(h':Rel w w')=>rtext7_any x 32 S (k,n,nm,A,m,c) w' w' hf (hr.trans h').self (h.rel h') hs)
 have HFT:=yH hb
 have HTL:=yH (fun(hf:fine 32 x=true)=>text_len x 32 hf)
 rw[hb] at HFi hRX
 clear h hb
 cases b with
 |false=>
  have HX:=yH (show rightX x=false by rw[hRX];simp)
  clear hRX
  go_enter Tryz.func25,Tryz.ntmps25
  go_wp2_with (go_at_call 40;(with_reducible refine(HFi.out _ HA.out).mono ?_);rintro e w1 ⟨rfl,h1⟩;obtain⟨⟨c0,c1,c2,c3⟩,_⟩:=(HB.out.rel h1).four)
  go_ret
  exact⟨ret_bool HX.out.symm,(HR.out.trans HA.out).trans h1⟩
 |true=>
  obtain⟨q,hq⟩:∃q,isCond k=q:=⟨_,rfl⟩
  have HQ:=yH hq
  rw[hq] at hRX
  clear hq
  cases q with
  |true=>
   have HX:=yH (show rightX x=false by rw[hRX];simp)
   clear hRX
   go_enter Tryz.func25,Tryz.ntmps25
   go_wp2_with (first
    |(go_at_call 40;(with_reducible refine(HFi.out _ HA.out).mono ?_);rintro e w1 ⟨rfl,h1⟩;obtain⟨⟨c0,c1,c2,c3⟩,_⟩:=(HB.out.rel h1).four)
    |(go_at_call 41;(with_reducible refine(cond_as k _ HQ _).mono ?_);rintro e w' ⟨rfl,rfl⟩))
   go_ret
   exact⟨ret_bool HX.out.symm,(HR.out.trans HA.out).trans h1⟩
  |false=>
   obtain⟨sz,hsz⟩:∃s,size x=s:=⟨_,rfl⟩
   have HSZ:=yH hsz
   rw[hsz] at hRX HSi hz
   clear hsz
   by_cases h2:sz≤2000
   ·obtain⟨T,hT⟩:∃T,B (text x)=T:=⟨_,rfl⟩
    have hTs:T.size=(text x).length:=by rw[←hT,B_size]
    have hTl:T.size≤120000:=by rw[hTs];have:=HTL.out HFT.out;have:=HSZ.out;omega
    have HTT:=yH (HTx.out HFT.out (by rw[HSZ.out];exact h2))
    rw[hT] at HTT
    have HX:=yH (show rightX x=decide (T.size≤2000) by rw[hRX,hTs];simp[h2])
    have i2:(sz:Int)≤2000:=by omega
    clear hRX hT hTs
    by_cases h3:T.size≤2000
    ·have i3:(T.size:Int)≤2000:=by omega
     go_enter Tryz.func25,Tryz.ntmps25
     go_wp2_with (first
      |(go_at_call 40;(with_reducible refine(HFi.out _ HA.out).mono ?_);rintro e w1 ⟨rfl,h1⟩;obtain⟨⟨c0,c1,c2,c3⟩,_⟩:=(HB.out.rel h1).four)
      |(go_at_call 41;(with_reducible refine(cond_as k _ HQ _).mono ?_);rintro e w' ⟨rfl,rfl⟩)
      |(go_at_call 42;(with_reducible refine(HSi.out _ (HA.out.trans h1)).mono ?_);rintro e w2 ⟨rfl,h2'⟩;obtain⟨⟨d0,d1,d2,d3⟩,_⟩:=((HB.out.rel h1).rel h2').four)
      |(go_at_call 32;(with_reducible refine(HTT.out _ ((HA.out.trans h1).trans h2')).mono ?_);rintro e w3 ⟨rfl,h3'⟩))
     go_ret
     exact⟨ret_bool (by rw[HX.out];simp[h3]),(((HR.out.trans HA.out).trans h1).trans h2').trans h3'⟩
    ·have i3: ¬(T.size:Int)≤2000:=by omega
     go_enter Tryz.func25,Tryz.ntmps25
     go_wp2_with (first
      |(go_at_call 40;(with_reducible refine(HFi.out _ HA.out).mono ?_);rintro e w1 ⟨rfl,h1⟩;obtain⟨⟨c0,c1,c2,c3⟩,_⟩:=(HB.out.rel h1).four)
      |(go_at_call 41;(with_reducible refine(cond_as k _ HQ _).mono ?_);rintro e w' ⟨rfl,rfl⟩)
      |(go_at_call 42;(with_reducible refine(HSi.out _ (HA.out.trans h1)).mono ?_);rintro e w2 ⟨rfl,h2'⟩;obtain⟨⟨d0,d1,d2,d3⟩,_⟩:=((HB.out.rel h1).rel h2').four)
      |(go_at_call 32;(with_reducible refine(HTT.out _ ((HA.out.trans h1).trans h2')).mono ?_);rintro e w3 ⟨rfl,h3'⟩))
     go_ret
     exact⟨ret_bool (by rw[HX.out];simp[h3];omega),(((HR.out.trans HA.out).trans h1).trans h2').trans h3'⟩
   ·have HX:=yH (show rightX x=false by rw[hRX];simp[h2])
    have i2: ¬(sz:Int)≤2000:=by omega
    clear hRX
    go_enter Tryz.func25,Tryz.ntmps25
    go_wp2_with (first
     |(go_at_call 40;(with_reducible refine(HFi.out _ HA.out).mono ?_);rintro e w1 ⟨rfl,h1⟩;obtain⟨⟨c0,c1,c2,c3⟩,_⟩:=(HB.out.rel h1).four)
     |(go_at_call 41;(with_reducible refine(cond_as k _ HQ _).mono ?_);rintro e w' ⟨rfl,rfl⟩)
     |(go_at_call 42;(with_reducible refine(HSi.out _ (HA.out.trans h1)).mono ?_);rintro e w2 ⟨rfl,h2'⟩))
    go_ret
    exact⟨ret_bool (by rw[HX.out]),((HR.out.trans HA.out).trans h1).trans h2'⟩
def prT(x:Ex):List UInt8:=if rightX x then text x else []
def prE(x:Ex):Int:=if rightX x then 0 else 1
theorem rprint_any(x:Ex)(S:Nat→Prop)(e:El)(w0 w:World)(hr:Rel w0 w)(h:ExAt S w e x)(hz:size x≤1000000):
  Calls Tryz.prog 21 #[EV e] w fun r w'=>r= .returned (.tuple #[.string (B (prT x)),yI (prE x)])∧Rel w0 w':=by
 have HR:=yH hr
 obtain⟨k,n,nm,A,m,c⟩:=e
 have HB:=yH (Bk.new w 52 #[yI k,yI n,.string (B nm),.slice A m c])
 have HA:=yH (hr.self.alloc (.cells #[yI k,yI n,.string (B nm),.slice A m c] 52))
 have HRi:=yH (fun(w':World)(h':Rel w w')=>rright_any x S (k,n,nm,A,m,c) w' w' (hr.trans h').self (h.rel h') hz)
 have HTx:=yH (fun(hf:fine 32 x=true)(hs:size x≤2000)(w':World)(h':Rel w w')=>rtext7_any x 32 S (k,n,nm,A,m,c) w' w' hf (hr.trans h').self (h.rel h') hs)
 cases hx:rightX x
 ·have HX:=yH (show prT x=[]∧prE x=1 by unfold prT prE;rw[hx];exact⟨rfl,rfl⟩)
  rw[hx] at HRi
  clear h hx
  go_enter Tryz.func21,Tryz.ntmps21
  go_wp2_with (go_at_call 25;(with_reducible refine(HRi.out _ HA.out).mono ?_);rintro e w1 ⟨rfl,h1⟩;obtain⟨⟨c0,c1,c2,c3⟩,_⟩:=(HB.out.rel h1).four)
  go_ret2
  exact⟨by rw[HX.out.1,HX.out.2];rfl,(HR.out.trans HA.out).trans h1⟩
 ·have HX:=yH (show prT x=text x∧prE x=0 by unfold prT prE;rw[hx];exact⟨rfl,rfl⟩)
  have hparts:fine 32 x=true∧size x≤2000:=by
   simp only[rightX,Bool.and_eq_true,decide_eq_true_eq] at hx
   exact⟨hx.1.1.1,hx.1.2⟩
  rw[hx] at HRi
  have HTT:=yH (HTx.out hparts.1 hparts.2)
  clear h hx hparts
  go_enter Tryz.func21,Tryz.ntmps21
  go_wp2_with (first
   |(go_at_call 25;(with_reducible refine(HRi.out _ HA.out).mono ?_);rintro e w1 ⟨rfl,h1⟩;obtain⟨⟨c0,c1,c2,c3⟩,_⟩:=(HB.out.rel h1).four)
   |(go_at_call 32;(with_reducible refine(HTT.out _ (HA.out.trans h1)).mono ?_);rintro e w2 ⟨rfl,h2⟩))
  go_ret2
  exact⟨by rw[HX.out.1,HX.out.2];rfl,((HR.out.trans HA.out).trans h1).trans h2⟩
theorem from_hit{os:List Of}{s:List UInt8}{i:Nat}(hi:i<os.length)(h:os[i].1=s)(hn:∀k (hk:k<os.length),k<i→os[k].1≠s):fromO os s=some os[i].2:=by
 unfold fromO
 have:os.find? (fun o=>decide (o.1=s))=some os[i]:=by
  rw[List.find?_eq_some_iff_getElem]
  refine⟨by simpa using h,i,hi,rfl,fun j hj=> ?_⟩
  simpa using hn j (by omega) hj
 rw[this];rfl
theorem rtold_3(d:Nat)(n:Int)(nm:List UInt8)(S:Nat→Prop)(e:El)(A:Option Addr)(c:Nat)(os:List Of)(w0 w:World)(hr:Rel w0 w)(h:ExAt S w e (.mk 3 n nm []))(hl:offsOk os=true)(ho:OffArg w A c os):
  Calls Tryz.prog 48 #[EV e,.slice A os.length c] w fun z w'=>z= .returned (RV (toldN os (d+1) (.mk 3 n nm [])))∧Rel w0 w':=by
 obtain⟨A',c',es,rfl,hk,hn,hm,hle,hrow,hsub⟩:=h.open
 have HR:=yH hr
 have HB:=yH (Bk.new w 52 #[yI 3,yI n,.string (B nm),.slice A' 0 c'])
 have HA:=yH (hr.self.alloc (.cells #[yI 3,yI n,.string (B nm),.slice A' 0 c'] 52))
 have HOf:=yH ho.2.2.2
 obtain⟨W,hW⟩:∃W,w.alloc (.cells #[yI 3,yI n,.string (B nm),.slice A' 0 c'] 52)=W:=⟨_,rfl⟩
 rw[hW] at HA HB
 have h8:=offs_len hl
 have HF:=yH (told_from os d (.mk 3 n nm []) rfl)
 obtain⟨X,hX⟩:∃X,B nm=X:=⟨_,rfl⟩
 have HX:=yH hX
 rw[hX] at HB hW
 have hW2:w.alloc (.cells #[yI 3,yI n,.string (B nm),.slice A' 0 c'] 52)=W:=by rw[hX];exact hW
 obtain⟨⟨b0,b1,b2,b3⟩,_⟩:=HB.out.four
 clear hrow hsub h ho hX hW
 go_enter Tryz.func48,Tryz.ntmps48
 rw[HF.out]
 go_wp2_with (fail)
 go_loopw [11] (fun i wr=>∃j:Nat,j≤os.length∧i=yI (j:Int)∧Hid (∀k (hk:k<os.length),k<j→os[k].1≠nm)∧Rel W wr) (fun i _=>os.length-(RowKit.intOf i).toNat)
 case atStart=>exact⟨0,by omega,rfl,yH (fun k _ hk=>absurd hk (by omega)),HA.out.right2⟩
 case round=>
  obtain⟨i,hi,rfl,HN,hRw⟩:=hrel
  have HRw:=yH hRw
  obtain⟨⟨d0,d1,d2,d3⟩,_⟩:=(HB.out.rel hRw).four
  by_cases hlt:i<os.length
  ·obtain⟨g,off,s,p,rfl,c0,c1,ho⟩:=offs_at HOf.out (HA.out.trans hRw) i hlt
   obtain⟨Y,hY⟩:∃Y,B s=Y:=⟨_,rfl⟩
   have HO:=yH ho
   rw[hY] at c0
   have HY:=yH hY
   clear ho hY hRw
   by_cases he:Y=X
   ·have k1:=list_of.2 he
    have HV:=yH (show fromO os nm=some p by
     have h1:os[i].1=nm:=by rw[HO.out];show s=nm;rw[←B_list s,←B_list nm,HY.out,HX.out,he]
     rw[from_hit hlt h1 HN.out,HO.out])
    clear he
    go_wp2_with (fail)
    go_quiet (fail)
    go_wp2_with (fail)
    go_ret3
    exact⟨by show _=Ending.returned (RV (.ok (fromO os nm)));rw[HV.out];rfl,((HR.out.trans HA.out).trans HRw.out).drewN _⟩
   ·have k1:=list_ne he
    have HN2:Hid (∀k (hk:k<os.length),k<i+1→os[k].1≠nm):=yH (fun k hk hki=>by
     by_cases e:k=i
     ·subst e
      rw[HO.out]
      show s≠nm
      intro e;subst e;exact he (HY.out.symm.trans HX.out)
     ·exact HN.out k hk (by omega))
    clear he
    go_wp2_with (fail)
    go_quiet (fail)
    go_wp2_with (fail)
    go_roundw
    case rel=>exact⟨i+1,by omega,by go_num,HN2,HRw.out.drewN _⟩
    case measure=>simp[RowKit.intOf];omega
  ·obtain rfl:i=os.length:=by omega
   have HV:=yH (show fromO os nm=none from from_none fun k hk=>HN.out k hk hk)
   go_wp2_with (fail)
   go_ret3
   exact⟨by show _=Ending.returned (RV (.ok (fromO os nm)));rw[HV.out];rfl,(HR.out.trans HA.out).trans HRw.out⟩
theorem er_ne{os:List Of}{d:Nat}{y:Ex}{er:Int}(h:toldN os d y= .error er):(er !=0)=true:=by
 have:=told_err _ _ _ _ h;subst this;rfl
theorem erc_ne{os:List Of}{d:Nat}{y:Ex}{er:Int}(h:condN os d y= .error er):(er !=0)=true:=by
 have:=cond_err _ _ _ _ h;subst this;rfl
theorem len0{l:List Ex}(h:(0:Int)=(l.length:Int)):l=[]:=List.length_eq_zero_iff.1 (by omega)
theorem len1{l:List Ex}(h:(1:Int)=(l.length:Int)):∃a,l=[a]:=List.length_eq_one_iff.1 (by omega)
theorem len2{l:List Ex}(h:(2:Int)=(l.length:Int)):∃a b,l=[a,b]:=by
 match l,h with
 |[a,b],_=>exact⟨a,b,rfl⟩
 |[],h=>simp at h
 |[_],h=>simp at h
 |_::_::_::_,h=>simp only[List.length_cons] at h;omega
theorem len3{l:List Ex}(h:(3:Int)=(l.length:Int)):∃a b c,l=[a,b,c]:=by
 match l,h with
 |[a,b,c],_=>exact⟨a,b,c,rfl⟩
 |[],h=>simp at h
 |[_],h=>simp at h
 |[_,_],h=>simp at h
 |_::_::_::_::_,h=>simp only[List.length_cons] at h;omega
theorem rtold_all:∀d,RToldAt d∧RCondAt d:=by
 intro d
 induction d with
 |zero=>exact⟨fun x S e A c os w0 w hx=>(by cases hx),fun x S e A c os w0 w hx=>(by cases hx)⟩
 |succ d ih=>
  obtain⟨H,HCd⟩:=ih
  refine⟨fun x S e A c os w0 w hx hc hr h hl ho=> ?_,fun x S e A c os w0 w hx hc hr h hl ho=> ?_⟩
  ·cases x with
   |mk k n nm xs=>
    obtain⟨p1,p2,p3,p4,p5⟩:=fine_parts hx
    have hk:=kind_list (k:=k) (by omega)
    rcases hk with rfl|rfl|rfl|rfl|rfl|rfl|rfl|rfl|rfl|rfl|rfl|rfl
    ·obtain rfl:=len0 p1
     exact rtold_1 d n nm S e A c os w0 w hr h hl ho
    ·obtain rfl:=len0 p1
     exact rtold_2 d n nm S e A c os w0 w hr h hl ho
    ·obtain rfl:=len0 p1
     exact rtold_3 d n nm S e A c os w0 w hr h hl ho
    ·obtain rfl:=len0 p1
     exact rtold_4 d n nm S e A c os w0 w hr h hl ho
    ·obtain⟨y,rfl⟩:=len1 p1
     obtain⟨g0,f0⟩:=p5 0 (by simp)
     have hh:=told_less5 os d n nm y
     cases q0:toldN os d y with
     |error er=>rw[hh,q0];exact rtold_5e d n nm y H f0 g0 (er_ne q0) S e A c os w0 w hr h hl ho q0
     |ok o=>
      cases o with
      |none=>rw[hh,q0];exact rtold_5n d n nm y H f0 g0 S e A c os w0 w hr h hl ho q0
      |some v=>rw[hh,q0];exact rtold_5s d n nm y H f0 g0 S e A c os w0 w hr h hl ho q0
    ·obtain⟨y,rfl⟩:=len1 p1
     obtain⟨g0,f0⟩:=p5 0 (by simp)
     have hh:=told_cut6 os d n nm y
     cases q0:toldN os d y with
     |error er=>rw[hh,q0];exact rtold_6e d n nm y H f0 g0 (er_ne q0) S e A c os w0 w hr h hl ho q0
     |ok o=>
      cases o with
      |none=>rw[hh,q0];exact rtold_6n d n nm y H f0 g0 S e A c os w0 w hr h hl ho q0
      |some v=>
       rw[hh,q0]
       by_cases hp:part2 v n false=0
       ·show Calls _ _ _ _ fun z w'=>z= .returned (RV (cutR v n))∧Rel w0 w'
        rw[show cutR v n=subR v (part1 v n false) by unfold cutR;rw[if_pos hp]]
        exact rtold_6s d n nm y H f0 g0 rfl hp S e A c os w0 w hr h hl ho q0
       ·show Calls _ _ _ _ fun z w'=>z= .returned (RV (cutR v n))∧Rel w0 w'
        rw[show cutR v n= .error (part2 v n false) by unfold cutR;rw[if_neg hp]]
        exact rtold_6p d n nm y H f0 g0 rfl rfl (by simpa using hp) S e A c os w0 w hr h hl ho q0
    ·obtain⟨x,y,rfl⟩:=len2 p1
     obtain⟨g0,f0⟩:=p5 0 (by simp)
     obtain⟨g1,f1⟩:=p5 1 (by simp)
     have hh:=told_both os d 7 n nm x y (by omega)
     cases q0:toldN os d x with
     |error er=>rw[hh,q0];exact rtold_7e d n nm x y H f0 g0 (er_ne q0) S e A c os w0 w hr h hl ho q0
     |ok o=>
      cases q1:toldN os d y with
      |error er=>
       cases o with
       |none=>rw[hh,q0,q1];exact rtold_7ne d n nm x y H f0 g0 f1 g1 (er_ne q1) S e A c os w0 w hr h hl ho q0 q1
       |some v=>rw[hh,q0,q1];exact rtold_7se d n nm x y H f0 g0 f1 g1 (er_ne q1) S e A c os w0 w hr h hl ho q0 q1
      |ok o1=>
       cases o with
       |none=>
        cases o1 with
        |none=>rw[hh,q0,q1];exact rtold_7nn d n nm x y H f0 g0 f1 g1 S e A c os w0 w hr h hl ho q0 q1
        |some u=>rw[hh,q0,q1];exact rtold_7ns d n nm x y H f0 g0 f1 g1 S e A c os w0 w hr h hl ho q0 q1
       |some v=>
        cases o1 with
        |none=>rw[hh,q0,q1];exact rtold_7sn d n nm x y H f0 g0 f1 g1 S e A c os w0 w hr h hl ho q0 q1
        |some u=>rw[hh,q0,q1];exact rtold_7ss d n nm x y H f0 g0 f1 g1 S e A c os w0 w hr h hl ho q0 q1
    ·obtain⟨x,y,rfl⟩:=len2 p1
     obtain⟨g0,f0⟩:=p5 0 (by simp)
     obtain⟨g1,f1⟩:=p5 1 (by simp)
     have hh:=told_both os d 8 n nm x y (by omega)
     cases q0:toldN os d x with
     |error er=>rw[hh,q0];exact rtold_8e d n nm x y H f0 g0 (er_ne q0) S e A c os w0 w hr h hl ho q0
     |ok o=>
      cases q1:toldN os d y with
      |error er=>
       cases o with
       |none=>rw[hh,q0,q1];exact rtold_8ne d n nm x y H f0 g0 f1 g1 (er_ne q1) S e A c os w0 w hr h hl ho q0 q1
       |some v=>rw[hh,q0,q1];exact rtold_8se d n nm x y H f0 g0 f1 g1 (er_ne q1) S e A c os w0 w hr h hl ho q0 q1
      |ok o1=>
       cases o with
       |none=>
        cases o1 with
        |none=>rw[hh,q0,q1];exact rtold_8nn d n nm x y H f0 g0 f1 g1 S e A c os w0 w hr h hl ho q0 q1
        |some u=>rw[hh,q0,q1];exact rtold_8ns d n nm x y H f0 g0 f1 g1 S e A c os w0 w hr h hl ho q0 q1
       |some v=>
        cases o1 with
        |none=>rw[hh,q0,q1];exact rtold_8sn d n nm x y H f0 g0 f1 g1 S e A c os w0 w hr h hl ho q0 q1
        |some u=>rw[hh,q0,q1];exact rtold_8ss d n nm x y H f0 g0 f1 g1 S e A c os w0 w hr h hl ho q0 q1
    ·obtain⟨x,y,rfl⟩:=len2 p1
     obtain⟨g0,f0⟩:=p5 0 (by simp)
     obtain⟨g1,f1⟩:=p5 1 (by simp)
     have hh:=told_else os d n nm x y
     cases q0:toldN os d x with
     |error er=>rw[hh,q0];exact rtold_9e d n nm x y H f0 g0 (er_ne q0) S e A c os w0 w hr h hl ho q0
     |ok o=>
      cases o with
      |none=>rw[hh,q0];exact rtold_9n d n nm x y H f0 g0 f1 g1 S e A c os w0 w hr h hl ho q0 rfl
      |some v=>rw[hh,q0];exact rtold_9s d n nm x y H f0 g0 S e A c os w0 w hr h hl ho q0
    ·obtain⟨k,x,y,rfl⟩:=len3 p1
     obtain⟨g0,f0⟩:=p5 0 (by simp)
     obtain⟨g1,f1⟩:=p5 1 (by simp)
     obtain⟨g2,f2⟩:=p5 2 (by simp)
     have hh:=told_if os d n nm k x y
     cases q0:condN os d k with
     |error er=>rw[hh,q0];exact rtold_10e d n nm k x y H HCd f0 g0 (erc_ne q0) S e A c os w0 w hr h hl ho q0
     |ok b=>
      cases b with
      |true=>rw[hh,q0];exact rtold_10t d n nm k x y H HCd f0 g0 f1 g1 S e A c os w0 w hr h hl ho q0 rfl
      |false=>rw[hh,q0];exact rtold_10f d n nm k x y H HCd f0 g0 f2 g2 S e A c os w0 w hr h hl ho q0 rfl
    ·cases hc
    ·cases hc
  ·cases x with
   |mk k n nm xs=>
    obtain⟨p1,p2,p3,p4,p5⟩:=fine_parts hx
    have hk:k=11∨k=12:=by simpa [isCond,Ex.k] using hc
    rcases hk with rfl|rfl
    ·obtain rfl:=len0 p1
     exact rcond_11 d n nm S e A c os w0 w hr h hl ho
    ·obtain⟨x,y,rfl⟩:=len2 p1
     obtain⟨g0,f0⟩:=p5 0 (by simp)
     obtain⟨g1,f1⟩:=p5 1 (by simp)
     have hh:condN os (d+1) (.mk 12 n nm [x,y])=match toldN os d x with| .error e=> .error e| .ok a=>match toldN os d y with| .error e=> .error e| .ok b=> .ok (match a,b with|some a,some b=>decide (b<a)|_,_=>false):=by
      rw[cond_above,(told_less os d (d+1) (by omega) x f0).1 g0,(told_less os d (d+1) (by omega) y f1).1 g1];rfl
     cases q0:toldN os d x with
     |error er=>rw[hh,q0];exact rcond_12e d n nm x y H f0 g0 (er_ne q0) S e A c os w0 w hr h hl ho q0
     |ok o=>
      cases q1:toldN os d y with
      |error er=>
       cases o with
       |none=>rw[hh,q0,q1];exact rcond_12ne d n nm x y H f0 g0 f1 g1 (er_ne q1) S e A c os w0 w hr h hl ho q0 q1
       |some v=>rw[hh,q0,q1];exact rcond_12se d n nm x y H f0 g0 f1 g1 (er_ne q1) S e A c os w0 w hr h hl ho q0 q1
      |ok o1=>
       cases o with
       |none=>
        cases o1 with
        |none=>rw[hh,q0,q1];exact rcond_12nn d n nm x y H f0 g0 f1 g1 S e A c os w0 w hr h hl ho q0 q1
        |some u=>rw[hh,q0,q1];exact rcond_12ns d n nm x y H f0 g0 f1 g1 S e A c os w0 w hr h hl ho q0 q1
       |some v=>
        cases o1 with
        |none=>rw[hh,q0,q1];exact rcond_12sn d n nm x y H f0 g0 f1 g1 S e A c os w0 w hr h hl ho q0 q1
        |some u=>rw[hh,q0,q1];exact rcond_12ss d n nm x y H f0 g0 f1 g1 S e A c os w0 w hr h hl ho q0 q1
theorem expr_all:∀d,d≤10→ExprAt d:=by
 intro d
 induction d with
 |zero=>
  intro _ c L g w0 w hr hg hs
  cases c with
  |true=>exact expr_cond 0 (by omega) (fun d' h=>by omega) L g w0 w hr hg hs
  |false=>exact expr_tree 0 (by omega) (fun d' h=>by omega) L g w0 w hr hg hs
 |succ d ih=>
  intro hd c L g w0 w hr hg hs
  have H:∀d',d+1=d'+1→ExprAt d':=fun d' h=>by
   have:d'=d:=by omega
   subst this;exact ih (by omega)
  cases c with
  |true=>exact expr_cond (d+1) hd H L g w0 w hr hg hs
  |false=>exact expr_tree (d+1) hd H L g w0 w hr hg hs
theorem expr5(L:List Int)(x:Ex)(L':List Int)(hx:Hid (gen 5 false L=(x,L')))(g:Nat)(w0 w:World)(hr:Rel w0 w)(hg:w0.heap.size≤g)(hs:SrcAt w g L):
  Calls Tryz.prog 33 #[.pointer (some ⟨g,0,none⟩),yI 5,.bool false] w fun e w'=>∃v:El,e= .returned (EV v)∧ExAt (fun k=>w.heap.size≤k) w' v x∧SrcAt w' g L'∧w.grownBy w' (some g):=
 expr_as (d:=4) (expr_all 4 (by omega)) false L x L' hx g w0 w hr hg hs
def IntsIn(w:World)(A:Option Addr)(c:Nat)(L:List Int):Prop:=L.length≤c∧c≤maxLen∧(∀z∈L,i64 z)∧∀i (h:i<L.length),∃a:Addr,A=some a∧a.block<w.heap.size∧w.cell? (a.add i)=some (yI L[i])
theorem IntsIn.rel{w w':World}{A:Option Addr}{c:Nat}{L:List Int}(h:IntsIn w A c L)(hr:Rel w w'):IntsIn w' A c L:=by
 obtain⟨h1,h2,h3,h4⟩:=h
 refine⟨h1,h2,h3,fun i hi=> ?_⟩
 obtain⟨a,e,hl,hc⟩:=h4 i hi
 have:=hr.size
 exact⟨a,e,by omega,(hr.2.cell (p:=a.add i) (by rw[block_add];exact hl)).trans hc⟩
theorem strat_any(A:Option Addr)(c:Nat)(L:List Int)(w0 w:World)(hr:Rel w0 w)(h:IntsIn w A c L):
  Calls Tryz.prog 22 #[.slice A L.length c] w fun e w'=>∃v:El,e= .returned (EV v)∧ExAt (fun k=>w.heap.size≤k) w' v (strat L)∧Rel w0 w':=by
 have HR:=yH hr
 have HS:=yH hr.self
 have HB:=yH (Bk.new w 52 #[yI 0,yI 0,.string ⟨#[]⟩,.slice none 0 0])
 have h1:=h.1
 have h2:=h.2.1
 have HI:=yH h
 have key:∀(L':List Int)(c':Nat),IntsIn w A c' L'→Hid (SrcAt ((w.alloc (.cells #[yI 0,yI 0,.string ⟨#[]⟩,.slice none 0 0] 52)).alloc (.cells #[.slice A L'.length c'] 68)) (w.heap.size+1) L'):=fun L' c' hi=>yH ⟨A,c',Bk.snd w _ _ _ _,hi.1,hi.2.1,hi.2.2.1,fun i hi'=>by
  obtain⟨a,e,hl,hc⟩:=hi.2.2.2 i hi'
  exact⟨a,e,by omega,(((HS.out.alloc _).alloc _).2.cell (p:=a.add i) (by rw[block_add];exact hl)).trans hc⟩⟩
 by_cases hl:L.length≤100
 ·have HSr:=key L c h
  obtain⟨⟨x,L3⟩,hx⟩:∃p,gen 5 false L=p:=⟨_,rfl⟩
  have HX:=yH hx
  have HF:=yH (show strat L=x by unfold strat;rw[List.take_of_length_le hl,hx])
  have HRW:=yH ((HS.out.alloc (.cells #[yI 0,yI 0,.string ⟨#[]⟩,.slice none 0 0] 52)).alloc (.cells #[.slice A L.length c] 68))
  have HB1:=yH (HB.out.alloc (.cells #[.slice A L.length c] 68))
  have hzz:((w.alloc (.cells #[yI 0,yI 0,.string ⟨#[]⟩,.slice none 0 0] 52)).alloc (.cells #[.slice A L.length c] 68)).heap.size=w.heap.size+2:=by rw[World.size_alloc,World.size_alloc]
  have HZ:=yH hzz
  have hlen:(L.length:Int)≤100:=by omega
  clear key h hx hzz
  go_enter Tryz.func22,Tryz.ntmps22
  go_wp2_with (go_at_call 33;(with_reducible refine(expr5 L x L3 HX (w.heap.size+1) _ _ HRW.out (by omega) HSr.out).mono ?_);rintro e w2 ⟨vx,rfl,ex,s2,g2⟩;obtain⟨⟨c0,c1,c2,c3⟩,f0,f1,f2,f3⟩:=(HB1.out.grown g2 (fun e=>by injection e;omega)).four)
  have gp:=put4_grown w2 w.heap.size (yI vx.1) (yI vx.2.1) (.string (B vx.2.2.1)) (.slice vx.2.2.2.1 vx.2.2.2.2.1 vx.2.2.2.2.2)
  obtain⟨⟨t0,t1,t2,t3⟩,_⟩:=((HB1.out.grown g2 (fun e=>by injection e;omega)).put4 (yI vx.1) (yI vx.2.1) (.string (B vx.2.2.1)) (.slice vx.2.2.2.1 vx.2.2.2.2.1 vx.2.2.2.2.2)).four
  have hz2:=g2.size
  have hz:=HZ.out
  refine bodyPost_ret (v:=EV vx) (by simp[results,Tryz.results22,go_sem,t0,t1,t2,t3]) rfl ⟨vx,rfl, ?_, ?_⟩
  ·rw[HF.out];exact ex.grown gp (fun q hq=>⟨by omega,fun e=>by injection e;omega⟩)
  ·exact HR.out.trans (Rel.grown (Rel.grown HRW.out g2 (fun k e=>by cases e;omega)) gp (fun k e=>by cases e;exact Nat.le_refl _))
 ·have e100:(L.take 100).length=100:=by rw[List.length_take];omega
  have HSr:=key (L.take 100) c ⟨by omega,h2,fun z hz=>h.2.2.1 z (List.mem_of_mem_take hz),fun i hi=>by
   obtain⟨a,e,hl,hc⟩:=h.2.2.2 i (by rw[List.length_take] at hi;omega)
   exact⟨a,e,hl,by rw[List.getElem_take];exact hc⟩⟩
  rw[e100] at HSr
  obtain⟨⟨x,L3⟩,hx⟩:∃p,gen 5 false (L.take 100)=p:=⟨_,rfl⟩
  have HX:=yH hx
  have HF:=yH (show strat L=x by unfold strat;rw[hx])
  have HRW:=yH ((HS.out.alloc (.cells #[yI 0,yI 0,.string ⟨#[]⟩,.slice none 0 0] 52)).alloc (.cells #[.slice A 100 c] 68))
  have HB1:=yH (HB.out.alloc (.cells #[.slice A 100 c] 68))
  have hzz:((w.alloc (.cells #[yI 0,yI 0,.string ⟨#[]⟩,.slice none 0 0] 52)).alloc (.cells #[.slice A 100 c] 68)).heap.size=w.heap.size+2:=by rw[World.size_alloc,World.size_alloc]
  have HZ:=yH hzz
  have hlen:(100:Int)<(L.length:Int):=by omega
  clear key h hx hzz
  go_enter Tryz.func22,Tryz.ntmps22
  go_wp2_with (go_at_call 33;(with_reducible refine(expr5 (L.take 100) x L3 HX (w.heap.size+1) _ _ HRW.out (by omega) HSr.out).mono ?_);rintro e w2 ⟨vx,rfl,ex,s2,g2⟩;obtain⟨⟨c0,c1,c2,c3⟩,f0,f1,f2,f3⟩:=(HB1.out.grown g2 (fun e=>by injection e;omega)).four)
  have gp:=put4_grown w2 w.heap.size (yI vx.1) (yI vx.2.1) (.string (B vx.2.2.1)) (.slice vx.2.2.2.1 vx.2.2.2.2.1 vx.2.2.2.2.2)
  obtain⟨⟨t0,t1,t2,t3⟩,_⟩:=((HB1.out.grown g2 (fun e=>by injection e;omega)).put4 (yI vx.1) (yI vx.2.1) (.string (B vx.2.2.1)) (.slice vx.2.2.2.1 vx.2.2.2.2.1 vx.2.2.2.2.2)).four
  have hz2:=g2.size
  have hz:=HZ.out
  refine bodyPost_ret (v:=EV vx) (by simp[results,Tryz.results22,go_sem,t0,t1,t2,t3]) rfl ⟨vx,rfl, ?_, ?_⟩
  ·rw[HF.out];exact ex.grown gp (fun q hq=>⟨by omega,fun e=>by injection e;omega⟩)
  ·exact HR.out.trans (Rel.grown (Rel.grown HRW.out g2 (fun k e=>by cases e;omega)) gp (fun k e=>by cases e;exact Nat.le_refl _))
def PrintOk:Prop:=∀(x:Ex)(S:Nat→Prop)(e:El)(w0 w:World),Rel w0 w→ExAt S w e x→size x≤100000→Calls Tryz.prog 56 #[EV e] w fun r w'=>r= .returned (.tuple #[.string (B (prT x)),yI (prE x)])∧Rel w0 w'
def RightOk:Prop:=∀(x:Ex)(S:Nat→Prop)(e:El)(w0 w:World),Rel w0 w→ExAt S w e x→size x≤100000→Calls Tryz.prog 36 #[EV e] w fun r w'=>r= .returned (.bool (rightX x))∧Rel w0 w'
theorem right_fine{x:Ex}(h:rightX x=true):fine 32 x=true∧isCond x.k=false:=by
 unfold rightX at h
 simp only[Bool.and_eq_true,Bool.not_eq_true'] at h
 exact⟨h.1.1.1,h.1.1.2⟩
theorem reval_any(x:Ex)(S:Nat→Prop)(e:El)(A:Option Addr)(c:Nat)(os:List Of)(w0 w:World)(hr:Rel w0 w)(h:ExAt S w e x)(hz:size x≤1000000)(ho:OffArg w A c os):
  Calls Tryz.prog 30 #[EV e,.slice A os.length c] w fun z w'=>z= .returned (RV (evalS os x))∧Rel w0 w':=by
 have HR:=yH hr
 have HE:=yH h
 have HO:=yH ho
 obtain⟨k,n,nm,A',m,c'⟩:=e
 have HB:=yH (Bk.new w 52 #[yI k,yI n,.string (B nm),.slice A' m c'])
 have HA:=yH (hr.self.alloc (.cells #[yI k,yI n,.string (B nm),.slice A' m c'] 52))
 obtain⟨W,hW⟩:∃W,w.alloc (.cells #[yI k,yI n,.string (B nm),.slice A' m c'] 52)=W:=⟨_,rfl⟩
 rw[hW] at HA HB
 have hc1:=fun(w':World)(hh:Rel w w')=>rright9_any A c os w' w' (hr.self.trans hh).self (ho.rel hh)
 have hc2:=fun(w':World)(hh:Rel w w')=>rright_any x S (k,n,nm,A',m,c') w' w' (hr.self.trans hh).self (h.rel hh) hz
 obtain⟨b1,h1⟩:∃b,offsOk os=b:=⟨_,rfl⟩
 obtain⟨b2,h2⟩:∃b,rightX x=b:=⟨_,rfl⟩
 rw[h1] at hc1
 rw[h2] at hc2
 have HC1:=yH hc1
 have HC2:=yH hc2
 have H1:=yH h1
 have H2:=yH h2
 clear h ho hc1 hc2 h1 h2
 have key:b1=false∨b2=false∨(b1=true∧b2=true):=by cases b1<;>cases b2<;>simp
 have bad:b1=false∨b2=false→Hid (evalS os x= .error 1):=fun hb=>yH (by
  unfold evalS;rw[H1.out,H2.out]
  rcases hb with rfl|rfl
  ·rfl
  ·rw[Bool.and_false];rfl)
 rcases key with rfl|rfl|⟨rfl,rfl⟩
 ·have HF:=bad (.inl rfl)
  clear bad
  go_enter Tryz.func30,Tryz.ntmps30
  rw[HF.out]
  go_wp2_with (first
   |(go_at_call 47;(with_reducible refine(HC1.out _ HA.out).mono ?_);rintro e w1 ⟨rfl,r1⟩;have R1:=yH (HA.out.trans r1);obtain⟨⟨d0,d1,d2,d3⟩,_⟩:=(HB.out.rel r1).four)
   |(go_at_call 25;(with_reducible refine(HC2.out _ R1.out).mono ?_);rintro e w2 ⟨rfl,r2⟩;have R2:=yH (R1.out.trans r2)))
  go_ret3
  exact⟨rfl,HR.out.trans R2.out⟩
 ·have HF:=bad (.inr rfl)
  clear bad
  go_enter Tryz.func30,Tryz.ntmps30
  rw[HF.out]
  cases b1
  all_goals
   go_wp2_with (first
    |(go_at_call 47;(with_reducible refine(HC1.out _ HA.out).mono ?_);rintro e w1 ⟨rfl,r1⟩;have R1:=yH (HA.out.trans r1);obtain⟨⟨d0,d1,d2,d3⟩,_⟩:=(HB.out.rel r1).four)
    |(go_at_call 25;(with_reducible refine(HC2.out _ R1.out).mono ?_);rintro e w2 ⟨rfl,r2⟩;have R2:=yH (R1.out.trans r2)))
   go_ret3
   exact⟨rfl,HR.out.trans R2.out⟩
 ·clear bad
  have HF:=yH (eval_yes H1.out H2.out)
  have HC3:=yH (fun(w':World)(hh:Rel w w')=>(rtold_all 32).1 x S (k,n,nm,A',m,c') A c os w' w' (right_fine H2.out).1 (right_fine H2.out).2 (HR.out.trans hh).self (HE.out.rel hh) H1.out (HO.out.rel hh))
  go_enter Tryz.func30,Tryz.ntmps30
  rw[HF.out]
  go_wp2_with (first
   |(go_at_call 47;(with_reducible refine(HC1.out _ HA.out).mono ?_);rintro e w1 ⟨rfl,r1⟩;have R1:=yH (HA.out.trans r1);obtain⟨⟨d0,d1,d2,d3⟩,_⟩:=(HB.out.rel r1).four)
   |(go_at_call 25;(with_reducible refine(HC2.out _ R1.out).mono ?_);rintro e w2 ⟨rfl,r2⟩;have R2:=yH (R1.out.trans r2);obtain⟨⟨e0,e1,e2,e3⟩,_⟩:=((HB.out.rel r1).rel r2).four)
   |(go_at_call 48;(with_reducible refine(HC3.out _ R2.out).mono ?_);rintro e w3 ⟨rfl,r3⟩;have R3:=yH (R2.out.trans r3)))
  go_ret3
  exact⟨rfl,HR.out.trans R3.out⟩
abbrev CfV(c:Cf):Value:= .agg #[yI (flC c),yI (ceC c),yI (mpC c),yI (coC c),yI (bdC c),.string (B (txC c))]
def CfFit(c:Cf):Prop:=(i64 (flC c)∧i64 (ceC c)∧i64 (mpC c)∧i64 (coC c)∧i64 (bdC c))∧(txC c).length≤9223372036854775807
theorem six_of{w:World}{g:Nat}{t:TypeId}{a b c d e f:Value}(h:Bk w g t #[a,b,c,d,e,f]):
  (w.cell? ⟨g,0,none⟩=some a∧w.cell? ⟨g,1,none⟩=some b∧w.cell? ⟨g,2,none⟩=some c∧w.cell? ⟨g,3,none⟩=some d∧w.cell? ⟨g,4,none⟩=some e∧w.cell? ⟨g,5,none⟩=some f)∧
   (w.frozen? ⟨g,0,none⟩=false∧w.frozen? ⟨g,1,none⟩=false∧w.frozen? ⟨g,2,none⟩=false∧w.frozen? ⟨g,3,none⟩=false∧w.frozen? ⟨g,4,none⟩=false∧w.frozen? ⟨g,5,none⟩=false):=
 ⟨⟨h.cell 0,h.cell 1,h.cell 2,h.cell 3,h.cell 4,h.cell 5⟩,⟨h.frozen 0,h.frozen 1,h.frozen 2,h.frozen 3,h.frozen 4,h.frozen 5⟩⟩
def XAt(w:World)(v:Value)(x:Ex):Prop:=∃(S:Nat→Prop)(e:El),EV e=v∧ExAt S w e x
theorem XAt.rel{w w':World}{v:Value}{x:Ex}(h:XAt w v x)(hr:Rel w w'):XAt w' v x:=by
 obtain⟨S,e,he,hx⟩:=h
 exact⟨S,e,he,hx.rel hr⟩
abbrev XV(k n:Int)(X:ByteArray)(A:Option Addr)(l c:Nat):Value:= .agg #[yI k,yI n,.string X,.slice A l c]
theorem rparse_yes14(t:List UInt8)(S:ByteArray)(hS:B t=S)(ht:t.length≤9223372036854775807)(x:Ex)(hx:parseS t= .ok x)(w:World)(hr:Rel w w):
  Calls Tryz.prog 24 #[.string S] w fun e w'=>∃(k n:Int)(X:ByteArray)(A:Option Addr)(l c:Nat),e= .returned (.tuple #[.agg #[yI k,yI n,.string X,.slice A l c],yI 0,yI 0])∧Hid (XAt w' (XV k n X A l c) x)∧Hid (Rel w w'):=by
 subst hS
 refine(rparse_ok (B t) x (yH (by rw[B_list];exact hx)) (by rw[B_size];exact ht) w w hr).mono ?_
 rintro e w' ⟨v,rfl,hv,hr2⟩
 exact⟨_,_,_,_,_,_,rfl,yH ⟨_,v,rfl,hv⟩,yH hr2⟩
theorem rparse_no14(t:List UInt8)(S:ByteArray)(hS:B t=S)(ht:t.length≤9223372036854775807)(cd pl:Int)(hx:parseS t= .error (cd,pl))(w:World)(hr:Rel w w):
  Calls Tryz.prog 24 #[.string S] w fun e w'=>e= .returned (.tuple #[.agg #[yI 0,yI 0,.string ⟨#[]⟩,.slice none 0 0],yI cd,yI pl])∧Hid (Rel w w'):=by
 subst hS
 exact(rparse_bad (B t) cd pl (yH (by rw[B_list];exact hx)) (by rw[B_size];exact ht) w w hr).mono fun e w' ⟨he,hr2⟩=>⟨he,yH hr2⟩
theorem rright14{v:Value}{x:Ex}{b:Bool}(hb:rightX x=b)(hz:size x≤2001)(w:World)(h:XAt w v x)(hr:Rel w w):
  Calls Tryz.prog 25 #[v] w fun e w'=>e= .returned (.bool b)∧Hid (Rel w w'):=by
 obtain⟨S,e,rfl,hx⟩:=h
 subst hb
 exact(rright_any x S e w w hr hx (by omega)).mono fun e w' ⟨he,hr2⟩=>⟨he,yH hr2⟩
theorem reval14{v:Value}{x:Ex}{os:List Of}{n e:Int}{b:Bool}(hv:RV (evalS os x)= .tuple #[yI n,.bool b,yI e])(hz:size x≤2001)(A:Option Addr)(c m:Nat)(hm:os.length=m)(w:World)(h:XAt w v x)(ho:OffArg w A c os)(hr:Rel w w):
  Calls Tryz.prog 30 #[v,.slice A m c] w fun z w'=>z= .returned (.tuple #[yI n,.bool b,yI e])∧Hid (Rel w w'):=by
 obtain⟨S,el,rfl,hx⟩:=h
 subst hm
 rw[←hv]
 exact(reval_any x S el A c os w w hr hx (by omega) ho).mono fun e w' ⟨he,hr2⟩=>⟨he,yH hr2⟩
theorem rv_cases(os:List Of)(x:Ex):(∃n:Int,evalS os x= .ok (some n)∧RV (evalS os x)= .tuple #[yI n,.bool true,yI 0])∨(∃(n e:Int)(b:Bool),RV (evalS os x)= .tuple #[yI n,.bool b,yI e]∧(e≠0∨b=false)∧∀n,evalS os x≠ .ok (some n)):=by
 cases h:evalS os x with
 |ok o=>
  cases o with
  |some n=>exact .inl ⟨n,rfl,rfl⟩
  |none=>exact .inr ⟨_,_,_,rfl,.inr rfl,fun n e=>by cases e⟩
 |error e=>exact .inr ⟨_,_,_,rfl,.inl (show e≠0 by have:=eval_err h;omega),fun n e=>by cases e⟩
theorem conf_box{w0 w:World}(hr:Rel w0 w)(f c m o b:Int)(S:ByteArray):∃g,w.heap.size=g∧∃W,w.alloc (.cells #[yI f,yI c,yI m,yI o,yI b,.string S] 25)=W∧Hid (Bk W g 25 #[yI f,yI c,yI m,yI o,yI b,.string S])∧Hid (Rel w0 W):=
 ⟨_,rfl,_,rfl,yH (Bk.new _ _ _),yH (hr.alloc _)⟩
def IsRow(k:IntKind)(w:World)(a:Option Addr)(len cap:Nat)(zs:List Int):Prop:=
 (a=none∧len=0∧cap=0∧zs=[])∨∃x:Addr,a=some x∧len≤cap∧cap≤maxLen∧zs.length=cap∧(∀j,j<zs.length→w.cell? (x.add j)=some (.int k (zs.getD j 0)))∧∀u∈zs,(Lit.int k u).wf=true
theorem wf64{a:Int}(h:(Lit.int .i64 a).wf=true):i64 a:=by
 have:=bounds_i64 h;exact⟨by omega,by omega⟩
theorem ints_of{w:World}{a:Option Addr}{len cap:Nat}{z:List Int}(h:IsRow .i64 w a len cap z):∃L:List Int,len=L.length∧IntsIn w a cap L:=by
 rcases h with ⟨rfl,rfl,rfl,rfl⟩|⟨x,rfl,hl,hm,hz,hcell,hwz⟩
 ·exact⟨[],rfl,Nat.le_refl _,Nat.zero_le _,fun z hz=>(by cases hz),fun i hi=>absurd hi (by simp)⟩
 ·have e:(z.take len).length=len:=by rw[List.length_take];omega
  refine⟨z.take len,e.symm,by omega,hm,fun u hu=>wf64 (hwz u (List.mem_of_mem_take hu)),fun i hi=> ?_⟩
  rw[e] at hi
  have hc:=hcell i (by omega)
  have eg:z.getD i 0=(z.take len)[i]'(by rw[e];exact hi):=by
   rw[List.getElem_take,List.getD_eq_getElem?_getD,List.getElem?_eq_getElem (by omega)];rfl
  rw[eg] at hc
  exact⟨x,rfl,by have:=blk_of_cell hc;rwa [block_add] at this,hc⟩
end Go.Proofs.YtfekhbeaphpelaaGreatDoor

namespace Go.Proofs.YtfekhbeaphpelaaGreatDoor
open Go.Lib
def tA14:List UInt8:=[108,111,119,101,115,116]
def tB14:List UInt8:=[101,108,115,101,40,108,101,115,115,40,108,111,119,101,115,116,44,32,48,46,48,49,41,44,32,57,46,57,57,41]
def tC14:List UInt8:=[99,117,116,40,115,101,99,111,110,100,44,32,50,53,48,41]
def tD14:List UInt8:=[105,102,40,109,111,114,101,40,50,41,44,32,109,97,120,40,108,111,119,101,115,116,44,32,53,46,48,48,41,44,32,102,114,111,109,40,98,111,98,48,41,41]
def fixT(j:Int):List UInt8:=if j=0 then tA14 else if j=1 then tB14 else if j=2 then tC14 else tD14
def rawT(r5:Int)(L:List Int):List UInt8:=if r5.tmod 2=0∧rightX (strat L)=true then text (strat L) else fixT (pk r5 4)
def rawM(r2 ce:Int):Int:=if r2.tmod 3=0 then 0 else pk r2 (ce+1)
def rawB(r4:Int):Int:=if r4.tmod 3=0 then 0 else pk r4 60
def confR(r0 r1 r2 r3 r4 r5:Int)(L:List Int):Cf:=(1+pk r0 1500,1+pk r0 1500+pk r1 2000,rawM r2 (1+pk r0 1500+pk r1 2000),pk r3 12,rawB r4,rawT r5 L)
theorem nums_raw(r0 r1 r2 r3 r4 r5:Int)(L:List Int):numsOk (confR r0 r1 r2 r3 r4 r5 L)=true:=by
 rw[nums_iff]
 have h0:=pk_bd r0 1500 (by omega)
 have h1:=pk_bd r1 2000 (by omega)
 have h3:=pk_bd r3 12 (by omega)
 have h4:=pk_bd r4 60 (by omega)
 obtain⟨F,hF⟩:∃F,1+pk r0 1500=F:=⟨_,rfl⟩
 obtain⟨G,hG⟩:∃F,pk r1 2000=F:=⟨_,rfl⟩
 have hm:0≤rawM r2 (F+G)∧rawM r2 (F+G)≤F+G:=by
  unfold rawM
  split
  ·omega
  ·have:=pk_bd r2 (F+G+1) (by omega);omega
 have hb:0≤rawB r4∧rawB r4<60:=by
  unfold rawB
  split
  ·omega
  ·exact h4
 unfold confR
 rw[hF,hG]
 show 1≤F∧F≤F+G∧F+G≤1000000000000∧0≤rawM r2 (F+G)∧rawM r2 (F+G)≤F+G∧0≤pk r3 12∧pk r3 12≤1048576∧0≤rawB r4∧rawB r4≤1000000000000
 omega
def xC14:Ex:= .mk 6 250 [] [.mk 2 0 [] []]
def xD14:Ex:= .mk 10 0 [] [.mk 11 2 [] [],.mk 8 0 [] [.mk 1 0 [] [],.mk 4 500 [] []],.mk 3 0 [98,111,98,48] []]
def xA14:Ex:= .mk 1 0 [] []
def xB14:Ex:= .mk 9 0 [] [.mk 5 1 [] [.mk 1 0 [] []],.mk 4 999 [] []]
theorem txt_1:txt 1=[48,46,48,49]:=by
 rw[txt_pos (by omega) (by omega)]
 unfold pos
 rw[show(1:Int).toNat/100=0 by decide,show(1:Int).toNat/10%10=0 by decide,show(1:Int).toNat%10=1 by decide,dd_one _ (by omega),dd_one _ (by omega)]
 rfl
theorem txt_999:txt 999=[57,46,57,57]:=by
 rw[txt_pos (by omega) (by omega)]
 unfold pos
 rw[show(999:Int).toNat/100=9 by decide,show(999:Int).toNat/10%10=9 by decide,show(999:Int).toNat%10=9 by decide,dd_one _ (by omega)]
 rfl
theorem txt_500:txt 500=[53,46,48,48]:=by
 rw[txt_pos (by omega) (by omega)]
 unfold pos
 rw[show(500:Int).toNat/100=5 by decide,show(500:Int).toNat/10%10=0 by decide,show(500:Int).toNat%10=0 by decide,dd_one _ (by omega),dd_one _ (by omega)]
 rfl
theorem itoa_2:itoa 2=[50]:=by rw[itoa_pos (by omega),show(2:Int).toNat=2 from rfl,dd_one _ (by omega)];rfl
theorem itoa_250:itoa 250=[50,53,48]:=by
 rw[itoa_pos (by omega),show(250:Int).toNat=250 from rfl,decDigits,dif_neg (by omega),decDigits,dif_neg (by omega),dd_one _ (by omega)]
 rfl
theorem xA_text:text xA14=tA14:=by
 unfold xA14
 simp only[text_mk,texts_cons,texts_nil,mores_cons,mores_nil,tailK]
 decide
theorem xB_text:text xB14=tB14:=by
 unfold xB14
 simp only[text_mk,texts_cons,texts_nil,mores_cons,mores_nil,tailK,txt_1,txt_999]
 decide
theorem xC_text:text xC14=tC14:=by
 unfold xC14
 simp only[text_mk,texts_cons,texts_nil,mores_cons,mores_nil,tailK,itoa_250]
 decide
theorem xD_text:text xD14=tD14:=by
 unfold xD14
 simp only[text_mk,texts_cons,texts_nil,mores_cons,mores_nil,tailK,txt_500,itoa_2]
 decide
theorem xA_right:rightX xA14=true:=by
 unfold rightX
 rw[xA_text,show size xA14=1 by unfold xA14;simp only[size_mk,sizes_cons,sizes_nil]]
 decide
theorem xB_right:rightX xB14=true:=by
 unfold rightX
 rw[xB_text,show size xB14=4 by unfold xB14;simp only[size_mk,sizes_cons,sizes_nil]]
 decide
theorem xC_right:rightX xC14=true:=by
 unfold rightX
 rw[xC_text,show size xC14=2 by unfold xC14;simp only[size_mk,sizes_cons,sizes_nil]]
 decide
theorem xD_right:rightX xD14=true:=by
 unfold rightX
 rw[xD_text,show size xD14=6 by unfold xD14;simp only[size_mk,sizes_cons,sizes_nil]]
 decide
theorem fix_zero(j:Int):textE (fixT j)=0:=by
 unfold fixT
 split
 ·rw[←xA_text];exact text_right xA_right
 ·split
  ·rw[←xB_text];exact text_right xB_right
  ·split
   ·rw[←xC_text];exact text_right xC_right
   ·rw[←xD_text];exact text_right xD_right
theorem rawT_zero(r5:Int)(L:List Int):textE (rawT r5 L)=0:=by
 unfold rawT
 split
 ·rename_i h;exact text_right h.2
 ·exact fix_zero _
theorem raw_zero(r0 r1 r2 r3 r4 r5:Int)(L:List Int):checkC (confR r0 r1 r2 r3 r4 r5 L)=0:=check_zero.2 ⟨nums_raw ..,rawT_zero _ _⟩
theorem textE_len{t:List UInt8}(h:textE t=0):t.length≤2000:=by
 obtain⟨x,hx,_⟩:=textE_zero.1 h
 unfold parseS at hx
 split at hx
 ·cases hx
 ·omega
end Go.Proofs.YtfekhbeaphpelaaGreatDoor

namespace Go.Proofs.YtfekhbeaphpelaaGreatDoor
open Go.RowKit Go.Lib
theorem rclamp14(n l h:Int)(w:World)(hlh:l≤h):Calls Tryz.prog 31 #[yI n,yI l,yI h] w fun e w'=>e= .returned (yI (clampC n l h))∧w=w':=by
 by_cases h1:h<n<;>by_cases h2:n<l
 all_goals
  go_enter Tryz.func31,Tryz.ntmps31
  go_wp2
  all_goals
   go_ret
   exact⟨ret_int (by unfold clampC;omega),rfl⟩
theorem rclamp14_as(n l h r:Int)(hlh:l≤h)(hr:Hid (clampC n l h=r))(w:World):Calls Tryz.prog 31 #[yI n,yI l,yI h] w fun e w'=>e= .returned (yI r)∧w=w':=by
 rw[←hr.out];exact rclamp14 n l h w hlh
theorem rcheck_bad0(f c m o b:Int)(S:ByteArray)(d0:f<1)(w:World)(hr:Rel w w):
  Calls Tryz.prog 12 #[.agg #[yI f,yI c,yI m,yI o,yI b,.string S]] w fun e w'=>e= .returned (yI 10)∧Rel w w':=by
 have e0:decide (f<1)=true:=decide_eq_true d0
 obtain⟨gx,hgx,W,hW,HX,R1⟩:=conf_box hr f c m o b S
 go_enter Tryz.func12,Tryz.ntmps12
 go_upto_region 1 with (fail)
 try rw[hW]
 try rw[hgx]
 clear hW hgx
 obtain⟨⟨x0,x1,x2,x3,x4,x5⟩,_⟩:=six_of HX.out
 go_wp2_with (fail)
 go_ret
 exact⟨rfl,R1.out⟩
theorem rcheck_bad1(f c m o b:Int)(S:ByteArray)(d0: ¬f<1)(d1:c<f)(w:World)(hr:Rel w w):
  Calls Tryz.prog 12 #[.agg #[yI f,yI c,yI m,yI o,yI b,.string S]] w fun e w'=>e= .returned (yI 10)∧Rel w w':=by
 have e0:decide (f<1)=false:=decide_eq_false d0
 have e1:decide (c<f)=true:=decide_eq_true d1
 obtain⟨gx,hgx,W,hW,HX,R1⟩:=conf_box hr f c m o b S
 go_enter Tryz.func12,Tryz.ntmps12
 go_upto_region 1 with (fail)
 try rw[hW]
 try rw[hgx]
 clear hW hgx
 obtain⟨⟨x0,x1,x2,x3,x4,x5⟩,_⟩:=six_of HX.out
 go_wp2_with (fail)
 go_ret
 exact⟨rfl,R1.out⟩
theorem rcheck_bad2(f c m o b:Int)(S:ByteArray)(d0: ¬f<1)(d1: ¬c<f)(d2:1000000000000<c)(w:World)(hr:Rel w w):
  Calls Tryz.prog 12 #[.agg #[yI f,yI c,yI m,yI o,yI b,.string S]] w fun e w'=>e= .returned (yI 10)∧Rel w w':=by
 have e0:decide (f<1)=false:=decide_eq_false d0
 have e1:decide (c<f)=false:=decide_eq_false d1
 have e2:decide (1000000000000<c)=true:=decide_eq_true d2
 obtain⟨gx,hgx,W,hW,HX,R1⟩:=conf_box hr f c m o b S
 go_enter Tryz.func12,Tryz.ntmps12
 go_upto_region 1 with (fail)
 try rw[hW]
 try rw[hgx]
 clear hW hgx
 obtain⟨⟨x0,x1,x2,x3,x4,x5⟩,_⟩:=six_of HX.out
 go_wp2_with (fail)
 go_ret
 exact⟨rfl,R1.out⟩
theorem rcheck_bad3(f c m o b:Int)(S:ByteArray)(d0: ¬f<1)(d1: ¬c<f)(d2: ¬1000000000000<c)(d3:m<0)(w:World)(hr:Rel w w):
  Calls Tryz.prog 12 #[.agg #[yI f,yI c,yI m,yI o,yI b,.string S]] w fun e w'=>e= .returned (yI 10)∧Rel w w':=by
 have e0:decide (f<1)=false:=decide_eq_false d0
 have e1:decide (c<f)=false:=decide_eq_false d1
 have e2:decide (1000000000000<c)=false:=decide_eq_false d2
 have e3:decide (m<0)=true:=decide_eq_true d3
 obtain⟨gx,hgx,W,hW,HX,R1⟩:=conf_box hr f c m o b S
 go_enter Tryz.func12,Tryz.ntmps12
 go_upto_region 1 with (fail)
 try rw[hW]
 try rw[hgx]
 clear hW hgx
 obtain⟨⟨x0,x1,x2,x3,x4,x5⟩,_⟩:=six_of HX.out
 go_wp2_with (fail)
 go_ret
 exact⟨rfl,R1.out⟩
theorem rcheck_bad4(f c m o b:Int)(S:ByteArray)(d0: ¬f<1)(d1: ¬c<f)(d2: ¬1000000000000<c)(d3: ¬m<0)(d4:c<m)(w:World)(hr:Rel w w):
  Calls Tryz.prog 12 #[.agg #[yI f,yI c,yI m,yI o,yI b,.string S]] w fun e w'=>e= .returned (yI 10)∧Rel w w':=by
 have e0:decide (f<1)=false:=decide_eq_false d0
 have e1:decide (c<f)=false:=decide_eq_false d1
 have e2:decide (1000000000000<c)=false:=decide_eq_false d2
 have e3:decide (m<0)=false:=decide_eq_false d3
 have e4:decide (c<m)=true:=decide_eq_true d4
 obtain⟨gx,hgx,W,hW,HX,R1⟩:=conf_box hr f c m o b S
 go_enter Tryz.func12,Tryz.ntmps12
 go_upto_region 1 with (fail)
 try rw[hW]
 try rw[hgx]
 clear hW hgx
 obtain⟨⟨x0,x1,x2,x3,x4,x5⟩,_⟩:=six_of HX.out
 go_wp2_with (fail)
 go_ret
 exact⟨rfl,R1.out⟩
theorem rcheck_bad5(f c m o b:Int)(S:ByteArray)(d0: ¬f<1)(d1: ¬c<f)(d2: ¬1000000000000<c)(d3: ¬m<0)(d4: ¬c<m)(d5:o<0)(w:World)(hr:Rel w w):
  Calls Tryz.prog 12 #[.agg #[yI f,yI c,yI m,yI o,yI b,.string S]] w fun e w'=>e= .returned (yI 10)∧Rel w w':=by
 have e0:decide (f<1)=false:=decide_eq_false d0
 have e1:decide (c<f)=false:=decide_eq_false d1
 have e2:decide (1000000000000<c)=false:=decide_eq_false d2
 have e3:decide (m<0)=false:=decide_eq_false d3
 have e4:decide (c<m)=false:=decide_eq_false d4
 have e5:decide (o<0)=true:=decide_eq_true d5
 obtain⟨gx,hgx,W,hW,HX,R1⟩:=conf_box hr f c m o b S
 go_enter Tryz.func12,Tryz.ntmps12
 go_upto_region 1 with (fail)
 try rw[hW]
 try rw[hgx]
 clear hW hgx
 obtain⟨⟨x0,x1,x2,x3,x4,x5⟩,_⟩:=six_of HX.out
 go_wp2_with (fail)
 go_ret
 exact⟨rfl,R1.out⟩
theorem rcheck_bad6(f c m o b:Int)(S:ByteArray)(d0: ¬f<1)(d1: ¬c<f)(d2: ¬1000000000000<c)(d3: ¬m<0)(d4: ¬c<m)(d5: ¬o<0)(d6:1048576<o)(w:World)(hr:Rel w w):
  Calls Tryz.prog 12 #[.agg #[yI f,yI c,yI m,yI o,yI b,.string S]] w fun e w'=>e= .returned (yI 10)∧Rel w w':=by
 have e0:decide (f<1)=false:=decide_eq_false d0
 have e1:decide (c<f)=false:=decide_eq_false d1
 have e2:decide (1000000000000<c)=false:=decide_eq_false d2
 have e3:decide (m<0)=false:=decide_eq_false d3
 have e4:decide (c<m)=false:=decide_eq_false d4
 have e5:decide (o<0)=false:=decide_eq_false d5
 have e6:decide (1048576<o)=true:=decide_eq_true d6
 obtain⟨gx,hgx,W,hW,HX,R1⟩:=conf_box hr f c m o b S
 go_enter Tryz.func12,Tryz.ntmps12
 go_upto_region 1 with (fail)
 try rw[hW]
 try rw[hgx]
 clear hW hgx
 obtain⟨⟨x0,x1,x2,x3,x4,x5⟩,_⟩:=six_of HX.out
 go_wp2_with (fail)
 go_ret
 exact⟨rfl,R1.out⟩
theorem rcheck_bad7(f c m o b:Int)(S:ByteArray)(d0: ¬f<1)(d1: ¬c<f)(d2: ¬1000000000000<c)(d3: ¬m<0)(d4: ¬c<m)(d5: ¬o<0)(d6: ¬1048576<o)(d7:b<0)(w:World)(hr:Rel w w):
  Calls Tryz.prog 12 #[.agg #[yI f,yI c,yI m,yI o,yI b,.string S]] w fun e w'=>e= .returned (yI 10)∧Rel w w':=by
 have e0:decide (f<1)=false:=decide_eq_false d0
 have e1:decide (c<f)=false:=decide_eq_false d1
 have e2:decide (1000000000000<c)=false:=decide_eq_false d2
 have e3:decide (m<0)=false:=decide_eq_false d3
 have e4:decide (c<m)=false:=decide_eq_false d4
 have e5:decide (o<0)=false:=decide_eq_false d5
 have e6:decide (1048576<o)=false:=decide_eq_false d6
 have e7:decide (b<0)=true:=decide_eq_true d7
 obtain⟨gx,hgx,W,hW,HX,R1⟩:=conf_box hr f c m o b S
 go_enter Tryz.func12,Tryz.ntmps12
 go_upto_region 1 with (fail)
 try rw[hW]
 try rw[hgx]
 clear hW hgx
 obtain⟨⟨x0,x1,x2,x3,x4,x5⟩,_⟩:=six_of HX.out
 go_wp2_with (fail)
 go_ret
 exact⟨rfl,R1.out⟩
theorem rcheck_bad8(f c m o b:Int)(S:ByteArray)(d0: ¬f<1)(d1: ¬c<f)(d2: ¬1000000000000<c)(d3: ¬m<0)(d4: ¬c<m)(d5: ¬o<0)(d6: ¬1048576<o)(d7: ¬b<0)(d8:1000000000000<b)(w:World)(hr:Rel w w):
  Calls Tryz.prog 12 #[.agg #[yI f,yI c,yI m,yI o,yI b,.string S]] w fun e w'=>e= .returned (yI 10)∧Rel w w':=by
 have e0:decide (f<1)=false:=decide_eq_false d0
 have e1:decide (c<f)=false:=decide_eq_false d1
 have e2:decide (1000000000000<c)=false:=decide_eq_false d2
 have e3:decide (m<0)=false:=decide_eq_false d3
 have e4:decide (c<m)=false:=decide_eq_false d4
 have e5:decide (o<0)=false:=decide_eq_false d5
 have e6:decide (1048576<o)=false:=decide_eq_false d6
 have e7:decide (b<0)=false:=decide_eq_false d7
 have e8:decide (1000000000000<b)=true:=decide_eq_true d8
 obtain⟨gx,hgx,W,hW,HX,R1⟩:=conf_box hr f c m o b S
 go_enter Tryz.func12,Tryz.ntmps12
 go_upto_region 1 with (fail)
 try rw[hW]
 try rw[hgx]
 clear hW hgx
 obtain⟨⟨x0,x1,x2,x3,x4,x5⟩,_⟩:=six_of HX.out
 go_wp2_with (fail)
 go_ret
 exact⟨rfl,R1.out⟩
theorem rcheck_no(f c m o b:Int)(t:List UInt8)(S:ByteArray)(hS:B t=S)(ht:t.length≤9223372036854775807)(hn:1≤f∧f≤c∧c≤1000000000000∧0≤m∧m≤c∧0≤o∧o≤1048576∧0≤b∧b≤1000000000000)(cd pl:Int)(hcd:(cd !=0)=true)(hx:parseS t= .error (cd,pl))(w:World)(hr:Rel w w):
  Calls Tryz.prog 12 #[.agg #[yI f,yI c,yI m,yI o,yI b,.string S]] w fun e w'=>e= .returned (yI cd)∧Rel w w':=by
 obtain⟨n0,n1,n2,n3,n4,n5,n6,n7,n8⟩:=hn
 have e0:decide (f<1)=false:=decide_eq_false (by omega)
 have e1:decide (c<f)=false:=decide_eq_false (by omega)
 have e2:decide (1000000000000<c)=false:=decide_eq_false (by omega)
 have e3:decide (m<0)=false:=decide_eq_false (by omega)
 have e4:decide (c<m)=false:=decide_eq_false (by omega)
 have e5:decide (o<0)=false:=decide_eq_false (by omega)
 have e6:decide (1048576<o)=false:=decide_eq_false (by omega)
 have e7:decide (b<0)=false:=decide_eq_false (by omega)
 have e8:decide (1000000000000<b)=false:=decide_eq_false (by omega)
 have HP:=yH (fun(w:World)(hr:Rel w w)=>rparse_no14 t S hS ht cd pl hx w hr)
 obtain⟨gx,hgx,W,hW,HX,R1⟩:=conf_box hr f c m o b S
 clear hS hx ht hr
 go_enter Tryz.func12,Tryz.ntmps12
 go_upto_region 1 with (fail)
 try rw[hW]
 try rw[hgx]
 clear hW hgx
 obtain⟨⟨x0,x1,x2,x3,x4,x5⟩,_⟩:=six_of HX.out
 go_wp2_with (go_at_call 24;(with_reducible refine(HP.out _ R1.out.self).mono ?_);rintro e w2 ⟨rfl,r2⟩;have R2:=yH (R1.out.trans r2.out);clear r2)
 go_ret
 exact⟨rfl,R2.out.alloc _⟩
theorem rcheck_yes(f c m o b:Int)(t:List UInt8)(S:ByteArray)(hS:B t=S)(ht:t.length≤9223372036854775807)(hn:1≤f∧f≤c∧c≤1000000000000∧0≤m∧m≤c∧0≤o∧o≤1048576∧0≤b∧b≤1000000000000)(x:Ex)(hx:parseS t= .ok x)(hb:rightX x=true)(w:World)(hr:Rel w w):
  Calls Tryz.prog 12 #[.agg #[yI f,yI c,yI m,yI o,yI b,.string S]] w fun e w'=>e= .returned (yI 0)∧Rel w w':=by
 obtain⟨n0,n1,n2,n3,n4,n5,n6,n7,n8⟩:=hn
 have e0:decide (f<1)=false:=decide_eq_false (by omega)
 have e1:decide (c<f)=false:=decide_eq_false (by omega)
 have e2:decide (1000000000000<c)=false:=decide_eq_false (by omega)
 have e3:decide (m<0)=false:=decide_eq_false (by omega)
 have e4:decide (c<m)=false:=decide_eq_false (by omega)
 have e5:decide (o<0)=false:=decide_eq_false (by omega)
 have e6:decide (1048576<o)=false:=decide_eq_false (by omega)
 have e7:decide (b<0)=false:=decide_eq_false (by omega)
 have e8:decide (1000000000000<b)=false:=decide_eq_false (by omega)
 have hz:=parse_size hx
 have HP:=yH (fun(w:World)(hr:Rel w w)=>rparse_yes14 t S hS ht x hx w hr)
 have HRr:=yH (fun(v:Value)(w:World)(h:XAt w v x)(hr:Rel w w)=>rright14 hb hz w h hr)
 obtain⟨gx,hgx,W,hW,HX,R1⟩:=conf_box hr f c m o b S
 clear hS hx ht hr hb hz
 go_enter Tryz.func12,Tryz.ntmps12
 go_upto_region 1 with (fail)
 try rw[hW]
 try rw[hgx]
 clear hW hgx
 obtain⟨⟨x0,x1,x2,x3,x4,x5⟩,_⟩:=six_of HX.out
 go_upto_region 4 with (go_at_call 24;(with_reducible refine(HP.out _ R1.out.self).mono ?_);rintro e w2 ⟨k,n,X,A,l,q,rfl,hv,r2⟩;have R2:=yH (R1.out.trans r2.out);have HV:=yH hv.out;clear r2 hv)
 have HY:=yH (Bk.new w2 52 #[yI k,yI n,.string X,.slice A l q])
 have R3:=yH (R2.out.alloc (.cells #[yI k,yI n,.string X,.slice A l q] 52))
 have HV3:=yH (HV.out.rel (R2.out.self.alloc (.cells #[yI k,yI n,.string X,.slice A l q] 52)))
 obtain⟨gy,hgy⟩:∃g,w2.heap.size=g:=⟨_,rfl⟩
 obtain⟨V,hV⟩:∃W,w2.alloc (.cells #[yI k,yI n,.string X,.slice A l q] 52)=W:=⟨_,rfl⟩
 rw[hV] at HY R3 HV3
 rw[hgy] at HY
 try rw[hV]
 try rw[hgy]
 clear hV hgy x0 x1 x2 x3 x4 x5
 obtain⟨⟨y0,y1,y2,y3⟩,_⟩:=HY.out.four
 have C3:=yH (HRr.out (XV k n X A l q) V HV3.out R3.out.self)
 go_wp2_with (go_at_call 25;(with_reducible refine C3.out.mono ?_);rintro e w4 ⟨rfl,r4⟩;have R4:=yH (R3.out.trans r4.out);clear r4)
 go_ret
 exact⟨rfl,R4.out⟩
theorem rcheck_arg(f c m o b:Int)(t:List UInt8)(S:ByteArray)(hS:B t=S)(ht:t.length≤9223372036854775807)(hn:1≤f∧f≤c∧c≤1000000000000∧0≤m∧m≤c∧0≤o∧o≤1048576∧0≤b∧b≤1000000000000)(x:Ex)(hx:parseS t= .ok x)(hb:rightX x=false)(w:World)(hr:Rel w w):
  Calls Tryz.prog 12 #[.agg #[yI f,yI c,yI m,yI o,yI b,.string S]] w fun e w'=>e= .returned (yI 1)∧Rel w w':=by
 obtain⟨n0,n1,n2,n3,n4,n5,n6,n7,n8⟩:=hn
 have e0:decide (f<1)=false:=decide_eq_false (by omega)
 have e1:decide (c<f)=false:=decide_eq_false (by omega)
 have e2:decide (1000000000000<c)=false:=decide_eq_false (by omega)
 have e3:decide (m<0)=false:=decide_eq_false (by omega)
 have e4:decide (c<m)=false:=decide_eq_false (by omega)
 have e5:decide (o<0)=false:=decide_eq_false (by omega)
 have e6:decide (1048576<o)=false:=decide_eq_false (by omega)
 have e7:decide (b<0)=false:=decide_eq_false (by omega)
 have e8:decide (1000000000000<b)=false:=decide_eq_false (by omega)
 have hz:=parse_size hx
 have HP:=yH (fun(w:World)(hr:Rel w w)=>rparse_yes14 t S hS ht x hx w hr)
 have HRr:=yH (fun(v:Value)(w:World)(h:XAt w v x)(hr:Rel w w)=>rright14 hb hz w h hr)
 obtain⟨gx,hgx,W,hW,HX,R1⟩:=conf_box hr f c m o b S
 clear hS hx ht hr hb hz
 go_enter Tryz.func12,Tryz.ntmps12
 go_upto_region 1 with (fail)
 try rw[hW]
 try rw[hgx]
 clear hW hgx
 obtain⟨⟨x0,x1,x2,x3,x4,x5⟩,_⟩:=six_of HX.out
 go_upto_region 4 with (go_at_call 24;(with_reducible refine(HP.out _ R1.out.self).mono ?_);rintro e w2 ⟨k,n,X,A,l,q,rfl,hv,r2⟩;have R2:=yH (R1.out.trans r2.out);have HV:=yH hv.out;clear r2 hv)
 have HY:=yH (Bk.new w2 52 #[yI k,yI n,.string X,.slice A l q])
 have R3:=yH (R2.out.alloc (.cells #[yI k,yI n,.string X,.slice A l q] 52))
 have HV3:=yH (HV.out.rel (R2.out.self.alloc (.cells #[yI k,yI n,.string X,.slice A l q] 52)))
 obtain⟨gy,hgy⟩:∃g,w2.heap.size=g:=⟨_,rfl⟩
 obtain⟨V,hV⟩:∃W,w2.alloc (.cells #[yI k,yI n,.string X,.slice A l q] 52)=W:=⟨_,rfl⟩
 rw[hV] at HY R3 HV3
 rw[hgy] at HY
 try rw[hV]
 try rw[hgy]
 clear hV hgy x0 x1 x2 x3 x4 x5
 obtain⟨⟨y0,y1,y2,y3⟩,_⟩:=HY.out.four
 have C3:=yH (HRr.out (XV k n X A l q) V HV3.out R3.out.self)
 go_wp2_with (go_at_call 25;(with_reducible refine C3.out.mono ?_);rintro e w4 ⟨rfl,r4⟩;have R4:=yH (R3.out.trans r4.out);clear r4)
 go_ret
 exact⟨rfl,R4.out⟩
theorem rcheck_any(c:Cf)(S:ByteArray)(hS:B (txC c)=S)(hf:CfFit c)(w:World)(hr:Rel w w):
  Calls Tryz.prog 12 #[.agg #[yI (flC c),yI (ceC c),yI (mpC c),yI (coC c),yI (bdC c),.string S]] w fun e w'=>e= .returned (yI (checkC c))∧Rel w w':=by
 obtain⟨f,ce,m,o,b,t⟩:=c
 have ht:t.length≤9223372036854775807:=hf.2
 by_cases hn:numsOk (f,ce,m,o,b,t)=true
 ·have hn2:=nums_iff.1 hn
  have hc:checkC (f,ce,m,o,b,t)=textE t:=by unfold checkC;rw[if_pos hn]
  rw[hc]
  cases hx:parseS t with
  |error p=>
   obtain⟨cd,pl⟩:=p
   rw[textE_error hx]
   have h0:(cd !=0)=true:=by
    have:=((parse_spec t).2 cd pl hx).1
    simp;omega
   exact rcheck_no f ce m o b t S hS ht hn2 cd pl h0 hx w hr
  |ok x=>
   rw[textE_ok hx]
   cases hb:rightX x with
   |true=>exact rcheck_yes f ce m o b t S hS ht hn2 x hx hb w hr
   |false=>exact rcheck_arg f ce m o b t S hS ht hn2 x hx hb w hr
 ·have hc:checkC (f,ce,m,o,b,t)=10:=by unfold checkC;rw[if_neg hn]
  rw[hc]
  have hn3: ¬(1≤f∧f≤ce∧ce≤1000000000000∧0≤m∧m≤ce∧0≤o∧o≤1048576∧0≤b∧b≤1000000000000):=fun h=>hn (nums_iff.2 h)
  by_cases d0:f<1
  ·exact rcheck_bad0 f ce m o b S d0 w hr
  by_cases d1:ce<f
  ·exact rcheck_bad1 f ce m o b S d0 d1 w hr
  by_cases d2:1000000000000<ce
  ·exact rcheck_bad2 f ce m o b S d0 d1 d2 w hr
  by_cases d3:m<0
  ·exact rcheck_bad3 f ce m o b S d0 d1 d2 d3 w hr
  by_cases d4:ce<m
  ·exact rcheck_bad4 f ce m o b S d0 d1 d2 d3 d4 w hr
  by_cases d5:o<0
  ·exact rcheck_bad5 f ce m o b S d0 d1 d2 d3 d4 d5 w hr
  by_cases d6:1048576<o
  ·exact rcheck_bad6 f ce m o b S d0 d1 d2 d3 d4 d5 d6 w hr
  by_cases d7:b<0
  ·exact rcheck_bad7 f ce m o b S d0 d1 d2 d3 d4 d5 d6 d7 w hr
  by_cases d8:1000000000000<b
  ·exact rcheck_bad8 f ce m o b S d0 d1 d2 d3 d4 d5 d6 d7 d8 w hr
  exact absurd (by omega) hn3
end Go.Proofs.YtfekhbeaphpelaaGreatDoor
