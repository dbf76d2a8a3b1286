/- The document's own fine. -/

import Derived.Test.YtjhjdiaomnpkmaaGreatDoorZ07
import Derived.Test.YtjhjdiaomnpkmaaGreatDoorZ08
import Derived.Test.YtjhjdiaomnpkmaaGreatDoorZ10
set_option maxRecDepth 100000
set_option maxHeartbeats 8000000
set_option linter.unusedVariables false
set_option linter.unusedSimpArgs false
namespace Go.Proofs.YtjhjdiaomnpkmaaGreatDoor
open Go.RowKit Go.Lib
theorem rfine_name(k n:Int)(l:List Ex)(A:Option Addr)(c:Nat)(d:Nat)(hd:d≤40)(hl9:l.length≤1000000)(w0 w:World)(hr:Rel w0 w)(M1 M2:Int)(HM1:Hid (argsN k=M1))(HM2:Hid (mostN k=M2))(NM:ByteArray)(zNM:NM.size≤100)(q0:decide ((d:Int)+1<1)=false)(q1:(M1 !=(l.length:Int))=false)(q1':(M1==(l.length:Int))=true)(q2:decide (n<0)=false)(q3:decide (M2<n)=false)(q4:(NM.toList !=[])=true)(q4':(NM.toList==[])=false)(q5:(k==3)=true)(HNb:Hid (isName NM.data.toList=true))(hl0:l.length=0):
  Calls Tryz.prog 43 #[.agg #[.int .i64 k,.int .i64 n,.string NM,.slice A l.length c],.int .i64 ((d:Int)+1)] w fun e w'=>e= .returned (.bool true)∧Rel w0 w':=by
 have HL0:=yH hl0
 clear hl0
 have HB:=yH (Bk.new w 54 #[.int .i64 k,.int .i64 n,.string NM,.slice A l.length c])
 have HA:=yH (hr.alloc (.cells #[.int .i64 k,.int .i64 n,.string NM,.slice A l.length c] 54))
 go_enter Tryz.func43,Tryz.ntmps43
 go_wp2_with (fail)
 obtain⟨W,hW⟩:∃W,w.alloc (.cells #[.int .i64 k,.int .i64 n,.string NM,.slice A l.length c] 54)=W:=⟨_,rfl⟩
 rw[hW] at HB HA⊢
 clear hW
 obtain⟨⟨c0,c1,c2,c3⟩,_⟩:=HB.out.four
 refine wp_region_held_drew (S:=(fun w'=>w'.cell? ⟨w.heap.size,0,none⟩=some (.int .i64 k)∧w'.cell? ⟨w.heap.size,1,none⟩=some (.int .i64 n)∧w'.cell? ⟨w.heap.size,2,none⟩=some (.string NM)∧w'.cell? ⟨w.heap.size,3,none⟩=some (.slice A l.length c))) (by kernel_rfl) ⟨c0,c1,c2,c3⟩ (fun hH=> ?_)
 refine yL [0,1,2,3,4,6,7,8] (by kernel_rfl) hH (fun _ _ _ _ _=>id) ?_
 iterate 8
  refine yS rfl rfl (by rfl) ?_ ?_ ?_
  rotate_left
  ·rintro w' ⟨s0,s1,s2,s3⟩;go_simp;try with_reducible rfl
  try simp only[Act.put,yA,yB,yC]
 refine yZ ?_
 refine held_one (j:=5) (by kernel_rfl) rfl (fun K hK=> ?_)
 try simp only[yD,yE,yF]
 rw[if_pos (by rfl)]
 go_simp
 go_at_call 50
 (with_reducible refine(args_as k M1 HM1 _).mono ?_)
 rintro e w' ⟨rfl,rfl⟩
 refine hK.out _ _ hH (fun hH=> ?_)
 clear hK K
 try simp only[Act.put,yA,yB,yC]
 refine yL [9,10,11,12,13,14,15,16,17,18,19,20] (by kernel_rfl) hH (fun _ _ _ _ _=>id) ?_
 iterate 12
  refine yS rfl rfl (by rfl) ?_ ?_ ?_
  rotate_left
  ·rintro w' ⟨s0,s1,s2,s3⟩;go_simp;try with_reducible rfl
  try simp only[Act.put,yA,yB,yC]
 refine yZ ?_
 refine held_one (j:=21) (by kernel_rfl) rfl (fun K hK=> ?_)
 try simp only[yD,yE,yF]
 rw[if_pos (by rfl)]
 go_simp
 go_at_call 56
 (with_reducible refine(most_as k M2 HM2 _).mono ?_)
 rintro e w' ⟨rfl,rfl⟩
 refine hK.out _ _ hH (fun hH=> ?_)
 clear hK K
 try simp only[Act.put,yA,yB,yC]
 refine yL [22,23,24,25,26,27,28,29,30,31,32,33,34,35,36,37,38,39] (by kernel_rfl) hH (fun _ _ _ _ _=>id) ?_
 iterate 18
  refine yS rfl rfl (by rfl) ?_ ?_ ?_
  rotate_left
  ·rintro w' ⟨s0,s1,s2,s3⟩;go_simp;try with_reducible rfl
  try simp only[Act.put,yA,yB,yC]
 refine yZ ?_
 refine held_one (j:=40) (by kernel_rfl) rfl (fun K hK=> ?_)
 try simp only[yD,yE,yF]
 rw[if_pos (by rfl)]
 go_simp
 go_at_call 57
 (with_reducible refine(rname_as NM true HNb zNM _ _ HA.out.drew.self).mono ?_)
 rintro e w2 ⟨rfl,h2⟩
 obtain⟨⟨d0,d1,d2,d3⟩,_⟩:=(HB.out.drew.rel h2).four
 refine hK.out _ _ ⟨d0,d1,d2,d3⟩ (fun hH=> ?_)
 clear hK K
 try simp only[Act.put,yA,yB,yC]
 refine yL [41,42,43] (by kernel_rfl) hH (fun _ _ _ _ _=>id) ?_
 iterate 3
  refine yS rfl rfl (by rfl) ?_ ?_ ?_
  rotate_left
  ·rintro w' ⟨s0,s1,s2,s3⟩;go_simp;try with_reducible rfl
  try simp only[Act.put,yA,yB,yC]
 refine yZ ?_
 refine wpAnyH_done (by kernel_rfl) ?_ _
 have hl0:=HL0.out
 go_wp2_with (fail)
 go_loopw [5] (fun i wr=>i= .int .i64 0∧Rel w2 wr) (fun i _=>0)
 case atStart=>exact⟨rfl,(HA.out.drew.trans h2).self⟩
 case round=>
  obtain⟨rfl,hRw⟩:=hrel
  obtain⟨⟨x0,x1,x2,x3⟩,_⟩:=((HB.out.drew.rel h2).rel hRw).four
  have hl1: ¬(0:Int)<(l.length:Int):=by omega
  have HRw:=yH hRw
  clear hl0
  go_wp2_with (fail)
  go_ret
  exact⟨rfl,(HA.out.drew.trans h2).trans HRw.out⟩
theorem str_empty(a:List UInt8):((B a).toList==[])=decide (a=[]):=by
 rw[B_toList];cases a<;>simp
theorem fine_all{d:Nat}{k:Int}{l:List Ex}:((l.zipIdx).all fun p=>(isCond p.1.k==(decide (k=10)&&decide (p.2=0)))&&fine d p.1)=true↔∀i (h:i<l.length),okA d k l i h:=by
 simp only[List.all_eq_true,Bool.and_eq_true,beq_iff_eq]
 constructor
 ·intro h i hi
  exact h (l[i],i) (by rw[List.mem_iff_getElem];exact⟨i,by simpa using hi,by simp⟩)
 ·rintro h ⟨y,i⟩ hy
  obtain⟨j,hj,e⟩:=List.mem_iff_getElem.1 hy
  simp at hj e
  obtain⟨rfl,rfl⟩:=e
  exact h j hj
theorem len_sizes:∀l:List Ex,l.length≤sizes l:=fun l=>by
 induction l with
 |nil=>simp
 |cons x t ih=>rw[sizes_cons,List.length_cons];have:=size_pos x;omega
theorem rfine_any:∀(d:Nat),d≤40→∀(x:Ex)(S:Nat→Prop)(e:El)(w0 w:World),Rel w0 w→ExAt S w e x→size x≤1000000→
  Calls Tryz.prog 43 #[EV e,.int .i64 (d:Int)] w fun r w'=>r= .returned (.bool (fine d x))∧Rel w0 w':=by
 intro d
 induction d with
 |zero=>
  intro _ x S e w0 w hr h hz
  cases x with
  |mk k n nm l=>
   obtain⟨A,c,es,rfl,hk,hn,hm,hl,hrow,hsub⟩:=h.open
   rw[size_mk] at hz
   have:=len_sizes l
   exact rfine_no0 k n l A c (by omega) w0 w hr (argsN k) (mostN k) (yH rfl) (yH rfl) (B nm) (by rw[B_size];exact hm)
 |succ d ih=>
  intro hd x S e w0 w hr h hz
  cases x with
  |mk k n nm l=>
   obtain⟨A,c,es,rfl,hk,hn,hm,hl,hrow,hsub⟩:=h.open
   rw[size_mk] at hz
   have hll:=len_sizes l
   have hl9:l.length≤1000000:=by omega
   have zNM:(B nm).size≤100:=by rw[B_size];exact hm
   have q0:decide ((d:Int)+1<1)=false:=by simp;omega
   have hcast:(((d+1:Nat):Int))=(d:Int)+1:=by omega
   rw[hcast,fine_eq]
   by_cases d1:argsN k=(l.length:Int)
   ·have q1:(argsN k !=(l.length:Int))=false:=by simp[d1]
    have q1':(argsN k==(l.length:Int))=true:=by simp[d1]
    by_cases d2:n<0
    ·have hf:(decide (0≤n∧n≤mostN k))=false:=by simp;omega
     rw[hf]
     simp only[Bool.and_false,Bool.false_and]
     exact rfine_no2 k n l A c d (by omega) hl9 w0 w hr _ _ (yH rfl) (yH rfl) (B nm) zNM q0 q1 q1' (by simpa using d2)
    ·have q2:decide (n<0)=false:=by simpa using d2
     by_cases d3:mostN k<n
     ·have hf:(decide (0≤n∧n≤mostN k))=false:=by simp;omega
      rw[hf]
      simp only[Bool.and_false,Bool.false_and]
      exact rfine_no3 k n l A c d (by omega) hl9 w0 w hr _ _ (yH rfl) (yH rfl) (B nm) zNM q0 q1 q1' q2 (by simpa using d3)
     ·have q3:decide (mostN k<n)=false:=by simpa using d3
      have hs:=str_empty nm
      by_cases d4:nm=[]
      ·have q4':((B nm).toList==[])=true:=by rw[hs];simpa using d4
       have q4:((B nm).toList !=[])=false:=by simp[bne,q4']
       by_cases d5:k=3
       ·have hf:(decide (nm≠[])==decide (k=3))=false:=by simp[d4,d5]
        rw[hf]
        simp only[Bool.and_false,Bool.false_and]
        exact rfine_no5 k n l A c d (by omega) hl9 w0 w hr _ _ (yH rfl) (yH rfl) (B nm) zNM q0 q1 q1' q2 q3 q4 q4' (by simpa using d5)
       ·have q5:(k==3)=false:=by simpa using d5
        obtain⟨b,hb⟩:∃b,((l.zipIdx).all fun p=>(isCond p.1.k==(decide (k=10)&&decide (p.2=0)))&&fine d p.1)=b:=⟨_,rfl⟩
        have hbb:=fine_all (d:=d) (k:=k) (l:=l)
        rw[hb] at hbb
        have hf:(decide (argsN k=(l.length:Int))&&decide (0≤n∧n≤mostN k)&&(decide (nm≠[])==decide (k=3))&&(decide (k≠3)||isName nm))=true:=by
         have e1:0≤n∧n≤mostN k:=⟨by omega,by omega⟩
         simp[d1,e1,d4,d5]
        rw[hf,hb,Bool.true_and]
        exact rfine_args k n l A c d (by omega) hl9 w0 w hr _ _ (yH rfl) (yH rfl) (B nm) zNM q0 q1 q1' q2 q3 q4 q4' q5 S es hl (yH hrow) (yH hsub) (by omega) (yH (ih (by omega))) b (yH hbb)
      ·have q4':((B nm).toList==[])=false:=by rw[hs];simpa using d4
       have q4:((B nm).toList !=[])=true:=by simp[bne,q4']
       by_cases d5:k=3
       ·have q5:(k==3)=true:=by simpa using d5
        cases hnm:isName nm
        ·have hf:(decide (k≠3)||isName nm)=false:=by simp[d5,hnm]
         rw[hnm] at hf
         rw[hf]
         simp only[Bool.and_false,Bool.false_and]
         exact rfine_no6 k n l A c d (by omega) hl9 w0 w hr _ _ (yH rfl) (yH rfl) (B nm) zNM q0 q1 q1' q2 q3 q4 q4' q5 (yH (by rw[B_list];exact hnm))
        ·have hl0:l.length=0:=by subst d5;have:argsN 3=0:=by decide
                                 omega
         have hln:l=[]:=List.length_eq_zero_iff.1 hl0
         have hf:(decide (argsN k=(l.length:Int))&&decide (0≤n∧n≤mostN k)&&(decide (nm≠[])==decide (k=3))&&(decide (k≠3)||true))=true:=by
          have e1:0≤n∧n≤mostN k:=⟨by omega,by omega⟩
          rw[decide_eq_true d1,decide_eq_true e1,decide_eq_true d4,decide_eq_true d5];simp
         rw[hf,hln]
         simp only[Bool.true_and,List.zipIdx_nil,List.all_nil]
         rw[hln] at hl9 q1 q1' hl0
         exact rfine_name k n [] A c d (by omega) hl9 w0 w hr _ _ (yH rfl) (yH rfl) (B nm) zNM q0 q1 q1' q2 q3 q4 q4' q5 (yH (by rw[B_list];exact hnm)) rfl
       ·have hf:(decide (nm≠[])==decide (k=3))=false:=by simp[d4,d5]
        rw[hf]
        simp only[Bool.and_false,Bool.false_and]
        exact rfine_no4 k n l A c d (by omega) hl9 w0 w hr _ _ (yH rfl) (yH rfl) (B nm) zNM q0 q1 q1' q2 q3 q4 q4' (by simpa using d5)
   ·have hf:decide (argsN k=(l.length:Int))=false:=by simpa using d1
    rw[hf]
    simp only[Bool.false_and]
    exact rfine_no1 k n l A c d (by omega) hl9 w0 w hr _ _ (yH rfl) (yH rfl) (B nm) zNM q0 (by simp[bne,d1]) (by simp[d1])
theorem rfine32(x:Ex)(S:Nat→Prop)(e:El)(w0 w:World)(hr:Rel w0 w)(h:ExAt S w e x)(hz:size x≤1000000):
  Calls Tryz.prog 43 #[EV e,.int .i64 32] w fun r w'=>r= .returned (.bool (fine 32 x))∧Rel w0 w':=rfine_any 32 (by omega) x S e w0 w hr h hz
theorem rright_any(x:Ex)(S:Nat→Prop)(e:El)(w0 w:World)(hr:Rel w0 w)(h:ExAt S w e x)(hz:size x≤1000000):
  Calls Tryz.prog 35 #[EV e] w fun r w'=>r= .returned (.bool (rightX x))∧Rel w0 w':=by
 have HE:=yH h
 have HR:=yH hr
 obtain⟨k,n,nm,A,m,c⟩:=e
 have hke:x.k=k:=h.kind
 have HB:=yH (Bk.new w 54 #[.int .i64 k,.int .i64 n,.string (B nm),.slice A m c])
 have HA:=yH (hr.self.alloc (.cells #[.int .i64 k,.int .i64 n,.string (B nm),.slice A m c] 54))
 have HFi:=yH (fun(w':World)(h':Rel w w')=>rfine32 x S (k,n,nm,A,m,c) w' w' (hr.trans h').self (h.rel h') hz)
 have HSi:=yH (fun(w':World)(h':Rel w w')=>rsize_any x S (k,n,nm,A,m,c) w' w' (hr.trans h').self (h.rel h') hz)
 have hRX:rightX x=(fine 32 x&& !isCond k&&decide (size x≤2000)&&decide ((text x).length≤2000)):=by unfold rightX;rw[hke]
 obtain⟨b,hb⟩:∃b,fine 32 x=b:=⟨_,rfl⟩
 have HTx:=yH (fun(hf:fine 32 x=true)(hs:size x≤2000)(w':World)(h':Rel w w')=>rtext7_any x 32 S (k,n,nm,A,m,c) w' w' hf (hr.trans h').self (h.rel h') hs)
 have HFT:=yH hb
 have HTL:=yH (fun(hf:fine 32 x=true)=>text_len x 32 hf)
 rw[hb] at HFi hRX
 clear h hb
 cases b with
 |false=>
  have HX:=yH (show rightX x=false by rw[hRX];simp)
  clear hRX
  go_enter Tryz.func35,Tryz.ntmps35
  go_wp2_with (go_at_call 43;(with_reducible refine(HFi.out _ HA.out).mono ?_);rintro e w1 ⟨rfl,h1⟩;obtain⟨⟨c0,c1,c2,c3⟩,_⟩:=(HB.out.rel h1).four)
  go_ret
  exact⟨ret_bool HX.out.symm,(HR.out.trans HA.out).trans h1⟩
 |true=>
  obtain⟨q,hq⟩:∃q,isCond k=q:=⟨_,rfl⟩
  have HQ:=yH hq
  rw[hq] at hRX
  clear hq
  cases q with
  |true=>
   have HX:=yH (show rightX x=false by rw[hRX];simp)
   clear hRX
   go_enter Tryz.func35,Tryz.ntmps35
   go_wp2_with (first
    |(go_at_call 43;(with_reducible refine(HFi.out _ HA.out).mono ?_);rintro e w1 ⟨rfl,h1⟩;obtain⟨⟨c0,c1,c2,c3⟩,_⟩:=(HB.out.rel h1).four)
    |(go_at_call 44;(with_reducible refine(cond_as k _ HQ _).mono ?_);rintro e w' ⟨rfl,rfl⟩))
   go_ret
   exact⟨ret_bool HX.out.symm,(HR.out.trans HA.out).trans h1⟩
  |false=>
   obtain⟨sz,hsz⟩:∃s,size x=s:=⟨_,rfl⟩
   have HSZ:=yH hsz
   rw[hsz] at hRX HSi hz
   clear hsz
   by_cases h2:sz≤2000
   ·obtain⟨T,hT⟩:∃T,B (text x)=T:=⟨_,rfl⟩
    have hTs:T.size=(text x).length:=by rw[←hT,B_size]
    have hTl:T.size≤120000:=by rw[hTs];have:=HTL.out HFT.out;have:=HSZ.out;omega
    have HTT:=yH (HTx.out HFT.out (by rw[HSZ.out];exact h2))
    rw[hT] at HTT
    have HX:=yH (show rightX x=decide (T.size≤2000) by rw[hRX,hTs];simp[h2])
    have i2:(sz:Int)≤2000:=by omega
    clear hRX hT hTs
    by_cases h3:T.size≤2000
    ·have i3:(T.size:Int)≤2000:=by omega
     go_enter Tryz.func35,Tryz.ntmps35
     go_wp2_with (first
      |(go_at_call 43;(with_reducible refine(HFi.out _ HA.out).mono ?_);rintro e w1 ⟨rfl,h1⟩;obtain⟨⟨c0,c1,c2,c3⟩,_⟩:=(HB.out.rel h1).four)
      |(go_at_call 44;(with_reducible refine(cond_as k _ HQ _).mono ?_);rintro e w' ⟨rfl,rfl⟩)
      |(go_at_call 45;(with_reducible refine(HSi.out _ (HA.out.trans h1)).mono ?_);rintro e w2 ⟨rfl,h2'⟩;obtain⟨⟨d0,d1,d2,d3⟩,_⟩:=((HB.out.rel h1).rel h2').four)
      |(go_at_call 36;(with_reducible refine(HTT.out _ ((HA.out.trans h1).trans h2')).mono ?_);rintro e w3 ⟨rfl,h3'⟩))
     go_ret
     exact⟨ret_bool (by rw[HX.out];simp[h3]),(((HR.out.trans HA.out).trans h1).trans h2').trans h3'⟩
    ·have i3: ¬(T.size:Int)≤2000:=by omega
     go_enter Tryz.func35,Tryz.ntmps35
     go_wp2_with (first
      |(go_at_call 43;(with_reducible refine(HFi.out _ HA.out).mono ?_);rintro e w1 ⟨rfl,h1⟩;obtain⟨⟨c0,c1,c2,c3⟩,_⟩:=(HB.out.rel h1).four)
      |(go_at_call 44;(with_reducible refine(cond_as k _ HQ _).mono ?_);rintro e w' ⟨rfl,rfl⟩)
      |(go_at_call 45;(with_reducible refine(HSi.out _ (HA.out.trans h1)).mono ?_);rintro e w2 ⟨rfl,h2'⟩;obtain⟨⟨d0,d1,d2,d3⟩,_⟩:=((HB.out.rel h1).rel h2').four)
      |(go_at_call 36;(with_reducible refine(HTT.out _ ((HA.out.trans h1).trans h2')).mono ?_);rintro e w3 ⟨rfl,h3'⟩))
     go_ret
     exact⟨ret_bool (by rw[HX.out];simp[h3];omega),(((HR.out.trans HA.out).trans h1).trans h2').trans h3'⟩
   ·have HX:=yH (show rightX x=false by rw[hRX];simp[h2])
    have i2: ¬(sz:Int)≤2000:=by omega
    clear hRX
    go_enter Tryz.func35,Tryz.ntmps35
    go_wp2_with (first
     |(go_at_call 43;(with_reducible refine(HFi.out _ HA.out).mono ?_);rintro e w1 ⟨rfl,h1⟩;obtain⟨⟨c0,c1,c2,c3⟩,_⟩:=(HB.out.rel h1).four)
     |(go_at_call 44;(with_reducible refine(cond_as k _ HQ _).mono ?_);rintro e w' ⟨rfl,rfl⟩)
     |(go_at_call 45;(with_reducible refine(HSi.out _ (HA.out.trans h1)).mono ?_);rintro e w2 ⟨rfl,h2'⟩))
    go_ret
    exact⟨ret_bool (by rw[HX.out]),((HR.out.trans HA.out).trans h1).trans h2'⟩
def prT(x:Ex):List UInt8:=if rightX x then text x else []
def prE(x:Ex):Int:=if rightX x then 0 else 1
theorem rprint_any(x:Ex)(S:Nat→Prop)(e:El)(w0 w:World)(hr:Rel w0 w)(h:ExAt S w e x)(hz:size x≤1000000):
  Calls Tryz.prog 22 #[EV e] w fun r w'=>r= .returned (.tuple #[.string (B (prT x)),.int .i64 (prE x)])∧Rel w0 w':=by
 have HR:=yH hr
 obtain⟨k,n,nm,A,m,c⟩:=e
 have HB:=yH (Bk.new w 54 #[.int .i64 k,.int .i64 n,.string (B nm),.slice A m c])
 have HA:=yH (hr.self.alloc (.cells #[.int .i64 k,.int .i64 n,.string (B nm),.slice A m c] 54))
 have HRi:=yH (fun(w':World)(h':Rel w w')=>rright_any x S (k,n,nm,A,m,c) w' w' (hr.trans h').self (h.rel h') hz)
 have HTx:=yH (fun(hf:fine 32 x=true)(hs:size x≤2000)(w':World)(h':Rel w w')=>rtext7_any x 32 S (k,n,nm,A,m,c) w' w' hf (hr.trans h').self (h.rel h') hs)
 cases hx:rightX x
 ·have HX:=yH (show prT x=[]∧prE x=1 by unfold prT prE;rw[hx];exact⟨rfl,rfl⟩)
  rw[hx] at HRi
  clear h hx
  go_enter Tryz.func22,Tryz.ntmps22
  go_wp2_with (go_at_call 35;(with_reducible refine(HRi.out _ HA.out).mono ?_);rintro e w1 ⟨rfl,h1⟩;obtain⟨⟨c0,c1,c2,c3⟩,_⟩:=(HB.out.rel h1).four)
  go_ret2
  exact⟨by rw[HX.out.1,HX.out.2];rfl,(HR.out.trans HA.out).trans h1⟩
 ·have HX:=yH (show prT x=text x∧prE x=0 by unfold prT prE;rw[hx];exact⟨rfl,rfl⟩)
  have hparts:fine 32 x=true∧size x≤2000:=by
   simp only[rightX,Bool.and_eq_true,decide_eq_true_eq] at hx
   exact⟨hx.1.1.1,hx.1.2⟩
  rw[hx] at HRi
  have HTT:=yH (HTx.out hparts.1 hparts.2)
  clear h hx hparts
  go_enter Tryz.func22,Tryz.ntmps22
  go_wp2_with (first
   |(go_at_call 35;(with_reducible refine(HRi.out _ HA.out).mono ?_);rintro e w1 ⟨rfl,h1⟩;obtain⟨⟨c0,c1,c2,c3⟩,_⟩:=(HB.out.rel h1).four)
   |(go_at_call 36;(with_reducible refine(HTT.out _ (HA.out.trans h1)).mono ?_);rintro e w2 ⟨rfl,h2⟩))
  go_ret2
  exact⟨by rw[HX.out.1,HX.out.2];rfl,((HR.out.trans HA.out).trans h1).trans h2⟩
theorem expr_all:∀d,d≤10→ExprAt d:=by
 intro d
 induction d with
 |zero=>
  intro _ c L g w0 w hr hg hs
  cases c with
  |true=>exact expr_cond 0 (by omega) (fun d' h=>by omega) L g w0 w hr hg hs
  |false=>exact expr_tree 0 (by omega) (fun d' h=>by omega) L g w0 w hr hg hs
 |succ d ih=>
  intro hd c L g w0 w hr hg hs
  have H:∀d',d+1=d'+1→ExprAt d':=fun d' h=>by
   have:d'=d:=by omega
   subst this;exact ih (by omega)
  cases c with
  |true=>exact expr_cond (d+1) hd H L g w0 w hr hg hs
  |false=>exact expr_tree (d+1) hd H L g w0 w hr hg hs
theorem expr5(L:List Int)(x:Ex)(L':List Int)(hx:Hid (gen 5 false L=(x,L')))(g:Nat)(w0 w:World)(hr:Rel w0 w)(hg:w0.heap.size≤g)(hs:SrcAt w g L):
  Calls Tryz.prog 37 #[.pointer (some ⟨g,0,none⟩),.int .i64 5,.bool false] w fun e w'=>∃v:El,e= .returned (EV v)∧ExAt (fun k=>w.heap.size≤k) w' v x∧SrcAt w' g L'∧w.grownBy w' (some g):=
 expr_as (d:=4) (expr_all 4 (by omega)) false L x L' hx g w0 w hr hg hs
def IntsIn(w:World)(A:Option Addr)(c:Nat)(L:List Int):Prop:=L.length≤c∧c≤maxLen∧(∀z∈L,i64 z)∧∀i (h:i<L.length),∃a:Addr,A=some a∧a.block<w.heap.size∧w.cell? (a.add i)=some (.int .i64 L[i])
theorem IntsIn.rel{w w':World}{A:Option Addr}{c:Nat}{L:List Int}(h:IntsIn w A c L)(hr:Rel w w'):IntsIn w' A c L:=by
 obtain⟨h1,h2,h3,h4⟩:=h
 refine⟨h1,h2,h3,fun i hi=> ?_⟩
 obtain⟨a,e,hl,hc⟩:=h4 i hi
 have:=hr.size
 exact⟨a,e,by omega,(hr.2.cell (p:=a.add i) (by rw[block_add];exact hl)).trans hc⟩
theorem strat_any(A:Option Addr)(c:Nat)(L:List Int)(w0 w:World)(hr:Rel w0 w)(h:IntsIn w A c L):
  Calls Tryz.prog 23 #[.slice A L.length c] w fun e w'=>∃v:El,e= .returned (EV v)∧ExAt (fun k=>w.heap.size≤k) w' v (strat L)∧Rel w0 w':=by
 have HR:=yH hr
 have HS:=yH hr.self
 have HB:=yH (Bk.new w 54 #[.int .i64 0,.int .i64 0,.string ⟨#[]⟩,.slice none 0 0])
 have h1:=h.1
 have h2:=h.2.1
 have HI:=yH h
 have key:∀(L':List Int)(c':Nat),IntsIn w A c' L'→Hid (SrcAt ((w.alloc (.cells #[.int .i64 0,.int .i64 0,.string ⟨#[]⟩,.slice none 0 0] 54)).alloc (.cells #[.slice A L'.length c'] 67)) (w.heap.size+1) L'):=fun L' c' hi=>yH ⟨A,c',Bk.snd w _ _ _ _,hi.1,hi.2.1,hi.2.2.1,fun i hi'=>by
  obtain⟨a,e,hl,hc⟩:=hi.2.2.2 i hi'
  exact⟨a,e,by omega,(((HS.out.alloc _).alloc _).2.cell (p:=a.add i) (by rw[block_add];exact hl)).trans hc⟩⟩
 by_cases hl:L.length≤100
 ·have HSr:=key L c h
  obtain⟨⟨x,L3⟩,hx⟩:∃p,gen 5 false L=p:=⟨_,rfl⟩
  have HX:=yH hx
  have HF:=yH (show strat L=x by unfold strat;rw[List.take_of_length_le hl,hx])
  have HRW:=yH ((HS.out.alloc (.cells #[.int .i64 0,.int .i64 0,.string ⟨#[]⟩,.slice none 0 0] 54)).alloc (.cells #[.slice A L.length c] 67))
  have HB1:=yH (HB.out.alloc (.cells #[.slice A L.length c] 67))
  have hzz:((w.alloc (.cells #[.int .i64 0,.int .i64 0,.string ⟨#[]⟩,.slice none 0 0] 54)).alloc (.cells #[.slice A L.length c] 67)).heap.size=w.heap.size+2:=by rw[World.size_alloc,World.size_alloc]
  have HZ:=yH hzz
  have hlen:(L.length:Int)≤100:=by omega
  clear key h hx hzz
  go_enter Tryz.func23,Tryz.ntmps23
  go_wp2_with (go_at_call 37;(with_reducible refine(expr5 L x L3 HX (w.heap.size+1) _ _ HRW.out (by omega) HSr.out).mono ?_);rintro e w2 ⟨vx,rfl,ex,s2,g2⟩;obtain⟨⟨c0,c1,c2,c3⟩,f0,f1,f2,f3⟩:=(HB1.out.grown g2 (fun e=>by injection e;omega)).four)
  have gp:=put4_grown w2 w.heap.size (.int .i64 vx.1) (.int .i64 vx.2.1) (.string (B vx.2.2.1)) (.slice vx.2.2.2.1 vx.2.2.2.2.1 vx.2.2.2.2.2)
  obtain⟨⟨t0,t1,t2,t3⟩,_⟩:=((HB1.out.grown g2 (fun e=>by injection e;omega)).put4 (.int .i64 vx.1) (.int .i64 vx.2.1) (.string (B vx.2.2.1)) (.slice vx.2.2.2.1 vx.2.2.2.2.1 vx.2.2.2.2.2)).four
  have hz2:=g2.size
  have hz:=HZ.out
  refine bodyPost_ret (v:=EV vx) (by simp[results,Tryz.results23,go_sem,t0,t1,t2,t3]) rfl ⟨vx,rfl, ?_, ?_⟩
  ·rw[HF.out];exact ex.grown gp (fun q hq=>⟨by omega,fun e=>by injection e;omega⟩)
  ·exact HR.out.trans (Rel.grown (Rel.grown HRW.out g2 (fun k e=>by cases e;omega)) gp (fun k e=>by cases e;exact Nat.le_refl _))
 ·have e100:(L.take 100).length=100:=by rw[List.length_take];omega
  have HSr:=key (L.take 100) c ⟨by omega,h2,fun z hz=>h.2.2.1 z (List.mem_of_mem_take hz),fun i hi=>by
   obtain⟨a,e,hl,hc⟩:=h.2.2.2 i (by rw[List.length_take] at hi;omega)
   exact⟨a,e,hl,by rw[List.getElem_take];exact hc⟩⟩
  rw[e100] at HSr
  obtain⟨⟨x,L3⟩,hx⟩:∃p,gen 5 false (L.take 100)=p:=⟨_,rfl⟩
  have HX:=yH hx
  have HF:=yH (show strat L=x by unfold strat;rw[hx])
  have HRW:=yH ((HS.out.alloc (.cells #[.int .i64 0,.int .i64 0,.string ⟨#[]⟩,.slice none 0 0] 54)).alloc (.cells #[.slice A 100 c] 67))
  have HB1:=yH (HB.out.alloc (.cells #[.slice A 100 c] 67))
  have hzz:((w.alloc (.cells #[.int .i64 0,.int .i64 0,.string ⟨#[]⟩,.slice none 0 0] 54)).alloc (.cells #[.slice A 100 c] 67)).heap.size=w.heap.size+2:=by rw[World.size_alloc,World.size_alloc]
  have HZ:=yH hzz
  have hlen:(100:Int)<(L.length:Int):=by omega
  clear key h hx hzz
  go_enter Tryz.func23,Tryz.ntmps23
  go_wp2_with (go_at_call 37;(with_reducible refine(expr5 (L.take 100) x L3 HX (w.heap.size+1) _ _ HRW.out (by omega) HSr.out).mono ?_);rintro e w2 ⟨vx,rfl,ex,s2,g2⟩;obtain⟨⟨c0,c1,c2,c3⟩,f0,f1,f2,f3⟩:=(HB1.out.grown g2 (fun e=>by injection e;omega)).four)
  have gp:=put4_grown w2 w.heap.size (.int .i64 vx.1) (.int .i64 vx.2.1) (.string (B vx.2.2.1)) (.slice vx.2.2.2.1 vx.2.2.2.2.1 vx.2.2.2.2.2)
  obtain⟨⟨t0,t1,t2,t3⟩,_⟩:=((HB1.out.grown g2 (fun e=>by injection e;omega)).put4 (.int .i64 vx.1) (.int .i64 vx.2.1) (.string (B vx.2.2.1)) (.slice vx.2.2.2.1 vx.2.2.2.2.1 vx.2.2.2.2.2)).four
  have hz2:=g2.size
  have hz:=HZ.out
  refine bodyPost_ret (v:=EV vx) (by simp[results,Tryz.results23,go_sem,t0,t1,t2,t3]) rfl ⟨vx,rfl, ?_, ?_⟩
  ·rw[HF.out];exact ex.grown gp (fun q hq=>⟨by omega,fun e=>by injection e;omega⟩)
  ·exact HR.out.trans (Rel.grown (Rel.grown HRW.out g2 (fun k e=>by cases e;omega)) gp (fun k e=>by cases e;exact Nat.le_refl _))
def PrintOk:Prop:=∀(x:Ex)(S:Nat→Prop)(e:El)(w0 w:World),Rel w0 w→ExAt S w e x→size x≤100000→Calls Tryz.prog 67 #[EV e] w fun r w'=>r= .returned (.tuple #[.string (B (prT x)),.int .i64 (prE x)])∧Rel w0 w'
def RightOk:Prop:=∀(x:Ex)(S:Nat→Prop)(e:El)(w0 w:World),Rel w0 w→ExAt S w e x→size x≤100000→Calls Tryz.prog 55 #[EV e] w fun r w'=>r= .returned (.bool (rightX x))∧Rel w0 w'
abbrev CfV(c:Cf):Value:= .agg #[.int .i64 (flC c),.int .i64 (ceC c),.int .i64 (mpC c),.int .i64 (coC c),.int .i64 (bdC c),.string (B (txC c))]
def CfFit(c:Cf):Prop:=(i64 (flC c)∧i64 (ceC c)∧i64 (mpC c)∧i64 (coC c)∧i64 (bdC c))∧(txC c).length≤9223372036854775807
theorem six_of{w:World}{g:Nat}{t:TypeId}{a b c d e f:Value}(h:Bk w g t #[a,b,c,d,e,f]):
  (w.cell? ⟨g,0,none⟩=some a∧w.cell? ⟨g,1,none⟩=some b∧w.cell? ⟨g,2,none⟩=some c∧w.cell? ⟨g,3,none⟩=some d∧w.cell? ⟨g,4,none⟩=some e∧w.cell? ⟨g,5,none⟩=some f)∧
   (w.frozen? ⟨g,0,none⟩=false∧w.frozen? ⟨g,1,none⟩=false∧w.frozen? ⟨g,2,none⟩=false∧w.frozen? ⟨g,3,none⟩=false∧w.frozen? ⟨g,4,none⟩=false∧w.frozen? ⟨g,5,none⟩=false):=
 ⟨⟨h.cell 0,h.cell 1,h.cell 2,h.cell 3,h.cell 4,h.cell 5⟩,⟨h.frozen 0,h.frozen 1,h.frozen 2,h.frozen 3,h.frozen 4,h.frozen 5⟩⟩
def XAt(w:World)(v:Value)(x:Ex):Prop:=∃(S:Nat→Prop)(e:El),EV e=v∧ExAt S w e x
abbrev XV(k n:Int)(X:ByteArray)(A:Option Addr)(l c:Nat):Value:= .agg #[.int .i64 k,.int .i64 n,.string X,.slice A l c]
theorem conf_box{w0 w:World}(hr:Rel w0 w)(f c m o b:Int)(S:ByteArray):∃g,w.heap.size=g∧∃W,w.alloc (.cells #[.int .i64 f,.int .i64 c,.int .i64 m,.int .i64 o,.int .i64 b,.string S] 24)=W∧Hid (Bk W g 24 #[.int .i64 f,.int .i64 c,.int .i64 m,.int .i64 o,.int .i64 b,.string S])∧Hid (Rel w0 W):=
 ⟨_,rfl,_,rfl,yH (Bk.new _ _ _),yH (hr.alloc _)⟩
end Go.Proofs.YtjhjdiaomnpkmaaGreatDoor

namespace Go.Proofs.YtjhjdiaomnpkmaaGreatDoor
open Go.Lib
def tickF(t:Int):Int:=if t<0 then 0 else if 1099511627776<t then 1099511627776 else t
def laterF(t m:Int):Int:=tickF (tickF t+tickF m)
theorem tick_bd(t:Int):0≤tickF t∧tickF t≤1099511627776:=by unfold tickF;split<;>(try split)<;>omega
def tA14:List UInt8:=[108,111,119,101,115,116]
def tB14:List UInt8:=[101,108,115,101,40,108,101,115,115,40,108,111,119,101,115,116,44,32,48,46,48,49,41,44,32,57,46,57,57,41]
def tC14:List UInt8:=[99,117,116,40,115,101,99,111,110,100,44,32,50,53,48,41]
def tD14:List UInt8:=[105,102,40,109,111,114,101,40,50,41,44,32,109,97,120,40,108,111,119,101,115,116,44,32,53,46,48,48,41,44,32,102,114,111,109,40,98,111,98,48,41,41]
def fixT(j:Int):List UInt8:=if j=0 then tA14 else if j=1 then tB14 else if j=2 then tC14 else tD14
def rawT(r5:Int)(L:List Int):List UInt8:=if r5.tmod 2=0∧rightX (strat L)=true then text (strat L) else fixT (pk r5 4)
def rawM(r2 ce:Int):Int:=if r2.tmod 3=0 then 0 else pk r2 (ce+1)
def rawB(r4:Int):Int:=if r4.tmod 3=0 then 0 else pk r4 60
def confR(r0 r1 r2 r3 r4 r5:Int)(L:List Int):Cf:=(1+pk r0 1500,1+pk r0 1500+pk r1 2000,rawM r2 (1+pk r0 1500+pk r1 2000),pk r3 12,rawB r4,rawT r5 L)
theorem nums_raw(r0 r1 r2 r3 r4 r5:Int)(L:List Int):numsOk (confR r0 r1 r2 r3 r4 r5 L)=true:=by
 rw[nums_iff]
 have h0:=pk_bd r0 1500 (by omega)
 have h1:=pk_bd r1 2000 (by omega)
 have h3:=pk_bd r3 12 (by omega)
 have h4:=pk_bd r4 60 (by omega)
 obtain⟨F,hF⟩:∃F,1+pk r0 1500=F:=⟨_,rfl⟩
 obtain⟨G,hG⟩:∃F,pk r1 2000=F:=⟨_,rfl⟩
 have hm:0≤rawM r2 (F+G)∧rawM r2 (F+G)≤F+G:=by
  unfold rawM
  split
  ·omega
  ·have:=pk_bd r2 (F+G+1) (by omega);omega
 have hb:0≤rawB r4∧rawB r4<60:=by
  unfold rawB
  split
  ·omega
  ·exact h4
 unfold confR
 rw[hF,hG]
 show 1≤F∧F≤F+G∧F+G≤1000000000000∧0≤rawM r2 (F+G)∧rawM r2 (F+G)≤F+G∧0≤pk r3 12∧pk r3 12≤1048576∧0≤rawB r4∧rawB r4≤1000000000000
 omega
def xC14:Ex:= .mk 6 250 [] [.mk 2 0 [] []]
def xD14:Ex:= .mk 10 0 [] [.mk 11 2 [] [],.mk 8 0 [] [.mk 1 0 [] [],.mk 4 500 [] []],.mk 3 0 [98,111,98,48] []]
def xA14:Ex:= .mk 1 0 [] []
def xB14:Ex:= .mk 9 0 [] [.mk 5 1 [] [.mk 1 0 [] []],.mk 4 999 [] []]
theorem txt_1:txt 1=[48,46,48,49]:=by
 rw[txt_pos (by omega) (by omega)]
 unfold pos
 rw[show(1:Int).toNat/100=0 by decide,show(1:Int).toNat/10%10=0 by decide,show(1:Int).toNat%10=1 by decide,dd_one _ (by omega),dd_one _ (by omega)]
 rfl
theorem txt_999:txt 999=[57,46,57,57]:=by
 rw[txt_pos (by omega) (by omega)]
 unfold pos
 rw[show(999:Int).toNat/100=9 by decide,show(999:Int).toNat/10%10=9 by decide,show(999:Int).toNat%10=9 by decide,dd_one _ (by omega)]
 rfl
theorem txt_500:txt 500=[53,46,48,48]:=by
 rw[txt_pos (by omega) (by omega)]
 unfold pos
 rw[show(500:Int).toNat/100=5 by decide,show(500:Int).toNat/10%10=0 by decide,show(500:Int).toNat%10=0 by decide,dd_one _ (by omega),dd_one _ (by omega)]
 rfl
theorem itoa_2:itoa 2=[50]:=by rw[itoa_pos (by omega),show(2:Int).toNat=2 from rfl,dd_one _ (by omega)];rfl
theorem itoa_250:itoa 250=[50,53,48]:=by
 rw[itoa_pos (by omega),show(250:Int).toNat=250 from rfl,decDigits,dif_neg (by omega),decDigits,dif_neg (by omega),dd_one _ (by omega)]
 rfl
theorem xA_text:text xA14=tA14:=by
 unfold xA14
 simp only[text_mk,texts_cons,texts_nil,mores_cons,mores_nil,tailK]
 decide
theorem xB_text:text xB14=tB14:=by
 unfold xB14
 simp only[text_mk,texts_cons,texts_nil,mores_cons,mores_nil,tailK,txt_1,txt_999]
 decide
theorem xC_text:text xC14=tC14:=by
 unfold xC14
 simp only[text_mk,texts_cons,texts_nil,mores_cons,mores_nil,tailK,itoa_250]
 decide
theorem xD_text:text xD14=tD14:=by
 unfold xD14
 simp only[text_mk,texts_cons,texts_nil,mores_cons,mores_nil,tailK,txt_500,itoa_2]
 decide
theorem xA_right:rightX xA14=true:=by
 unfold rightX
 rw[xA_text,show size xA14=1 by unfold xA14;simp only[size_mk,sizes_cons,sizes_nil]]
 decide
theorem xB_right:rightX xB14=true:=by
 unfold rightX
 rw[xB_text,show size xB14=4 by unfold xB14;simp only[size_mk,sizes_cons,sizes_nil]]
 decide
theorem xC_right:rightX xC14=true:=by
 unfold rightX
 rw[xC_text,show size xC14=2 by unfold xC14;simp only[size_mk,sizes_cons,sizes_nil]]
 decide
theorem xD_right:rightX xD14=true:=by
 unfold rightX
 rw[xD_text,show size xD14=6 by unfold xD14;simp only[size_mk,sizes_cons,sizes_nil]]
 decide
theorem fix_zero(j:Int):textE (fixT j)=0:=by
 unfold fixT
 split
 ·rw[←xA_text];exact text_right xA_right
 ·split
  ·rw[←xB_text];exact text_right xB_right
  ·split
   ·rw[←xC_text];exact text_right xC_right
   ·rw[←xD_text];exact text_right xD_right
theorem rawT_zero(r5:Int)(L:List Int):textE (rawT r5 L)=0:=by
 unfold rawT
 split
 ·rename_i h;exact text_right h.2
 ·exact fix_zero _
theorem raw_zero(r0 r1 r2 r3 r4 r5:Int)(L:List Int):checkC (confR r0 r1 r2 r3 r4 r5 L)=0:=check_zero.2 ⟨nums_raw ..,rawT_zero _ _⟩
theorem textE_len{t:List UInt8}(h:textE t=0):t.length≤2000:=by
 obtain⟨x,hx,_⟩:=textE_zero.1 h
 unfold parseS at hx
 split at hx
 ·cases hx
 ·omega
abbrev Pa15:=Int×Int×List Int×Int
abbrev laP(p:Pa15):Int:=p.1
abbrev atP(p:Pa15):Int:=p.2.1
abbrev riP(p:Pa15):List Int:=p.2.2.1
abbrev swP(p:Pa15):Int:=p.2.2.2
def noP:Pa15:=(0,0,[],0)
def ringOk(r:List Int):Bool:=r.all fun x=>decide (1≤x∧x≤1000000000000)
def rightP(p:Pa15):Bool:=if laP p=0 then decide (atP p=0∧(riP p).length=0∧swP p=0) else ringOk (riP p)&&decide (0≤atP p∧atP p≤1099511627776∧1≤(riP p).length∧(riP p).length≤3∧(riP p).getLast?=some (laP p)∧0≤swP p∧swP p≤6)
def byP(cool:Int):Nat→Int
 |0=>laterF cool 0
 |k+1=>laterF (byP cool k) (byP cool k)
def swK(s:Int):Nat:=(min s 6).toNat
def readyP(c:Cf)(p:Pa15):Int:=if laP p=0 then 0 else laterF (atP p) (byP (coC c) (swK (swP p)))
def swingsP(r:List Int)(t:Int):Bool:=match r with|[a,b,d]=>decide (b=t∧d=a)|_=>false
def nearP(c:Cf)(p:Pa15)(t:Int):Bool:=decide (t-laP p≤bdC c∧laP p-t≤bdC c)
def goP(c:Cf)(p:Pa15)(t now:Int):Bool:=withinC c t&&rightP p&&decide (0≤now∧now≤1099511627776∧readyP c p≤now)&& !(withinC c (laP p)&&nearP c p t)&&decide (t≠laP p)
def lastR(l:List Int):List Int:=l.drop (l.length-3)
def nextP(p:Pa15)(t now:Int):Pa15:=(t,now,lastR (riP p++[t]),if swingsP (riP p) t then min (swP p+1) 6 else 0)
def decP(c:Cf)(p:Pa15)(t now:Int):Pa15:=if goP c p t now then nextP p t now else p
theorem within_bd{c:Cf}{t:Int}(h:withinC c t=true):1≤t∧t≤1000000000000∧checkC c=0∧lowC c≤t∧t≤ceC c:=by
 unfold withinC at h
 have h:=of_decide_eq_true h
 have hn:=nums_iff.1 (check_zero.1 h.1).1
 have hl:flC c≤lowC c:=by unfold lowC;omega
 refine⟨by omega,by omega,h.1,h.2.1,h.2.2⟩
theorem ringOk_mem{r:List Int}:ringOk r=true↔∀x∈r,1≤x∧x≤1000000000000:=by
 unfold ringOk;rw[List.all_eq_true];simp only[decide_eq_true_eq]
theorem lastR_mem{l:List Int}{x:Int}(h:x∈lastR l):x∈l:=List.mem_of_mem_drop h
theorem right_ring{p:Pa15}(h:rightP p=true):ringOk (riP p)=true∧(riP p).length≤3:=by
 unfold rightP at h
 by_cases e:laP p=0
 ·rw[if_pos e] at h
  have h:=of_decide_eq_true h
  have hr:riP p=[]:=List.length_eq_zero_iff.1 h.2.1
  rw[hr];exact⟨rfl,by simp⟩
 ·rw[if_neg e,Bool.and_eq_true] at h
  exact⟨h.1,(of_decide_eq_true h.2).2.2.2.1⟩
theorem right_swing{p:Pa15}(h:rightP p=true):0≤swP p∧swP p≤6:=by
 unfold rightP at h
 by_cases e:laP p=0
 ·rw[if_pos e] at h
  have h:=of_decide_eq_true h
  omega
 ·rw[if_neg e,Bool.and_eq_true] at h
  have:=of_decide_eq_true h.2
  omega
theorem no_right:rightP noP=true:=by decide
theorem later_bd(a b:Int):0≤laterF a b∧laterF a b≤1099511627776:=tick_bd _
theorem swings_len{r:List Int}{t:Int}(h:swingsP r t=true):r.length=3:=by
 unfold swingsP at h
 split at h
 ·rfl
 ·cases h
theorem go_first{c:Cf}{t now:Int}(h:withinC c t=true)(h0:0≤now)(h1:now≤1099511627776):goP c noP t now=true:=by
 have hb:=within_bd h
 have hn:=nums_iff.1 (check_zero.1 hb.2.2.1).1
 have hl:flC c≤lowC c:=by unfold lowC;omega
 have hw:withinC c (laP noP)=false:=by
  unfold withinC
  refine decide_eq_false fun e=> ?_
  have h2:lowC c≤(0:Int):=e.2.1
  omega
 unfold goP
 rw[h,no_right,hw]
 simp only[Bool.true_and,Bool.false_and,Bool.not_false,Bool.and_true]
 rw[Bool.and_eq_true]
 refine⟨decide_eq_true ⟨h0,h1, ?_⟩,decide_eq_true ?_⟩
 ·show(0:Int)≤now;exact h0
 ·show t≠0;omega
theorem swK_le(s:Int):swK s≤6:=by unfold swK;omega
theorem go_early{c:Cf}{p:Pa15}{t k:Int}(h:k<readyP c p):goP c p t k=false:=by
 unfold goP
 rw[decide_eq_false (show ¬(0≤k∧k≤1099511627776∧readyP c p≤k) from fun e=>by omega),Bool.and_false,Bool.false_and,Bool.false_and]
def cfS(cl:Int):Cf:=(100,900,0,cl,0,tA14)
theorem cfS_ok{cl:Int}(h0:0≤cl)(h1:cl≤1048576):checkC (cfS cl)=0:=by
 refine check_zero.2 ⟨nums_iff.2 ?_, ?_⟩
 ·show 1≤(100:Int)∧(100:Int)≤900∧(900:Int)≤1000000000000∧(0:Int)≤0∧(0:Int)≤900∧0≤cl∧cl≤1048576∧(0:Int)≤0∧(0:Int)≤1000000000000
  omega
 ·show textE tA14=0
  rw[←xA_text];exact text_right xA_right
def cA15:Cf:=(1,900,0,4,5,tA14)
def pA15:Pa15:=(500,10,[500],0)
def pD15:Pa15:=(600,14,[500,600],0)
def pS15:Pa15:=(500,10,[500,600,500],0)
def pF15:Pa15:=(600,14,[600,500,600],1)
theorem cA_ok:checkC cA15=0:=check_zero.2 ⟨by decide,(check_zero.1 (cfS_ok (cl:=4) (by decide) (by decide))).2⟩
theorem cA_within{t:Int}(h:1≤t)(h':t≤900):withinC cA15 t=true:=by
 unfold withinC
 exact decide_eq_true ⟨cA_ok,by unfold lowC;show max (1:Int) 0≤t;omega,h'⟩
theorem rd_A:readyP cA15 pA15=14:=by decide
theorem rd_F:readyP cA15 pF15=22:=by decide
theorem ri_A:rightP pA15=true:=by decide
theorem ri_S:rightP pS15=true:=by decide
theorem ri_L:rightP (1,0,[],0)=false:=by decide
theorem go_A0:goP cA15 noP 500 10=true:=go_first (cA_within (by decide) (by decide)) (by decide) (by decide)
theorem de_A0:decP cA15 noP 500 10=pA15:=by unfold decP;rw[if_pos go_A0];rfl
theorem go_A1:goP cA15 pA15 505 20=false:=by
 unfold goP
 rw[show withinC cA15 (laP pA15)=true from cA_within (by decide) (by decide),show nearP cA15 pA15 505=true from by decide]
 simp
theorem go_A2:goP cA15 pA15 600 13=false:=go_early (by rw[rd_A];decide)
theorem go_A3:goP cA15 pA15 600 14=true:=by
 unfold goP
 rw[cA_within (t:=600) (by decide) (by decide),ri_A,rd_A,show nearP cA15 pA15 600=false from by decide,Bool.and_false]
 decide
theorem de_A3:decP cA15 pA15 600 14=pD15:=by unfold decP;rw[if_pos go_A3];rfl
theorem go_A4:goP cA15 pS15 600 14=true:=by
 unfold goP
 rw[cA_within (t:=600) (by decide) (by decide),ri_S,show readyP cA15 pS15=14 from by decide,show nearP cA15 pS15 600=false from by decide,Bool.and_false]
 decide
theorem de_A4:decP cA15 pS15 600 14=pF15:=by unfold decP;rw[if_pos go_A4];decide
end Go.Proofs.YtjhjdiaomnpkmaaGreatDoor

namespace Go.Proofs.YtjhjdiaomnpkmaaGreatDoor
open Go.RowKit Go.Lib
def PaFit(p:Pa15):Prop:=i64 (laP p)∧i64 (atP p)∧i64 (swP p)
theorem four_of{w:World}{g:Nat}{t:TypeId}{a b c d:Value}(h:Bk w g t #[a,b,c,d]):
  (w.cell? ⟨g,0,none⟩=some a∧w.cell? ⟨g,1,none⟩=some b∧w.cell? ⟨g,2,none⟩=some c∧w.cell? ⟨g,3,none⟩=some d)∧
   (w.frozen? ⟨g,0,none⟩=false∧w.frozen? ⟨g,1,none⟩=false∧w.frozen? ⟨g,2,none⟩=false∧w.frozen? ⟨g,3,none⟩=false):=
 ⟨⟨h.cell 0,h.cell 1,h.cell 2,h.cell 3⟩,⟨h.frozen 0,h.frozen 1,h.frozen 2,h.frozen 3⟩⟩
theorem IntsIn.at15{w:World}{A:Option Addr}{k:Nat}{L:List Int}(h:IntsIn w A k L)(i:Nat)(hi:i<L.length):∃a:Addr,A=some a∧w.cell? (a.add i)=some (.int .i64 L[i]):=by
 obtain⟨a,h1,_,h3⟩:=h.2.2.2 i hi
 exact⟨a,h1,h3⟩
theorem addr_spot15{w:World}{a:Addr}{v:Value}(h:w.cell? (a.add 0)=some v):∃g off,a=⟨g,off,none⟩:=by
 obtain⟨g,off,cur⟩:=a
 cases cur with
 |none=>exact⟨g,off,rfl⟩
 |some k=>
  exfalso
  simp only[Addr.add,World.cell?,if_true] at h
  split at h<;>simp at h
theorem ints_row{w:World}{A:Option Addr}{k:Nat}{L:List Int}(h:IntsIn w A k L)(h0:0<L.length):∃g off:Nat,A=some ⟨g,off,none⟩∧∀i (hi:i<L.length),w.cell? ⟨g,off+i,none⟩=some (.int .i64 L[i]):=by
 obtain⟨a,h1,h2⟩:=h.at15 0 h0
 obtain⟨g,off,rfl⟩:=addr_spot15 h2
 refine⟨g,off,h1,fun i hi=> ?_⟩
 obtain⟨b,h3,h4⟩:=h.at15 i hi
 rw[h1] at h3
 cases h3
 by_cases e:i=0
 ·subst e;exact h4
 ·have:(⟨g,off,none⟩:Addr).add i=⟨g,off+i,none⟩:=by simp[Addr.add,e]
  rw[this] at h4
  exact h4
end Go.Proofs.YtjhjdiaomnpkmaaGreatDoor
