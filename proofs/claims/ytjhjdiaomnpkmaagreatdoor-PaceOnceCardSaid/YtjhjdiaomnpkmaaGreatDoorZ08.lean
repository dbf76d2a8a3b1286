/- The document's own text. -/

import Derived.Test.YtjhjdiaomnpkmaaGreatDoorZ03
set_option maxRecDepth 100000
set_option maxHeartbeats 8000000
set_option linter.unusedVariables false
set_option linter.unusedSimpArgs false
namespace Go.Proofs.YtjhjdiaomnpkmaaGreatDoor
open Go.RowKit Go.Lib
theorem rnumber_at(n:Int)(S:ByteArray)(hS:Hid (B (itoa n)=S))(h0:0≤n)(h1:n≤9223372036854775807)(w0 w:World)(hr:Rel w0 w):
  Calls Tryz.prog 48 #[.int .i64 n] w fun e w'=>e= .returned (.string S)∧Rel w0 w':=by
 have HS:=yH (show B (decDigits n.toNat)=S by rw[←hS.out,itoa_pos h0])
 clear hS
 go_enter Tryz.func48,Tryz.ntmps48
 go_wp2_with ((go_at_call 58;(with_reducible refine(digits_any n h0 h1 _ _ hr).mono ?_);rintro e w' ⟨rfl,hr'⟩))
 go_ret
 exact⟨ret_str HS.out,hr'⟩
theorem rtx_at(n:Int)(S:ByteArray)(hS:Hid (tx n=S))(h0: -9223372036854775808≤n)(h1:n≤9223372036854775807)(w0 w:World)(hr:Rel w0 w):
  Calls Tryz.prog 47 #[.int .i64 n] w fun e w'=>e= .returned (.string S)∧Rel w0 w':=by
 rw[←hS.out];exact rtext_any n h0 h1 w0 w hr
theorem mores_append(a b:List Ex):mores (a++b)=mores a++mores b:=by
 induction a with
 |nil=>simp[mores_nil]
 |cons x t ih=>rw[List.cons_append,mores_cons,mores_cons,ih];simp
theorem texts_snoc(a:List Ex)(x:Ex):texts (a++[x])=texts a++((if a=[] then [] else [44,32])++text x):=by
 cases a with
 |nil=>simp[texts_nil,texts_cons,mores_nil]
 |cons y t=>rw[List.cons_append,texts_cons,texts_cons,mores_append,mores_cons,mores_nil];simp
theorem texts_take(l:List Ex)(j:Nat)(h:j<l.length):texts (l.take (j+1))=texts (l.take j)++((if j=0 then [] else [44,32])++text l[j]):=by
 rw[List.take_succ_eq_append_getElem h,texts_snoc]
 congr 2
 by_cases e:j=0
 ·subst e;simp
 ·rw[if_neg e,if_neg (by intro h';have:=congrArg List.length h';rw[List.length_take,List.length_nil] at this;omega)]
theorem B_lit40(l:List UInt8):B l++(⟨#[40]⟩:ByteArray)=B (l++[40]):=by rw[show(⟨#[40]⟩:ByteArray)=B [40] from rfl,B_append]
theorem B_lit41(l:List UInt8):B l++(⟨#[41]⟩:ByteArray)=B (l++[41]):=by rw[show(⟨#[41]⟩:ByteArray)=B [41] from rfl,B_append]
theorem rtext7_any:∀(x:Ex)(d:Nat)(S:Nat→Prop)(e:El)(w0 w:World),fine d x=true→Rel w0 w→ExAt S w e x→size x≤2000→
  Calls Tryz.prog 36 #[EV e] w fun r w'=>r= .returned (.string (B (text x)))∧Rel w0 w':=ex_ind fun k n nm l ih d S e w0 w hf hr h hz=>by
 obtain⟨A,c,es,rfl,hk,hn,hm,hl,hrow,hsub⟩:=h.open
 obtain⟨d,rfl⟩:∃e,d=e+1:=by
  cases d with
  |zero=>cases hf
  |succ d=>exact⟨d,rfl⟩
 obtain⟨f1,f2,f3,f4,f5⟩:=fine_parts hf
 have hmk:=most_le k
 have hal:=args_le k
 have n0:=f2.1
 have n1:n≤1000000000000:=by have:=f2.2;have:=hmk.1;omega
 have HB:=yH (Bk.new w 54 #[.int .i64 k,.int .i64 n,.string (B nm),.slice A l.length c])
 have HA:=yH (hr.self.alloc (.cells #[.int .i64 k,.int .i64 n,.string (B nm),.slice A l.length c] 54))
 have HR:=yH hr
 have HRow:=yH hrow
 have HSub:=yH hsub
 have HIH:=yH (fun j (hj:j<l.length)=>fun S e w0 w hr h hz=>ih _ (List.getElem_mem (l:=l) (n:=j) hj) d S e w0 w (f5 j hj).2 hr h hz)
 have HTL:=yH (fun j (hj:j<l.length)=>text_len _ d (f5 j hj).2)
 obtain⟨TN,hTN⟩:∃T,tx n=T:=⟨_,rfl⟩
 have HTN:=yH hTN
 have zTN:TN.size≤43:=by rw[←hTN];exact tx_size n
 obtain⟨NN,hNN⟩:∃T,B (itoa n)=T:=⟨_,rfl⟩
 have HNN:=yH hNN
 have zNN:NN.size≤14:=by rw[←hNN,B_size];exact itoa_len n0 n1
 obtain⟨NM,hNM⟩:∃T,B nm=T:=⟨_,rfl⟩
 have HNM:=yH hNM
 have zNM:NM.size≤100:=by rw[←hNM,B_size];exact hm
 obtain⟨WD,hWD⟩:∃T,B (wordK k)=T:=⟨_,rfl⟩
 have HWD:=yH hWD
 have HWc:=yH (fun(w0 w:World)(hr:Rel w0 w)=>rword7_any k hk w0 w hr)
 rw[hWD] at HWc
 have HT:=yH (text_mk k n nm l)
 have hkk:0≤argsN k:=by omega
 have hl3:l.length≤3:=by omega
 have hzl:sizes l≤2000:=by rw[size_mk] at hz;omega
 have hkb:k≤12∧1≤k:=by
  rcases kinds k with h|h
  ·omega
  ·have:=h.2.2.2.2.2.2.2.2.2.2.2.2.1;omega
 have hTXL:∀j,j≤l.length→(texts (l.take j)).length≤60*sizes l+2*l.length:=fun j hj=>by
  have e1:=texts_len (l:=l.take j) fun y hy=>by
   obtain⟨i,hi,rfl⟩:=List.mem_iff_getElem.1 (List.mem_of_mem_take hy)
   exact HTL.out i hi
  have e2:sizes l=sizes (l.take j)+sizes (l.drop j):=by rw[←sizes_append,List.take_append_drop]
  have e3:(l.take j).length≤l.length:=List.length_take_le' ..
  omega
 have HTXL:=yH hTXL
 have hwz:k≠4→WD.size≤6:=fun e=>by rw[←hWD,B_size];exact(word_kind hkk e).2.2
 rw[hNM] at HB HA
 have HEVe:EV (k,n,nm,A,l.length,c)= .agg #[.int .i64 k,.int .i64 n,.string NM,.slice A l.length c]:=by rw[←hNM]
 rw[HEVe]
 clear ih hf h hrow hsub f5 hTN hNN hWD hNM hTXL HEVe hz hn hm hmk
 by_cases k4:k=4
 ·subst k4
  have HF:=yH (show B (text (.mk 4 n nm l))=TN by rw[HT.out,if_pos rfl,←HTN.out];rfl)
  clear hwz
  go_enter Tryz.func36,Tryz.ntmps36
  go_wp2_with (first
   |(go_at_call 46;(with_reducible refine(HWc.out _ _ HA.out.self).mono ?_);rintro e w1 ⟨rfl,h1⟩;have B1:=HB.out.rel h1;have R1:=HA.out.trans h1;obtain⟨⟨c0,c1,c2,c3⟩,_⟩:=B1.four)
   |(go_at_call 47;(with_reducible refine(rtx_at n TN HTN (by omega) (by omega) _ _ h1.self).mono ?_);rintro e w2 ⟨rfl,h2⟩))
  go_ret
  exact⟨ret_str HF.out.symm,(HR.out.trans R1).trans h2⟩
 ·have hw6:=hwz k4
  have k4':(k==4)=false:=by simpa using k4
  clear hwz
  by_cases k12:k=1∨k=2
  ·have HF:=yH (show B (text (.mk k n nm l))=WD by rw[HT.out,if_neg k4,if_pos k12];exact HWD.out)
   rcases k12 with rfl|rfl
   all_goals
    go_enter Tryz.func36,Tryz.ntmps36
    go_wp2_with ((go_at_call 46;(with_reducible refine(HWc.out _ _ HA.out.self).mono ?_);rintro e w1 ⟨rfl,h1⟩;have B1:=HB.out.rel h1;have R1:=HA.out.trans h1;obtain⟨⟨c0,c1,c2,c3⟩,_⟩:=B1.four))
    go_ret
    exact⟨ret_str HF.out.symm,HR.out.trans R1⟩
  ·have q1:(k==1)=false:=by simp;omega
   have q2:(k==2)=false:=by simp;omega
   have HF0:=yH (show text (.mk k n nm l)=wordK k++([40]++(texts l++(tailK k n nm++[41]))) by rw[HT.out,if_neg k4,if_neg k12])
   have HP0:=yH (show WD++(⟨#[40]⟩:ByteArray)=B (wordK k++[40]++texts (l.take 0)) by rw[←HWD.out,B_lit40,List.take_zero,texts_nil,List.append_nil])
   have hz40: ¬9223372036854775807<WD.size+1:=by omega
   clear k4 k12
   go_enter Tryz.func36,Tryz.ntmps36
   go_wp2_with ((go_at_call 46;(with_reducible refine(HWc.out _ _ HA.out.self).mono ?_);rintro e w1 ⟨rfl,h1⟩;have B1:=HB.out.rel h1;have R1:=HA.out.trans h1;obtain⟨⟨c0,c1,c2,c3⟩,_⟩:=B1.four))
   have HB1:=yH B1
   have HR1:=yH R1
   have hzw:(wordK k).length≤6:=by have:=HWD.out;rw[←this,B_size] at hw6;exact hw6
   have HPZ:=yH (show ∀j,j≤l.length→(B (wordK k++[40]++texts (l.take j))).size≤120013 from fun j hj=>by
    have:=HTXL.out j hj
    rw[B_size]
    simp only[List.length_append,List.length_cons,List.length_nil]
    omega)
   clear c0 c1 c2 c3 B1 R1 hz40
   rw[HP0.out]
   obtain⟨P0,hP0⟩:∃P,B (wordK k++[40]++texts (l.take 0))=P:=⟨_,rfl⟩
   rw[hP0]
   have HQ0:=yH hP0.symm
   clear hP0 HP0
   go_loopw [3,4] (fun s i wr=>∃(j:Nat)(P:ByteArray),j≤l.length∧i= .int .i64 (j:Int)∧s= .string P∧Hid (P=B (wordK k++[40]++texts (l.take j)))∧Rel w1 wr) (fun _ i _=>l.length-(RowKit.intOf i).toNat)
   case atStart=>exact⟨0,P0,by omega,rfl,rfl,HQ0,(HR.out.trans HR1.out).self⟩
   case round=>
    obtain⟨j,P,hj,rfl,rfl,HP,hRw⟩:=hrel
    have zP:P.size≤120013:=by rw[HP.out];exact HPZ.out j hj
    obtain⟨⟨c0,c1,c2,c3⟩,_⟩:=(HB1.out.rel hRw).four
    have HRw:=yH hRw
    by_cases hlt:j<l.length
    ·obtain⟨g,off,k1,n1',nm1,A1,m1,c1',hA,a0,a1,a2,a3,ha⟩:=ExAt.arg HRow.out HSub.out hl (HR1.out.trans hRw) j hlt
     subst hA
     have hs1:=size_mem (List.getElem_mem (l:=l) (n:=j) hlt)
     have hs2:size l[j]≤2000:=by omega
     have htl:=HTL.out j hlt
     obtain⟨T,hT⟩:∃T,B (text l[j])=T:=⟨_,rfl⟩
     have zT:T.size≤120000:=by rw[←hT,B_size];omega
     have HC:=yH (HIH.out j hlt S (k1,n1',nm1,A1,m1,c1') wr wr ((HR.out.trans HR1.out).trans hRw).self ha hs2)
     rw[hT] at HC
     have HNx:=yH (show B (wordK k++[40]++texts (l.take (j+1)))=P++((if j=0 then B [] else B [44,32])++T) by
      rw[texts_take l j hlt,HP.out,←hT]
      by_cases e:j=0
      ·rw[if_pos e,if_pos e,B_append,B_append];simp
      ·rw[if_neg e,if_neg e,B_append,B_append];simp)
     clear ha hT htl hs1 hs2
     by_cases e:j=0
     ·subst e
      simp only[Nat.zero_mul,Nat.add_zero] at a0 a1 a2 a3
      have z1: ¬9223372036854775807<P.size+T.size:=by omega
      have HN2:=yH (show P++T=B (wordK k++[40]++texts (l.take (0+1))) by rw[HNx.out,if_pos rfl];rw[show B []++T=T from by apply ByteArray.ext;simp[B]])
      go_wp2_with (go_at_call 36;(with_reducible refine HC.out.mono ?_);rintro e w2 ⟨rfl,h2⟩)
      go_roundw
      case rel=>exact⟨1,P++T,by omega,by go_num,rfl,HN2,HRw.out.trans h2⟩
      case measure=>simp[RowKit.intOf];omega
     ·have z1: ¬9223372036854775807<P.size+2:=by omega
      have z2: ¬9223372036854775807<P.size+2+T.size:=by omega
      have j0:(0:Int)<(j:Int):=by omega
      have HN2:=yH (show P++(⟨#[44,32]⟩:ByteArray)++T=B (wordK k++[40]++texts (l.take (j+1))) by rw[HNx.out,if_neg e,ByteArray.append_assoc];rfl)
      clear e
      go_wp2_with (go_at_call 36;(with_reducible refine HC.out.mono ?_);rintro e w2 ⟨rfl,h2⟩)
      go_roundw
      case rel=>exact⟨j+1,_,by omega,by go_num,rfl,HN2,HRw.out.trans h2⟩
      case measure=>simp[RowKit.intOf];omega
    ·obtain rfl:j=l.length:=by omega
     have HPE:=yH (show P=B (wordK k++[40]++texts l) by rw[HP.out,List.take_length])
     have hways2:k=3∨k=5∨k=6∨k=11∨((k==3)=false∧(k==5)=false∧(k==6)=false∧(k==11)=false):=by simp;omega
     have hfin:∀X:List UInt8,tailK k n nm=X→B (text (.mk k n nm l))=B (wordK k++[40]++texts l)++(B X++(⟨#[41]⟩:ByteArray)):=fun X hX=>by
      rw[HF0.out,hX,B_lit41,B_append];simp
     have HFin:=yH hfin
     have hRR:=(HR.out.trans HR1.out).trans hRw
     have HRR:=yH hRR
     clear hfin hRR
     rcases hways2 with rfl|rfl|rfl|rfl|⟨n3,n5,n6,n11⟩
     ·have z1: ¬9223372036854775807<P.size+NM.size:=by omega
      have z2: ¬9223372036854775807<P.size+NM.size+1:=by omega
      have HE:=yH (show P++NM++(⟨#[41]⟩:ByteArray)=B (text (.mk 3 n nm l)) by rw[HFin.out nm rfl,HPE.out,←HNM.out,ByteArray.append_assoc])
      go_wp2_with (fail)
      go_ret
      exact⟨ret_str HE.out,HRR.out⟩
     ·have z1: ¬9223372036854775807<P.size+2:=by omega
      have z2: ¬9223372036854775807<P.size+2+TN.size:=by omega
      have z3: ¬9223372036854775807<P.size+2+TN.size+1:=by omega
      have HE:=yH (show P++(⟨#[44,32]⟩:ByteArray)++TN++(⟨#[41]⟩:ByteArray)=B (text (.mk 5 n nm l)) by
       rw[HFin.out ([44,32]++txt n) rfl,HPE.out,←HTN.out]
       show B _++B [44,32]++B (txt n)++B [41]=B _++(B _++B [41])
       simp only[B_append,List.append_assoc])
      go_wp2_with (go_at_call 47;(with_reducible refine(rtx_at n TN HTN (by omega) (by omega) _ _ HRR.out.self).mono ?_);rintro e w2 ⟨rfl,h2⟩)
      go_ret
      exact⟨ret_str HE.out,HRR.out.trans h2⟩
     ·have z1: ¬9223372036854775807<P.size+2:=by omega
      have z2: ¬9223372036854775807<P.size+2+NN.size:=by omega
      have z3: ¬9223372036854775807<P.size+2+NN.size+1:=by omega
      have HE:=yH (show P++(⟨#[44,32]⟩:ByteArray)++NN++(⟨#[41]⟩:ByteArray)=B (text (.mk 6 n nm l)) by
       rw[HFin.out ([44,32]++itoa n) rfl,HPE.out,←HNN.out]
       show B _++B [44,32]++B (itoa n)++B [41]=B _++(B _++B [41])
       simp only[B_append,List.append_assoc])
      go_wp2_with (go_at_call 48;(with_reducible refine(rnumber_at n NN HNN n0 (by omega) _ _ HRR.out.self).mono ?_);rintro e w2 ⟨rfl,h2⟩)
      go_ret
      exact⟨ret_str HE.out,HRR.out.trans h2⟩
     ·have z1: ¬9223372036854775807<P.size+NN.size:=by omega
      have z2: ¬9223372036854775807<P.size+NN.size+1:=by omega
      have HE:=yH (show P++NN++(⟨#[41]⟩:ByteArray)=B (text (.mk 11 n nm l)) by rw[HFin.out (itoa n) rfl,HPE.out,←HNN.out,ByteArray.append_assoc])
      go_wp2_with (go_at_call 48;(with_reducible refine(rnumber_at n NN HNN n0 (by omega) _ _ HRR.out.self).mono ?_);rintro e w2 ⟨rfl,h2⟩)
      go_ret
      exact⟨ret_str HE.out,HRR.out.trans h2⟩
     ·have z1: ¬9223372036854775807<P.size+1:=by omega
      have HE:=yH (show P++(⟨#[41]⟩:ByteArray)=B (text (.mk k n nm l)) by
       rw[HFin.out [] (by simp only[beq_eq_false_iff_ne] at n3 n5 n6 n11;unfold tailK;rw[if_neg n3,if_neg n5,if_neg n6,if_neg n11]),HPE.out]
       show B _++B [41]=B _++(B []++B [41])
       simp only[B_append,List.nil_append])
      go_wp2_with (fail)
      go_ret
      exact⟨ret_str HE.out,HRR.out⟩
end Go.Proofs.YtjhjdiaomnpkmaaGreatDoor
