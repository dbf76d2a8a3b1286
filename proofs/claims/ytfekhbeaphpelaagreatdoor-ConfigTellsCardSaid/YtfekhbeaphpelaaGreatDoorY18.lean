/- The printer's expr. -/

import Derived.Test.YtfekhbeaphpelaaGreatDoorY17
set_option maxRecDepth 100000
set_option maxHeartbeats 8000000
set_option linter.unusedVariables false
set_option linter.unusedSimpArgs false
namespace Go.Proofs.YtfekhbeaphpelaaGreatDoor
open Go.RowKit Go.Lib
theorem num_any(n:Int)(h0: -9223372036854775808≤n)(h1:n≤9223372036854775807)(w0 w:World)(hr:Rel w0 w):
  Calls Tryz.prog 109 #[yI n] w fun e w'=>e= .returned (.string (num n))∧Rel w0 w':=by
 have hT:Lib.TabIs Tryz.prog w "internal/strconv.uint64pow10" .u64 Lib.pow10Tab:=hr.tab
 go_enter Tryz.func109,Tryz.ntmps109
 go_wp2_with (go_at_call 141;refine(Tryz.strconv_Itoa n h0 h1 w hT).mono ?_;rintro e w' ⟨rfl,k,os,rfl⟩)
 go_ret
 exact⟨rfl,(hr.drewN k).grow os⟩
theorem tx_of_num(a:Int)(h:0≤a)(h':a≤1000000000000):(⟨#[]⟩:ByteArray)++num (a/100)++(⟨#[46]⟩:ByteArray)++num (a%100/10)++num (a%10)=tx a:=by
 have e:(⟨#[]⟩:ByteArray)++num (a/100)=num (a/100):=B_append [] (itoa (a/100))
 rw[e,num_pos _ (by omega),num_pos _ (by omega),num_pos _ (by omega),←tx_parts a h h',show a%100/10=a/10%10 by omega]
theorem text_as(a:Int)(S:ByteArray)(hS:Hid (B (txt a)=S))(h0:0≤a)(h1:a≤1000000000000)(w0 w:World)(hr:Rel w0 w):
  Calls Tryz.prog 107 #[yI a] w fun e w'=>e= .returned (.string S)∧Rel w0 w':=by
 have ha:rt a=true:=rt_iff.2 ⟨by omega,by omega⟩
 have z1:=num_size (a/100) (by omega) (by omega)
 have z2:=num_size (a%100/10) (by omega) (by omega)
 have z3:=num_size (a%10) (by omega) (by omega)
 have hn: ¬a<0:=by omega
 have HS:=yH ((tx_of_num a h0 h1).trans hS.out)
 go_enter Tryz.func107,Tryz.ntmps107
 go_wp2_with (first|(go_at_call 140;(with_reducible refine(right_any _ _).mono ?_);rintro e w' ⟨rfl,rfl⟩)|(go_at_call 109;(with_reducible refine(num_any _ (by omega) (by omega) _ _ (by assumption)).mono ?_);rintro e w' ⟨rfl,hr'⟩))
 go_ret
 exact⟨ret_str HS.out,by assumption⟩
theorem number_as(a:Int)(S:ByteArray)(hS:Hid (B (itoa a)=S))(h0:0≤a)(h1:a≤1000000000000)(w0 w:World)(hr:Rel w0 w):
  Calls Tryz.prog 109 #[yI a] w fun e w'=>e= .returned (.string S)∧Rel w0 w':=by
 rw[←hS.out];exact num_any a (by omega) (by omega) w0 w hr
theorem Kp.rel{b:Nat}{w w':World}(hr:Rel w w'):Kp b w w':=fun k o hk _ _=>(hr.2.block k (Array.getElem?_eq_some_iff.1 hk).1).trans hk
theorem word_len(k:Int):(B (wordK k)).size≤6:=by
 rw[B_size]
 rcases kinds k with h|⟨k1,k2,k3,k4,k5,k6,k7,k8,k9,k10,k11,k12,_⟩
 ·rcases h with rfl|rfl|rfl|rfl|rfl|rfl|rfl|rfl|rfl|rfl|rfl|rfl<;>decide
 ·rw[wordK_other ⟨k1,k2,k3,k5,k6,k7,k8,k9,k10,k11,k12⟩];decide
theorem call_iff{d:Nat}{k n:Int}{nm:List UInt8}{l:List Ex}(hf:fitsP k n nm l)(hd:d<32)(h1:k≠1)(h2:k≠2)(h4:k≠4)(l0:List UInt8):
  (fine (32-d) (.mk k n nm l)=true∧l0.length+(text (.mk k n nm l)).length≤2000)↔(∀i (h:i<l.length),fine (32-(d+1)) l[i]=true)∧l0.length+(B (wordK k)).size+(glue true (l.map text++beh k n nm)).length+1≤2000:=by
 have e:32-d=(32-(d+1))+1:=by omega
 rw[e,fine_fits,text_glue hf.2.2.1 h1 h2 h4,B_size]
 simp only[List.length_append]
 have h1:([41]:List UInt8).length=1:=rfl
 constructor
 ·rintro⟨⟨_,a⟩,b⟩;exact⟨a,by omega⟩
 ·rintro⟨a,b⟩;exact⟨⟨hf,a⟩,by omega⟩
theorem leaf_iff{d:Nat}{k n:Int}{nm:List UInt8}{l:List Ex}(hf:fitsP k n nm l)(hd:d<32)(h:k=1∨k=2∨k=4)(l0:List UInt8):
  (fine (32-d) (.mk k n nm l)=true∧l0.length+(text (.mk k n nm l)).length≤2000)↔(l0++text (.mk k n nm l)).length≤2000:=by
 have e:32-d=(32-(d+1))+1:=by omega
 rw[e,fine_fits,List.length_append]
 have hl:l=[]:=by
  have:=hf.2.2.1
  have a0:argsN k=0:=by rcases h with rfl|rfl|rfl<;>rfl
  rw[a0] at this
  exact List.length_eq_zero_iff.1 (by omega)
 subst hl
 exact⟨fun h=>h.2,fun h=>⟨⟨hf,fun i hi=>absurd hi (by simp)⟩,h⟩⟩
theorem pcall_nil(b:Nat)(l0:List UInt8)(d:Nat)(T:ByteArray)(l:List Ex)(A:Option Addr)(c:Nat)(es:List El)(S:Nat→Prop)(t:Bool)(w0 w:World)(hr:Rel w0 w)
  (HRow:Hid (RowE S w0 A es)) (HSub:Hid (∀i (h:i<es.length) (h':i<l.length),ExAt S w0 es[i] l[i])) (hl:es.length=l.length) (HIH:Hid (∀j (hj:j<l.length),ExprC l[j]))
  (hP:Pr w0.heap.size b l0 d w) (hd:d<32) (hlen:l0.length≤2000+8*d) (zT:T.size≤6) (hz:sizes l≤100000)
  (ht:Hid (t=true↔(∀i (h:i<l.length),fine (32-(d+1)) l[i]=true)∧l0.length+T.size+(glue true (l.map text++[])).length+1≤2000))
  (M:List UInt8) (hM:Hid (M=l0++(T.data.toList++(glue true (l.map text++[])++[41])))):
  Calls Tryz.prog 108 #[.pointer (some ⟨b,0,none⟩),.string T,.slice A l.length c,.slice none 0 0] w fun r w'=>r= .returned (.bool t)∧(t=true→Pr w0.heap.size b M d w')∧Rel w0 w'∧Kp b w w':=
 pcall_any b l0 d T l [] A none c 0 es S t w0 w hr HRow HSub hl HIH (.inl rfl) hP hd hlen zT (by simp) hz ht M hM
theorem pcall_one(b:Nat)(l0:List UInt8)(d:Nat)(T:ByteArray)(l:List Ex)(s:ByteArray)(g:Nat)(A:Option Addr)(c:Nat)(es:List El)(S:Nat→Prop)(t:Bool)(w0 w:World)(hr:Rel w0 w)
  (HRow:Hid (RowE S w0 A es)) (HSub:Hid (∀i (h:i<es.length) (h':i<l.length),ExAt S w0 es[i] l[i])) (hl:es.length=l.length) (HIH:Hid (∀j (hj:j<l.length),ExprC l[j])) (hb:Bk w g 9 #[.string s])
  (hP:Pr w0.heap.size b l0 d w) (hd:d<32) (hlen:l0.length≤2000+8*d) (zT:T.size≤6) (zs:s.size≤100) (hz:sizes l≤100000)
  (ht:Hid (t=true↔(∀i (h:i<l.length),fine (32-(d+1)) l[i]=true)∧l0.length+T.size+(glue true (l.map text++[s.data.toList])).length+1≤2000))
  (M:List UInt8) (hM:Hid (M=l0++(T.data.toList++(glue true (l.map text++[s.data.toList])++[41])))):
  Calls Tryz.prog 108 #[.pointer (some ⟨b,0,none⟩),.string T,.slice A l.length c,.slice (some ⟨g,0,none⟩) 1 1] w fun r w'=>r= .returned (.bool t)∧(t=true→Pr w0.heap.size b M d w')∧Rel w0 w'∧Kp b w w':=
 pcall_any b l0 d T l [s] A (some ⟨g,0,none⟩) c 1 es S t w0 w hr HRow HSub hl HIH (.inr ⟨g,s,rfl,rfl,hb⟩) hP hd hlen zT (by simpa using zs) hz ht M hM
theorem pexpr_any:∀(x:Ex),ExprC x:=ex_ind fun k n nm l ih S e b l0 d t w0 w hr hx hP hd hlen hz ht=>by
 obtain⟨A,c,es,rfl,hk,hn,hm,hl,hrow,hsub⟩:=hx.open
 rw[size_mk] at hz
 have hzl:sizes l≤100000:=by omega
 have hll:l.length≤100000:=by have:=len_le l;omega
 have HR:=yH hr
 have HB:=yH (Bk.new w 52 #[yI k,yI n,.string (B nm),.slice A l.length c])
 have HA:=yH (hr.alloc (.cells #[yI k,yI n,.string (B nm),.slice A l.length c] 52))
 have HK:=yH ((Kp.refl b w).alloc (.cells #[yI k,yI n,.string (B nm),.slice A l.length c] 52))
 have HP:=yH (hP.alloc (.cells #[yI k,yI n,.string (B nm),.slice A l.length c] 52))
 obtain⟨pp,AA,cc,y0,y1,y2,y3⟩:=HP.out.cells
 obtain⟨W,hW⟩:∃W,w.alloc (.cells #[yI k,yI n,.string (B nm),.slice A l.length c] 52)=W:=⟨_,rfl⟩
 rw[hW] at HB HA HK HP
 have HW:=yH hW
 have HRow:=yH hrow
 have HSub:=yH hsub
 have HIH:=yH (fun j (hj:j<l.length)=>ih _ (List.getElem_mem (l:=l) (n:=j) hj))
 have HRowW:=yH (hrow.mono (S':=S) HA.out.size fun g hS hl=>⟨hS,HA.out.2.block g hl⟩)
 have HSubW:=yH (fun i (h:i<es.length) (h':i<l.length)=>(hsub i h h').rel HA.out)
 clear hrow hsub ih hx hP hr hW
 by_cases hd2:d<32
 ·obtain⟨f,hf⟩:∃f:Bool,f=true↔fitsP k n nm l:=by
   by_cases h:fitsP k n nm l
   ·exact⟨true,by simp[h]⟩
   ·exact⟨false,by simp[h]⟩
  have HFi:=yH (tfits_any k n nm l hm (by omega) A c es S W W HA.out.self hl HRowW HSubW f (yH hf))
  cases f with
  |false=>
   have htf:t=false:=by
    cases t with
    |false=>rfl
    |true=>
     have e:32-d=(32-(d+1))+1:=by omega
     have h1:=(ht.out.1 rfl).1
     rw[e] at h1
     have:=hf.2 ((fine_fits _ k n nm l).1 h1).1
     cases this
   subst htf
   clear hf
   go_enter Tryz.func78,Tryz.ntmps78
   go_wp2_with (go_at_call 104;rw[HW.out];(with_reducible refine HFi.out.mono ?_);rintro e w2 ⟨rfl,h2⟩)
   go_ret
   exact⟨rfl,(fun h=>by cases h),HA.out.trans h2,HK.out.trans (Kp.rel h2)⟩
  |true=>
   have hft:=hf.1 rfl
   have HFt:=yH hft
   obtain⟨T,hT⟩:∃T,B (wordK k)=T:=⟨_,rfl⟩
   obtain⟨mm,hmm⟩:∃m,mostN k=m:=⟨_,rfl⟩
   obtain⟨aa,haa⟩:∃a,argsN k=a:=⟨_,rfl⟩
   have HRo:=yH (And.intro hT (And.intro hmm haa))
   have zT:T.size≤6:=by rw[←hT];exact word_len k
   have hTl:T.data.toList=wordK k:=by rw[←hT,B_list]
   have HTl:=yH hTl
   have n0:0≤n:=hft.1.1
   have n1:n≤1000000000000:=by have:=hft.1.2;have:=(most_le k).1;omega
   have hk12:k=1∨k=2∨k=3∨k=4∨k=5∨k=6∨k=7∨k=8∨k=9∨k=10∨k=11∨k=12:=by
    rcases kinds k with h|⟨_,_,_,_,_,_,_,_,_,_,_,_,ha,_⟩
    ·exact h
    ·have:=hft.2.2.1;omega
   have HR2:=yH (fun(w2:World)(h2:Rel W w2)=>HA.out.trans h2)
   clear hf hT hmm haa
   by_cases g4:k=1∨k=2∨k=4
   ·obtain⟨M,hM⟩:∃M,M=l0++text (.mk k n nm l):=⟨_,rfl⟩
    have HMt:=yH hM
    have HT:=yH (show decide (M.length≤2000)=t by
     rw[Bool.eq_iff_iff,decide_eq_true_iff,ht.out,hM]
     exact(leaf_iff hft hd2 g4 l0).symm)
    by_cases g1:k=1∨k=2
    ·have HM:=yH (show l0++T.data.toList=M by rw[hM,text_leaf k n nm l g1,hTl])
     clear hM hft hTl hk12 g4
     rcases g1 with rfl|rfl
     all_goals
         go_enter Tryz.func78,Tryz.ntmps78
         go_wp2_with (first
          |(go_at_call 104;rw[HW.out];(with_reducible refine HFi.out.mono ?_);rintro e w2 ⟨rfl,h2⟩;obtain⟨⟨c0,c1,c2,c3⟩,_⟩:=(HB.out.rel h2).four)
          |(go_at_call 105;(with_reducible refine(trow_as _ T mm aa HRo _).mono ?_);rintro e w' ⟨rfl,rfl⟩)
          |(go_at_call 106;(with_reducible refine(put_as b l0 d T M HM (by omega) t HT _ _ (HR2.out _ h2) (HP.out.rel h2)).mono ?_);rintro e w3 ⟨rfl,p3,r3,k3⟩))
         go_ret
         exact⟨rfl,(fun _=>by rw[←HMt.out];exact p3),r3,(HK.out.trans (Kp.rel h2)).trans k3⟩
    ·obtain rfl:k=4:=by omega
     obtain⟨s,hs⟩:∃s,B (txt n)=s:=⟨_,rfl⟩
     have HS:=yH hs
     have zs:s.size≤43:=by rw[←hs,B_size];exact txt_len n
     have HM:=yH (show l0++s.data.toList=M by rw[hM,text_four,←hs,B_list])
     clear hM hft hTl hk12 g4 g1 hs
     go_enter Tryz.func78,Tryz.ntmps78
     go_wp2_with (first
         |(go_at_call 104;rw[HW.out];(with_reducible refine HFi.out.mono ?_);rintro e w2 ⟨rfl,h2⟩;obtain⟨⟨c0,c1,c2,c3⟩,_⟩:=(HB.out.rel h2).four)
         |(go_at_call 105;(with_reducible refine(trow_as _ T mm aa HRo _).mono ?_);rintro e w' ⟨rfl,rfl⟩)
         |(go_at_call 107;(with_reducible refine(text_as n s HS n0 n1 _ _ (HR2.out _ h2).self).mono ?_);rintro e w3 ⟨rfl,h3⟩)
         |(go_at_call 106;(with_reducible refine(put_as b l0 d s M HM (by omega) t HT _ _ ((HR2.out _ h2).trans h3) ((HP.out.rel h2).rel h3)).mono ?_);rintro e w4 ⟨rfl,p3,r3,k3⟩))
     go_ret
     exact⟨rfl,(fun _=>by rw[←HMt.out];exact p3),r3,((HK.out.trans (Kp.rel h2)).trans (Kp.rel h3)).trans k3⟩
   ·obtain⟨M,hM⟩:∃M,M=l0++text (.mk k n nm l):=⟨_,rfl⟩
    have HMt:=yH hM
    have hti:t=true↔(∀i (h:i<l.length),fine (32-(d+1)) l[i]=true)∧l0.length+T.size+(glue true (l.map text++beh k n nm)).length+1≤2000:=by
     rw[ht.out,call_iff hft hd2 (by omega) (by omega) (by omega) l0,←hTl,B_size]
     simp
    have hMi:M=l0++(T.data.toList++(glue true (l.map text++beh k n nm)++[41])):=by
     rw[hM,text_glue hft.2.2.1 (by omega) (by omega) (by omega),hTl]
    clear hM
    by_cases g0:k=7∨k=8∨k=9∨k=10∨k=12
    ·have eb:beh k n nm=[]:=by unfold beh;rw[if_neg (by omega),if_neg (by omega),if_neg (by omega)]
     rw[eb] at hti hMi
     have HTi:=yH hti
     have HMi:=yH hMi
     clear hti hMi eb hft hTl hk12 g4
     rcases g0 with rfl|rfl|rfl|rfl|rfl
     all_goals
         go_enter Tryz.func78,Tryz.ntmps78
         go_wp2_with (first
          |(go_at_call 104;rw[HW.out];(with_reducible refine HFi.out.mono ?_);rintro e w2 ⟨rfl,h2⟩;obtain⟨⟨c0,c1,c2,c3⟩,_⟩:=(HB.out.rel h2).four)
          |(go_at_call 105;(with_reducible refine(trow_as _ T mm aa HRo _).mono ?_);rintro e w' ⟨rfl,rfl⟩)
          |(go_at_call 108;(with_reducible refine(pcall_nil b l0 d T l A c es S t _ _ (HR2.out _ h2) HRow HSub hl HIH (HP.out.rel h2) hd2 hlen zT hzl HTi M HMi).mono ?_);rintro e w3 ⟨rfl,p3,r3,k3⟩))
         go_ret
         exact⟨rfl,(fun h=>by rw[←HMt.out];exact p3 h),r3,(HK.out.trans (Kp.rel h2)).trans k3⟩
    ·by_cases g3:k=3
     ·subst g3
      obtain⟨s,hs⟩:∃s,B nm=s:=⟨_,rfl⟩
      have zs:s.size≤100:=by rw[←hs,B_size];exact hm
      have eb:beh 3 n nm=[s.data.toList]:=by rw[←hs,B_list];rfl
      rw[eb] at hti hMi
      rw[hs] at HB HW HFi y2
      have HTi:=yH hti
      have HMi:=yH hMi
      clear hti hMi eb hft hTl hk12 g4 g0
      go_enter Tryz.func78,Tryz.ntmps78
      go_wp2_with (first
       |(go_at_call 104;rw[HW.out];(with_reducible refine HFi.out.mono ?_);rintro e w2 ⟨rfl,h2⟩;obtain⟨⟨c0,c1,c2,c3⟩,_⟩:=(HB.out.rel h2).four)
       |(go_at_call 105;(with_reducible refine(trow_as _ T mm aa HRo _).mono ?_);rintro e w' ⟨rfl,rfl⟩)
       |(go_at_call 108;(with_reducible refine(pcall_one b l0 d T l s w2.heap.size A c es S t _ _ ((HR2.out _ h2).alloc _) HRow HSub hl HIH (Bk.new _ _ _) ((HP.out.rel h2).alloc _) hd2 hlen zT zs hzl HTi M HMi).mono ?_);rintro e w3 ⟨rfl,p3,r3,k3⟩))
      go_ret
      exact⟨rfl,(fun h=>by rw[←HMt.out];exact p3 h),r3,((HK.out.trans (Kp.rel h2)).alloc _).trans k3⟩
     ·by_cases g5:k=5
      ·subst g5
       obtain⟨s,hs⟩:∃s,B (txt n)=s:=⟨_,rfl⟩
       have HS:=yH hs
       have zs:s.size≤100:=by rw[←hs,B_size];have:=txt_len n;omega
       have eb:beh 5 n nm=[s.data.toList]:=by rw[←hs,B_list];rfl
       rw[eb] at hti hMi
       have HTi:=yH hti
       have HMi:=yH hMi
       clear hti hMi eb hft hTl hk12 g4 g0 g3 hs
       go_enter Tryz.func78,Tryz.ntmps78
       go_wp2_with (first
           |(go_at_call 104;rw[HW.out];(with_reducible refine HFi.out.mono ?_);rintro e w2 ⟨rfl,h2⟩;obtain⟨⟨c0,c1,c2,c3⟩,_⟩:=(HB.out.rel h2).four)
           |(go_at_call 105;(with_reducible refine(trow_as _ T mm aa HRo _).mono ?_);rintro e w' ⟨rfl,rfl⟩))
       go_region_law (first
           |(rw[if_pos (by rfl)];go_simp;go_at_call 107;(with_reducible refine(text_as n s HS n0 n1 _ _ (HR2.out _ h2).drew.self).mono ?_);rintro e w3 ⟨rfl,h3⟩;obtain⟨⟨d0,d1,d2,d3⟩,_⟩:=((HB.out.rel h2).drew.rel h3).four;obtain⟨⟨e0,e1,e2,e3⟩,_⟩:=(((HB.out.rel h2).drew.rel h3).alloc (.cells #[.string s] 9)).four)
           |(rw[if_pos (by rfl)];go_simp;go_at_call 108;(with_reducible refine(pcall_one b l0 d T l s w3.heap.size A c es S t _ _ (((HR2.out _ h2).drew.trans h3).alloc _) HRow HSub hl HIH (Bk.new _ _ _) (((HP.out.rel h2).drew.rel h3).alloc _) hd2 hlen zT zs hzl HTi M HMi).mono ?_);rintro e w4 ⟨rfl,p3,r3,k3⟩))
       all_goals
           go_wp2_with (fail)
           go_ret
           exact⟨rfl,(fun h=>by rw[←HMt.out];exact p3 h),r3,(((HK.out.trans (Kp.rel h2.drew)).trans (Kp.rel h3)).alloc _).trans k3⟩
      ·have g6:k=6∨k=11:=by omega
       obtain⟨s,hs⟩:∃s,B (itoa n)=s:=⟨_,rfl⟩
       have HS:=yH hs
       have zs:s.size≤100:=by rw[←hs,B_size];have:=itoa_len n0 n1;omega
       have eb:beh k n nm=[s.data.toList]:=by rw[←hs,B_list];unfold beh;rw[if_neg g3,if_neg g5,if_pos g6]
       rw[eb] at hti hMi
       have HTi:=yH hti
       have HMi:=yH hMi
       clear hti hMi eb hft hTl hk12 g4 g0 g3 g5 hs
       rcases g6 with rfl|rfl
       all_goals
           go_enter Tryz.func78,Tryz.ntmps78
           go_wp2_with (first
            |(go_at_call 104;rw[HW.out];(with_reducible refine HFi.out.mono ?_);rintro e w2 ⟨rfl,h2⟩;obtain⟨⟨c0,c1,c2,c3⟩,_⟩:=(HB.out.rel h2).four)
            |(go_at_call 105;(with_reducible refine(trow_as _ T mm aa HRo _).mono ?_);rintro e w' ⟨rfl,rfl⟩))
           go_region_law (first
            |(rw[if_pos (by rfl)];go_simp;go_at_call 109;(with_reducible refine(number_as n s HS n0 n1 _ _ (HR2.out _ h2).drew.self).mono ?_);rintro e w3 ⟨rfl,h3⟩;obtain⟨⟨d0,d1,d2,d3⟩,_⟩:=((HB.out.rel h2).drew.rel h3).four;obtain⟨⟨e0,e1,e2,e3⟩,_⟩:=(((HB.out.rel h2).drew.rel h3).alloc (.cells #[.string s] 9)).four)
            |(rw[if_pos (by rfl)];go_simp;go_at_call 108;(with_reducible refine(pcall_one b l0 d T l s w3.heap.size A c es S t _ _ (((HR2.out _ h2).drew.trans h3).alloc _) HRow HSub hl HIH (Bk.new _ _ _) (((HP.out.rel h2).drew.rel h3).alloc _) hd2 hlen zT zs hzl HTi M HMi).mono ?_);rintro e w4 ⟨rfl,p3,r3,k3⟩))
           all_goals
            go_wp2_with (fail)
            go_ret
            exact⟨rfl,(fun h=>by rw[←HMt.out];exact p3 h),r3,(((HK.out.trans (Kp.rel h2.drew)).trans (Kp.rel h3)).alloc _).trans k3⟩
 ·obtain rfl:d=32:=by omega
  have htf:t=false:=by
   cases t with
   |false=>rfl
   |true=>have:=(ht.out.1 rfl).1;cases this
  subst htf
  go_enter Tryz.func78,Tryz.ntmps78
  go_wp2_with (fail)
  go_ret
  rw[HW.out]
  exact⟨rfl,(fun h=>by cases h),HA.out,HK.out⟩
theorem pr_new(w:World)(o:Obj):Pr w.heap.size (w.heap.size+1) [] 0 ((w.alloc o).alloc (.cells #[.pointer none,.slice none 0 0,yI 0] 131)):=by
 have hb:=Bk.new (w.alloc o) 131 #[.pointer none,.slice none 0 0,yI 0]
 rw[World.size_alloc] at hb
 exact .inl ⟨by omega,_,hb,World.ownsRowF_of (World.ownsRow_nil _ _ _ _),by simp[Value.ownBlock]⟩
theorem right_of{x:Ex}(hc:isCond x.k=false):rightX x=true↔fine (32-0) x=true∧([]:List UInt8).length+(text x).length≤2000:=by
 simp only[rightX,hc,Bool.and_eq_true,decide_eq_true_eq,List.length_nil,Nat.sub_zero,Nat.zero_add,Bool.not_false,and_true]
 constructor
 ·rintro⟨⟨a,_⟩,b⟩;exact⟨a,b⟩
 ·rintro⟨a,b⟩;exact⟨⟨a,by have:=text_more x 32 a;omega⟩,b⟩
theorem tprint_any:PrintOk:=fun x S e w0 w hr h hz=>by
 have HR:=yH hr
 obtain⟨k,n,nm,A,m,c⟩:=e
 have hke:x.k=k:=h.kind
 have HB:=yH ((Bk.new w 52 #[yI k,yI n,.string (B nm),.slice A m c]).alloc (.cells #[.pointer none,.slice none 0 0,yI 0] 131))
 have HA:=yH ((hr.self.alloc (.cells #[yI k,yI n,.string (B nm),.slice A m c] 52)).alloc (.cells #[.pointer none,.slice none 0 0,yI 0] 131))
 have HP:=yH (pr_new w (.cells #[yI k,yI n,.string (B nm),.slice A m c] 52))
 obtain⟨⟨c0,c1,c2,c3⟩,_⟩:=HB.out.four
 obtain⟨bc,hbc⟩:∃b,isCond k=b:=⟨_,rfl⟩
 have HBc:=yH hbc
 cases bc with
 |true=>
  have HX:=yH (show prT x=[]∧prE x=1 by
   have:rightX x=false:=by unfold rightX;rw[hke,hbc];simp
   unfold prT prE;rw[this];exact⟨rfl,rfl⟩)
  clear h hbc
  go_enter Tryz.func56,Tryz.ntmps56
  go_wp2_with (go_at_call 77;(with_reducible refine(tcond_as k n (B nm) A m c true HBc _ _ HA.out.self).mono ?_);rintro e w2 ⟨rfl,h2⟩;obtain⟨⟨d0,d1,d2,d3⟩,_⟩:=(HB.out.rel h2).four)
  go_ret2
  exact⟨by rw[HX.out.1,HX.out.2];rfl,(HR.out.trans HA.out).trans h2⟩
 |false=>
  obtain⟨t,ht⟩:∃t,rightX x=t:=⟨_,rfl⟩
  have hti:t=true↔fine (32-0) x=true∧([]:List UInt8).length+(text x).length≤2000:=by rw[←ht];exact right_of (by rw[hke];exact hbc)
  have HC:=yH (fun(w2:World)(h2:Rel w w2)(hp:Pr w.heap.size (w.heap.size+1) [] 0 w2)=>pexpr_any x S (k,n,nm,A,m,c) (w.heap.size+1) [] 0 t w w2 h2 h hp (by omega) (by simp) hz (yH hti))
  have HX:=yH (show prT x=(if t then text x else [])∧prE x=(if t then 0 else 1) by unfold prT prE;rw[ht];exact⟨rfl,rfl⟩)
  have HNe:=yH (show t=true→[]++text x≠[] from fun e=>by
   have h1:=text_more x 32 (hti.1 e).1
   have h2:=size_pos x
   intro h
   rw[List.nil_append] at h
   rw[h,List.length_nil] at h1
   omega)
  clear h hbc hti ht
  cases t with
  |false=>
   go_enter Tryz.func56,Tryz.ntmps56
   go_wp2_with (first
    |(go_at_call 77;(with_reducible refine(tcond_as k n (B nm) A m c false HBc _ _ HA.out.self).mono ?_);rintro e w2 ⟨rfl,h2⟩;obtain⟨⟨d0,d1,d2,d3⟩,_⟩:=(HB.out.rel h2).four)
    |(go_at_call 78;(with_reducible refine(HC.out _ (HA.out.trans h2) (HP.out.rel h2)).mono ?_);rintro e w3 ⟨rfl,p3,r3,k3⟩))
   go_ret2
   exact⟨by rw[HX.out.1,HX.out.2];rfl,HR.out.trans r3⟩
  |true=>
   go_enter Tryz.func56,Tryz.ntmps56
   go_wp2_with (first
    |(go_at_call 77;(with_reducible refine(tcond_as k n (B nm) A m c false HBc _ _ HA.out.self).mono ?_);rintro e w2 ⟨rfl,h2⟩;obtain⟨⟨d0,d1,d2,d3⟩,_⟩:=(HB.out.rel h2).four)
    |(go_at_call 78;(with_reducible refine(HC.out _ (HA.out.trans h2) (HP.out.rel h2)).mono ?_);rintro e w3 ⟨rfl,p3,r3,k3⟩)
    |(go_at_call 79;(with_reducible refine(string_any (w.heap.size+1) ([]++text x) 0 w _ r3 (by first|exact p3 rfl|exact p3 trivial) (by first|exact HNe.out rfl|exact HNe.out trivial)).mono ?_);rintro e w4 ⟨rfl,r4⟩))
   go_ret2
   exact⟨by rw[HX.out.1,HX.out.2];rfl,HR.out.trans r4⟩
theorem tright_any:RightOk:=fun x S e w0 w hr h hz=>by
 have HR:=yH hr
 obtain⟨k,n,nm,A,m,c⟩:=e
 have HA:=yH (hr.self.alloc (.cells #[yI k,yI n,.string (B nm),.slice A m c] 52))
 have HP:=yH (fun(w':World)(h':Rel w w')=>tprint_any x S (k,n,nm,A,m,c) w' w' (hr.trans h').self (h.rel h') hz)
 obtain⟨T,hT⟩:∃T,B (prT x)=T:=⟨_,rfl⟩
 rw[hT] at HP
 clear hT
 cases hx:rightX x
 ·have he:prE x=1:=by unfold prE;rw[hx];rfl
  rw[he] at HP
  clear h he hx
  go_enter Tryz.func36,Tryz.ntmps36
  go_wp2_with (go_at_call 56;(with_reducible refine(HP.out _ HA.out).mono ?_);rintro e w2 ⟨rfl,h2⟩)
  go_ret
  exact⟨rfl,(HR.out.trans HA.out).trans h2⟩
 ·have he:prE x=0:=by unfold prE;rw[hx];rfl
  rw[he] at HP
  clear h he hx
  go_enter Tryz.func36,Tryz.ntmps36
  go_wp2_with (go_at_call 56;(with_reducible refine(HP.out _ HA.out).mono ?_);rintro e w2 ⟨rfl,h2⟩)
  go_ret
  exact⟨rfl,(HR.out.trans HA.out).trans h2⟩
end Go.Proofs.YtfekhbeaphpelaaGreatDoor

namespace Go.Proofs.YtfekhbeaphpelaaGreatDoor
open Go.Lib
abbrev In:=Int×Int×List UInt8
def opK(k:Int):Int:=if k=1 then 2 else if k=2 then 3 else if k=3 then 4 else if k=4 then 1 else if k=11 then 10 else if k=12 then 11 else k
mutual
def clen:Ex→Nat
 | .mk k _ _ l=>clens l+(if k=10 then 2 else 1)
def clens:List Ex→Nat
 |[]=>0
 |x::t=>clen x+clens t
end
mutual
def many(kind:Int):Ex→Nat
 | .mk k _ _ l=>(if k=kind then 1 else 0)+manys kind l
def manys(kind:Int):List Ex→Nat
 |[]=>0
 |x::t=>many kind x+manys kind t
end
theorem clen_mk(k n:Int)(nm:List UInt8)(l:List Ex):clen (.mk k n nm l)=clens l+(if k=10 then 2 else 1):=by rw[clen]
theorem clens_nil:clens []=0:=by rw[clens]
theorem clens_cons(x:Ex)(t:List Ex):clens (x::t)=clen x+clens t:=by rw[clens]
theorem many_mk(kind k n:Int)(nm:List UInt8)(l:List Ex):many kind (.mk k n nm l)=(if k=kind then 1 else 0)+manys kind l:=by rw[many]
theorem manys_nil(kind:Int):manys kind []=0:=by rw[manys]
theorem manys_cons(kind:Int)(x:Ex)(t:List Ex):manys kind (x::t)=many kind x+manys kind t:=by rw[manys]
theorem clen_size:∀x,clen x=size x+many 10 x:=ex_ind fun k n nm l ih=>by
 rw[clen_mk,size_mk,many_mk]
 have:clens l=sizes l+manys 10 l:=by
  clear k n nm
  induction l with
  |nil=>rw[clens_nil,sizes_nil,manys_nil]
  |cons x t ih2=>
   rw[clens_cons,sizes_cons,manys_cons,ih x (List.mem_cons_self ..),ih2 fun y hy=>ih y (List.mem_cons_of_mem _ hy)];omega
 rw[this]
 split<;>omega
theorem many_le(kind:Int):∀x,many kind x≤size x:=ex_ind fun k n nm l ih=>by
 rw[size_mk,many_mk]
 have:manys kind l≤sizes l:=by
  clear k n nm
  induction l with
  |nil=>rw[sizes_nil,manys_nil];omega
  |cons x t ih2=>
   have h1:=ih x (List.mem_cons_self ..)
   have h2:=ih2 fun y hy=>ih y (List.mem_cons_of_mem _ hy)
   rw[sizes_cons,manys_cons];omega
 split<;>omega
def joinE(at_:Nat)(A B:List In):List In:=A++((9,((at_+A.length+1+B.length:Nat):Int),[])::B)
def joinI(at_:Nat)(C A B:List In):List In:=C++((12,((at_+C.length+A.length+2:Nat):Int),[])::(A++((13,((at_+C.length+A.length+2+B.length:Nat):Int),[])::B)))
mutual
def cod:Ex→Nat→List In
 | .mk k n nm l,at_=>if k=9 then codE l at_ else if k=10 then codI l at_ else cods l at_++[(opK k,n,nm)]
def cods:List Ex→Nat→List In
 |[],_=>[]
 |x::t,at_=>cod x at_++cods t (at_+clen x)
def codE:List Ex→Nat→List In
 |[],_=>[]
 |a::t,at_=>joinE at_ (cod a at_) (cods t (at_+clen a+1))
def codI:List Ex→Nat→List In
 |[],_=>[]
 |c::t,at_=>joinI at_ (cod c at_) (codH t (at_+clen c+1)) (codT t (at_+clen c+2))
def codH:List Ex→Nat→List In
 |[],_=>[]
 |a::_,at_=>cod a at_
def codT:List Ex→Nat→List In
 |[],_=>[]
 |a::t,at_=>cods t (at_+clen a)
end
theorem cod_mk(k n:Int)(nm:List UInt8)(l:List Ex)(at_:Nat):cod (.mk k n nm l) at_=if k=9 then codE l at_ else if k=10 then codI l at_ else cods l at_++[(opK k,n,nm)]:=by rw[cod]
theorem cods_nil(at_:Nat):cods [] at_=[]:=by rw[cods]
theorem cods_cons(x:Ex)(t:List Ex)(at_:Nat):cods (x::t) at_=cod x at_++cods t (at_+clen x):=by rw[cods]
theorem cod_else(n:Int)(nm:List UInt8)(a b:Ex)(at_:Nat):cod (.mk 9 n nm [a,b]) at_=joinE at_ (cod a at_) (cod b (at_+clen a+1)):=by
 rw[cod_mk,if_pos rfl,codE,cods_cons,cods_nil,List.append_nil]
theorem cod_if(n:Int)(nm:List UInt8)(c a b:Ex)(at_:Nat):cod (.mk 10 n nm [c,a,b]) at_=joinI at_ (cod c at_) (cod a (at_+clen c+1)) (cod b (at_+clen c+2+clen a)):=by
 rw[cod_mk,if_neg (by decide),if_pos rfl,codI,codH,codT,cods_cons,cods_nil,List.append_nil]
theorem cod_op{k n:Int}{nm:List UInt8}{l:List Ex}(h9:k≠9)(h10:k≠10)(at_:Nat):cod (.mk k n nm l) at_=cods l at_++[(opK k,n,nm)]:=by
 rw[cod_mk,if_neg h9,if_neg h10]
theorem joinE_len(at_:Nat)(A B:List In):(joinE at_ A B).length=A.length+1+B.length:=by unfold joinE;simp;omega
theorem joinI_len(at_:Nat)(C A B:List In):(joinI at_ C A B).length=C.length+A.length+2+B.length:=by unfold joinI;simp;omega
theorem fine_ind{P:Ex→Prop}(hop:∀d k n nm l,fine (d+1) (.mk k n nm l)=true→k≠9→k≠10→(∀x∈l,P x)→P (.mk k n nm l))
  (helse:∀d n nm a b,fine (d+1) (.mk 9 n nm [a,b])=true→P a→P b→P (.mk 9 n nm [a,b]))
  (hif:∀d n nm c a b,fine (d+1) (.mk 10 n nm [c,a,b])=true→P c→P a→P b→P (.mk 10 n nm [c,a,b])):∀d x,fine d x=true→P x:=by
 intro d
 induction d with
 |zero=>intro x h;cases h
 |succ d ih=>
  intro x h
  cases x with
  |mk k n nm l=>
   have hp:=(fine_parts h).1
   have hm:∀x∈l,P x:=fun x hx=>ih x (fine_mem h hx)
   by_cases h9:k=9
   ·subst h9
    match l,hp with
    |[a,b],_=>exact helse d n nm a b h (hm a (by simp)) (hm b (by simp))
    |[],hp=>simp[argsN] at hp
    |[_],hp=>simp[argsN] at hp
    |_::_::_::_,hp=>simp[argsN] at hp;omega
   ·by_cases h10:k=10
    ·subst h10
     match l,hp with
     |[c,a,b],_=>exact hif d n nm c a b h (hm c (by simp)) (hm a (by simp)) (hm b (by simp))
     |[],hp=>simp[argsN] at hp
     |[_],hp=>simp[argsN] at hp
     |[_,_],hp=>simp[argsN] at hp
     |_::_::_::_::_,hp=>simp[argsN] at hp;omega
    ·exact hop d k n nm l h h9 h10 hm
theorem cod_len:∀d x,fine d x=true→∀at_,(cod x at_).length=clen x:=fine_ind
 (fun d k n nm l h h9 h10 ih at_=>by
  rw[cod_op h9 h10,clen_mk,if_neg h10,List.length_append]
  have:∀at_,(cods l at_).length=clens l:=by
   clear h
   induction l with
   |nil=>intro _;rw[cods_nil,clens_nil];rfl
   |cons x t ih2=>intro p;rw[cods_cons,clens_cons,List.length_append,ih x (List.mem_cons_self ..),ih2 fun y hy=>ih y (List.mem_cons_of_mem _ hy)]
  rw[this];rfl)
 (fun d n nm a b h ha hb at_=>by
  rw[cod_else,joinE_len,ha,hb,clen_mk,clens_cons,clens_cons,clens_nil];simp;omega)
 (fun d n nm c a b h hc ha hb at_=>by
  rw[cod_if,joinI_len,hc,ha,hb,clen_mk,clens_cons,clens_cons,clens_cons,clens_nil];simp;omega)
def isTo(o:Int):Bool:=o==9||o==12||o==13
def leastO(i:Nat)(o:Int):Int:=if isTo o then (i:Int)+1 else 0
def mostO(len:Nat)(o:Int):Int:=if isTo o then (len:Int) else if o=1∨o=5 then 1000000000000 else if o=6 then 100000 else if o=10 then 1000 else 0
def inOk(len i:Nat)(t:In):Bool:=decide (1≤t.1∧t.1≤13)&&decide (leastO i t.1≤t.2.1∧t.2.1≤mostO len t.1)&&(if t.1=4 then isName t.2.2 else decide (t.2.2=[]))
def okTo(l:List In):Nat→Bool
 |0=>true
 |i+1=>okTo l i&&(match l[i]? with|some t=>inOk l.length i t|none=>true)
def codeOk(l:List In):Bool:=decide (l.length≤5000)&&okTo l l.length
theorem okTo_iff{l:List In}:∀{n:Nat},n≤l.length→(okTo l n=true↔∀i (h:i<l.length),i<n→inOk l.length i l[i]=true):=by
 intro n
 induction n with
 |zero=>intro _;exact⟨fun _ i _ h=>absurd h (by omega),fun _=>rfl⟩
 |succ n ih=>
  intro hn
  have hl:n<l.length:=by omega
  rw[okTo,List.getElem?_eq_getElem hl,Bool.and_eq_true,ih (by omega)]
  constructor
  ·rintro⟨h1,h2⟩ i hi hin
   by_cases e:i=n
   ·subst e;exact h2
   ·exact h1 i hi (by omega)
  ·intro h
   exact⟨fun i hi hin=>h i hi (by omega),h n hl (by omega)⟩
theorem codeOk_iff{l:List In}:codeOk l=true↔l.length≤5000∧∀i (h:i<l.length),inOk l.length i l[i]=true:=by
 unfold codeOk
 rw[Bool.and_eq_true,decide_eq_true_eq,okTo_iff (Nat.le_refl _)]
 exact⟨fun h=>⟨h.1,fun i hi=>h.2 i hi hi⟩,fun h=>⟨h.1,fun i hi _=>h.2 i hi⟩⟩
def GoodC(len at_:Nat)(l:List In):Prop:=∀i (h:i<l.length),inOk len (at_+i) l[i]=true
theorem GoodC.nil(len at_:Nat):GoodC len at_ []:=fun i h=>absurd h (by simp)
theorem GoodC.append{len at_:Nat}{a b:List In}(ha:GoodC len at_ a)(hb:GoodC len (at_+a.length) b):GoodC len at_ (a++b):=by
 intro i h
 by_cases hi:i<a.length
 ·rw[List.getElem_append_left hi];exact ha i hi
 ·rw[List.getElem_append_right (by omega)]
  have:=hb (i-a.length) (by rw[List.length_append] at h;omega)
  rwa [show at_+a.length+(i-a.length)=at_+i by omega] at this
theorem GoodC.cons{len at_:Nat}{t:In}{b:List In}(ht:inOk len at_ t=true)(hb:GoodC len (at_+1) b):GoodC len at_ (t::b):=by
 intro i h
 cases i with
 |zero=>exact ht
 |succ i=>
  have:=hb i (by simpa using h)
  rwa [show at_+1+i=at_+(i+1) by omega] at this
theorem inOk_to{len i:Nat}{o:Int}(ho:o=9∨o=12∨o=13){n:Nat}(h1:i<n)(h2:n≤len):inOk len i (o,(n:Int),[])=true:=by
 have e:isTo o=true:=by rcases ho with rfl|rfl|rfl<;>rfl
 unfold inOk leastO mostO
 simp only[e,if_true]
 rcases ho with rfl|rfl|rfl<;>simp<;>omega
theorem inOk_op{d:Nat}{k n:Int}{nm:List UInt8}{l:List Ex}(h:fine (d+1) (.mk k n nm l)=true)(h9:k≠9)(h10:k≠10)(len i:Nat):inOk len i (opK k,n,nm)=true:=by
 obtain⟨p1,p2,p3,p4,_⟩:=fine_parts h
 have hk:k=1∨k=2∨k=3∨k=4∨k=5∨k=6∨k=7∨k=8∨k=11∨k=12:=by
  unfold argsN at p1
  split at p1
  ·omega
  ·split at p1
   ·omega
   ·split at p1
    ·omega
    ·first|omega|(split at p1<;>omega)
 have hnm:k≠3→nm=[]:=fun e=>by
  cases nm with
  |nil=>rfl
  |cons c t=>exact absurd (p3.1 (by simp)) e
 rcases hk with rfl|rfl|rfl|rfl|rfl|rfl|rfl|rfl|rfl|rfl
 all_goals
  unfold inOk leastO mostO
  simp only[mostN] at p2
  first
   |(rw[hnm (by decide)];simp[opK,isTo] at p2⊢;omega)
   |(simp[opK,isTo,p4] at p2⊢;omega)
theorem cod_good:∀d x,fine d x=true→∀len at_,at_+clen x≤len→GoodC len at_ (cod x at_):=fun d x hx=>by
 have:=fine_ind (P:=fun x=>(∃d,fine d x=true)∧∀len at_,at_+clen x≤len→GoodC len at_ (cod x at_))
  (fun d k n nm l h h9 h10 ih=>⟨⟨_,h⟩,fun len at_ hl=>by
   rw[cod_op h9 h10]
   rw[clen_mk,if_neg h10] at hl
   have hs:∀at_,at_+clens l≤len→GoodC len at_ (cods l at_)∧(cods l at_).length=clens l:=by
    clear h hl
    induction l with
    |nil=>intro p _;rw[cods_nil,clens_nil];exact⟨GoodC.nil _ _,rfl⟩
    |cons x t ih2=>
     intro p hp
     rw[clens_cons] at hp
     obtain⟨⟨d',hd'⟩,g⟩:=ih x (List.mem_cons_self ..)
     obtain⟨g1,g2⟩:=ih2 (fun y hy=>ih y (List.mem_cons_of_mem _ hy)) (p+clen x) (by omega)
     rw[cods_cons,clens_cons,List.length_append,cod_len d' x hd',g2]
     exact⟨(g len p (by omega)).append (by rw[cod_len d' x hd'];exact g1),rfl⟩
   obtain⟨g1,g2⟩:=hs at_ (by omega)
   exact g1.append ((GoodC.nil _ _).cons (inOk_op h h9 h10 _ _))⟩)
  (fun d n nm a b h ha hb=>⟨⟨_,h⟩,fun len at_ hl=>by
   obtain⟨⟨da,fa⟩,ga⟩:=ha
   obtain⟨⟨db,fb⟩,gb⟩:=hb
   rw[clen_mk,clens_cons,clens_cons,clens_nil,if_neg (by decide)] at hl
   rw[cod_else]
   unfold joinE
   refine(ga len at_ (by omega)).append (GoodC.cons (inOk_to (.inl rfl) ?_ ?_) ?_)
   ·rw[cod_len db b fb,cod_len da a fa];omega
   ·rw[cod_len db b fb,cod_len da a fa];omega
   ·rw[cod_len da a fa];exact gb len _ (by omega)⟩)
  (fun d n nm c a b h hc ha hb=>⟨⟨_,h⟩,fun len at_ hl=>by
   obtain⟨⟨dc,fc⟩,gc⟩:=hc
   obtain⟨⟨da,fa⟩,ga⟩:=ha
   obtain⟨⟨db,fb⟩,gb⟩:=hb
   rw[clen_mk,clens_cons,clens_cons,clens_cons,clens_nil,if_pos rfl] at hl
   rw[cod_if]
   unfold joinI
   refine(gc len at_ (by omega)).append (GoodC.cons (inOk_to (.inr (.inl rfl)) ?_ ?_) ?_)
   ·rw[cod_len dc c fc,cod_len da a fa];omega
   ·rw[cod_len dc c fc,cod_len da a fa];omega
   ·rw[cod_len dc c fc]
    refine(ga len _ (by omega)).append (GoodC.cons (inOk_to (.inr (.inr rfl)) ?_ ?_) ?_)
    ·rw[cod_len db b fb,cod_len da a fa];omega
    ·rw[cod_len db b fb,cod_len da a fa];omega
    ·rw[cod_len da a fa]
     have:=gb len (at_+clen c+2+clen a) (by omega)
     rwa [show at_+clen c+1+clen a+1=at_+clen c+2+clen a by omega]⟩)
  d x hx
 exact this.2
theorem right_code{x:Ex}(h:rightX x=true):codeOk (cod x 0)=true∧(cod x 0).length=clen x∧clen x≤4000:=by
 unfold rightX at h
 simp only[Bool.and_eq_true,Bool.not_eq_true',decide_eq_true_eq] at h
 obtain⟨⟨⟨h1,h2⟩,h3⟩,h4⟩:=h
 have hl:=cod_len 32 x h1 0
 have hs:=clen_size x
 have hm:=many_le 10 x
 refine⟨codeOk_iff.2 ⟨by omega,fun i hi=> ?_⟩,hl,by omega⟩
 have:=cod_good 32 x h1 (cod x 0).length 0 (by omega) i hi
 rwa [Nat.zero_add] at this
def numO(o:Int):Bool:=o==1||o==5||o==6||o==9||o==10||o==12||o==13
theorem inOk_parts{len i:Nat}{t:In}(h:inOk len i t=true):(1≤t.1∧t.1≤13)∧0≤t.2.1∧(t.1=4→isName t.2.2=true)∧(t.1≠4→t.2.2=[])∧(numO t.1=false→t.2.1=0):=by
 unfold inOk at h
 simp only[Bool.and_eq_true,decide_eq_true_eq] at h
 obtain⟨⟨h1,h2,h3⟩,h4⟩:=h
 refine⟨h1, ?_,fun e=>by rw[if_pos e] at h4;exact h4,fun e=>by rw[if_neg e] at h4;simpa using h4,fun e=> ?_⟩
 ·have:0≤leastO i t.1:=by unfold leastO;split<;>omega
  omega
 ·have ho:t.1=2∨t.1=3∨t.1=4∨t.1=7∨t.1=8∨t.1=11:=by
   unfold numO at e
   simp only[Bool.or_eq_false_iff,beq_eq_false_iff_ne] at e
   omega
  unfold leastO mostO at*
  rcases ho with e|e|e|e|e|e<;>(rw[e] at h2 h3;simp[isTo] at h2 h3;omega)
end Go.Proofs.YtfekhbeaphpelaaGreatDoor

namespace Go.Proofs.YtfekhbeaphpelaaGreatDoor
open Go.RowKit Go.Lib
def cellsN(t:In):List Value:=[yI t.1,yI t.2.1,.string (B t.2.2)]
def cellsI(l:List In):List Value:=l.flatMap cellsN
theorem cellsI_cons(o:In)(t:List In):cellsI (o::t)=cellsN o++cellsI t:=rfl
theorem cellsI_append(a b:List In):cellsI (a++b)=cellsI a++cellsI b:=by simp[cellsI]
theorem cellsI_len(l:List In):(cellsI l).length=l.length*3:=by
 induction l with
 |nil=>rfl
 |cons e t ih=>rw[cellsI_cons,List.length_append,ih];simp[cellsN];omega
theorem cellsI_at(l:List In)(i:Nat)(h:i<l.length):(cellsI l)[i*3]?=some (yI l[i].1)∧(cellsI l)[i*3+1]?=some (yI l[i].2.1)∧(cellsI l)[i*3+2]?=some (.string (B l[i].2.2)):=by
 induction l generalizing i with
 |nil=>simp at h
 |cons e t ih=>
  rw[cellsI_cons]
  cases i with
  |zero=>exact⟨rfl,rfl,rfl⟩
  |succ i=>
   obtain⟨h1,h2,h3⟩:=ih i (by simpa using h)
   have l2:(cellsN e).length=3:=rfl
   refine⟨?_, ?_, ?_⟩
   ·rw[List.getElem?_append_right (by omega),show(i+1)*3-(cellsN e).length=i*3 by omega];exact h1
   ·rw[List.getElem?_append_right (by omega),show(i+1)*3+1-(cellsN e).length=i*3+1 by omega];exact h2
   ·rw[List.getElem?_append_right (by omega),show(i+1)*3+2-(cellsN e).length=i*3+2 by omega];exact h3
def InsAt(w:World)(A:Option Addr)(l:List In):Prop:=
 ∀i (h:i<l.length),∃(g off:Nat),A=some ⟨g,off,none⟩∧g<w.heap.size∧w.cell? ⟨g,off+i*3,none⟩=some (yI l[i].1)∧w.cell? ⟨g,off+i*3+1,none⟩=some (yI l[i].2.1)∧w.cell? ⟨g,off+i*3+2,none⟩=some (.string (B l[i].2.2))
theorem InsAt.below{w w':World}{A:Option Addr}{l:List In}(h:InsAt w A l)(hb:Below w.heap.size w w'):InsAt w' A l:=by
 intro i hi
 obtain⟨g,off,e,hl,h0,h1,h2⟩:=h i hi
 have hk:∀j,w'.cell? ⟨g,j,none⟩=w.cell? ⟨g,j,none⟩:=fun j=>hb.cell (p:=⟨g,j,none⟩) hl
 exact⟨g,off,e,by have:=hb.size;omega,by rw[hk];exact h0,by rw[hk];exact h1,by rw[hk];exact h2⟩
theorem InsAt.rel{w w':World}{A:Option Addr}{l:List In}(h:InsAt w A l)(hr:Rel w w'):InsAt w' A l:=h.below hr.2
theorem InsAt.of_bk{w:World}{g:Nat}{l:List In}(h:Bk w g 140 (cellsI l).toArray):InsAt w (some ⟨g,0,none⟩) l:=by
 intro i hi
 obtain⟨c0,c1,c2⟩:=cellsI_at l i hi
 refine⟨g,0,rfl,h.lt, ?_, ?_, ?_⟩
 ·rw[Nat.zero_add,h.cell,List.getElem?_toArray];exact c0
 ·rw[Nat.zero_add,h.cell,List.getElem?_toArray];exact c1
 ·rw[Nat.zero_add,h.cell,List.getElem?_toArray];exact c2
def InsFit(l:List In):Prop:=∀o∈l,i64 o.1∧i64 o.2.1∧o.2.2.length≤9223372036854775807
def InsArg(w:World)(A:Option Addr)(c:Nat)(l:List In):Prop:=l.length≤c∧c≤maxLen∧InsFit l∧InsAt w A l
theorem InsArg.rel{w w':World}{A:Option Addr}{c:Nat}{l:List In}(h:InsArg w A c l)(hr:Rel w w'):InsArg w' A c l:=⟨h.1,h.2.1,h.2.2.1,h.2.2.2.rel hr⟩
theorem ins_fit{l:List In}(h:codeOk l=true):InsFit l:=fun o ho=>by
 obtain⟨i,hi,rfl⟩:=List.mem_iff_getElem.1 ho
 have hl:=(codeOk_iff.1 h).1
 have:=(codeOk_iff.1 h).2 i hi
 obtain⟨p1,p2,p3,p4,_⟩:=inOk_parts this
 unfold inOk mostO at this
 simp only[Bool.and_eq_true,decide_eq_true_eq] at this
 have hm:=this.1.2.2
 refine⟨⟨by omega,by omega⟩,⟨by omega, ?_⟩, ?_⟩
 ·split at hm
  ·omega
  ·split at hm
   ·omega
   ·split at hm
    ·omega
    ·split at hm<;>omega
 ·by_cases e:l[i].1=4
  ·have:=(name_parts (p3 e)).2.2.1;omega
  ·rw[p4 e];simp
def InsOwn(w:World)(base:Nat)(v:Value)(l:List In):Prop:=w.ownsRow base 140 3 v l.length (cellsI l)
theorem InsOwn.row{w:World}{base:Nat}{v:Value}{l:List In}(h:InsOwn w base v l):w.ownsRow base 140 3 v l.length (cellsI l):=h
theorem InsOwn.nil(w:World)(base:Nat):InsOwn w base (.slice none 0 0) []:=World.ownsRow_nil _ _ _ _
theorem InsOwn.rel{w w':World}{base:Nat}{v:Value}{l:List In}(h:InsOwn w base v l)(hr:Rel w w'):InsOwn w' base v l:=own_rel h hr
theorem InsOwn.at{w:World}{base:Nat}{A:Option Addr}{n c:Nat}{l:List In}(h:InsOwn w base (.slice A n c) l)(hn:n=l.length):InsAt w A l:=by
 intro i hi
 have h:w.ownsRow base 140 3 (.slice A n c) l.length (cellsI l):=h
 rcases h.2 with ⟨h0,h1⟩|⟨g,cap,cur,hv,hb,hh,_⟩
 ·omega
 ·have hA:A=some ⟨g,0,none⟩:=by injection hv
  obtain⟨c0,c1,c2⟩:=cellsI_at l i hi
  have hc:=h.cells (g:=g) (by rw[hA];rfl)
  have q0:=hc _ _ c0
  have q1:=hc _ _ c1
  have q2:=hc _ _ c2
  rw[addr_at] at q0 q1 q2
  refine⟨g,0,hA,Bk.lt (t:=140) hh, ?_, ?_, ?_⟩
  ·exact q0
  ·rw[Nat.add_assoc];exact q1
  ·rw[Nat.add_assoc];exact q2
theorem ins_info:(Tryz.prog.info? 140).map (fun i=>(i.zero,i.size,i.bytes))=some (some (.agg #[yI 0,yI 0,.string ⟨#[]⟩]),3,32):=by kernel_rfl
theorem cellsN_one(o:In):∀u∈cellsN o,u.oneCell'=true:=by
 intro u hu
 simp only[cellsN,List.mem_cons,List.not_mem_nil,or_false] at hu
 rcases hu with rfl|rfl|rfl<;>rfl
theorem cellsI_one(l:List In):∀u∈cellsI l,u.oneCell'=true:=by
 intro u hu
 obtain⟨o,_,h⟩:=List.mem_flatMap.1 hu
 exact cellsN_one o u h
theorem InsOwn.slice_of{w:World}{base:Nat}{v:Value}{l:List In}(h:InsOwn w base v l):∃A c,v= .slice A l.length c:=by
 obtain⟨A,c,e,_⟩:=own_slice h.row
 exact⟨A,c,e⟩
theorem InsOwn.form{w:World}{base:Nat}{A:Option Addr}{c:Nat}{l:List In}(h:InsOwn w base (.slice A l.length c) l):(A=none∧c=0∧l=[])∨∃g,A=some ⟨g,0,none⟩∧base≤g∧g<w.heap.size:=by
 rcases h.2 with ⟨h0,h1⟩|⟨g,cap,cur,hv,hb,hh,_⟩
 ·injection h0 with e1 e2 e3
  exact .inl ⟨e1,e3,List.length_eq_zero_iff.1 h1⟩
 ·injection hv with e1 e2 e3
  exact .inr ⟨g,e1,hb,Bk.lt (t:=140) hh⟩
theorem InsOwn.cap{w:World}{base:Nat}{A:Option Addr}{c:Nat}{l:List In}(h:InsOwn w base (.slice A l.length c) l):l.length≤c∧c≤maxLen:=by
 rcases h.2 with ⟨h0,h1⟩|⟨g,cap,cur,hv,hb,hh,h3,h4,_⟩
 ·injection h0 with e1 e2 e3
  omega
 ·injection hv with e1 e2 e3
  subst e3
  exact⟨h3,h4⟩
theorem InsOwn.arg{w:World}{base:Nat}{A:Option Addr}{c:Nat}{l:List In}(h:InsOwn w base (.slice A l.length c) l)(hf:InsFit l):InsArg w A c l:=⟨h.cap.1,h.cap.2,hf,h.at rfl⟩
theorem ins_news{w:World}{g off:Nat}{l:List In}(h:InsAt w (some ⟨g,off,none⟩) l):∀j u,(cellsI l)[j]?=some u→w.cell? ((⟨g,off,none⟩:Addr).add j)=some u:=by
 intro j u hu
 have hj:j<(cellsI l).length:=(List.getElem?_eq_some_iff.1 hu).1
 rw[cellsI_len] at hj
 have hi:j/3<l.length:=by omega
 obtain⟨g',off',e,_,h0,h1,h2⟩:=h (j/3) hi
 injection e with e;injection e with e1 e2;subst e1;subst e2
 obtain⟨c0,c1,c2⟩:=cellsI_at l (j/3) hi
 rw[addr_at]
 have hm:j%3=0∨j%3=1∨j%3=2:=by omega
 rcases hm with e|e|e
 ·have ej:j=j/3*3:=by omega
  rw[ej] at hu⊢
  rw[c0] at hu
  rw[←hu];exact h0
 ·have ej:j=j/3*3+1:=by omega
  rw[ej] at hu⊢
  rw[c1] at hu
  rw[←hu,←Nat.add_assoc];exact h1
 ·have ej:j=j/3*3+2:=by omega
  rw[ej] at hu⊢
  rw[c2] at hu
  rw[←hu,←Nat.add_assoc];exact h2
theorem iapp_run{w:World}{base:Nat}{v:Value}{os:List In}(hown:InsOwn w base v os){A:Option Addr}{c:Nat}{l:List In}(hA:A=none→c=0)(h:InsAt w A l)(h1:l.length≤100000)(h2:os.length≤100000)(hb:base≤w.heap.size)(ty:TypeId):
  ∃v' w',(Builtin.append_ #[83,83] ty #[v,.slice A l.length c]).run Tryz.prog w= .ok v' w'∧InsOwn w' base v' (os++l)∧w.grownBy w' v.ownBlock∧(v'.ownBlock=v.ownBlock∨v'.ownBlock=some w.heap.size):=by
 obtain⟨i0,hi0,hz0,hz1,hz2⟩:=info_parts ins_info
 cases A with
 |none=>
  obtain rfl:=hA rfl
  have hl:l=[]:=by
   cases l with
   |nil=>rfl
   |cons o t=>obtain⟨_,_,e,_⟩:=h 0 (by simp);cases e
  subst hl
  refine⟨v,w,run_append_owned_none (P:=Tryz.prog) w base _ ty 140 i0 3 Tryz.underlying83 hi0 v os.length (cellsI os) hown, ?_,⟨rfl,rfl,rfl,Nat.le_refl _,fun _ _ _=>rfl⟩,.inl rfl⟩
  rw[List.append_nil];exact hown
 |some a=>
  have hnews:∀j u,(cellsI l)[j]?=some u→w.cell? (a.add j)=some u:=by
   cases l with
   |nil=>intro j u hu;simp[cellsI] at hu
   |cons o t=>
    obtain⟨g,off,e,_⟩:=h 0 (by simp)
    injection e with e;subst e
    exact ins_news h
  obtain⟨v',w',hr,g1,g2,_,g4⟩:=run_append_own_at (P:=Tryz.prog) w base 83 ty 140 i0 (.agg #[yI 0,yI 0,.string ⟨#[]⟩]) 3 32 Tryz.underlying83 hi0 hz0 hz1 hz2 rfl (by decide) v os.length (cellsI os) hown a l.length c (cellsI l) (cellsI_len l) hnews (cellsI_one l) (by unfold maxLen;omega) (by omega) hb
  refine⟨v',w',hr, ?_,g2,g4⟩
  unfold InsOwn
  rw[cellsI_append,List.length_append];exact g1
theorem wp_iapp{w:World}{o:Oper}{a:Act}{K:Act→World→Prop}{Q:Exit→Act→World→Prop}(s x:Operand)(ho:o.op= .call {callee:= .builtin .append,args:= #[s,x],argTypes:= #[83,83]})
  {base:Nat} {v:Value} {os:List In} (hs:a.eval s=v) (hown:InsOwn w base v os) {A:Option Addr} {c n:Nat} {l:List In} (hx:a.eval x= .slice A n c) (hn:l.length=n) (hA:A=none→c=0) (h:InsAt w A l) (h1:l.length≤100000) (h2:os.length≤100000) (hb:base≤w.heap.size)
  (hk:∀v' w',InsOwn w' base v' (os++l)→w.grownBy w' v.ownBlock→(v'.ownBlock=v.ownBlock∨v'.ownBlock=some w.heap.size)→K (a.put o.dst v') w'):Oper.wp Tryz.prog o a w K Q:=by
 subst hn
 obtain⟨v',w',hr,g1,g2,g3⟩:=iapp_run hown hA h h1 h2 hb o.type
 unfold Oper.wp execOp
 simp only[ho,resolve,invoke,builtin,Sem.run_bind,Sem.run_pure,Result.andThen_ok,List.map_toArray,List.map_cons,List.map_nil,hs,hx,hr]
 exact hk v' w' g1 g2 g3
end Go.Proofs.YtfekhbeaphpelaaGreatDoor

namespace Go.Proofs.YtfekhbeaphpelaaGreatDoor
open Go.RowKit Go.Lib
open Go.Maps (Keyed IsMap)
def HeldV(v:Value):Option (DataW Value×List MemPlace):=some (.held v,[])
def look(l:List (Int×Value))(k:Int):Option Value:=match l with
 |[]=>none
 |(j,v)::t=>if k=j then some v else look t k
theorem look_cons(j:Int)(v:Value)(t:List (Int×Value))(k:Int):look ((j,v)::t) k=if k=j then some v else look t k:=rfl
def MapIs(w:World)(b:Nat)(l:List (Int×Value)):Prop:=
 ∃D:DataW Value,w.ownsMap Tryz.prog 3 HeldV b l.length D∧∀k:Int,Maps.has D (.int .i64 k)=(look l k).isSome∧∀z,D.atKey (.int .i64 k) z=match look l k with|some v=> .held v|none=>z
theorem int_key:Keyed Tryz.prog 3:=Maps.int_keyed Tryz.underlying3
theorem MapIs.made(w:World):MapIs (w.alloc (.map #[] 0)) w.heap.size []:=
 ⟨_,World.ownsMap_made _ _ _ _,fun _=>⟨rfl,fun _=>rfl⟩⟩
theorem MapIs.grown{w w':World}{b:Nat}{l:List (Int×Value)}(h:MapIs w b l){row:Option Nat}(hg:w.grownBy w' row)(hne:some b≠row):MapIs w' b l:=by
 obtain⟨D,h,h2⟩:=h
 exact⟨D,h.kept hg hne,h2⟩
theorem MapIs.rel{w w':World}{b:Nat}{l:List (Int×Value)}(h:MapIs w b l)(hr:Rel w w'):MapIs w' b l:=
 h.grown (row:=none) ⟨hr.2.os,hr.2.tape,hr.2.output,hr.2.size,fun k hk _=>hr.2.block k hk⟩ (by simp)
theorem MapIs.alloc{w:World}{b:Nat}{l:List (Int×Value)}(h:MapIs w b l)(o:Obj):MapIs (w.alloc o) b l:=h.grown (World.grownBy_alloc w o none) (by simp)
theorem MapIs.set{w:World}{b:Nat}{l:List (Int×Value)}(h:MapIs w b l){p:Addr}(hp:b≠p.block)(u:Value):MapIs (w.setCell p u) b l:=by
 obtain⟨D,h,h2⟩:=h
 exact⟨D,h.setCell hp u,h2⟩
theorem MapIs.block{w:World}{b:Nat}{l:List (Int×Value)}(h:MapIs w b l):∃es clock,w.heap[b]?=some (.map es clock):=by
 obtain⟨D,⟨es,clock,hb,_⟩,_⟩:=h
 exact⟨es,clock,hb⟩
theorem MapIs.ne{w:World}{b g:Nat}{l:List (Int×Value)}{t:TypeId}{cs:Array Value}(h:MapIs w b l)(hb:Bk w g t cs):b≠g:=by
 obtain⟨es,clock,hm⟩:=h.block
 rintro rfl
 unfold Bk at hb
 rw[hb] at hm;cases hm
theorem key_lit(k:Int):WideAt.IsKeyLit (.int .i64 k):=by simp[WideAt.IsKeyLit]
theorem MapIs.put{w:World}{b:Nat}{l:List (Int×Value)}(h:MapIs w b l)(t e:TypeId)(ht:Tryz.prog.underlying t=some (.map 3 e))(hn:l.length<maxLen)(k:Int)(hk:(Lit.int .i64 k).wf=true)(v:Value):
  ∃w',(Instr.mapUpdate t (.map (some b)) (.int .i64 k) v).run Tryz.prog w= .ok () w'∧MapIs w' b ((k,v)::l)∧w.grownBy w' (some b):=by
 obtain⟨D,h,h2⟩:=h
 obtain⟨w',h3,h4,h5⟩:=h.update (e:=e) (d:= .held v) (ps:=[]) int_key ht hn (Maps.keyOf_int_mk Tryz.underlying3 hk) rfl
 refine⟨w',h3,⟨_,h4,fun j=> ?_⟩,h5⟩
 rw[look_cons]
 by_cases e:j=k
 ·subst e
  rw[if_pos rfl]
  exact⟨by rw[Maps.has_put_same h.isMap (key_lit _)];rfl,fun z=>Maps.atKey_put_same h.isMap (key_lit _) _ _⟩
 ·rw[if_neg e]
  have hne:(Lit.int .i64 j)≠ .int .i64 k:=fun h=>e (by injection h)
  exact⟨by rw[Maps.has_put_other hne];exact(h2 j).1,fun z=>by rw[Maps.atKey_put_other hne];exact(h2 j).2 z⟩
theorem MapIs.look{w:World}{b:Nat}{l:List (Int×Value)}(h:MapIs w b l)(t e:TypeId)(ht:Tryz.prog.underlying t=some (.map 3 e))(z:Value)(hz:(zeroValue e).run Tryz.prog w= .ok z w)(k:Int)(hk:(Lit.int .i64 k).wf=true):
  (Instr.lookup t (.map (some b)) (.int .i64 k) false).run Tryz.prog w= .ok ((look l k).getD z) w:=by
 obtain⟨D,h,h2⟩:=h
 obtain⟨v,ps,h3,h4⟩:=h.lookup (zd:= .held z) (zp:=[]) int_key ht hz rfl (Maps.keyOf_int_mk Tryz.underlying3 hk)
 rw[h3]
 rw[(h2 k).2] at h4
 unfold HeldV at h4
 cases hl:Go.Proofs.YtfekhbeaphpelaaGreatDoor.look l k with
 |none=>rw[hl] at h4;have h5:=congrArg Prod.fst (Option.some.inj h4);rw[DataW.held.inj h5];rfl
 |some u=>rw[hl] at h4;have h5:=congrArg Prod.fst (Option.some.inj h4);rw[DataW.held.inj h5];rfl
theorem MapIs.look_ok{w:World}{b:Nat}{l:List (Int×Value)}(h:MapIs w b l)(t e:TypeId)(ht:Tryz.prog.underlying t=some (.map 3 e))(z:Value)(hz:(zeroValue e).run Tryz.prog w= .ok z w)(k:Int)(hk:(Lit.int .i64 k).wf=true):
  (Instr.lookup t (.map (some b)) (.int .i64 k) true).run Tryz.prog w= .ok (.tuple #[(Go.Proofs.YtfekhbeaphpelaaGreatDoor.look l k).getD z,.bool (Go.Proofs.YtfekhbeaphpelaaGreatDoor.look l k).isSome]) w:=by
 obtain⟨D,h,h2⟩:=h
 obtain⟨v,ps,h3,h4⟩:=h.look_ok (zd:= .held z) (zp:=[]) int_key ht hz rfl (Maps.keyOf_int_mk Tryz.underlying3 hk)
 rw[h3,(h2 k).1]
 rw[(h2 k).2] at h4
 unfold HeldV at h4
 cases hl:Go.Proofs.YtfekhbeaphpelaaGreatDoor.look l k with
 |none=>rw[hl] at h4;have h5:=congrArg Prod.fst (Option.some.inj h4);rw[DataW.held.inj h5];rfl
 |some u=>rw[hl] at h4;have h5:=congrArg Prod.fst (Option.some.inj h4);rw[DataW.held.inj h5];rfl
theorem wp_entry(w:World){ops:Array Oper}{rest:List Oper}{o:Oper}{a:Act}{Q:Exit→Act→World→Prop}
  (hg:o.guard=none) (m x v:Operand) (t:TypeId) (hop:o.op=Op.insert t m x v) (e:TypeId) (ht:Tryz.prog.underlying t=some (.map 3 e)) (b:Nat) (l:List (Int×Value))
  (hm:a.eval m= .map (some b)) (hown:MapIs w b l) (hn:l.length<maxLen) (k:Int) (val:Value) (hx:a.eval x= .int .i64 k) (hwk:(Lit.int .i64 k).wf=true) (hv:a.eval v=val)
  (hK:∀w',MapIs w' b ((k,val)::l)→w.grownBy w' (some b)→wpList Tryz.prog ops Q rest (a.put o.dst undef) w'):
  wpList Tryz.prog ops Q (o::rest) a w:=by
 refine wpList_plain hg fun K' hK'=> ?_
 obtain⟨w',hrun,r1,r2⟩:=hown.put t e ht hn k hwk val
 unfold Oper.wp
 simp[execOp,hop,hm,hx,hv,hrun,Result.andThen]
 exact hK' _ _ (hK w' r1 r2)
def kindsL:List (Int×Value):=[(12,.int .i64 11),(11,.int .i64 10),(8,.int .i64 8),(7,.int .i64 7),(6,.int .i64 6),(5,.int .i64 5),(4,.int .i64 1),(3,.int .i64 4),(2,.int .i64 3),(1,.int .i64 2)]
def opsL:List (Int×Value):=[(13,.agg #[.string ⟨#[106,117,109,112]⟩,.int .i64 2,.int .i64 0]),(12,.agg #[.string ⟨#[117,110,108,101,115,115]⟩,.int .i64 2,.int .i64 0]),(11,.agg #[.string ⟨#[97,98,111,118,101]⟩,.int .i64 0,.int .i64 0]),(10,.agg #[.string ⟨#[109,111,114,101]⟩,.int .i64 1,.int .i64 1000]),(9,.agg #[.string ⟨#[101,108,115,101]⟩,.int .i64 2,.int .i64 0]),(8,.agg #[.string ⟨#[109,97,120]⟩,.int .i64 0,.int .i64 0]),(7,.agg #[.string ⟨#[109,105,110]⟩,.int .i64 0,.int .i64 0]),(6,.agg #[.string ⟨#[99,117,116]⟩,.int .i64 1,.int .i64 100000]),(5,.agg #[.string ⟨#[108,101,115,115]⟩,.int .i64 1,.int .i64 1000000000000]),(4,.agg #[.string ⟨#[102,114,111,109]⟩,.int .i64 3,.int .i64 0]),(3,.agg #[.string ⟨#[115,101,99,111,110,100]⟩,.int .i64 0,.int .i64 0]),(2,.agg #[.string ⟨#[108,111,119,101,115,116]⟩,.int .i64 0,.int .i64 0]),(1,.agg #[.string ⟨#[112,117,115,104]⟩,.int .i64 1,.int .i64 1000000000000])]
theorem kinds_any(w0 w:World)(hr:Rel w0 w):
  Calls Tryz.prog 64 #[] w fun r w'=>∃b,r= .returned (.map (some b))∧w.heap.size≤b∧MapIs w' b kindsL∧Rel w w'∧Rel w0 w':=by
 have hmm:= @run_makeMap Tryz.prog
 have m0:=MapIs.made w
 have hw:w.heap.size≤w.heap.size:=Nat.le_refl _
 have r0:=hr.self.alloc (.map #[] 0)
 go_enter Tryz.func64,Tryz.ntmps64
 go_wp2_with (first
  |(refine wp_entry _ rfl _ _ _ 99 rfl 3 Tryz.underlying99 _ _ rfl m0 (by decide) 1 (.int .i64 2) rfl (by decide) rfl ?_;intro w1 m1 g1;have r1:=Rel.grown r0 g1 (fun k hk=>by injection hk with hk;rw[←hk];exact hw);clear m0 g1 r0)
  |(refine wp_entry _ rfl _ _ _ 99 rfl 3 Tryz.underlying99 _ _ rfl m1 (by decide) 2 (.int .i64 3) rfl (by decide) rfl ?_;intro w2 m2 g2;have r2:=Rel.grown r1 g2 (fun k hk=>by injection hk with hk;rw[←hk];exact hw);clear m1 g2 r1)
  |(refine wp_entry _ rfl _ _ _ 99 rfl 3 Tryz.underlying99 _ _ rfl m2 (by decide) 3 (.int .i64 4) rfl (by decide) rfl ?_;intro w3 m3 g3;have r3:=Rel.grown r2 g3 (fun k hk=>by injection hk with hk;rw[←hk];exact hw);clear m2 g3 r2)
  |(refine wp_entry _ rfl _ _ _ 99 rfl 3 Tryz.underlying99 _ _ rfl m3 (by decide) 4 (.int .i64 1) rfl (by decide) rfl ?_;intro w4 m4 g4;have r4:=Rel.grown r3 g4 (fun k hk=>by injection hk with hk;rw[←hk];exact hw);clear m3 g4 r3)
  |(refine wp_entry _ rfl _ _ _ 99 rfl 3 Tryz.underlying99 _ _ rfl m4 (by decide) 5 (.int .i64 5) rfl (by decide) rfl ?_;intro w5 m5 g5;have r5:=Rel.grown r4 g5 (fun k hk=>by injection hk with hk;rw[←hk];exact hw);clear m4 g5 r4)
  |(refine wp_entry _ rfl _ _ _ 99 rfl 3 Tryz.underlying99 _ _ rfl m5 (by decide) 6 (.int .i64 6) rfl (by decide) rfl ?_;intro w6 m6 g6;have r6:=Rel.grown r5 g6 (fun k hk=>by injection hk with hk;rw[←hk];exact hw);clear m5 g6 r5)
  |(refine wp_entry _ rfl _ _ _ 99 rfl 3 Tryz.underlying99 _ _ rfl m6 (by decide) 7 (.int .i64 7) rfl (by decide) rfl ?_;intro w7 m7 g7;have r7:=Rel.grown r6 g7 (fun k hk=>by injection hk with hk;rw[←hk];exact hw);clear m6 g7 r6)
  |(refine wp_entry _ rfl _ _ _ 99 rfl 3 Tryz.underlying99 _ _ rfl m7 (by decide) 8 (.int .i64 8) rfl (by decide) rfl ?_;intro w8 m8 g8;have r8:=Rel.grown r7 g8 (fun k hk=>by injection hk with hk;rw[←hk];exact hw);clear m7 g8 r7)
  |(refine wp_entry _ rfl _ _ _ 99 rfl 3 Tryz.underlying99 _ _ rfl m8 (by decide) 11 (.int .i64 10) rfl (by decide) rfl ?_;intro w9 m9 g9;have r9:=Rel.grown r8 g9 (fun k hk=>by injection hk with hk;rw[←hk];exact hw);clear m8 g9 r8)
  |(refine wp_entry _ rfl _ _ _ 99 rfl 3 Tryz.underlying99 _ _ rfl m9 (by decide) 12 (.int .i64 11) rfl (by decide) rfl ?_;intro w10 m10 g10;have r10:=Rel.grown r9 g10 (fun k hk=>by injection hk with hk;rw[←hk];exact hw);clear m9 g10 r9))
 go_ret
 exact⟨_,rfl,hw,m10,r10,hr.trans r10⟩
theorem operations_any(w0 w:World)(hr:Rel w0 w):
  Calls Tryz.prog 114 #[] w fun r w'=>∃b,r= .returned (.map (some b))∧w.heap.size≤b∧MapIs w' b opsL∧Rel w w'∧Rel w0 w':=by
 have hmm:= @run_makeMap Tryz.prog
 have m0:=MapIs.made w
 have hw:w.heap.size≤w.heap.size:=Nat.le_refl _
 have r0:=hr.self.alloc (.map #[] 0)
 go_enter Tryz.func114,Tryz.ntmps114
 go_wp2_with (first
  |(refine wp_entry _ rfl _ _ _ 163 rfl 166 Tryz.underlying163 _ _ rfl m0 (by decide) 1 (.agg #[.string ⟨#[112,117,115,104]⟩,.int .i64 1,.int .i64 1000000000000]) rfl (by decide) rfl ?_;intro w1 m1 g1;have r1:=Rel.grown r0 g1 (fun k hk=>by injection hk with hk;rw[←hk];exact hw);clear m0 g1 r0)
  |(refine wp_entry _ rfl _ _ _ 163 rfl 166 Tryz.underlying163 _ _ rfl m1 (by decide) 2 (.agg #[.string ⟨#[108,111,119,101,115,116]⟩,.int .i64 0,.int .i64 0]) rfl (by decide) rfl ?_;intro w2 m2 g2;have r2:=Rel.grown r1 g2 (fun k hk=>by injection hk with hk;rw[←hk];exact hw);clear m1 g2 r1)
  |(refine wp_entry _ rfl _ _ _ 163 rfl 166 Tryz.underlying163 _ _ rfl m2 (by decide) 3 (.agg #[.string ⟨#[115,101,99,111,110,100]⟩,.int .i64 0,.int .i64 0]) rfl (by decide) rfl ?_;intro w3 m3 g3;have r3:=Rel.grown r2 g3 (fun k hk=>by injection hk with hk;rw[←hk];exact hw);clear m2 g3 r2)
  |(refine wp_entry _ rfl _ _ _ 163 rfl 166 Tryz.underlying163 _ _ rfl m3 (by decide) 4 (.agg #[.string ⟨#[102,114,111,109]⟩,.int .i64 3,.int .i64 0]) rfl (by decide) rfl ?_;intro w4 m4 g4;have r4:=Rel.grown r3 g4 (fun k hk=>by injection hk with hk;rw[←hk];exact hw);clear m3 g4 r3)
  |(refine wp_entry _ rfl _ _ _ 163 rfl 166 Tryz.underlying163 _ _ rfl m4 (by decide) 5 (.agg #[.string ⟨#[108,101,115,115]⟩,.int .i64 1,.int .i64 1000000000000]) rfl (by decide) rfl ?_;intro w5 m5 g5;have r5:=Rel.grown r4 g5 (fun k hk=>by injection hk with hk;rw[←hk];exact hw);clear m4 g5 r4)
  |(refine wp_entry _ rfl _ _ _ 163 rfl 166 Tryz.underlying163 _ _ rfl m5 (by decide) 6 (.agg #[.string ⟨#[99,117,116]⟩,.int .i64 1,.int .i64 100000]) rfl (by decide) rfl ?_;intro w6 m6 g6;have r6:=Rel.grown r5 g6 (fun k hk=>by injection hk with hk;rw[←hk];exact hw);clear m5 g6 r5)
  |(refine wp_entry _ rfl _ _ _ 163 rfl 166 Tryz.underlying163 _ _ rfl m6 (by decide) 7 (.agg #[.string ⟨#[109,105,110]⟩,.int .i64 0,.int .i64 0]) rfl (by decide) rfl ?_;intro w7 m7 g7;have r7:=Rel.grown r6 g7 (fun k hk=>by injection hk with hk;rw[←hk];exact hw);clear m6 g7 r6)
  |(refine wp_entry _ rfl _ _ _ 163 rfl 166 Tryz.underlying163 _ _ rfl m7 (by decide) 8 (.agg #[.string ⟨#[109,97,120]⟩,.int .i64 0,.int .i64 0]) rfl (by decide) rfl ?_;intro w8 m8 g8;have r8:=Rel.grown r7 g8 (fun k hk=>by injection hk with hk;rw[←hk];exact hw);clear m7 g8 r7)
  |(refine wp_entry _ rfl _ _ _ 163 rfl 166 Tryz.underlying163 _ _ rfl m8 (by decide) 9 (.agg #[.string ⟨#[101,108,115,101]⟩,.int .i64 2,.int .i64 0]) rfl (by decide) rfl ?_;intro w9 m9 g9;have r9:=Rel.grown r8 g9 (fun k hk=>by injection hk with hk;rw[←hk];exact hw);clear m8 g9 r8)
  |(refine wp_entry _ rfl _ _ _ 163 rfl 166 Tryz.underlying163 _ _ rfl m9 (by decide) 10 (.agg #[.string ⟨#[109,111,114,101]⟩,.int .i64 1,.int .i64 1000]) rfl (by decide) rfl ?_;intro w10 m10 g10;have r10:=Rel.grown r9 g10 (fun k hk=>by injection hk with hk;rw[←hk];exact hw);clear m9 g10 r9)
  |(refine wp_entry _ rfl _ _ _ 163 rfl 166 Tryz.underlying163 _ _ rfl m10 (by decide) 11 (.agg #[.string ⟨#[97,98,111,118,101]⟩,.int .i64 0,.int .i64 0]) rfl (by decide) rfl ?_;intro w11 m11 g11;have r11:=Rel.grown r10 g11 (fun k hk=>by injection hk with hk;rw[←hk];exact hw);clear m10 g11 r10)
  |(refine wp_entry _ rfl _ _ _ 163 rfl 166 Tryz.underlying163 _ _ rfl m11 (by decide) 12 (.agg #[.string ⟨#[117,110,108,101,115,115]⟩,.int .i64 2,.int .i64 0]) rfl (by decide) rfl ?_;intro w12 m12 g12;have r12:=Rel.grown r11 g12 (fun k hk=>by injection hk with hk;rw[←hk];exact hw);clear m11 g12 r11)
  |(refine wp_entry _ rfl _ _ _ 163 rfl 166 Tryz.underlying163 _ _ rfl m12 (by decide) 13 (.agg #[.string ⟨#[106,117,109,112]⟩,.int .i64 2,.int .i64 0]) rfl (by decide) rfl ?_;intro w13 m13 g13;have r13:=Rel.grown r12 g13 (fun k hk=>by injection hk with hk;rw[←hk];exact hw);clear m12 g13 r12))
 go_ret
 exact⟨_,rfl,hw,m13,r13,hr.trans r13⟩
end Go.Proofs.YtfekhbeaphpelaaGreatDoor

namespace Go.Proofs.YtfekhbeaphpelaaGreatDoor
open Go.RowKit Go.Lib
def Cm(w:World)(C b m:Nat)(l:List In):Prop:=C≤b∧∃A c,Bk w b 102 #[.map (some m),.slice A l.length c]∧InsOwn w C (.slice A l.length c) l∧MapIs w m kindsL
def Kq(b:Nat)(w w':World):Prop:=Lib.OthersKept 140 (some b) w w'
theorem Kq.refl(b:Nat)(w:World):Kq b w w:=Lib.OthersKept.refl _ _ w
theorem Kq.trans{b:Nat}{w w' w'':World}(h:Kq b w w')(h':Kq b w' w''):Kq b w w'':=Lib.OthersKept.trans h h'
theorem Kq.alloc{b:Nat}{w w':World}(h:Kq b w w')(o:Obj):Kq b w (w'.alloc o):=Lib.OthersKept.alloc h o
theorem Kq.bk{b:Nat}{w w':World}(h:Kq b w w'){g:Nat}{t:TypeId}{cs:Array Value}(hb:Bk w g t cs)(hne:g≠b)(ht:t≠140):Bk w' g t cs:=
 h g _ hb (fun e=>hne (by injection e)) (fun c fz e=>ht (by injection e))
theorem Kq.rel{b:Nat}{w w':World}(hr:Rel w w'):Kq b w w':=fun k o hk _ _=>(hr.2.block k (by
 rcases Nat.lt_or_ge k w.heap.size with h|h
 ·exact h
 ·rw[Array.getElem?_eq_none h] at hk;cases hk)).trans hk
theorem Kq.set{b:Nat}{w w':World}(h:Kq b w w'){p:Addr}(hp:p.block=b)(u:Value):Kq b w (w'.setCell p u):=Lib.OthersKept.setCell h p hp u
theorem Kq.row{b:Nat}{w:World}{base:Nat}{v:Value}{l:List In}(h:InsOwn w base v l){w':World}(hg:w.grownBy w' v.ownBlock):Kq b w w':=fun k o hk hb ho=>by
 refine(hg.block k ?_ ?_).trans hk
 ·rcases Nat.lt_or_ge k w.heap.size with h|h
  ·exact h
  ·rw[Array.getElem?_eq_none h] at hk;cases hk
 ·intro e
  rcases h.2 with ⟨rfl,_⟩|⟨g,cap,cur,rfl,_,hh,_⟩
  ·cases e
  ·have:k=g:=by simpa [Value.ownBlock] using e
   subst this
   rw[hh] at hk
   injection hk with hk
   exact ho _ _ hk.symm
theorem three_of{w:World}{g:Nat}{t:TypeId}{x y z:Value}(h:Bk w g t #[x,y,z]):
  (w.cell? ⟨g,0,none⟩=some x∧w.cell? ⟨g,1,none⟩=some y∧w.cell? ⟨g,2,none⟩=some z)∧(w.frozen? ⟨g,0,none⟩=false∧w.frozen? ⟨g,1,none⟩=false∧w.frozen? ⟨g,2,none⟩=false):=
 ⟨⟨h.cell 0,h.cell 1,h.cell 2⟩,⟨h.frozen 0,h.frozen 1,h.frozen 2⟩⟩
theorem InsOwn.last{w:World}{base:Nat}{v:Value}{l:List In}{o:In}(h:InsOwn w base v (l++[o])):∃g c,v= .slice (some ⟨g,0,none⟩) (l.length+1) c∧base≤g:=by
 obtain⟨A,c,rfl⟩:=h.slice_of
 rcases h.form with ⟨_,_,e⟩|⟨g,rfl,hg,_⟩
 ·simp at e
 ·exact⟨g,c,by rw[show(l++[o]).length=l.length+1 by simp],hg⟩
theorem cmp_ne:(140:TypeId)≠102:=by decide
theorem Cm.lt{w:World}{C b m:Nat}{l:List In}(h:Cm w C b m l):b<w.heap.size:=by obtain⟨_,A,c,h,_⟩:=h;exact h.lt
theorem Cm.map{w:World}{C b m:Nat}{l:List In}(h:Cm w C b m l):MapIs w m kindsL:=by obtain⟨_,A,c,_,_,h⟩:=h;exact h
theorem Cm.rel{w w':World}{C b m:Nat}{l:List In}(h:Cm w C b m l)(hr:Rel w w'):Cm w' C b m l:=by
 obtain⟨hC,A,c,h1,h2,h3⟩:=h
 exact⟨hC,A,c,h1.rel hr,h2.rel hr,h3.rel hr⟩
theorem Cm.cells{w:World}{C b m:Nat}{l:List In}(h:Cm w C b m l):∃A c,w.cell? ⟨b,0,none⟩=some (.map (some m))∧w.cell? ⟨b,1,none⟩=some (.slice A l.length c)∧w.frozen? ⟨b,1,none⟩=false:=by
 obtain⟨hC,A,c,h1,h2,h3⟩:=h
 exact⟨A,c,by rw[h1.cell];rfl,by rw[h1.cell];rfl,h1.frozen 1⟩
theorem Cm.put{w w':World}{C b m g c c':Nat}{A:Option Addr}{l:List In}{o:In}(hC:C≤b)(hb:Bk w b 102 #[.map (some m),.slice A l.length c])(ho:InsOwn w C (.slice A l.length c) l)(hm:MapIs w m kindsL)
  (hw:w.grownBy w' (Value.slice A l.length c).ownBlock) (hown:InsOwn w' C (.slice (some ⟨g,0,none⟩) (l.length+1) c') (l++[o])):Cm (w'.setCell ⟨b,1,none⟩ (.slice (some ⟨g,0,none⟩) (l.length+1) c')) C b m (l++[o]):=by
 have hb':Bk w' b 102 #[.map (some m),.slice A l.length c]:=hb.grown hw (own_ne ho.row hb cmp_ne)
 have hmb:m≠b:=hm.ne hb
 have hm':MapIs w' m kindsL:=hm.grown hw (by
  intro e
  rcases ho.2 with ⟨h0,_⟩|⟨g,cap,cur,hv,_,hh,_⟩
  ·injection h0 with h0;subst h0;cases e
  ·rw[hv] at e
   have:m=g:=by simpa [Value.ownBlock] using e
   exact hm.ne (t:=140) hh this)
 have hs:=hb'.set_ 1 (.slice (some ⟨g,0,none⟩) (l.length+1) c')
 refine⟨hC,some ⟨g,0,none⟩,c', ?_, ?_,hm'.set (fun e=>hmb e) _⟩
 ·rw[show(l++[o]).length=l.length+1 by simp];exact hs
 ·rw[show(l++[o]).length=l.length+1 by simp]
  exact own_set hown.row (own_ne hown.row hb' cmp_ne) _
theorem put_rel{w0 w w':World}{b L c:Nat}{u:Value}{A:Option Addr}{l:List In}(hC:w0.heap.size≤b)(ho:InsOwn w w0.heap.size (.slice A L c) l)(hr:Rel w0 w)(hg:w.grownBy w' (Value.slice A L c).ownBlock):Rel w0 (w'.setCell ⟨b,1,none⟩ u):=
 (hr.grown hg (fun k hk=>(ho.row.lt k hk).1)).setCell (p:=⟨b,1,none⟩) hC _
theorem put_kq{w0 w w':World}{base b L c:Nat}{u:Value}{A:Option Addr}{l:List In}(ho:InsOwn w base (.slice A L c) l)(hk:Kq b w0 w)(hg:w.grownBy w' (Value.slice A L c).ownBlock):Kq b w0 (w'.setCell ⟨b,1,none⟩ u):=
 (hk.trans (Kq.row ho hg)).set (p:=⟨b,1,none⟩) rfl _
theorem put_done{w w':World}{C b m g c c' L:Nat}{A:Option Addr}{l:List In}{o:In}(hC:C≤b)(hL:l.length=L)(hb:Bk w b 102 #[.map (some m),.slice A L c])(ho:InsOwn w C (.slice A L c) l)(hm:MapIs w m kindsL)
  (hw:w.grownBy w' (Value.slice A L c).ownBlock) (hown:InsOwn w' C (.slice (some ⟨g,0,none⟩) (l.length+1) c') (l++[o])) (_:C≤g):Cm (w'.setCell ⟨b,1,none⟩ (.slice (some ⟨g,0,none⟩) (l.length+1) c')) C b m (l++[o]):=by
 subst hL;exact Cm.put hC hb ho hm hw hown
theorem cput_any(b m:Nat)(l:List In)(o n:Int)(nm:List UInt8)(hl:l.length≤90000)(w0 w:World)(hr:Rel w0 w)(h:Cm w w0.heap.size b m l):
  Calls Tryz.prog 84 #[.pointer (some ⟨b,0,none⟩),.agg #[yI o,yI n,.string (B nm)]] w fun r w'=>r= .returned (.tuple #[])∧Cm w' w0.heap.size b m (l++[(o,n,nm)])∧Rel w0 w'∧Kq b w w':=by
 obtain⟨hC,A,c,hb,ho,hm⟩:=h
 have HX:=yH (Bk.new w 140 #[yI o,yI n,.string (B nm)])
 have HB:=yH (hb.alloc (.cells #[yI o,yI n,.string (B nm)] 140))
 have HO:=yH (show InsOwn (w.alloc (.cells #[yI o,yI n,.string (B nm)] 140)) w0.heap.size (.slice A l.length c) l from ho.row.alloc _)
 have HM:=yH (hm.alloc (.cells #[yI o,yI n,.string (B nm)] 140))
 have HA:=yH (hr.alloc (.cells #[yI o,yI n,.string (B nm)] 140))
 have HK:=yH ((Kq.refl b w).alloc (.cells #[yI o,yI n,.string (B nm)] 140))
 obtain⟨W,hW⟩:∃W,w.alloc (.cells #[yI o,yI n,.string (B nm)] 140)=W:=⟨_,rfl⟩
 rw[hW] at HX HB HO HM HA HK
 obtain⟨⟨x0,x1,x2⟩,_⟩:=three_of HX.out
 obtain⟨L,hL⟩:∃L,l.length=L:=⟨_,rfl⟩
 have HL:=yH hL
 have hl2:L≤90000:=by omega
 rw[hL] at HB HO
 obtain⟨⟨b0,b1⟩,f0,f1⟩:=HB.out.two
 have HB2:=yH (show Bk (W.alloc (.cells #[yI o,yI n,.string (B nm)] 140)).drew b 102 _ from HB.out.alloc (.cells #[yI o,yI n,.string (B nm)] 140))
 have HO2:=yH (show InsOwn (W.alloc (.cells #[yI o,yI n,.string (B nm)] 140)).drew w0.heap.size (.slice A L c) l from HO.out.row.alloc (.cells #[yI o,yI n,.string (B nm)] 140))
 have HM2:=yH (show MapIs (W.alloc (.cells #[yI o,yI n,.string (B nm)] 140)).drew m kindsL from HM.out.alloc (.cells #[yI o,yI n,.string (B nm)] 140))
 have HA2:=yH ((HA.out.alloc (.cells #[yI o,yI n,.string (B nm)] 140)).drew)
 have HK2:=yH (show Kq b w (W.alloc (.cells #[yI o,yI n,.string (B nm)] 140)).drew from HK.out.alloc (.cells #[yI o,yI n,.string (B nm)] 140))
 have d1:(W.alloc (.cells #[yI o,yI n,.string (B nm)] 140)).drew.cell? ⟨b,1,none⟩=some (.slice A L c):=HB2.out.cell 1
 have HIN:=yH (show InsAt (W.alloc (.cells #[yI o,yI n,.string (B nm)] 140)).drew (some ⟨W.heap.size,0,none⟩) [(o,n,nm)] from InsAt.of_bk (l:=[(o,n,nm)]) (Bk.new W 140 #[yI o,yI n,.string (B nm)]))
 have hbs:w0.heap.size≤(W.alloc (.cells #[yI o,yI n,.string (B nm)] 140)).drew.heap.size:=HA2.out.size
 clear hr hb ho hm hL hl
 go_enter Tryz.func84,Tryz.ntmps84
 go_upto_region 1 with (fail)
 refine wp_region_any (by kernel_rfl) ?_
 change wpAny _ _ _ _ _ _ _ W.drew
 refine yM [0,1,2,3] (by kernel_rfl) (fun _ _ _ _ _=>id) ?_
 iterate 4
  refine yT rfl rfl (by rfl) ?_ ?_ ?_
  rotate_left
  ·intro w';go_simp;try with_reducible rfl
  try simp only[Act.put,yA,yB,yC]
 refine yZ ?_
 refine till_take (i:=4) (v:= ?_) (S:=fun w'=>w'.cell? ⟨b,1,none⟩=some (.slice A L c)) (some 8) rfl rfl (by kernel_rfl) (by kernel_rfl) (by kernel_rfl) (fun _ _ _ h=>h) (Or.inl ⟨by rfl, ?_⟩) b1 ?_
 rotate_left 1
 ·intro w' hSw;go_simp;try with_reducible rfl
 try simp only[Act.put,yA,yB,yC]
 refine till_one (j:=5) (by kernel_rfl) rfl (fun K hK=> ?_)
 try simp only[yD,yE,yF]
 try rw[if_pos (by rfl)]
 go_simp
 refine hK.out _ _ b1 ?_
 clear hK K
 try simp only[Act.put,yA,yB,yC]
 refine till_one (j:=6) (by kernel_rfl) rfl (fun K hK=> ?_)
 try simp only[yD,yE,yF]
 try rw[if_pos (by rfl)]
 go_simp
 refine hK.out _ _ d1 ?_
 clear hK K
 try simp only[Act.put,yA,yB,yC]
 refine till_late (j:=7) (by kernel_rfl) rfl (by kernel_rfl) (fun K hK=> ?_)
 try simp only[yD,yE,yF]
 rw[if_pos (by rfl)]
 refine wp_iapp _ _ rfl (base:=w0.heap.size) (v:= .slice A L c) (os:=l) rfl HO2.out (A:=some ⟨W.heap.size,0,none⟩) (c:=1) (n:=1) (l:=[(o,n,nm)]) rfl rfl (fun e=>by cases e) HIN.out (by simp) (by rw[HL.out];omega) hbs ?_
 intro v9 w9 own9 g9 b9
 obtain⟨g8,c8,rfl,hg8⟩:=own9.last
 have HB9:=yH (HB2.out.grown g9 (own_ne HO2.out.row HB2.out cmp_ne))
 obtain⟨⟨y0,y1⟩,y2,y3⟩:=HB9.out.two
 have HO9:=yH own9
 have HG9:=yH g9
 clear own9 g9 b9
 refine hK.out _ _ ?_
 clear hK K
 try simp only[Act.put,yA,yB,yC]
 refine till_late (j:=8) (by kernel_rfl) rfl (by kernel_rfl) (fun K hK=> ?_)
 try simp only[yD,yE,yF]
 try rw[if_pos (by rfl)]
 go_simp
 refine hK.out _ _ ?_
 clear hK K
 try simp only[Act.put,yA,yB,yC]
 refine till_late (j:=9) (by kernel_rfl) rfl (by kernel_rfl) (fun K hK=> ?_)
 try simp only[yD,yE,yF]
 try rw[if_pos (by rfl)]
 go_simp
 refine hK.out _ _ ?_
 clear hK K
 try simp only[Act.put,yA,yB,yC]
 refine till_late (j:=10) (by kernel_rfl) rfl (by kernel_rfl) (fun K hK=> ?_)
 try simp only[yD,yE,yF]
 try rw[if_pos (by rfl)]
 go_simp
 refine hK.out _ _ ?_
 clear hK K
 try simp only[Act.put,yA,yB,yC]
 refine till_done (by kernel_rfl) ?_ _
 go_wp2_with (fail)
 go_end0
 exact⟨rfl,put_done hC HL.out HB2.out HO2.out HM2.out HG9.out HO9.out hg8,put_rel hC HO2.out HA2.out HG9.out,put_kq HO2.out HK2.out HG9.out⟩
theorem cput_as(s:ByteArray)(b m:Nat)(l:List In)(o n:Int)(nm:List UInt8)(hs:Hid (B nm=s))(hl:l.length≤90000)(w0 w:World)(hr:Rel w0 w)(h:Cm w w0.heap.size b m l):
  Calls Tryz.prog 84 #[.pointer (some ⟨b,0,none⟩),.agg #[yI o,yI n,.string s]] w fun r w'=>r= .returned (.tuple #[])∧Cm w' w0.heap.size b m (l++[(o,n,nm)])∧Rel w0 w'∧Kq b w w':=by
 rw[←hs.out];exact cput_any b m l o n nm hl w0 w hr h
theorem Cm.alloc{w:World}{C b m:Nat}{l:List In}(h:Cm w C b m l)(o:Obj):Cm (w.alloc o) C b m l:=by
 obtain⟨hC,A,c,h1,h2,h3⟩:=h
 exact⟨hC,A,c,h1.alloc o,h2.row.alloc o,h3.alloc o⟩
theorem clead_any(b m:Nat)(l:List In)(o:Int)(hl:l.length≤90000)(w0 w:World)(hr:Rel w0 w)(h:Cm w w0.heap.size b m l):
  Calls Tryz.prog 83 #[.pointer (some ⟨b,0,none⟩),yI o] w fun r w'=>∃p q,r= .returned (.func (.func 110) #[] #[.pointer (some ⟨p,0,none⟩),.pointer (some ⟨q,0,none⟩)])∧Bk w' p 135 #[.pointer (some ⟨b,0,none⟩)]∧Bk w' q 3 #[yI (l.length:Int)]∧Cm w' w0.heap.size b m (l++[(o,0,[])])∧Rel w0 w'∧Kq b w w':=by
 have HR:=yH hr
 obtain⟨L,hL⟩:∃L,l.length=L:=⟨_,rfl⟩
 have hlt:=h.lt
 have HP:=yH ((Bk.new w 135 #[.pointer (some ⟨b,0,none⟩)]).alloc (.cells #[yI (L:Int)] 3))
 have HQ:=yH (Bk.new (w.alloc (.cells #[.pointer (some ⟨b,0,none⟩)] 135)) 3 #[yI (L:Int)])
 have HC:=yH ((h.alloc (.cells #[.pointer (some ⟨b,0,none⟩)] 135)).alloc (.cells #[yI (L:Int)] 3))
 have HA:=yH ((hr.alloc (.cells #[.pointer (some ⟨b,0,none⟩)] 135)).alloc (.cells #[yI (L:Int)] 3))
 have HK:=yH (((Kq.refl b w).alloc (.cells #[.pointer (some ⟨b,0,none⟩)] 135)).alloc (.cells #[yI (L:Int)] 3))
 obtain⟨A,c,x0,x1,x2⟩:=(h.alloc (.cells #[.pointer (some ⟨b,0,none⟩)] 135)).cells
 rw[hL] at x1⊢
 have HL:=yH hL
 clear h hr hL
 go_enter Tryz.func83,Tryz.ntmps83
 go_wp2_with (go_at_call 84;(with_reducible refine(cput_as ⟨#[]⟩ b m l o 0 [] (yH rfl) hl w0 _ HA.out HC.out).mono ?_);rintro r w3 ⟨rfl,c3,r3,k3⟩)
 go_ret
 exact⟨_,_,rfl,k3.bk HP.out (by omega) (by decide),k3.bk (by have h:=HQ.out;rw[World.size_alloc] at h;exact h) (by omega) (by decide),c3,r3,HK.out.trans k3⟩
theorem cellsI_set(l:List In)(i:Nat)(o v':Int)(nm:List UInt8)(v:Int)(h:l[i]?=some (o,v',nm)):(cellsI l).set (i*3+1) (yI v)=cellsI (l.set i (o,v,nm)):=by
 induction l generalizing i with
 |nil=>simp at h
 |cons t r ih=>
  cases i with
  |zero=>
   simp only[List.getElem?_cons_zero,Option.some.injEq] at h
   subst h
   rfl
  |succ i=>
   simp only[List.getElem?_cons_succ] at h
   rw[List.set_cons_succ,cellsI_cons,cellsI_cons,←ih i h,show(i+1)*3+1=(cellsN t).length+(i*3+1) by simp[cellsN];omega,List.set_append_right _ _ (by omega)]
   simp
theorem Cm.drew{w:World}{C b m:Nat}{l:List In}(h:Cm w C b m l):Cm w.drew C b m l:=by
 obtain⟨hC,A,c,h1,h2,h3⟩:=h
 exact⟨hC,A,c,h1,h2,h3⟩
theorem Cm.fill{w:World}{b m g c L i:Nat}{l:List In}{w0:World}{o v' v:Int}{nm:List UInt8}(hC:w0.heap.size≤b)(hL:l.length=L)(hr:Rel w0 w)(hb:Bk w b 102 #[.map (some m),.slice (some ⟨g,0,none⟩) L c])
  (ho:InsOwn w w0.heap.size (.slice (some ⟨g,0,none⟩) L c) l) (hm:MapIs w m kindsL) (hi:l[i]?=some (o,v',nm)):
  Cm (w.setCell ⟨g,i*3+1,none⟩ (yI v)) w0.heap.size b m (l.set i (o,v,nm))∧Rel w0 (w.setCell ⟨g,i*3+1,none⟩ (yI v))∧Kq b w (w.setCell ⟨g,i*3+1,none⟩ (yI v)):=by
 subst hL
 obtain⟨h1,h2⟩:=ho.row.stored (i*3+1) (yI v)
 have hgb:g≠b:=fun e=>own_ne ho.row hb cmp_ne (by rw[e];rfl)
 have hmg:m≠g:=by
  rcases ho.2 with ⟨h0,_⟩|⟨g',cap,cur,hv,_,hh,_⟩
  ·injection h0 with h0;cases h0
  ·have:g=g':=by injection hv with hv;injection hv with hv;injection hv
   subst this
   exact hm.ne (t:=140) hh
 refine⟨⟨hC,some ⟨g,0,none⟩,c, ?_, ?_,hm.set hmg _⟩,hr.setCell (p:=⟨g,i*3+1,none⟩) (ho.row.lt g rfl).1 _,Kq.row ho h2⟩
 ·rw[List.length_set]
  exact hb.far (p:=⟨g,i*3+1,none⟩) (Ne.symm hgb) _
 ·rw[List.length_set]
  unfold InsOwn
  rw[List.length_set,←cellsI_set l i o v' nm v hi]
  exact h1
theorem cend_any(b m p q i:Nat)(l:List In)(o v:Int)(nm:List UInt8)(hi:l[i]?=some (o,v,nm))(hl:l.length≤90000)(w0 w:World)(hr:Rel w0 w)(h:Cm w w0.heap.size b m l)(hp:Bk w p 135 #[.pointer (some ⟨b,0,none⟩)])(hq:Bk w q 3 #[yI (i:Int)]):
  Calls Tryz.prog 110 #[.pointer (some ⟨p,0,none⟩),.pointer (some ⟨q,0,none⟩)] w fun r w'=>r= .returned (.tuple #[])∧Cm w' w0.heap.size b m (l.set i (o,(l.length:Int),nm))∧Rel w0 w'∧Kq b w w':=by
 obtain⟨hC,A,c,hb,ho,hm⟩:=h
 obtain⟨⟨b0,b1⟩,f0,f1⟩:=hb.two
 have p0:w.cell? ⟨p,0,none⟩=some (.pointer (some ⟨b,0,none⟩)):=hp.cell 0
 have q0:w.cell? ⟨q,0,none⟩=some (yI (i:Int)):=hq.cell 0
 obtain⟨hil,hie⟩:=List.getElem?_eq_some_iff.1 hi
 obtain⟨L,hL⟩:∃L,l.length=L:=⟨_,rfl⟩
 rcases ho.form with ⟨_,_,e⟩|⟨g,rfl,hg,hgl⟩
 ·subst e;simp at hil
 have e1:w.cell? ⟨g,i*3+1,none⟩=some (yI v):=by
  obtain⟨g',off,e,_,_,h1,_⟩:=ho.at rfl i hil
  injection e with e;injection e with e1 e2;subst e1;subst e2
  rw[Nat.zero_add,hie] at h1;exact h1
 have e2:=ho.row.frozenAt (i*3+1)
 rw[hL] at b1 ho hb⊢
 have HF:=yH (Cm.fill (v:=(L:Int)) hC hL hr hb ho hm hi)
 have hi1:(i:Int)<(L:Int):=by omega
 have hi2:i<L:=by omega
 have hi3:L≤90000:=by omega
 clear hr hb ho hm hp hq hi hie hil hL hl
 go_enter Tryz.func110,Tryz.ntmps110
 go_upto_region 0 with (fail)
 go_still_tail 10,(by kernel_rfl)
 go_wp2_with (fail)
 go_end0
 exact⟨rfl,HF.out.1.drew,HF.out.2.1.drew,HF.out.2.2⟩
end Go.Proofs.YtfekhbeaphpelaaGreatDoor

namespace Go.Proofs.YtfekhbeaphpelaaGreatDoor
open Go.Lib
def wt(o:Int):Int:=if o=1∨o=2∨o=3∨o=4∨o=10 then 1 else if o=5∨o=6 then 0 else -1
end Go.Proofs.YtfekhbeaphpelaaGreatDoor

namespace Go.Proofs.YtfekhbeaphpelaaGreatDoor
open Go.RowKit Go.Lib
def KidQ(W:World)(A':Option Addr)(i:Nat)(el:El):Prop:=∃g off,A'=some ⟨g,off,none⟩∧g<W.heap.size∧W.cell? ⟨g,off+i,none⟩=some (yI el.1)∧W.cell? ⟨g,off+i+1,none⟩=some (yI el.2.1)∧W.cell? ⟨g,off+i+2,none⟩=some (.string (B el.2.2.1))∧W.cell? ⟨g,off+i+3,none⟩=some (.slice el.2.2.2.1 el.2.2.2.2.1 el.2.2.2.2.2)
theorem KidQ.rel{W W':World}{A':Option Addr}{i:Nat}{el:El}(h:KidQ W A' i el)(hr:Rel W W'):KidQ W' A' i el:=by
 obtain⟨g,off,e,hl,h0,h1,h2,h3⟩:=h
 have hk:∀j,W'.cell? ⟨g,j,none⟩=W.cell? ⟨g,j,none⟩:=fun j=>hr.2.cell (p:=⟨g,j,none⟩) hl
 exact⟨g,off,e,by have:=hr.size;omega,by rw[hk];exact h0,by rw[hk];exact h1,by rw[hk];exact h2,by rw[hk];exact h3⟩
theorem kidq_of{S:Nat→Prop}{w W:World}{A':Option Addr}{es:List El}{l:List Ex}(hrow:RowE S w A' es)(hsub:∀i (h:i<es.length) (h':i<l.length),ExAt S w es[i] l[i])(hl:es.length=l.length)(hr:Rel w W)(j:Nat)(hj:j<l.length):∃el:El,KidQ W A' (j*4) el∧ExAt S W el l[j]:=by
 obtain⟨g,off,k,n,nm,A2,m,c,hA,h0,h1,h2,h3,ha⟩:=ExAt.arg hrow hsub hl hr j hj
 exact⟨(k,n,nm,A2,m,c),⟨g,off,hA,blk_of_cell h0,h0,h1,h2,h3⟩,ha⟩
theorem KidQ.at0{W:World}{g off:Nat}{el:El}(h:KidQ W (some ⟨g,off,none⟩) 0 el):W.cell? ⟨g,off,none⟩=some (yI el.1)∧W.cell? ⟨g,off+1,none⟩=some (yI el.2.1)∧W.cell? ⟨g,off+2,none⟩=some (.string (B el.2.2.1))∧W.cell? ⟨g,off+3,none⟩=some (.slice el.2.2.2.1 el.2.2.2.2.1 el.2.2.2.2.2):=by
 obtain⟨g',off',e,_,h0,h1,h2,h3⟩:=h
 injection e with e;injection e with e1 e2;subst e1;subst e2
 exact⟨h0,h1,h2,h3⟩
theorem KidQ.at{W:World}{g off i:Nat}{el:El}(h:KidQ W (some ⟨g,off,none⟩) i el):W.cell? ⟨g,off+i,none⟩=some (yI el.1)∧W.cell? ⟨g,off+i+1,none⟩=some (yI el.2.1)∧W.cell? ⟨g,off+i+2,none⟩=some (.string (B el.2.2.1))∧W.cell? ⟨g,off+i+3,none⟩=some (.slice el.2.2.2.1 el.2.2.2.2.1 el.2.2.2.2.2):=by
 obtain⟨g',off',e,_,h0,h1,h2,h3⟩:=h
 injection e with e;injection e with e1 e2;subst e1;subst e2
 exact⟨h0,h1,h2,h3⟩
theorem KidQ.is{W:World}{A':Option Addr}{i:Nat}{el:El}(h:KidQ W A' i el):∃g off,A'=some ⟨g,off,none⟩:=by
 obtain⟨g,off,e,_⟩:=h;exact⟨g,off,e⟩
theorem cods_append(a b:List Ex)(at_:Nat):cods (a++b) at_=cods a at_++cods b (at_+clens a)∧clens (a++b)=clens a+clens b:=by
 induction a generalizing at_ with
 |nil=>rw[List.nil_append,cods_nil,clens_nil];exact⟨by simp,by omega⟩
 |cons x t ih=>
  obtain⟨h1,h2⟩:=ih (at_+clen x)
  rw[List.cons_append,cods_cons,cods_cons,clens_cons,clens_cons,h1,h2,List.append_assoc,Nat.add_assoc]
  exact⟨rfl,by omega⟩
theorem cods_take{l:List Ex}{j:Nat}(h:j<l.length)(at_:Nat):cods (l.take (j+1)) at_=cods (l.take j) at_++cod l[j] (at_+clens (l.take j))∧clens (l.take (j+1))=clens (l.take j)+clen l[j]:=by
 rw[List.take_succ_eq_append_getElem h]
 obtain⟨h1,h2⟩:=cods_append (l.take j) [l[j]] at_
 rw[cods_cons,cods_nil,List.append_nil] at h1
 rw[clens_cons,clens_nil] at h2
 exact⟨h1,by omega⟩
theorem clens_take(l:List Ex)(j:Nat):clens (l.take j)≤clens l:=by
 have:=(cods_append (l.take j) (l.drop j) 0).2
 rw[List.take_append_drop] at this
 omega
theorem cods_len{d:Nat}{l:List Ex}(h:∀x∈l,fine d x=true):∀at_,(cods l at_).length=clens l:=by
 induction l with
 |nil=>intro _;rw[cods_nil,clens_nil];rfl
 |cons x t ih=>intro p;rw[cods_cons,clens_cons,List.length_append,cod_len d x (h x (List.mem_cons_self ..)),ih fun y hy=>h y (List.mem_cons_of_mem _ hy)]
theorem op_kind{d:Nat}{k n:Int}{nm:List UInt8}{l:List Ex}(h:fine (d+1) (.mk k n nm l)=true)(h9:k≠9)(h10:k≠10):(k=1∨k=2∨k=3∨k=4∨k=5∨k=6∨k=7∨k=8∨k=11∨k=12)∧l.length≤2:=by
 have hp:=(fine_parts h).1
 unfold argsN at hp
 split at hp
 ·exact⟨by omega,by omega⟩
 ·split at hp
  ·exact⟨by omega,by omega⟩
  ·split at hp
   ·exact⟨by omega,by omega⟩
   ·first|omega|(split at hp<;>omega)
end Go.Proofs.YtfekhbeaphpelaaGreatDoor
