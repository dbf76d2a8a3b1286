/- The landed value code: a reckoning of an amount, and of a condition; The landed value code: which offers may be; (Stage 14's: of expressions without others in them.) What the landed package value tells; The landed code: what is done of instructions; Run, Steps; The landed Run and Steps; What the landed config calls: Clamp, Parse, Right, Compile, Run, a strategy being a value. -/

import Derived.Test.YtfekhbeaphpelaaGreatDoorZ23
set_option maxRecDepth 100000
set_option maxHeartbeats 8000000
namespace Go.Proofs.YtfekhbeaphpelaaGreatDoor
open Go.RowKit Go.Lib
set_option linter.unusedVariables false
set_option linter.unusedSimpArgs false
theorem veval1_ok(k n:Int)(nm:List UInt8)(A1:Option Addr)(m c1:Nat)(ov:Value)(pl px:Nat)(V:Int)(b:Bool)(w0 w:World)(hr:Rel w0 w)(hl:Bk w pl 27 #[ov])(hx:Bk w px 52 #[.int .i64 k,.int .i64 n,.string (B nm),.slice A1 m c1])(hb:∀w',Rel w w'→Calls Tryz.prog 176 #[ov,.agg #[.int .i64 k,.int .i64 n,.string (B nm),.slice A1 m c1]] w' fun z w2=>z= .returned (.agg #[.int .i64 V,.bool b])∧Rel w' w2):
  Calls Tryz.prog 175 #[.pointer (some ⟨pl,0,none⟩),.pointer (some ⟨px,0,none⟩)] w fun z w'=>z= .returned (.agg #[.int .i64 V,.bool b])∧Rel w0 w':=by
 have HR:=yH hr
 have hz:=hr.size
 have HC:=yH hb
 have HT:=yH (Bk.new w 160 #[.int .i64 0,.bool false])
 have HA:=yH (hr.self.alloc (.cells #[.int .i64 0,.bool false] 160))
 have l0:=(hl.alloc (.cells #[.int .i64 0,.bool false] 160)).cell 0
 obtain⟨⟨x0,x1,x2,x3⟩,_⟩:=(hx.alloc (.cells #[.int .i64 0,.bool false] 160)).four
 obtain⟨W,hW⟩:∃W,w.alloc (.cells #[.int .i64 0,.bool false] 160)=W:=⟨_,rfl⟩
 rw[hW] at HT HA l0 x0 x1 x2 x3
 simp only[List.getElem?_toArray,List.getElem?_cons_zero] at l0
 clear hr hl hx hb
 go_enter Tryz.func175,Tryz.ntmps175
 go_wp2_with (go_at_call 176;(with_reducible refine(HC.out _ HA.out).mono ?_);rintro e w1 ⟨rfl,h1⟩;have R1:=yH h1;obtain⟨⟨d0,d1⟩,e0,e1⟩:=(HT.out.rel h1).two)
 exact bodyPost_ret (v:= .agg #[.int .i64 V,.bool b]) (by simp[results,Tryz.results175,go_sem,d0,d1]) rfl ⟨rfl,(((HR.out.trans HA.out).trans R1.out).setCell hz _).setCell hz _⟩
theorem veval1_no(k n:Int)(nm:List UInt8)(A1:Option Addr)(m c1:Nat)(ov:Value)(pl px:Nat)(w0 w:World)(hr:Rel w0 w)(hl:Bk w pl 27 #[ov])(hx:Bk w px 52 #[.int .i64 k,.int .i64 n,.string (B nm),.slice A1 m c1])(hb:∀w',Rel w w'→Calls Tryz.prog 176 #[ov,.agg #[.int .i64 k,.int .i64 n,.string (B nm),.slice A1 m c1]] w' fun z w2=>z=FLV∧Rel w' w2):
  Calls Tryz.prog 175 #[.pointer (some ⟨pl,0,none⟩),.pointer (some ⟨px,0,none⟩)] w fun z w'=>z=FLV∧Rel w0 w':=by
 have HR:=yH hr
 have hz:=hr.size
 have HC:=yH hb
 have HT:=yH (Bk.new w 160 #[.int .i64 0,.bool false])
 have HA:=yH (hr.self.alloc (.cells #[.int .i64 0,.bool false] 160))
 have l0:=(hl.alloc (.cells #[.int .i64 0,.bool false] 160)).cell 0
 obtain⟨⟨x0,x1,x2,x3⟩,_⟩:=(hx.alloc (.cells #[.int .i64 0,.bool false] 160)).four
 obtain⟨W,hW⟩:∃W,w.alloc (.cells #[.int .i64 0,.bool false] 160)=W:=⟨_,rfl⟩
 rw[hW] at HT HA l0 x0 x1 x2 x3
 simp only[List.getElem?_toArray,List.getElem?_cons_zero] at l0
 clear hr hl hx hb
 go_enter Tryz.func175,Tryz.ntmps175
 go_wp2_with (go_at_call 176;(with_reducible refine(HC.out _ HA.out).mono ?_);rintro e w1 ⟨rfl,h1⟩)
 exact⟨rfl,rfl,(HR.out.trans HA.out).trans h1⟩
theorem rk_fin{w w2:World}{a b e:Value}(hr:Rel w w2)(h1:Bk w2 w.heap.size 160 #[a,b])(h2:Bk w2 (w.heap.size+1) 31 #[e])(V B n:Value){w5:World}(hw:(((w2.setCell ⟨w.heap.size,0,none⟩ V).setCell ⟨w.heap.size,1,none⟩ B).setCell ⟨w.heap.size+1,0,none⟩ n)=w5):
  Rel w w5∧Bk w5 w.heap.size 160 #[V,B]∧Bk w5 (w.heap.size+1) 31 #[n]:=by
 subst hw
 refine⟨((hr.setCell (Nat.le_refl _) _).setCell (Nat.le_refl _) _).setCell (Nat.le_succ _) _, ?_, ?_⟩
 ·exact((h1.set_ 0 V).set_ 1 B).far (Nat.ne_of_lt (Nat.lt_succ_self _)) _
 ·exact((h2.far (Nat.ne_of_gt (Nat.lt_succ_self _)) V).far (Nat.ne_of_gt (Nat.lt_succ_self _)) B).set_ 0 n
theorem vreckon_ok(pl px:Nat)(V:Int)(b:Bool)(w0 w:World)(hr:Rel w0 w)(hb:∀w',Rel w w'→Calls Tryz.prog 175 #[.pointer (some ⟨pl,0,none⟩),.pointer (some ⟨px,0,none⟩)] w' fun z w2=>z= .returned (.agg #[.int .i64 V,.bool b])∧Rel w' w2):
  Calls Tryz.prog 174 #[.func (.func 175) #[] #[.pointer (some ⟨pl,0,none⟩),.pointer (some ⟨px,0,none⟩)]] w fun z w'=>z= .returned (.tuple #[.agg #[.int .i64 V,.bool b],.int .i64 0])∧Rel w0 w':=by
 have HR:=yH hr
 have HC:=yH hb
 have hmf:∀(fn:Fn) (first cap:Array Value) (w:World),(Instr.makeFunc fn first cap).run Tryz.prog w= .ok (.func fn first cap) w:=fun _ _ _ _=>rfl
 have HT:=yH ((Bk.new w 160 #[.int .i64 0,.bool false]).alloc (.cells #[.int .i64 0] 31))
 have HE:=yH (Bk.snd w #[.int .i64 0,.bool false] #[.int .i64 0] 160 31)
 have HA:=yH ((hr.self.alloc (.cells #[.int .i64 0,.bool false] 160)).alloc (.cells #[.int .i64 0] 31))
 obtain⟨W,hW⟩:∃W,(w.alloc (.cells #[.int .i64 0,.bool false] 160)).alloc (.cells #[.int .i64 0] 31)=W:=⟨_,rfl⟩
 rw[hW] at HT HE HA
 clear hr hb
 go_enter_defers Tryz.func174,Tryz.ntmps174
 go_wp2_with (go_at_call 175;(with_reducible refine(HC.out _ HA.out).mono ?_);rintro e w1 ⟨rfl,h1⟩;have R1:=yH h1;obtain⟨⟨d0,d1⟩,e0,e1⟩:=(HT.out.rel h1).two;have q0:=(HE.out.rel h1).cell 0;have f0:=(HE.out.rel h1).frozen 0;simp only[List.getElem?_toArray,List.getElem?_cons_zero] at q0)
 obtain⟨w5,hw5⟩:∃w5,(((w1.setCell ⟨w.heap.size,0,none⟩ (.int .i64 V)).setCell ⟨w.heap.size,1,none⟩ (.bool b)).setCell ⟨w.heap.size+1,0,none⟩ (.int .i64 0))=w5:=⟨_,rfl⟩
 obtain⟨R5,k1,k2⟩:=rk_fin (HA.out.trans R1.out) (HT.out.rel R1.out) (HE.out.rel R1.out) (.int .i64 V) (.bool b) (.int .i64 0) hw5
 rw[hw5]
 clear hw5
 refine leaves_cons (f:=183) (args:= #[.pointer (some ⟨w.heap.size+1,0,none⟩)]) (by simp) (by simp[go_sem]) ?_
 refine(vcatch1_idle (w.heap.size+1) w5).mono ?_
 rintro e u' w7 ⟨rfl,rfl,rfl⟩
 obtain⟨⟨z0,z1⟩,_⟩:=k1.two
 have z2:=k2.cell 0
 simp only[List.getElem?_toArray,List.getElem?_cons_zero] at z2
 exact⟨.tuple #[.agg #[.int .i64 V,.bool b],.int .i64 0],by simp[results,Tryz.results174,go_sem,z0,z1,z2],rfl,HR.out.trans R5⟩
theorem vreckon_no(pl px:Nat)(w0 w:World)(hr:Rel w0 w)(hb:∀w',Rel w w'→Calls Tryz.prog 175 #[.pointer (some ⟨pl,0,none⟩),.pointer (some ⟨px,0,none⟩)] w' fun z w2=>z=FLV∧Rel w' w2):
  Calls Tryz.prog 174 #[.func (.func 175) #[] #[.pointer (some ⟨pl,0,none⟩),.pointer (some ⟨px,0,none⟩)]] w fun z w'=>z= .returned (.tuple #[.agg #[.int .i64 0,.bool false],.int .i64 10])∧Rel w0 w':=by
 have HR:=yH hr
 have HC:=yH hb
 have hmf:∀(fn:Fn) (first cap:Array Value) (w:World),(Instr.makeFunc fn first cap).run Tryz.prog w= .ok (.func fn first cap) w:=fun _ _ _ _=>rfl
 have HT:=yH ((Bk.new w 160 #[.int .i64 0,.bool false]).alloc (.cells #[.int .i64 0] 31))
 have HE:=yH (Bk.snd w #[.int .i64 0,.bool false] #[.int .i64 0] 160 31)
 have HA:=yH ((hr.self.alloc (.cells #[.int .i64 0,.bool false] 160)).alloc (.cells #[.int .i64 0] 31))
 obtain⟨W,hW⟩:∃W,(w.alloc (.cells #[.int .i64 0,.bool false] 160)).alloc (.cells #[.int .i64 0] 31)=W:=⟨_,rfl⟩
 rw[hW] at HT HE HA
 clear hr hb
 go_enter_defers Tryz.func174,Tryz.ntmps174
 go_wp2_with (go_at_call 175;(with_reducible refine(HC.out _ HA.out).mono ?_);rintro e w1 ⟨rfl,h1⟩;have R1:=yH h1)
 refine leaves_cons (f:=183) (args:= #[.pointer (some ⟨w.heap.size+1,0,none⟩)]) (by simp) (by simp[go_sem]) ?_
 refine(vcatch1_panicking (w.heap.size+1) w1 [] (HE.out.rel R1.out)).mono ?_
 rintro e u' w7 ⟨rfl,rfl,rfl⟩
 obtain⟨⟨z0,z1⟩,_⟩:=((HT.out.rel R1.out).far (p:=⟨w.heap.size+1,0,none⟩) (Nat.ne_of_lt (Nat.lt_succ_self _)) (.int .i64 10)).two
 have z2:=((HE.out.rel R1.out).set_ 0 (.int .i64 10)).cell 0
 simp only[List.setIfInBounds_toArray,List.set_cons_zero,List.getElem?_toArray,List.getElem?_cons_zero] at z2
 have R5:=(HA.out.trans R1.out).setCell (p:=⟨w.heap.size+1,0,none⟩) (Nat.le_succ _) (.int .i64 10)
 obtain⟨w5,hw5⟩:∃w5,w1.setCell ⟨w.heap.size+1,0,none⟩ (.int .i64 10)=w5:=⟨_,rfl⟩
 rw[hw5] at z0 z1 z2 R5⊢
 exact⟨.tuple #[.agg #[.int .i64 0,.bool false],.int .i64 10],by simp[results,Tryz.results174,go_sem,z0,z1,z2],rfl,HR.out.trans R5⟩
theorem from_twice{os:List Of}{i:Nat}{s:List UInt8}(h:(fromO (os.take i) s).isSome=true):∃k,∃hk:k<os.length,k<i∧os[k].1=s:=by
 unfold fromO at h
 rw[Option.isSome_map,List.find?_isSome] at h
 obtain⟨o,ho,he⟩:=h
 obtain⟨k,hk,rfl⟩:=List.mem_iff_getElem.1 ho
 rw[List.length_take] at hk
 rw[List.getElem_take] at he
 exact⟨k,by omega,by omega,by simpa using he⟩
theorem from_once{os:List Of}{i:Nat}{s:List UInt8}(h:(fromO (os.take i) s).isSome=false):∀k (hk:k<os.length),k<i→os[k].1≠s:=by
 intro k hk hki he
 have:(fromO (os.take i) s).isSome=true:=by
  unfold fromO
  rw[Option.isSome_map,List.find?_isSome]
  exact⟨os[k],by rw[List.mem_iff_getElem];exact⟨k,by rw[List.length_take];omega,by rw[List.getElem_take]⟩,by simpa using he⟩
 rw[h] at this;cases this
theorem vright9_any(A:Option Addr)(c:Nat)(os:List Of)(w0 w:World)(hr:Rel w0 w)(h:OffArg w A c os):
  Calls Tryz.prog 86 #[.slice A os.length c] w fun e w'=>e= .returned (.bool (offsOk os))∧Rel w0 w':=by
 have HR:=yH hr
 have HS:=yH hr.self
 have HOA:=yH h
 have HA:=yH h.2.2.2
 have HF:=yH h.2.2.1
 have hlc:=h.1
 have hcm:c≤9223372036854775807:=by have:=h.2.1;unfold maxLen at this;omega
 have hl:os.length≤9223372036854775807:=by omega
 have hfd:∀(w:World) (P:Int) (b:Bool),(Instr.field 160 (.agg #[.int .i64 P,.bool b]) 1).run Tryz.prog w= .ok (.bool b) w:=fun _ _ _=>by kernel_rfl
 clear h hr
 by_cases h8:8<os.length
 ·have HB:=yH (offs_many h8)
  have t1:decide ((8:Int)<(os.length:Int))=true:=decide_eq_true (by omega)
  go_enter Tryz.func86,Tryz.ntmps86
  go_wp2_with (fail)
  go_ret
  exact⟨ret_bool HB.out.symm,HR.out⟩
 have t1:decide ((8:Int)<(os.length:Int))=false:=decide_eq_false (by omega)
 go_enter Tryz.func86,Tryz.ntmps86
 go_wp2_with (fail)
 go_loopw [11] (fun i wr=>∃j:Nat,j≤os.length∧i= .int .i64 (j:Int)∧Hid (offsTo os j=true)∧Rel w wr) (fun i _=>os.length-(RowKit.intOf i).toNat)
 case atStart=>exact⟨0,by omega,rfl,yH rfl,HS.out⟩
 case round=>
  obtain⟨i,hi,rfl,HN,hRw⟩:=hrel
  have HRw:=yH hRw
  by_cases hlt:i<os.length
  ·obtain⟨g,off,s,p,rfl,c0,c1,ho⟩:=offs_at HA.out hRw i hlt
   have hs:s.length≤9223372036854775807:=by have:=(HF.out _ (List.getElem_mem hlt)).1;rw[ho] at this;exact this
   have HO:=yH ho
   have hFr:=fun(w':World) (hh:Rel w w')=>vfrom_any s (some ⟨g,off,none⟩) c (os.take i) w' w' hh.self ⟨by rw[List.length_take];omega,HOA.out.2.1,fun o ho=>HF.out o (List.mem_of_mem_take ho),(HA.out.rel hh).take i⟩
   have hti:(os.take i).length=i:=by rw[List.length_take];omega
   rw[hti] at hFr
   obtain⟨P,hP⟩:∃P,(fromO (os.take i) s).getD 0=P:=⟨_,rfl⟩
   obtain⟨tw,htw⟩:∃b,(fromO (os.take i) s).isSome=b:=⟨_,rfl⟩
   unfold TV at hFr
   rw[hP,htw] at hFr
   obtain⟨X,hX⟩:∃X,B s=X:=⟨_,rfl⟩
   obtain⟨b,hb⟩:∃b,isName s=b:=⟨_,rfl⟩
   have hC:=fun(w0 w:World) (hr:Rel w0 w)=>lname_list s (by omega) w0 w hr
   rw[hX,hb] at hC
   rw[hX] at c0 hFr
   have HC:=yH hC
   have HX:=yH hX
   have HBn:=yH hb
   have HTw:=yH htw
   have HBx:=yH (off_box wr X p)
   have HAx:=yH (hRw.self.alloc (.cells #[.string X,.int .i64 p] 46))
   have HFr:=yH (fun(w':World) (hh:Rel (wr.alloc (.cells #[.string X,.int .i64 p] 46)) w')=>hFr w' ((HRw.out.trans HAx.out).trans hh))
   have HNm:=yH (fun(w':World) (hh:Rel (wr.alloc (.cells #[.string X,.int .i64 p] 46)) w')=>hC w' w' hh.self)
   obtain⟨V,hV⟩:∃V,wr.alloc (.cells #[.string X,.int .i64 p] 46)=V:=⟨_,rfl⟩
   rw[hV] at HBx HAx HFr HNm
   have hki:(i:Int)≤(c:Int):=by omega
   have hki2:i≤c:=by omega
   have hk0:(0:Int)≤(i:Int):=by omega
   clear ho hX hb hRw hC hFr hP htw
   cases tw with
   |true=>
    have HB:=yH (offs_bad hlt (.inr (by obtain⟨k,hk,hki,he⟩:=from_twice HTw.out;exact⟨k,hk,hki,by rw[HO.out];exact he⟩)))
    go_upto_region 6 with (fail)
    refine wp_region_held_drew (S:=(fun w'=>Rel V w')) (by kernel_rfl) HAx.out.right2.drew (fun hHeld=> ?_)
    refine yL [0,1,2,3,4] (by kernel_rfl) hHeld (fun _ _ _ _ _=>id) ?_
    iterate 5
     refine yS rfl rfl (by rfl) ?_ ?_ ?_
     rotate_left
     ·intro w' (h:Rel V w');obtain⟨⟨z0,z1⟩,_⟩:=(HBx.out.rel h).two;go_simp;try with_reducible rfl
     try simp only[Act.put,yA,yB,yC]
    refine yZ ?_
    refine held_one (j:=5) (by kernel_rfl) rfl (fun K hK=> ?_)
    try simp only[yD,yE,yF]
    rw[if_pos (by rfl)]
    go_simp
    go_at_call 112
    (with_reducible refine(HFr.out _ hHeld).mono ?_)
    rintro e w1 ⟨rfl,h1⟩
    refine hK.out _ _ (hHeld.trans h1) (fun hHeld=> ?_)
    clear hK K
    try simp only[Act.put,yA,yB,yC]
    refine yL [6,7] (by kernel_rfl) hHeld (fun _ _ _ _ _=>id) ?_
    iterate 2
     refine yS rfl rfl (by rfl) ?_ ?_ ?_
     rotate_left
     ·intro w' (h:Rel V w');obtain⟨⟨z0,z1⟩,_⟩:=(HBx.out.rel h).two;go_simp;try with_reducible rfl
     try simp only[Act.put,yA,yB,yC]
    refine yZ ?_
    refine wpAnyH_done (by kernel_rfl) ?_ _
    have RQ:=yH hHeld
    go_wp2_with (fail)
    go_ret
    exact⟨ret_bool HB.out.symm,((HR.out.trans HRw.out).trans HAx.out).trans RQ.out⟩
   |false=>
    have HOnce:=yH (fun(k:Nat) (hk:k<os.length) (hki:k<i)=>show os[k].1≠os[i].1 by rw[HO.out];exact from_once HTw.out k hk hki)
    cases b with
    |false=>
     have HB:=yH (offs_bad hlt (.inl (offOk_mk HO.out false (by rw[HBn.out];rfl))))
     go_upto_region 6 with (fail)
     refine wp_region_held_drew (S:=(fun w'=>Rel V w')) (by kernel_rfl) HAx.out.right2.drew (fun hHeld=> ?_)
     refine yL [0,1,2,3,4] (by kernel_rfl) hHeld (fun _ _ _ _ _=>id) ?_
     iterate 5
      refine yS rfl rfl (by rfl) ?_ ?_ ?_
      rotate_left
      ·intro w' (h:Rel V w');obtain⟨⟨z0,z1⟩,_⟩:=(HBx.out.rel h).two;go_simp;try with_reducible rfl
      try simp only[Act.put,yA,yB,yC]
     refine yZ ?_
     refine held_one (j:=5) (by kernel_rfl) rfl (fun K hK=> ?_)
     try simp only[yD,yE,yF]
     rw[if_pos (by rfl)]
     go_simp
     go_at_call 112
     (with_reducible refine(HFr.out _ hHeld).mono ?_)
     rintro e w1 ⟨rfl,h1⟩
     refine hK.out _ _ (hHeld.trans h1) (fun hHeld=> ?_)
     clear hK K
     try simp only[Act.put,yA,yB,yC]
     refine yL [6,7] (by kernel_rfl) hHeld (fun _ _ _ _ _=>id) ?_
     iterate 2
      refine yS rfl rfl (by rfl) ?_ ?_ ?_
      rotate_left
      ·intro w' (h:Rel V w');obtain⟨⟨z0,z1⟩,_⟩:=(HBx.out.rel h).two;go_simp;try with_reducible rfl
      try simp only[Act.put,yA,yB,yC]
     refine yZ ?_
     refine wpAnyH_done (by kernel_rfl) ?_ _
     have RQ:=yH hHeld
     obtain⟨⟨n0,n1⟩,_⟩:=(HBx.out.rel RQ.out).two
     go_wp2_with (go_at_call 113;(with_reducible refine(HNm.out _ RQ.out).mono ?_);rintro e w2 ⟨rfl,h2⟩;obtain⟨⟨m0,m1⟩,_⟩:=(HBx.out.rel (RQ.out.trans h2)).two)
     go_ret
     exact⟨ret_bool HB.out.symm,(((HR.out.trans HRw.out).trans HAx.out).trans RQ.out).trans h2⟩
    |true=>
     by_cases p1:p<1
     ·have t2:decide (p<1)=true:=decide_eq_true p1
      have HB:=yH (offs_bad hlt (.inl (offOk_mk HO.out false (by rw[HBn.out];simp;omega))))
      go_upto_region 6 with (fail)
      refine wp_region_held_drew (S:=(fun w'=>Rel V w')) (by kernel_rfl) HAx.out.right2.drew (fun hHeld=> ?_)
      refine yL [0,1,2,3,4] (by kernel_rfl) hHeld (fun _ _ _ _ _=>id) ?_
      iterate 5
          refine yS rfl rfl (by rfl) ?_ ?_ ?_
          rotate_left
          ·intro w' (h:Rel V w');obtain⟨⟨z0,z1⟩,_⟩:=(HBx.out.rel h).two;go_simp;try with_reducible rfl
          try simp only[Act.put,yA,yB,yC]
      refine yZ ?_
      refine held_one (j:=5) (by kernel_rfl) rfl (fun K hK=> ?_)
      try simp only[yD,yE,yF]
      rw[if_pos (by rfl)]
      go_simp
      go_at_call 112
      (with_reducible refine(HFr.out _ hHeld).mono ?_)
      rintro e w1 ⟨rfl,h1⟩
      refine hK.out _ _ (hHeld.trans h1) (fun hHeld=> ?_)
      clear hK K
      try simp only[Act.put,yA,yB,yC]
      refine yL [6,7] (by kernel_rfl) hHeld (fun _ _ _ _ _=>id) ?_
      iterate 2
          refine yS rfl rfl (by rfl) ?_ ?_ ?_
          rotate_left
          ·intro w' (h:Rel V w');obtain⟨⟨z0,z1⟩,_⟩:=(HBx.out.rel h).two;go_simp;try with_reducible rfl
          try simp only[Act.put,yA,yB,yC]
      refine yZ ?_
      refine wpAnyH_done (by kernel_rfl) ?_ _
      have RQ:=yH hHeld
      obtain⟨⟨n0,n1⟩,_⟩:=(HBx.out.rel RQ.out).two
      go_wp2_with (go_at_call 113;(with_reducible refine(HNm.out _ RQ.out).mono ?_);rintro e w2 ⟨rfl,h2⟩;obtain⟨⟨m0,m1⟩,_⟩:=(HBx.out.rel (RQ.out.trans h2)).two)
      go_ret
      exact⟨ret_bool HB.out.symm,(((HR.out.trans HRw.out).trans HAx.out).trans RQ.out).trans h2⟩
     ·have t2:decide (p<1)=false:=decide_eq_false p1
      by_cases p2:1000000000000<p
      ·have t3:decide (1000000000000<p)=true:=decide_eq_true p2
       have HB:=yH (offs_bad hlt (.inl (offOk_mk HO.out false (by rw[HBn.out];simp;omega))))
       go_upto_region 6 with (fail)
       refine wp_region_held_drew (S:=(fun w'=>Rel V w')) (by kernel_rfl) HAx.out.right2.drew (fun hHeld=> ?_)
       refine yL [0,1,2,3,4] (by kernel_rfl) hHeld (fun _ _ _ _ _=>id) ?_
       iterate 5
        refine yS rfl rfl (by rfl) ?_ ?_ ?_
        rotate_left
        ·intro w' (h:Rel V w');obtain⟨⟨z0,z1⟩,_⟩:=(HBx.out.rel h).two;go_simp;try with_reducible rfl
        try simp only[Act.put,yA,yB,yC]
       refine yZ ?_
       refine held_one (j:=5) (by kernel_rfl) rfl (fun K hK=> ?_)
       try simp only[yD,yE,yF]
       rw[if_pos (by rfl)]
       go_simp
       go_at_call 112
       (with_reducible refine(HFr.out _ hHeld).mono ?_)
       rintro e w1 ⟨rfl,h1⟩
       refine hK.out _ _ (hHeld.trans h1) (fun hHeld=> ?_)
       clear hK K
       try simp only[Act.put,yA,yB,yC]
       refine yL [6,7] (by kernel_rfl) hHeld (fun _ _ _ _ _=>id) ?_
       iterate 2
        refine yS rfl rfl (by rfl) ?_ ?_ ?_
        rotate_left
        ·intro w' (h:Rel V w');obtain⟨⟨z0,z1⟩,_⟩:=(HBx.out.rel h).two;go_simp;try with_reducible rfl
        try simp only[Act.put,yA,yB,yC]
       refine yZ ?_
       refine wpAnyH_done (by kernel_rfl) ?_ _
       have RQ:=yH hHeld
       obtain⟨⟨n0,n1⟩,_⟩:=(HBx.out.rel RQ.out).two
       go_wp2_with (go_at_call 113;(with_reducible refine(HNm.out _ RQ.out).mono ?_);rintro e w2 ⟨rfl,h2⟩;obtain⟨⟨m0,m1⟩,_⟩:=(HBx.out.rel (RQ.out.trans h2)).two)
       go_ret
       exact⟨ret_bool HB.out.symm,(((HR.out.trans HRw.out).trans HAx.out).trans RQ.out).trans h2⟩
      ·have t3:decide (1000000000000<p)=false:=decide_eq_false p2
       have HOk:=yH (offOk_mk HO.out true (by rw[HBn.out];simp;omega))
       have HN2:=yH (offsTo_step hlt HN.out HOk.out HOnce.out)
       go_upto_region 6 with (fail)
       refine wp_region_held_drew (S:=(fun w'=>Rel V w')) (by kernel_rfl) HAx.out.right2.drew (fun hHeld=> ?_)
       refine yL [0,1,2,3,4] (by kernel_rfl) hHeld (fun _ _ _ _ _=>id) ?_
       iterate 5
        refine yS rfl rfl (by rfl) ?_ ?_ ?_
        rotate_left
        ·intro w' (h:Rel V w');obtain⟨⟨z0,z1⟩,_⟩:=(HBx.out.rel h).two;go_simp;try with_reducible rfl
        try simp only[Act.put,yA,yB,yC]
       refine yZ ?_
       refine held_one (j:=5) (by kernel_rfl) rfl (fun K hK=> ?_)
       try simp only[yD,yE,yF]
       rw[if_pos (by rfl)]
       go_simp
       go_at_call 112
       (with_reducible refine(HFr.out _ hHeld).mono ?_)
       rintro e w1 ⟨rfl,h1⟩
       refine hK.out _ _ (hHeld.trans h1) (fun hHeld=> ?_)
       clear hK K
       try simp only[Act.put,yA,yB,yC]
       refine yL [6,7] (by kernel_rfl) hHeld (fun _ _ _ _ _=>id) ?_
       iterate 2
        refine yS rfl rfl (by rfl) ?_ ?_ ?_
        rotate_left
        ·intro w' (h:Rel V w');obtain⟨⟨z0,z1⟩,_⟩:=(HBx.out.rel h).two;go_simp;try with_reducible rfl
        try simp only[Act.put,yA,yB,yC]
       refine yZ ?_
       refine wpAnyH_done (by kernel_rfl) ?_ _
       have RQ:=yH hHeld
       obtain⟨⟨n0,n1⟩,_⟩:=(HBx.out.rel RQ.out).two
       go_wp2_with (go_at_call 113;(with_reducible refine(HNm.out _ RQ.out).mono ?_);rintro e w2 ⟨rfl,h2⟩;obtain⟨⟨m0,m1⟩,_⟩:=(HBx.out.rel (RQ.out.trans h2)).two)
       go_roundw
       case rel=>exact⟨i+1,by omega,by go_num,HN2,((HRw.out.trans HAx.out).trans RQ.out).trans h2⟩
       case measure=>simp[RowKit.intOf];omega
  ·obtain rfl:i=os.length:=by omega
   have HB:=yH (offs_full (by omega) HN.out)
   go_wp2_with (fail)
   go_ret
   exact⟨ret_bool HB.out.symm,HR.out.trans HRw.out⟩
theorem ri_ok(o:Option Int):RV (.ok o)= .tuple #[.int .i64 (o.getD 0),.bool o.isSome,.int .i64 0]:=by cases o<;>rfl
theorem ptold_leaf(k n:Int)(nm:List UInt8)(S:Nat→Prop)(e:El)(A:Option Addr)(c:Nat)(os:List Of)(w0 w:World)(hx:fine 32 (.mk k n nm [])=true)(hc:isCond k=false)(hr:Rel w0 w)(h:ExAt S w e (.mk k n nm []))(hl:offsOk os=true)(ho:OffArg w A c os):
  Calls Tryz.prog 176 #[.slice A os.length c,EV e] w (TPost w0 (toldN os 32 (.mk k n nm []))):=by
 obtain⟨p1,p2,p3,p4,p5⟩:=fine_parts (d:=31) hx
 have hk:=kind_list (k:=k) (by omega)
 have h8:=offs_len hl
 obtain⟨A',c',es,rfl,hk',hn,hm,hle,hrow,hsub⟩:=h.open
 rcases hk with rfl|rfl|rfl|rfl|rfl|rfl|rfl|rfl|rfl|rfl|rfl|rfl
 ·exact tp_of_ok (told_one os 31 (.mk 1 n nm []) rfl) rfl rfl (pex1 n nm A' c' (.slice A os.length c) w0 w hr _ _ (fun w' hw=>vranked_any 0 (by omega) A c os h8 w' w' hw.self (ho.rel hw)))
 ·exact tp_of_ok (told_two os 31 (.mk 2 n nm []) rfl) rfl rfl (pex2 n nm A' c' (.slice A os.length c) w0 w hr _ _ (fun w' hw=>vranked_any 1 (by omega) A c os h8 w' w' hw.self (ho.rel hw)))
 ·exact tp_of_ok (told_from os 31 (.mk 3 n nm []) rfl) rfl rfl (pex3 n nm A' c' (.slice A os.length c) w0 w hr _ _ (fun w' hw=>vfrom_any nm A c os w' w' hw.self (ho.rel hw)))
 ·exact tp_of_ok (told_fix os 31 (.mk 4 n nm []) rfl) rfl rfl (pex4 n nm A' c' (.slice A os.length c) w0 w hr)
 all_goals first|exact absurd p1 (by decide)|exact absurd hc (by decide)
theorem ptold_leafx{k n:Int}{nm:List UInt8}{x:Ex}(hx:Ex.mk k n nm []=x)(S:Nat→Prop)(e:El)(A:Option Addr)(c:Nat)(os:List Of)(w0 w:World)(h0:fine 32 x=true)(hc:isCond x.k=false)(hr:Rel w0 w)(h:ExAt S w e x)(hl:offsOk os=true)(ho:OffArg w A c os):
  Calls Tryz.prog 176 #[.slice A os.length c,EV e] w (TPost w0 (toldN os 32 x)):=by
 subst hx
 exact ptold_leaf k n nm S e A c os w0 w h0 hc hr h hl ho
theorem veval_any:EvalOk:=fun x S e A c os w0 w hxl hr h hz ho=>by
 obtain⟨kl,nl,nml,rfl⟩:=hxl
 have hxx:(Ex.mk kl nl nml [])=Ex.mk kl nl nml []:=rfl
 obtain⟨x,hxe⟩:∃x,(Ex.mk kl nl nml [])=x:=⟨_,rfl⟩
 rw[hxe] at h hz⊢
 have HXE:=yH hxe
 clear hxe hxx
 have HR:=yH hr
 have HE:=yH h
 have HO:=yH ho
 obtain⟨k,n,nm,A',m,c'⟩:=e
 have HB:=yH ((Bk.new w 52 #[.int .i64 k,.int .i64 n,.string (B nm),.slice A' m c']).alloc (.cells #[.slice A os.length c] 27))
 have HL:=yH (Bk.snd w #[.int .i64 k,.int .i64 n,.string (B nm),.slice A' m c'] #[.slice A os.length c] 52 27)
 have HA:=yH ((hr.self.alloc (.cells #[.int .i64 k,.int .i64 n,.string (B nm),.slice A' m c'] 52)).alloc (.cells #[.slice A os.length c] 27))
 obtain⟨W,hW⟩:∃W,(w.alloc (.cells #[.int .i64 k,.int .i64 n,.string (B nm),.slice A' m c'] 52)).alloc (.cells #[.slice A os.length c] 27)=W:=⟨_,rfl⟩
 rw[hW] at HA HB HL
 have hc1:=fun(w':World) (hh:Rel w w')=>vright9_any A c os w' w' (hr.self.trans hh).self (ho.rel hh)
 have hc2:=fun(w':World) (hh:Rel w w')=>tright_any x S (k,n,nm,A',m,c') w' w' (hr.self.trans hh).self (h.rel hh) (by omega)
 obtain⟨b1,h1⟩:∃b,offsOk os=b:=⟨_,rfl⟩
 obtain⟨b2,h2⟩:∃b,rightX x=b:=⟨_,rfl⟩
 rw[h1] at hc1
 rw[h2] at hc2
 have HC1:=yH hc1
 have HC2:=yH hc2
 have H1:=yH h1
 have H2:=yH h2
 obtain⟨⟨x0,x1,x2,x3⟩,_⟩:=HB.out.four
 have l0:=HL.out.cell 0
 simp only[List.getElem?_toArray,List.getElem?_cons_zero] at l0
 clear h ho hc1 hc2 h1 h2 hr
 have key:b1=false∨b2=false∨(b1=true∧b2=true):=by cases b1<;>cases b2<;>simp
 have bad:b1=false∨b2=false→Hid (evalS os x= .error 1):=fun hb=>yH (by
  unfold evalS;rw[H1.out,H2.out]
  rcases hb with rfl|rfl
  ·rfl
  ·rw[Bool.and_false];rfl)
 rcases key with rfl|rfl|⟨rfl,rfl⟩
 ·have HF:=bad (.inl rfl)
  clear bad
  go_enter Tryz.func166,Tryz.ntmps166
  rw[HF.out]
  go_wp2_with (go_at_call 86;(with_reducible refine(HC1.out _ HA.out).mono ?_);rintro e w1 ⟨rfl,r1⟩;have R1:=yH (HA.out.trans r1);obtain⟨⟨d0,d1,d2,d3⟩,_⟩:=(HB.out.rel r1).four)
  go_ret3
  exact⟨rfl,HR.out.trans R1.out⟩
 ·have HF:=bad (.inr rfl)
  clear bad
  go_enter Tryz.func166,Tryz.ntmps166
  rw[HF.out]
  cases b1
  ·go_wp2_with (go_at_call 86;(with_reducible refine(HC1.out _ HA.out).mono ?_);rintro e w1 ⟨rfl,r1⟩;have R1:=yH (HA.out.trans r1);obtain⟨⟨d0,d1,d2,d3⟩,_⟩:=(HB.out.rel r1).four)
   go_ret3
   exact⟨rfl,HR.out.trans R1.out⟩
  ·go_wp2_with (first
    |(go_at_call 86;(with_reducible refine(HC1.out _ HA.out).mono ?_);rintro e w1 ⟨rfl,r1⟩;have R1:=yH (HA.out.trans r1);obtain⟨⟨d0,d1,d2,d3⟩,_⟩:=(HB.out.rel r1).four)
    |(go_at_call 36;(with_reducible refine(HC2.out _ R1.out).mono ?_);rintro e w2 ⟨rfl,r2⟩;have R2:=yH (R1.out.trans r2)))
   go_ret3
   exact⟨rfl,HR.out.trans R2.out⟩
 ·clear bad
  have HF:evalS os x=toldN os 32 x:=by unfold evalS;rw[H1.out,H2.out];rfl
  rw[HF]
  clear HF
  have hT:=fun(w':World) (hh:Rel w w')=>ptold_leafx HXE.out S (k,n,nm,A',m,c') A c os w' w' (right_fine H2.out).1 (right_fine H2.out).2 (HR.out.trans hh).self (HE.out.rel hh) H1.out (HO.out.rel hh)
  cases hq:toldN os 32 x with
  |error er=>
   have he:=told_err _ _ _ _ hq
   subst he
   have hT:=fun(w':World) (hh:Rel w w')=>tp_no (hT w' hh) hq
   have HK:=yH (fun(w':World) (hh:Rel W w')=>vreckon_no (w.heap.size+1) w.heap.size w' w' hh.self (fun w2 h2=>veval1_no k n nm A' m c' (.slice A os.length c) (w.heap.size+1) w.heap.size w2 w2 h2.self (HL.out.rel (hh.trans h2)) (HB.out.rel (hh.trans h2)) (fun w3 h3=>hT w3 ((HA.out.trans hh).trans (h2.trans h3)))))
   clear hT hq
   go_enter Tryz.func166,Tryz.ntmps166
   go_upto_region 4 with (first
    |(go_at_call 86;(with_reducible refine(HC1.out _ HA.out).mono ?_);rintro e w1 ⟨rfl,r1⟩;have R1:=yH (HA.out.trans r1);obtain⟨⟨d0,d1,d2,d3⟩,_⟩:=(HB.out.rel r1).four)
    |(go_at_call 36;(with_reducible refine(HC2.out _ R1.out).mono ?_);rintro e w2 ⟨rfl,r2⟩;have R2:=yH (R1.out.trans r2))
    |(go_at_call 174;(with_reducible refine(HK.out _ (HA.out.self.trans (r1.trans r2))).mono ?_);rintro e w3 ⟨rfl,r3⟩;have R3:=yH (R2.out.trans r3)))
   have HU:=yH (Bk.new w3 160 #[.int .i64 0,.bool false])
   have RU:=yH (R3.out.alloc (.cells #[.int .i64 0,.bool false] 160))
   obtain⟨U,hU⟩:∃U,w3.alloc (.cells #[.int .i64 0,.bool false] 160)=U:=⟨_,rfl⟩
   rw[hU] at HU RU⊢
   clear hU
   obtain⟨⟨p0,p1⟩,_⟩:=HU.out.two
   go_quiet (fail)
   go_wp2_with (fail)
   go_ret3
   exact⟨rfl,(HR.out.trans RU.out).drewN _⟩
  |ok o=>
   rw[ri_ok]
   obtain⟨V,hV⟩:∃V,o.getD 0=V:=⟨_,rfl⟩
   obtain⟨b,hb⟩:∃b,o.isSome=b:=⟨_,rfl⟩
   rw[hV,hb]
   have hT:=fun(w':World) (hh:Rel w w')=>tp_ok (hT w' hh) hq hV hb
   have HK:=yH (fun(w':World) (hh:Rel W w')=>vreckon_ok (w.heap.size+1) w.heap.size V b w' w' hh.self (fun w2 h2=>veval1_ok k n nm A' m c' (.slice A os.length c) (w.heap.size+1) w.heap.size V b w2 w2 h2.self (HL.out.rel (hh.trans h2)) (HB.out.rel (hh.trans h2)) (fun w3 h3=>hT w3 ((HA.out.trans hh).trans (h2.trans h3)))))
   clear hT hq hV hb
   go_enter Tryz.func166,Tryz.ntmps166
   go_upto_region 4 with (first
    |(go_at_call 86;(with_reducible refine(HC1.out _ HA.out).mono ?_);rintro e w1 ⟨rfl,r1⟩;have R1:=yH (HA.out.trans r1);obtain⟨⟨d0,d1,d2,d3⟩,_⟩:=(HB.out.rel r1).four)
    |(go_at_call 36;(with_reducible refine(HC2.out _ R1.out).mono ?_);rintro e w2 ⟨rfl,r2⟩;have R2:=yH (R1.out.trans r2))
    |(go_at_call 174;(with_reducible refine(HK.out _ (HA.out.self.trans (r1.trans r2))).mono ?_);rintro e w3 ⟨rfl,r3⟩;have R3:=yH (R2.out.trans r3)))
   have HU:=yH (Bk.new w3 160 #[.int .i64 V,.bool b])
   have RU:=yH (R3.out.alloc (.cells #[.int .i64 V,.bool b] 160))
   obtain⟨U,hU⟩:∃U,w3.alloc (.cells #[.int .i64 V,.bool b] 160)=U:=⟨_,rfl⟩
   rw[hU] at HU RU⊢
   clear hU
   obtain⟨⟨p0,p1⟩,_⟩:=HU.out.two
   go_quiet (fail)
   go_wp2_with (fail)
   go_ret3
   exact⟨rfl,(HR.out.trans RU.out).drewN _⟩
def doneR(os:List Of)(l:List In):Ms×Nat:=if offsOk os then (if codeOk l then goM os l 0 ([],0) 0 else (([],100),0)) else (([],1),0)
theorem run_done(os:List Of)(l:List In):runS os l=endR (doneR os l).1∧stepsS os l=(doneR os l).2:=by
 unfold runS stepsS doneR
 cases offsOk os<;>cases codeOk l<;>exact⟨rfl,rfl⟩
def nxAt(b:Nat)(w:World):Nat:=match w.cell? ⟨b,1,none⟩ with
 |some (.int _ n)=>n.toNat
 |_=>0
theorem nxAt_eq{w:World}{C D b i:Nat}{ov:Value}{st:Int}{S:List Ce}(h:Mh w C D b ov (i:Int) st S):nxAt b w=i:=by
 obtain⟨A,c,hb⟩:=h.cells
 obtain⟨⟨_,b1,_,_⟩,_⟩:=hb.four
 unfold nxAt
 rw[b1]
 simp
theorem lfn_zero(w:World):(zeroValue 144).run Tryz.prog w= .ok .nilFunc w:=by kernel_rfl
theorem lops_run{w:World}{q b:Nat}(h:MapIs w q (lopsL b))(o:Int)(ho:i64 o){v:Value}(hv:look (lopsL b) o=some v):
  (Instr.lookup 142 (.map (some q)) (.int .i64 o) false).run Tryz.prog w= .ok v w:=by
 have:=h.look 142 144 Tryz.underlying142 .nilFunc (lfn_zero w) o (WalkArith.wf_i64 ho)
 rw[hv] at this
 exact this
def DonePost(w:World)(ov:Value)(R:Ms×Nat)(e:Ending)(w':World):Prop:=
 ∃(b D:Nat) (nx:Int) (S:List Ce),e= .returned (.tuple #[.pointer (some ⟨b,0,none⟩),.int .i64 R.1.2])∧Mh w' w.heap.size D b ov nx (R.2:Int) S∧(R.1.2=0→S=R.1.1)∧Rel w w'
theorem ldone_any(H:EvalOk)(A A':Option Addr)(c c':Nat)(l:List In)(os:List Of)(w0 w:World)(hr:Rel w0 w)(h:InsArg w A c l)(ho:OffArg w A' c' os):
  Calls Tryz.prog 66 #[.slice A l.length c,.slice A' os.length c'] w (DonePost w (.slice A' os.length c') (doneR os l)):=by
 obtain⟨len,hlen⟩:∃len,l.length=len:=⟨_,rfl⟩
 obtain⟨olen,holen⟩:∃olen,os.length=olen:=⟨_,rfl⟩
 rw[hlen,holen]
 have HL:=yH hlen
 have HO:=yH holen
 have HS:=yH hr.self
 have HI:=yH h
 have HF:=yH ho
 have HA:=yH (hr.self.alloc (.cells #[.slice A' olen c',.int .i64 0,.int .i64 0,.slice none 0 0] 109))
 have HM:=yH (show Mh (w.alloc (.cells #[.slice A' olen c',.int .i64 0,.int .i64 0,.slice none 0 0] 109)) w.heap.size (w.heap.size+1) w.heap.size (.slice A' olen c') 0 0 [] from
  Mh.of (L:=0) (Nat.le_refl _) (Nat.lt_succ_self _) (by rw[World.size_alloc];exact Nat.le_refl _) (by decide) rfl (Bk.new w 109 _) (StkOwn.nil _ _ _) (fun g e=>by cases e))
 have HB:=yH (Bk.new w 109 #[.slice A' olen c',.int .i64 0,.int .i64 0,.slice none 0 0])
 obtain⟨W,hW⟩:∃W,w.alloc (.cells #[.slice A' olen c',.int .i64 0,.int .i64 0,.slice none 0 0] 109)=W:=⟨_,rfl⟩
 rw[hW] at HA HM HB
 have HV:=yH (show ∀w1,Rel w w1→Calls Tryz.prog 86 #[.slice A' olen c'] w1 fun z w'=>z= .returned (.bool (offsOk os))∧Rel w1 w' from fun w1 h1=>by
  have:=vright9_any A' c' os w1 w1 (hr.self.trans h1).self (HF.out.rel h1)
  rw[HO.out] at this;exact this)
 have HC:=yH (show ∀w1,Rel w w1→Calls Tryz.prog 87 #[.slice A len c] w1 fun z w'=>z= .returned (.bool (codeOk l))∧Rel w1 w' from fun w1 h1=>by
  have:=cright_any A c l w1 w1 (hr.self.trans h1).self (HI.out.rel h1)
  rw[HL.out] at this;exact this)
 clear hr h ho hlen holen
 cases hok:offsOk os with
 |false=>
  have HD:=yH (show doneR os l=(([],1),0) by unfold doneR;rw[hok];rfl)
  rw[hok] at HV
  go_enter Tryz.func66,Tryz.ntmps66
  go_wp2_with (go_at_call 86;(with_reducible refine(HV.out _ HA.out).mono ?_);rintro e w1 ⟨rfl,h1⟩)
  go_ret2
  exact⟨w.heap.size,_,_,[],by(rw[HD.out];try rfl),by rw[HD.out];exact HM.out.rel h1,fun _=>by rw[HD.out],HA.out.trans h1⟩
 |true=>
 rw[hok] at HV
 cases hcd:codeOk l with
 |false=>
  have HD:=yH (show doneR os l=(([],100),0) by unfold doneR;rw[hok,hcd];rfl)
  rw[hcd] at HC
  go_enter Tryz.func66,Tryz.ntmps66
  go_wp2_with (first
   |(go_at_call 86;(with_reducible refine(HV.out _ HA.out).mono ?_);rintro e w1 ⟨rfl,h1⟩;have R1:=yH (HA.out.trans h1);have M1:=yH (HM.out.rel h1);clear h1)
   |(go_at_call 87;(with_reducible refine(HC.out _ R1.out).mono ?_);rintro e w2 ⟨rfl,h2⟩))
  go_ret2
  exact⟨w.heap.size,_,_,[],by(rw[HD.out];try rfl),by rw[HD.out];exact M1.out.rel h2,fun _=>by rw[HD.out],R1.out.trans h2⟩
 |true=>
 rw[hcd] at HC
 have HOk:=yH hok
 have HCd:=yH hcd
 have HD:=yH (show doneR os l=goM os l 0 ([],0) 0 by unfold doneR;rw[hok,hcd];rfl)
 have hl5:len≤5000:=by have:=(codeOk_iff.1 hcd).1;have:=HL.out;omega
 have HFw:=yH (fwd_of hcd)
 clear hok hcd
 go_enter Tryz.func66,Tryz.ntmps66
 go_wp2_with (first
  |(go_at_call 86;(with_reducible refine(HV.out _ HA.out).mono ?_);rintro e w1 ⟨rfl,h1⟩;have R1:=yH (HA.out.trans h1);have M1:=yH (HM.out.rel h1);clear h1)
  |(go_at_call 87;(with_reducible refine(HC.out _ R1.out).mono ?_);rintro e w2 ⟨rfl,h2⟩;have R2:=yH (R1.out.trans h2);have M2:=yH (M1.out.rel h2);clear h2)
  |(go_at_call 88;(with_reducible refine(loperations_any w.heap.size w _ R2.out).mono ?_);rintro e w3 ⟨q,rfl,hq,mq,h3⟩;have R3:=yH (R2.out.trans h3);have M3:=yH (M2.out.rel h3);have MQ:=yH mq;have hqb:q≠w.heap.size:=(by have:=M2.out.lt;omega);clear h3 mq hq))
 obtain⟨R,hR⟩:∃R,goM os l 0 ([],0) 0=R:=⟨_,rfl⟩
 have HRr:=yH hR
 clear hR
 go_loopw [] (fun wr=>∃(i k D:Nat) (S:List Ce),Hid (Mh wr w.heap.size D w.heap.size (.slice A' olen c') (i:Int) (k:Int) S)∧i≤len∧k≤i∧Hid (goM os l i (S,0) k=R)∧Hid (Rel w wr)∧Hid (MapIs wr q (lopsL w.heap.size))) (fun wr=>len-nxAt w.heap.size wr)
 case atStart=>exact⟨0,0,_,[],M3,Nat.zero_le _,Nat.le_refl _,HRr,R3,MQ⟩
 case round=>
  obtain⟨i,k,D,S,HMr,hi,hk,HG,HRw,HQ⟩:=hrel
  have hMr:=HMr.out
  obtain⟨Ab,cb,hbb⟩:=hMr.cells
  obtain⟨⟨b0,b1,b2,b3⟩,f0,f1,f2,f3⟩:=hbb.four
  have hblt:=hMr.lt
  have hDw:=hMr.2.2.1
  clear hbb hMr
  by_cases hlt:i<len
  ·have hlt':i<l.length:=by rw[HL.out];exact hlt
   obtain⟨g,off,o,n,nm,rfl,c0,c1,c2,hli⟩:=ins_at HI.out.2.2.2 HRw.out i hlt'
   have hin:=(codeOk_iff.1 HCd.out).2 i hlt'
   rw[hli] at hin
   have hfit:=HI.out.2.2.1 _ (List.getElem_mem hlt')
   rw[hli] at hfit
   obtain⟨fn,hlook,hfn,hop⟩:=lops_any veval_any w.heap.size os HOk.out A' c' l.length i o n nm hin
   have hnext:=step_next (l:=os) HFw.out hlt' (S,0)
   have hstep:=go_step (l:=os) HFw.out (show l[i]?=some (o,n,nm) by rw[List.getElem?_eq_getElem hlt',hli]) S k
   rw[hli] at hnext
   rw[HG.out] at hstep
   obtain⟨⟨nn,T,er⟩,hm⟩:∃m,stepM os (o,n,nm) i (S,0)=m:=⟨_,rfl⟩
   have hop:=fun(D:Nat) (st:Int) (w1:World) (h1:Rel w w1) (h2:Mh w1 w.heap.size D w.heap.size (.slice A' olen c') ((i+1:Nat):Int) st S)=>by
    have:=hop D st S w w1 h1 (by rw[HO.out];exact h2) (HF.out.rel h1)
    rw[hm,HO.out] at this
    exact this
   rw[hm] at hnext hstep
   have HOp:=yH hop
   have HSt:=yH hstep
   have hn1:i<nn:=hnext.1
   have hn2:nn≤len:=by rw[←HL.out];exact hnext.2
   have HX1:=yH (Bk.new wr 140 #[.int .i64 o,.int .i64 n,.string (B nm)])
   have HR1:=yH (HRw.out.alloc (.cells #[.int .i64 o,.int .i64 n,.string (B nm)] 140))
   have HM1:=yH (HMr.out.rel (HRw.out.self.alloc (.cells #[.int .i64 o,.int .i64 n,.string (B nm)] 140)))
   have HQ1:=yH (HQ.out.alloc (.cells #[.int .i64 o,.int .i64 n,.string (B nm)] 140))
   have hxb:wr.heap.size≠w.heap.size:=by omega
   have HLk:=yH hlook
   have HFt:=yH hfit.1
   clear hop hstep hnext hli hin hfit hlook hm hlt'
   go_upto_region 9 with (fail)
   obtain⟨V1,hV1⟩:∃V,wr.alloc (.cells #[.int .i64 o,.int .i64 n,.string (B nm)] 140)=V:=⟨_,rfl⟩
   rw[hV1] at HX1 HR1 HM1 HQ1
   try rw[hV1]
   clear hV1 b0 b1 b2 b3 f0 f1 f2 f3 c0 c1 c2
   obtain⟨A1,k1,hb1⟩:=HM1.out.cells
   obtain⟨⟨b0,b1,b2,b3⟩,f0,f1,f2,f3⟩:=hb1.four
   have HX2:=yH (HX1.out.far (p:=⟨w.heap.size,1,none⟩) hxb (.int .i64 ((i:Int)+1)))
   have HR2:=yH (HR1.out.setCell (p:=⟨w.heap.size,1,none⟩) (Nat.le_refl _) (.int .i64 ((i:Int)+1)))
   have HM2:=yH (show Mh (V1.setCell ⟨w.heap.size,1,none⟩ (.int .i64 ((i:Int)+1))) w.heap.size D w.heap.size (.slice A' olen c') ((i+1:Nat):Int) (k:Int) S from HM1.out.next ((i:Int)+1))
   have HQ2:=yH (HQ1.out.set (p:=⟨w.heap.size,1,none⟩) hqb (.int .i64 ((i:Int)+1)))
   clear hb1
   go_upto_region 10 with (fail)
   obtain⟨V2,hV2⟩:∃V,V1.setCell ⟨w.heap.size,1,none⟩ (.int .i64 ((i:Int)+1))=V:=⟨_,rfl⟩
   rw[hV2] at HX2 HR2 HM2 HQ2
   try rw[hV2]
   clear hV2 b0 b1 b2 b3 f0 f1 f2 f3
   obtain⟨A2,k2,hb2⟩:=HM2.out.cells
   obtain⟨⟨b0,b1,b2,b3⟩,f0,f1,f2,f3⟩:=hb2.four
   have HX3:=yH (HX2.out.far (p:=⟨w.heap.size,2,none⟩) hxb (.int .i64 ((k:Int)+1)))
   have HR3:=yH (HR2.out.setCell (p:=⟨w.heap.size,2,none⟩) (Nat.le_refl _) (.int .i64 ((k:Int)+1)))
   have HM3:=yH (HM2.out.step ((k:Int)+1))
   have HQ3:=yH (HQ2.out.set (p:=⟨w.heap.size,2,none⟩) hqb (.int .i64 ((k:Int)+1)))
   clear hb2
   go_upto_region 11 with (fail)
   obtain⟨V3,hV3⟩:∃V,V2.setCell ⟨w.heap.size,2,none⟩ (.int .i64 ((k:Int)+1))=V:=⟨_,rfl⟩
   rw[hV3] at HX3 HR3 HM3 HQ3
   try rw[hV3]
   clear hV3 b0 b1 b2 b3 f0 f1 f2 f3
   obtain⟨⟨x0,x1,x2⟩,_⟩:=three_of HX3.out
   have lk:=lops_run HQ3.out o HFt.out HLk.out
   by_cases he:er=0
   ·subst he
    go_wp2_with ((with_reducible refine(HOp.out D ((k:Int)+1) V3 HR3.out (by exact HM3.out)).mono ?_);rintro e w4 ⟨rfl,r4,k4,D4,S4,nx4,m4,e4⟩;have E4:=yH (e4 rfl);clear e4)
    have m5:Mh w4 w.heap.size D4 w.heap.size (.slice A' olen c') (nn:Int) ((k+1:Nat):Int) T:=by
     have e5:nx4=(nn:Int):=E4.out.1
     have e6:S4=T:=E4.out.2
     rw[←e5,←e6];exact m4
    clear E4 m4
    go_roundw
    case rel=>exact⟨nn,k+1,D4,T,yH m5,hn2,by omega,yH HSt.out.symm,yH r4,yH (MapIs.kr HQ3.out k4 hqb)⟩
    case measure=>
     rw[nxAt_eq (i:=nn) m5,nxAt_eq HMr.out]
     omega
   ·have heb:(er==0)=false:=by simpa using he
    have hen:(er !=0)=true:=by simpa using he
    go_wp2_with ((with_reducible refine(HOp.out D ((k:Int)+1) V3 HR3.out (by exact HM3.out)).mono ?_);rintro e w4 ⟨rfl,r4,k4,D4,S4,nx4,m4,e4⟩)
    go_ret2
    have hend:=HSt.out
    rw[go_err os l nn (T,er) (k+1) he] at hend
    have hdr:doneR os l=((T,er),k+1):=by rw[HD.out,HRr.out];exact hend
    exact⟨w.heap.size,D4,nx4,S4,by(rw[hdr];try rfl),by rw[hdr];exact m4,fun h0=>absurd (by rw[hdr] at h0;exact h0) he,r4⟩
  ·obtain rfl:i=len:=by omega
   have hend:=HG.out
   rw[go_end os l i (S,0) k (by rw[HL.out];exact Nat.le_refl _)] at hend
   have hdr:doneR os l=((S,0),k):=by rw[HD.out,HRr.out];exact hend.symm
   have HDr:=yH hdr
   clear hdr hend
   go_wp2_with (fail)
   go_ret2
   exact⟨w.heap.size,D,_,S,by(rw[HDr.out];try rfl),by rw[HDr.out];exact HMr.out,fun _=>by rw[HDr.out],HRw.out⟩
theorem rv_err(e:Int):RV (.error e)= .tuple #[.int .i64 0,.bool false,.int .i64 e]:=rfl
theorem end_err{T:List Ce}{er:Int}(h:er≠0):endR (T,er)= .error er:=by unfold endR;rw[if_neg h]
theorem end_one(c:Ce):endR ([c],0)= .ok c:=rfl
theorem end_not{T:List Ce}(h:T.length≠1):endR (T,0)= .error 100:=by
 unfold endR
 rw[if_pos rfl]
 match T,h with
 |[],_=>rfl
 |[c],h=>exact absurd rfl h
 |_::_::_,_=>rfl
def DP(w:World)(ov:Value)(T:List Ce)(er:Int)(k:Nat)(e:Ending)(w':World):Prop:=
 ∃(b D:Nat) (nx:Int) (S:List Ce),e= .returned (.tuple #[.pointer (some ⟨b,0,none⟩),.int .i64 er])∧Hid (Mh w' w.heap.size D b ov nx (k:Int) S)∧Hid (er=0→S=T)∧Hid (Rel w w')
theorem ldone_as(A A':Option Addr)(c c':Nat)(l:List In)(os:List Of)(T:List Ce)(er:Int)(k:Nat)(hd:Hid (doneR os l=((T,er),k)))(w0 w:World)(hr:Rel w0 w)(h:InsArg w A c l)(ho:OffArg w A' c' os)(n m:Nat)(hn:Hid (l.length=n∧os.length=m)):
  Calls Tryz.prog 66 #[.slice A n c,.slice A' m c'] w (DP w (.slice A' m c') T er k):=by
 obtain⟨h1,h2⟩:=hn.out
 subst h1 h2
 refine(ldone_any veval_any A A' c c' l os w0 w hr h ho).mono ?_
 rintro e w' ⟨b,D,nx,S,h1,h2,h3,h4⟩
 rw[hd.out] at h1 h2 h3
 exact⟨b,D,nx,S,h1,yH h2,yH h3,yH h4⟩
theorem Mh.one{w:World}{C D b:Nat}{ov:Value}{nx st:Int}{x:Ce}(h:Mh w C D b ov nx st [x]):
  ∃(A:Option Addr) (g c:Nat),Bk w b 109 #[ov,.int .i64 nx,.int .i64 st,.slice A 1 c]∧A=some ⟨g,0,none⟩∧w.cell? ⟨g,0,none⟩=some (.int .i64 (x.getD 0))∧w.cell? ⟨g,1,none⟩=some (.bool x.isSome):=by
 obtain⟨h1,h2,h3,h4,A,c,hb,ho,h5⟩:=h
 obtain⟨g,cap,hv,_,_,_,t0,t1,_⟩:=StkOwn.top (S:=[]) (c:=x) ho
 injection hv with e1 e2 e3
 exact⟨A,g,c,hb,e1,t0,t1⟩
theorem Mh.not{w:World}{C D b:Nat}{ov:Value}{nx st:Int}{T:List Ce}(h:Mh w C D b ov nx st T)(hn:T.length≠1):
  ∃(A:Option Addr) (c L:Nat),Bk w b 109 #[ov,.int .i64 nx,.int .i64 st,.slice A L c]∧((L:Int) !=1)=true:=by
 obtain⟨h1,h2,h3,h4,A,c,hb,ho,h5⟩:=h
 exact⟨A,c,T.length,hb,by simp;omega⟩
theorem lrun_any:RunOk:=fun A A' c c' l os w0 w hr h ho=>by
 obtain⟨⟨⟨T,er⟩,k⟩,hR⟩:∃R,doneR os l=R:=⟨_,rfl⟩
 have hE:runS os l=endR (T,er):=by rw[(run_done os l).1,hR]
 rw[hE]
 obtain⟨n,hn⟩:∃n,l.length=n:=⟨_,rfl⟩
 obtain⟨m,hm⟩:∃m,os.length=m:=⟨_,rfl⟩
 have HC:=yH (ldone_as A A' c c' l os T er k (yH hR) w0 w hr h ho n m (yH ⟨hn,hm⟩))
 rw[hn,hm]
 have HR:=yH hr
 clear hr h ho hR hE hn hm
 by_cases he:er=0
 ·subst he
  by_cases h1:T.length=1
  ·obtain⟨x,rfl⟩:∃x,T=[x]:=by
    match T,h1 with
    |[x],_=>exact⟨x,rfl⟩
   rw[end_one,lrv_ok]
   obtain⟨p,hp⟩:∃p,x.getD 0=p:=⟨_,rfl⟩
   obtain⟨q,hq⟩:∃q,x.isSome=q:=⟨_,rfl⟩
   rw[hp,hq]
   have HX:=yH (And.intro hp hq)
   clear hp hq h1
   go_enter Tryz.func46,Tryz.ntmps46
   go_upto_region 6 with (go_at_call 66;(with_reducible refine HC.out.mono ?_);rintro e w1 ⟨b,D,nx,S,rfl,HM,HT,HW⟩;obtain⟨A1,g1,c1,hb,hA,t0,t1⟩:=Mh.one (x:=x) (by have:=HM.out;rw[HT.out rfl] at this;exact this);subst hA;rw[HX.out.1] at t0;rw[HX.out.2] at t1;obtain⟨⟨b0,b1,b2,b3⟩,_⟩:=hb.four;clear hb HM HT)
   go_quiet (fail)
   go_wp2_with (fail)
   go_ret3
   exact⟨rfl,(HR.out.trans HW.out).drewN _⟩
  ·rw[end_not h1,rv_err]
   have HN:=yH h1
   clear h1
   go_enter Tryz.func46,Tryz.ntmps46
   go_wp2_with (go_at_call 66;(with_reducible refine HC.out.mono ?_);rintro e w1 ⟨b,D,nx,S,rfl,HM,HT,HW⟩;obtain⟨A1,c1,L1,hb,t1⟩:=Mh.not (T:=T) (by have:=HM.out;rw[HT.out rfl] at this;exact this) HN.out;obtain⟨⟨b0,b1,b2,b3⟩,_⟩:=hb.four;clear hb HM HT)
   go_ret3
   exact⟨rfl,HR.out.trans HW.out⟩
 ·rw[end_err he,rv_err]
  have heb:(er==0)=false:=by simpa using he
  have hen:(er !=0)=true:=by simpa using he
  go_enter Tryz.func46,Tryz.ntmps46
  go_wp2_with (go_at_call 66;(with_reducible refine HC.out.mono ?_);rintro e w1 ⟨b,D,nx,S,rfl,HM,HT,HW⟩)
  go_ret3
  exact⟨rfl,HR.out.trans HW.out⟩
theorem lclamp14(n l h:Int)(w:World):Calls Tryz.prog 29 #[.int .i64 n,.int .i64 l,.int .i64 h] w fun e w'=>e= .returned (.int .i64 (clampC n l h))∧w=w':=by
 by_cases h1:h<n<;>by_cases h2:h<l<;>by_cases h3:n<l
 all_goals
  go_enter Tryz.func29,Tryz.ntmps29
  go_wp2
  all_goals
   go_ret
   exact⟨ret_int (by unfold clampC;omega),rfl⟩
theorem lclamp14_as(n l h r:Int)(hr:Hid (clampC n l h=r))(w:World):Calls Tryz.prog 29 #[.int .i64 n,.int .i64 l,.int .i64 h] w fun e w'=>e= .returned (.int .i64 r)∧w=w':=by
 rw[←hr.out];exact lclamp14 n l h w
def XNew(lb:Nat)(w:World)(v:Value)(x:Ex):Prop:=∃e:El,EV e=v∧ExAt (fun k=>lb≤k) w e x
theorem XNew.at{lb:Nat}{w:World}{v:Value}{x:Ex}(h:XNew lb w v x):XAt w v x:=by
 obtain⟨e,he,hx⟩:=h
 exact⟨_,e,he,hx⟩
theorem XNew.rel{lb:Nat}{w w':World}{v:Value}{x:Ex}(h:XNew lb w v x)(hr:Rel w w'):XNew lb w' v x:=by
 obtain⟨e,he,hx⟩:=h
 exact⟨e,he,hx.rel hr⟩
theorem XNew.put4{lb g:Nat}{w:World}{v:Value}{x:Ex}(h:XNew lb w v x)(hg:g<lb)(hlb:lb≤w.heap.size)(a b c d:Value):XNew lb ((((w.setCell ⟨g,0,none⟩ a).setCell ⟨g,1,none⟩ b).setCell ⟨g,2,none⟩ c).setCell ⟨g,3,none⟩ d) v x:=by
 obtain⟨e,he,hx⟩:=h
 exact⟨e,he,hx.grown (put4_grown w g a b c d) (fun k hk=>by
  have hk:lb≤k:=hk
  exact⟨hk,fun e=>by injection e;omega⟩)⟩
theorem lparse_yes14(t:List UInt8)(S:ByteArray)(hS:B t=S)(ht:t.length≤9223372036854775807)(x:Ex)(hx:parseS t= .ok x)(w:World)(hr:Rel w w):
  Calls Tryz.prog 35 #[.string S] w fun e w'=>∃(k n:Int) (X:ByteArray) (A:Option Addr) (l c:Nat),e= .returned (.tuple #[.agg #[.int .i64 k,.int .i64 n,.string X,.slice A l c],.int .i64 0,.int .i64 0])∧Hid (XNew w.heap.size w' (XV k n X A l c) x)∧Hid (Rel w w'):=by
 subst hS
 have h:=parseOk (B t) (by rw[B_size];exact ht) w w hr
 rw[B_list,hx] at h
 refine h.mono ?_
 rintro e w' ⟨v,rfl,hv,hr2⟩
 exact⟨_,_,_,_,_,_,rfl,yH ⟨v,rfl,hv⟩,yH hr2⟩
theorem lparse_no14(t:List UInt8)(S:ByteArray)(hS:B t=S)(ht:t.length≤9223372036854775807)(cd pl:Int)(hx:parseS t= .error (cd,pl))(w:World)(hr:Rel w w):
  Calls Tryz.prog 35 #[.string S] w fun e w'=>e= .returned (.tuple #[.agg #[.int .i64 0,.int .i64 0,.string ⟨#[]⟩,.slice none 0 0],.int .i64 cd,.int .i64 pl])∧Hid (Rel w w'):=by
 subst hS
 have h:=parseOk (B t) (by rw[B_size];exact ht) w w hr
 rw[B_list,hx] at h
 exact h.mono fun e w' ⟨he,hr2⟩=>⟨he,yH hr2⟩
theorem lright14{v:Value}{x:Ex}{b:Bool}(hb:rightX x=b)(hz:size x≤2001)(w:World)(h:XAt w v x)(hr:Rel w w):
  Calls Tryz.prog 36 #[v] w fun e w'=>e= .returned (.bool b)∧Hid (Rel w w'):=by
 obtain⟨S,e,rfl,hx⟩:=h
 subst hb
 exact(tright_any x S e w w hr hx (by omega)).mono fun e w' ⟨he,hr2⟩=>⟨he,yH hr2⟩
theorem lcompile14{v:Value}{x:Ex}(hb:rightX x=true)(hz:size x≤2001)(w:World)(h:XAt w v x)(hr:Rel w w):
  Calls Tryz.prog 45 #[v] w fun e w'=>∃(A:Option Addr) (n c:Nat),e= .returned (.tuple #[.slice A n c,.int .i64 0])∧Hid (n=(cod x 0).length)∧Hid (InsArg w' A c (cod x 0))∧Hid (Rel w w'):=by
 obtain⟨S,e,rfl,hx⟩:=h
 refine(compile_any x S e w w hr hx (by omega)).mono ?_
 rintro e w' ⟨A,c,rfl,ho,h2⟩
 have hf:=codX_fit x
 rw[(codX_yes hb).1] at ho hf
 rw[(codX_yes hb).1,(codX_yes hb).2]
 exact⟨A,_,c,rfl,yH rfl,yH (ho.arg hf),yH h2⟩
theorem lrun14{x:Ex}(hb:rightX x=true){os:List Of}{n e:Int}{b:Bool}(hv:RV (evalS os x)= .tuple #[.int .i64 n,.bool b,.int .i64 e])(A A':Option Addr)(c c' m N:Nat)(hm:Hid (m=(cod x 0).length))(hN:os.length=N)(w:World)(h:InsArg w A c (cod x 0))(ho:OffArg w A' c' os)(hr:Rel w w):
  Calls Tryz.prog 46 #[.slice A m c,.slice A' N c'] w fun z w'=>z= .returned (.tuple #[.int .i64 n,.bool b,.int .i64 e])∧Hid (Rel w w'):=by
 obtain rfl:=hm.out
 subst hN
 rw[←hv,←run_same os hb]
 exact(lrun_any A A' c c' _ os w w hr h ho).mono fun z w' ⟨h1,h2⟩=>⟨h1,yH h2⟩
end Go.Proofs.YtfekhbeaphpelaaGreatDoor
