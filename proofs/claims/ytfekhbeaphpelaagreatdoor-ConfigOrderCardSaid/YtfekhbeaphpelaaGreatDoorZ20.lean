/- The landed compiler's expr: it writes an expression's code behind what it has written; The document's own answers of layer 10: Compile; which code is the same; The document's own answers of layer 10: which code may be run; What the laws of layer 10 lean on: what the program is asked, and the law's awake; What the landed Compile tells; Plain mathematics of layer 11: what code tells. No program in this text; A stack in memory, of the call's own: it grows at its end, and is cut there. -/

import Derived.Test.YtfekhbeaphpelaaGreatDoorZ19
set_option maxRecDepth 100000
set_option maxHeartbeats 8000000
namespace Go.Proofs.YtfekhbeaphpelaaGreatDoor
open Go.RowKit Go.Lib
set_option linter.unusedVariables false
set_option linter.unusedSimpArgs false
theorem sclone_any(s:ByteArray)(hs:s.size≤1000000000)(w0 w:World)(hr:Rel w0 w):Calls Tryz.prog 85 #[.string s] w fun e w'=>e= .returned (.string s)∧Rel w0 w':=by
 have hc:=fun w=>Tryz.stringslite_Clone s w (by omega)
 go_enter Tryz.func85,Tryz.ntmps85
 go_wp2_with (go_at_call 111;refine(hc _).mono ?_;rintro e w' ⟨rfl,hw⟩)
 go_ret
 exact⟨rfl,hr.step hw⟩
def CC(x:Ex):Prop:=∀(S:Nat→Prop) (e:El) (b m:Nat) (l:List In) (w0 w:World),Rel w0 w→ExAt S w0 e x→Cm w w0.heap.size b m l→l.length+clen x≤90000→
  Calls Tryz.prog 65 #[.pointer (some ⟨b,0,none⟩),EV e] w fun r w'=>r= .returned (.tuple #[])∧Cm w' w0.heap.size b m (l++cod x l.length)∧Rel w0 w'∧Kq b w w'
theorem cexpr_as{x:Ex}(H:CC x){S:Nat→Prop}{e:El}{w0:World}(h:ExAt S w0 e x)(b m:Nat)(l l':List In)(hl:Hid (l++cod x l.length=l'))(hz:l.length+clen x≤90000):
  ∀w,Rel w0 w→Cm w w0.heap.size b m l→Calls Tryz.prog 65 #[.pointer (some ⟨b,0,none⟩),EV e] w fun r w'=>r= .returned (.tuple #[])∧Cm w' w0.heap.size b m l'∧Rel w0 w'∧Kq b w w':=fun w hr hc=>by
 rw[←hl.out];exact H S e b m l w0 w hr h hc hz
theorem Cm.ne{w:World}{C b m:Nat}{l:List In}(h:Cm w C b m l){p:Nat}{t:TypeId}{cs:Array Value}(hp:Bk w p t cs)(ht:t≠102):p≠b:=by
 obtain⟨_,A,c,hb,_⟩:=h
 exact Bk.ne hp hb ht
theorem set_mid(A B':List In)(o o':In)(n:Nat)(h:n=A.length):(A++[o]++B').set n o'=A++o'::B':=by
 subst h
 rw[List.append_assoc,List.set_append_right _ _ (Nat.le_refl _),Nat.sub_self];rfl
theorem get_mid(A B':List In)(o:In)(n:Nat)(h:n=A.length):(A++[o]++B')[n]?=some o:=by
 subst h
 rw[List.append_assoc,List.getElem?_append_right (Nat.le_refl _),Nat.sub_self];rfl
theorem else_done(l la lb:List In)(n:Nat)(hn:n=(l++la).length):((l++la)++[(9,0,[])]++lb).set n (9,(((l++la)++[(9,0,[])]++lb).length:Int),[])=l++joinE l.length la lb:=by
 rw[set_mid _ _ _ _ _ hn,joinE,List.append_assoc]
 simp only[List.length_append,List.length_cons,List.length_nil,Nat.zero_add]
theorem if_done(l lc la lb:List In)(n q:Nat)(hn:n=(l++lc).length)(hq:q=(l++lc++[(12,0,[])]++la).length):
  ((((l++lc)++[(12,0,[])]++la++[(13,0,[])]).set n (12,(((l++lc)++[(12,0,[])]++la++[(13,0,[])]).length:Int),[]))++lb).set q (13,((((l++lc)++[(12,0,[])]++la++[(13,0,[])]).set n (12,(((l++lc)++[(12,0,[])]++la++[(13,0,[])]).length:Int),[])++lb).length:Int),[])=l++joinI l.length lc la lb:=by
 have e1:(l++lc)++[(12,(0:Int),([]:List UInt8))]++la++[(13,0,[])]=(l++lc)++[(12,0,[])]++(la++[(13,0,[])]):=by rw[List.append_assoc]
 rw[e1,set_mid _ _ _ _ _ hn]
 generalize hX:((12:Int),(((l++lc)++[(12,(0:Int),([]:List UInt8))]++(la++[(13,0,[])])).length:Int),([]:List UInt8))=X
 have e2:(l++lc)++X::(la++[(13,0,[])])++lb=(l++lc++X::la)++[(13,0,[])]++lb:=by simp
 have hx:X=(12,((l.length+lc.length+la.length+2:Nat):Int),[]):=by
  rw[←hX]
  have:((l++lc)++[(12,(0:Int),([]:List UInt8))]++(la++[(13,0,[])])).length=l.length+lc.length+la.length+2:=by simp;omega
  rw[this]
 have hy:((l++lc++X::la)++[(13,(0:Int),([]:List UInt8))]++lb).length=l.length+lc.length+la.length+2+lb.length:=by simp;omega
 rw[e2,set_mid _ _ _ _ _ (by rw[hq];simp),hy,joinI,hx]
 simp
theorem w0rel{w0 w:World}(hr:Rel w0 w):Rel w0 w0:=Rel.start hr.1
theorem cexpr_else(d:Nat)(n:Int)(nm:List UInt8)(a b':Ex)(hf:fine (d+1) (.mk 9 n nm [a,b'])=true)(Ha:CC a)(Hb:CC b'):CC (.mk 9 n nm [a,b']):=fun S e b m l w0 w hr h hc hz=>by
 obtain⟨A',c',es,rfl,hk,hn,hm,hle,hrow,hsub⟩:=h.open
 have hblt:=hc.lt
 have HB:=yH (Bk.new w 52 #[.int .i64 9,.int .i64 n,.string (B nm),.slice A' 2 c'])
 have HA:=yH (hr.alloc (.cells #[.int .i64 9,.int .i64 n,.string (B nm),.slice A' 2 c'] 52))
 have HC:=yH (hc.alloc (.cells #[.int .i64 9,.int .i64 n,.string (B nm),.slice A' 2 c'] 52))
 have HQ:=yH ((Kq.refl b w).alloc (.cells #[.int .i64 9,.int .i64 n,.string (B nm),.slice A' 2 c'] 52))
 have hne:w.heap.size≠b:=by omega
 obtain⟨W,hW⟩:∃W,w.alloc (.cells #[.int .i64 9,.int .i64 n,.string (B nm),.slice A' 2 c'] 52)=W:=⟨_,rfl⟩
 rw[hW] at HA HB HC HQ
 obtain⟨el0,hK0,ha0⟩:=kidq_of hrow hsub hle (w0rel hr) 0 (by simp)
 obtain⟨el1,hK1,ha1⟩:=kidq_of hrow hsub hle (w0rel hr) 1 (by simp)
 obtain⟨g,off,rfl⟩:=hK0.is
 have HK0:=yH (show KidQ w0 (some ⟨g,off,none⟩) 0 el0 from hK0)
 have HK1:=yH (show KidQ w0 (some ⟨g,off,none⟩) 4 el1 from hK1)
 have hcl:clen (.mk 9 n nm [a,b'])=clen a+1+clen b':=by rw[clen_mk,clens_cons,clens_cons,clens_nil,if_neg (by decide)];omega
 have la:=cod_len d a (fine_mem hf (y:=a) (by simp)) l.length
 have lb:=cod_len d b' (fine_mem hf (y:=b') (by simp)) (l.length+clen a+1)
 rw[hcl] at hz
 have HD:=yH ((else_done l (cod a l.length) (cod b' (l.length+clen a+1)) _ rfl).trans (show _=l++cod (.mk 9 n nm [a,b']) l.length by rw[cod_else]))
 have HC0:=yH (cexpr_as Ha ha0 b m l _ (yH rfl) (by omega))
 have e1:(l++cod a l.length++[((9:Int),(0:Int),([]:List UInt8))]).length=l.length+clen a+1:=by simp only[List.length_append,List.length_cons,List.length_nil,la]
 have HC1:=yH (cexpr_as Hb ha1 b m (l++cod a l.length++[(9,0,[])]) (l++cod a l.length++[(9,0,[])]++cod b' (l.length+clen a+1)) (yH (by rw[e1])) (by rw[e1];omega))
 have HL1:=yH (show(l++cod a l.length).length≤90000 by rw[List.length_append,la];omega)
 have HL3:=yH (show(l++cod a l.length++[((9:Int),(0:Int),([]:List UInt8))]++cod b' (l.length+clen a+1)).length≤90000 by rw[List.length_append,e1,lb];omega)
 have HG:=yH (get_mid (l++cod a l.length) (cod b' (l.length+clen a+1)) (9,0,[]) _ rfl)
 generalize l++cod (.mk 9 n nm [a,b']) l.length=lx at*
 generalize l++cod a l.length=l1 at*
 generalize cod b' (l.length+clen a+1)=lb' at*
 obtain⟨⟨b0,b1,b2,b3⟩,_⟩:=HB.out.four
 obtain⟨k00,k01,k02,k03⟩:=(HK0.out.rel HA.out).at0
 clear hrow hsub h hr hc ha0 ha1 hK0 hK1 la lb e1 hcl hz hle
 go_enter Tryz.func65,Tryz.ntmps65
 go_upto_region 10 with (go_at_call 65;(with_reducible refine(HC0.out _ HA.out HC.out).mono ?_);rintro e w1 ⟨rfl,c1,r1,k1⟩)
 have HB1:=yH (k1.bk HB.out hne (by decide))
 have HQ1:=yH (HQ.out.trans k1)
 clear k1
 obtain⟨⟨d0,d1,d2,d3⟩,_⟩:=HB1.out.four
 go_upto_region 11 with (go_at_call 83;(with_reducible refine(clead_any b m l1 9 HL1.out w0 _ r1 c1).mono ?_);rintro e w2 ⟨p,q,rfl,hp2,hq2,c2,r2,k2⟩)
 have HB2:=yH (k2.bk HB1.out hne (by decide))
 have HQ2:=yH (HQ1.out.trans k2)
 have HP2:=yH hp2
 have HI2:=yH hq2
 have hnp:=c2.ne hp2 (by decide)
 have hnq:=c2.ne hq2 (by decide)
 clear k2 hp2 hq2
 obtain⟨⟨e0,e1,e2,e3⟩,_⟩:=HB2.out.four
 obtain⟨k10,k11,k12,k13⟩:=(HK1.out.rel r2).at
 go_upto_region 12 with (go_at_call 65;(with_reducible refine(HC1.out _ r2 c2).mono ?_);rintro e w3 ⟨rfl,c3,r3,k3⟩)
 have HP3:=yH (k3.bk HP2.out hnp (by decide))
 have HI3:=yH (k3.bk HI2.out hnq (by decide))
 have HQ3:=yH (HQ2.out.trans k3)
 clear k3
 go_wp2_with (go_at_call 110;(with_reducible refine(cend_any b m p q l1.length _ 9 0 [] HG.out HL3.out w0 _ r3 c3 HP3.out HI3.out).mono ?_);rintro e w4 ⟨rfl,c4,r4,k4⟩)
 go_end0
 exact⟨rfl,by rw[←HD.out];exact c4,r4,HQ3.out.trans k4⟩
theorem cexpr_if(d:Nat)(n:Int)(nm:List UInt8)(cc a b':Ex)(hf:fine (d+1) (.mk 10 n nm [cc,a,b'])=true)(Hc:CC cc)(Ha:CC a)(Hb:CC b'):CC (.mk 10 n nm [cc,a,b']):=fun S e b m l w0 w hr h hc hz=>by
 obtain⟨A',c',es,rfl,hk,hn,hm,hle,hrow,hsub⟩:=h.open
 have hblt:=hc.lt
 have HB:=yH (Bk.new w 52 #[.int .i64 10,.int .i64 n,.string (B nm),.slice A' 3 c'])
 have HA:=yH (hr.alloc (.cells #[.int .i64 10,.int .i64 n,.string (B nm),.slice A' 3 c'] 52))
 have HC:=yH (hc.alloc (.cells #[.int .i64 10,.int .i64 n,.string (B nm),.slice A' 3 c'] 52))
 have HQ:=yH ((Kq.refl b w).alloc (.cells #[.int .i64 10,.int .i64 n,.string (B nm),.slice A' 3 c'] 52))
 have hne:w.heap.size≠b:=by omega
 obtain⟨W,hW⟩:∃W,w.alloc (.cells #[.int .i64 10,.int .i64 n,.string (B nm),.slice A' 3 c'] 52)=W:=⟨_,rfl⟩
 rw[hW] at HA HB HC HQ
 obtain⟨el0,hK0,ha0⟩:=kidq_of hrow hsub hle (w0rel hr) 0 (by simp)
 obtain⟨el1,hK1,ha1⟩:=kidq_of hrow hsub hle (w0rel hr) 1 (by simp)
 obtain⟨el2,hK2,ha2⟩:=kidq_of hrow hsub hle (w0rel hr) 2 (by simp)
 obtain⟨g,off,rfl⟩:=hK0.is
 have HK0:=yH (show KidQ w0 (some ⟨g,off,none⟩) 0 el0 from hK0)
 have HK1:=yH (show KidQ w0 (some ⟨g,off,none⟩) 4 el1 from hK1)
 have HK2:=yH (show KidQ w0 (some ⟨g,off,none⟩) 8 el2 from hK2)
 have hcl:clen (.mk 10 n nm [cc,a,b'])=clen cc+clen a+2+clen b':=by rw[clen_mk,clens_cons,clens_cons,clens_cons,clens_nil,if_pos rfl];omega
 have lc:=cod_len d cc (fine_mem hf (y:=cc) (by simp)) l.length
 have la:=cod_len d a (fine_mem hf (y:=a) (by simp)) (l.length+clen cc+1)
 have lb:=cod_len d b' (fine_mem hf (y:=b') (by simp)) (l.length+clen cc+2+clen a)
 rw[hcl] at hz
 have HD:=yH ((if_done l (cod cc l.length) (cod a (l.length+clen cc+1)) (cod b' (l.length+clen cc+2+clen a)) _ _ rfl rfl).trans (show _=l++cod (.mk 10 n nm [cc,a,b']) l.length by rw[cod_if]))
 have HC0:=yH (cexpr_as Hc ha0 b m l _ (yH rfl) (by omega))
 have e1:(l++cod cc l.length++[((12:Int),(0:Int),([]:List UInt8))]).length=l.length+clen cc+1:=by simp only[List.length_append,List.length_cons,List.length_nil,lc]
 have HC1:=yH (cexpr_as Ha ha1 b m (l++cod cc l.length++[(12,0,[])]) (l++cod cc l.length++[(12,0,[])]++cod a (l.length+clen cc+1)) (yH (by rw[e1])) (by rw[e1];omega))
 have HL1:=yH (show(l++cod cc l.length).length≤90000 by rw[List.length_append,lc];omega)
 generalize l++cod (.mk 10 n nm [cc,a,b']) l.length=lx at*
 generalize l++cod cc l.length=l1 at*
 generalize cod a (l.length+clen cc+1)=la' at*
 have e3:(l1++[((12:Int),(0:Int),([]:List UInt8))]++la').length=l.length+clen cc+1+clen a:=by rw[List.length_append,e1,la]
 have HL3:=yH (show(l1++[((12:Int),(0:Int),([]:List UInt8))]++la').length≤90000 by rw[e3];omega)
 have HG1:=yH (get_mid l1 (la'++[(13,0,[])]) (12,0,[]) _ rfl)
 rw[←List.append_assoc] at HG1
 generalize hl3:l1++[((12:Int),(0:Int),([]:List UInt8))]++la'=l3 at*
 have HL4:=yH (show(l3++[((13:Int),(0:Int),([]:List UInt8))]).length≤90000 by rw[List.length_append,e3];simp;omega)
 have e5:((l3++[((13:Int),(0:Int),([]:List UInt8))]).set l1.length (12,((l3++[((13:Int),(0:Int),([]:List UInt8))]).length:Int),[])).length=l.length+clen cc+2+clen a:=by rw[List.length_set,List.length_append,e3];simp;omega
 have HG2:=yH (show(((l3++[((13:Int),(0:Int),([]:List UInt8))]).set l1.length (12,((l3++[((13:Int),(0:Int),([]:List UInt8))]).length:Int),[]))++cod b' (l.length+clen cc+2+clen a))[l3.length]?=some (13,0,[]) by
  rw[List.getElem?_append_left (by rw[e5,e3];omega),List.getElem?_set_ne (by rw[←hl3];simp),List.getElem?_append_right (Nat.le_refl _),Nat.sub_self];rfl)
 generalize h5:(l3++[((13:Int),(0:Int),([]:List UInt8))]).set l1.length (12,((l3++[((13:Int),(0:Int),([]:List UInt8))]).length:Int),[])=l5 at*
 have HC2:=yH (cexpr_as Hb ha2 b m l5 (l5++cod b' (l.length+clen cc+2+clen a)) (yH (by rw[e5])) (by rw[e5];omega))
 have HL6:=yH (show(l5++cod b' (l.length+clen cc+2+clen a)).length≤90000 by rw[List.length_append,e5,lb];omega)
 generalize l5++cod b' (l.length+clen cc+2+clen a)=l6 at*
 have H5:=yH h5
 obtain⟨⟨b0,b1,b2,b3⟩,_⟩:=HB.out.four
 obtain⟨k00,k01,k02,k03⟩:=(HK0.out.rel HA.out).at0
 clear hrow hsub h hr hc ha0 ha1 ha2 hK0 hK1 hK2 lc la lb e1 hcl hz hle hl3 e3 e5 h5
 go_enter Tryz.func65,Tryz.ntmps65
 go_upto_region 15 with (go_at_call 65;(with_reducible refine(HC0.out _ HA.out HC.out).mono ?_);rintro e w1 ⟨rfl,c1,r1,k1⟩)
 have HB1:=yH (k1.bk HB.out hne (by decide))
 have HQ1:=yH (HQ.out.trans k1)
 clear k1
 go_upto_region 16 with (go_at_call 83;(with_reducible refine(clead_any b m l1 12 HL1.out w0 _ r1 c1).mono ?_);rintro e w2 ⟨p,q,rfl,hp2,hq2,c2,r2,k2⟩)
 have HB2:=yH (k2.bk HB1.out hne (by decide))
 have HQ2:=yH (HQ1.out.trans k2)
 have HP2:=yH hp2
 have HI2:=yH hq2
 have hnp:=c2.ne hp2 (by decide)
 have hnq:=c2.ne hq2 (by decide)
 clear k2 hp2 hq2
 obtain⟨⟨e0,e1,e2,e3⟩,_⟩:=HB2.out.four
 obtain⟨k10,k11,k12,k13⟩:=(HK1.out.rel r2).at
 go_upto_region 17 with (go_at_call 65;(with_reducible refine(HC1.out _ r2 c2).mono ?_);rintro e w3 ⟨rfl,c3,r3,k3⟩)
 have HB3:=yH (k3.bk HB2.out hne (by decide))
 have HP3:=yH (k3.bk HP2.out hnp (by decide))
 have HI3:=yH (k3.bk HI2.out hnq (by decide))
 have HQ3:=yH (HQ2.out.trans k3)
 clear k3
 go_upto_region 18 with (go_at_call 83;(with_reducible refine(clead_any b m l3 13 HL3.out w0 _ r3 c3).mono ?_);rintro e w4 ⟨p',q',rfl,hp4,hq4,c4,r4,k4⟩)
 have HB4:=yH (k4.bk HB3.out hne (by decide))
 have HP4:=yH (k4.bk HP3.out hnp (by decide))
 have HI4:=yH (k4.bk HI3.out hnq (by decide))
 have HQ4:=yH (HQ3.out.trans k4)
 have HPP4:=yH hp4
 have HII4:=yH hq4
 have hnp':=c4.ne hp4 (by decide)
 have hnq':=c4.ne hq4 (by decide)
 clear k4 hp4 hq4
 go_upto_region 19 with (go_at_call 110;(with_reducible refine(cend_any b m p q l1.length _ 12 0 [] HG1.out HL4.out w0 _ r4 c4 HP4.out HI4.out).mono ?_);rintro e w5 ⟨rfl,c5,r5,k5⟩)
 rw[H5.out] at c5
 have HB5:=yH (k5.bk HB4.out hne (by decide))
 have HPP5:=yH (k5.bk HPP4.out hnp' (by decide))
 have HII5:=yH (k5.bk HII4.out hnq' (by decide))
 have HQ5:=yH (HQ4.out.trans k5)
 clear k5
 obtain⟨⟨x0,x1,x2,x3⟩,_⟩:=HB5.out.four
 obtain⟨k20,k21,k22,k23⟩:=(HK2.out.rel r5).at
 go_upto_region 20 with (go_at_call 65;(with_reducible refine(HC2.out _ r5 c5).mono ?_);rintro e w6 ⟨rfl,c6,r6,k6⟩)
 have HPP6:=yH (k6.bk HPP5.out hnp' (by decide))
 have HII6:=yH (k6.bk HII5.out hnq' (by decide))
 have HQ6:=yH (HQ5.out.trans k6)
 clear k6
 go_wp2_with (go_at_call 110;(with_reducible refine(cend_any b m p' q' l3.length _ 13 0 [] HG2.out HL6.out w0 _ r6 c6 HPP6.out HII6.out).mono ?_);rintro e w7 ⟨rfl,c7,r7,k7⟩)
 go_end0
 exact⟨rfl,by rw[←HD.out];exact c7,r7,HQ6.out.trans k7⟩
theorem look_kinds{k:Int}(hk:k=1∨k=2∨k=3∨k=4∨k=5∨k=6∨k=7∨k=8∨k=11∨k=12):(look kindsL k).getD (.int .i64 0)= .int .i64 (opK k)∧(Lit.int .i64 k).wf=true:=by
 rcases hk with rfl|rfl|rfl|rfl|rfl|rfl|rfl|rfl|rfl|rfl
 all_goals exact⟨rfl,by decide⟩
theorem kind_run{w:World}{m:Nat}(h:MapIs w m kindsL){k:Int}(hk:k=1∨k=2∨k=3∨k=4∨k=5∨k=6∨k=7∨k=8∨k=11∨k=12):(Instr.lookup 99 (.map (some m)) (.int .i64 k) false).run Tryz.prog w= .ok (.int .i64 (opK k)) w:=by
 rw[←(look_kinds hk).1]
 exact h.look _ _ Tryz.underlying99 _ (by kernel_rfl) k (look_kinds hk).2
def SxC(w:World)(g b m:Nat)(cs:Array Value):Prop:=Bk w g 52 cs∧w.cell? ⟨b,0,none⟩=some (.map (some m))∧MapIs w m kindsL
theorem SxC.of{w:World}{C g b m:Nat}{cs:Array Value}{l:List In}(hb:Bk w g 52 cs)(hc:Cm w C b m l):SxC w g b m cs:=by
 obtain⟨A,c,h0,_⟩:=hc.cells
 exact⟨hb,h0,hc.map⟩
theorem cexpr_op(d:Nat)(k n:Int)(nm:List UInt8)(l:List Ex)(hf:fine (d+1) (.mk k n nm l)=true)(h9:k≠9)(h10:k≠10)(H:∀x∈l,CC x):CC (.mk k n nm l):=fun S e b m L w0 w hr h hc hz=>by
 obtain⟨hkl,hl2⟩:=op_kind hf h9 h10
 obtain⟨A',c',es,rfl,hk,hn,hm,hle,hrow,hsub⟩:=h.open
 have hblt:=hc.lt
 have HB:=yH (Bk.new w 52 #[.int .i64 k,.int .i64 n,.string (B nm),.slice A' l.length c'])
 have HA:=yH (hr.alloc (.cells #[.int .i64 k,.int .i64 n,.string (B nm),.slice A' l.length c'] 52))
 have HC:=yH (hc.alloc (.cells #[.int .i64 k,.int .i64 n,.string (B nm),.slice A' l.length c'] 52))
 have HQ:=yH ((Kq.refl b w).alloc (.cells #[.int .i64 k,.int .i64 n,.string (B nm),.slice A' l.length c'] 52))
 have hne:w.heap.size≠b:=by omega
 obtain⟨W,hW⟩:∃W,w.alloc (.cells #[.int .i64 k,.int .i64 n,.string (B nm),.slice A' l.length c'] 52)=W:=⟨_,rfl⟩
 rw[hW] at HA HB HC HQ
 have hcl:clen (.mk k n nm l)=clens l+1:=by rw[clen_mk,if_neg h10]
 have HCod:=yH (show L++cod (.mk k n nm l) L.length=L++cods l L.length++[(opK k,n,nm)] by rw[cod_op h9 h10,List.append_assoc])
 have HLt:=yH (fun j=>cods_len (l:=l.take j) (fun x hx=>fine_mem hf (List.mem_of_mem_take hx)) L.length)
 have HRow:=yH hrow
 have HSub:=yH hsub
 have HLe:=yH hle
 have HH:=yH H
 have HFl:=yH (fun x hx=>fine_mem hf (y:=x) hx)
 have HKk:=yH hkl
 have HW0:=yH (w0rel hr)
 rw[hcl] at hz
 have t9:(k==9)=false:=by simpa using h9
 have t10:(k==10)=false:=by simpa using h10
 have hnm:(B nm).size≤1000000000:=by rw[B_size];omega
 obtain⟨⟨b0,b1,b2,b3⟩,_⟩:=HB.out.four
 clear hrow hsub h hr hle H hcl hf hc hkl h9 h10 hm
 go_enter Tryz.func65,Tryz.ntmps65
 go_wp2_with (fail)
 go_loopw [14] (fun i wr=>∃(j:Nat),j≤l.length∧i= .int .i64 (j:Int)∧Cm wr w0.heap.size b m (L++cods (l.take j) L.length)∧Rel w0 wr∧Kq b W wr) (fun i _=>l.length-(RowKit.intOf i).toNat)
 case atStart=>exact⟨0,by omega,rfl,by rw[List.take_zero,cods_nil,List.append_nil];exact HC.out,HA.out,Kq.refl _ _⟩
 case round=>
  obtain⟨j,hj,rfl,hcm,hRw,hKw⟩:=hrel
  have HRw:=yH hRw
  have HCm:=yH hcm
  have HKw:=yH hKw
  have HBw:=yH (hKw.bk HB.out hne (by decide))
  by_cases hlt:j<l.length
  ·obtain⟨el,hK,ha⟩:=kidq_of HRow.out HSub.out HLe.out HW0.out j hlt
   obtain⟨hct,hcn⟩:=cods_take hlt L.length
   have hle2:=clens_take l (j+1)
   have lt0:=HLt.out j
   have hC:=yH (cexpr_as (HH.out _ (List.getElem_mem hlt)) ha b m (L++cods (l.take j) L.length) (L++cods (l.take (j+1)) L.length) (yH (by rw[hct,List.append_assoc,List.length_append,lt0])) (by rw[List.length_append,lt0];omega))
   obtain⟨g,off,rfl⟩:=hK.is
   obtain⟨k0,k1,k2,k3⟩:=(hK.rel HRw.out).at
   obtain⟨⟨u0,u1,u2,u3⟩,_⟩:=(Bk.new wr 52 #[.int .i64 el.1,.int .i64 el.2.1,.string (B el.2.2.1),.slice el.2.2.2.1 el.2.2.2.2.1 el.2.2.2.2.2]).four
   have HRa:=yH (HRw.out.alloc (.cells #[.int .i64 el.1,.int .i64 el.2.1,.string (B el.2.2.1),.slice el.2.2.2.1 el.2.2.2.2.1 el.2.2.2.2.2] 52))
   have HCa:=yH (HCm.out.alloc (.cells #[.int .i64 el.1,.int .i64 el.2.1,.string (B el.2.2.1),.slice el.2.2.2.1 el.2.2.2.2.1 el.2.2.2.2.2] 52))
   have HKa:=yH (HKw.out.alloc (.cells #[.int .i64 el.1,.int .i64 el.2.1,.string (B el.2.2.1),.slice el.2.2.2.1 el.2.2.2.2.1 el.2.2.2.2.2] 52))
   clear hct hcn hle2 lt0 hcm hRw hKw hK ha
   go_wp2_with (go_at_call 65;(with_reducible refine(hC.out _ HRa.out HCa.out).mono ?_);rintro e w1 ⟨rfl,c1,r1,k1⟩)
   go_roundw
   case rel=>exact⟨j+1,by omega,by go_num,c1,r1,HKa.out.trans k1⟩
   case measure=>simp[RowKit.intOf];omega
  ·obtain rfl:j=l.length:=by omega
   have HLn:=yH (show(L++cods l L.length).length≤90000 by
    have h1:=HLt.out l.length
    have h2:=clens_take l l.length
    rw[List.take_length] at h1 h2
    rw[List.length_append,h1];omega)
   rw[List.take_length] at HCm
   generalize L++cods l L.length=L1 at*
   obtain⟨V,hV⟩:∃V,wr=V:=⟨_,rfl⟩
   subst hV
   obtain⟨V,hV⟩:∃V,V=wr:=⟨_,rfl⟩
   subst hV
   have HBV:=HBw
   have HCV:=HCm
   have HRV:=HRw
   have HKV:=yH (HQ.out.trans HKw.out)
   have RV:=yH (HRw.out.self)
   obtain⟨⟨d0,d1,d2,d3⟩,_⟩:=HBw.out.four
   clear hcm hRw hKw
   go_upto_region 7 with (fail)
   refine wp_region_held_drew (S:=(fun w'=>SxC w' w.heap.size b m #[.int .i64 k,.int .i64 n,.string (B nm),.slice A' l.length c'])) (by kernel_rfl) (show SxC V.drew w.heap.size b m _ from SxC.of HBV.out HCV.out) (fun hHeld=> ?_)
   refine yL [0,1,2,3,4,5,6,7,8,9,10,11] (by kernel_rfl) hHeld (fun _ _ _ _ _=>id) ?_
   iterate 12
    refine yS rfl rfl (by rfl) ?_ ?_ ?_
    rotate_left
    ·rintro w' ⟨hx,hc0,hmm⟩;obtain⟨⟨z0,z1,z2,z3⟩,_⟩:=hx.four;have lk:=kind_run hmm HKk.out;go_simp;try with_reducible rfl
    try simp only[Act.put,yA,yB,yC]
   refine yZ ?_
   refine held_one (j:=12) (by kernel_rfl) rfl (fun K hK=> ?_)
   try simp only[yD,yE,yF]
   rw[if_pos (by rfl)]
   go_simp
   go_at_call 85
   (with_reducible refine(sclone_any (B nm) hnm V V.drew RV.out.drew).mono ?_)
   rintro e w5 ⟨rfl,h5⟩
   have C5:=yH (HCV.out.rel h5)
   refine hK.out _ _ (SxC.of (HBV.out.rel h5) C5.out) (fun hHeld=> ?_)
   clear hK K
   try simp only[Act.put,yA,yB,yC]
   refine yW 13 35 rfl rfl (by kernel_rfl) (by rfl) hHeld ?_ (fun _ _ _=>id) ?_ ?_
   rotate_left
   ·rintro w' ⟨hx,hc0,hmm⟩;obtain⟨⟨z0,z1,z2,z3⟩,_⟩:=hx.four;have lk:=kind_run hmm HKk.out;go_simp;try with_reducible rfl
   try simp only[Act.put,yA,yB,yC]
   refine held_one (j:=14) (by kernel_rfl) rfl (fun K hK=> ?_)
   try simp only[yD,yE,yF]
   rw[if_pos (by rfl)]
   go_simp
   go_at_call 84
   (with_reducible refine(cput_any b m L1 (opK k) n nm HLn.out w0 _ (HRV.out.trans h5) C5.out).mono ?_)
   rintro e w6 ⟨rfl,c6,r6,k6⟩
   refine hK.out _ _ (SxC.of (k6.bk (HBV.out.rel h5) hne (by decide)) c6) (fun hHeld=> ?_)
   clear hK K
   try simp only[Act.put,yA,yB,yC]
   refine wpAnyH_done (by kernel_rfl) ?_ _
   go_wp2_with (fail)
   go_end0
   exact⟨rfl,by rw[HCod.out];exact c6,r6,HKV.out.trans ((Kq.rel h5).trans k6)⟩
theorem cexpr_all:∀d x,fine d x=true→CC x:=fine_ind
 (fun d k n nm l hf h9 h10 H=>cexpr_op d k n nm l hf h9 h10 H)
 (fun d n nm a b hf Ha Hb=>cexpr_else d n nm a b hf Ha Hb)
 (fun d n nm c a b hf Hc Ha Hb=>cexpr_if d n nm c a b hf Hc Ha Hb)
def codX(x:Ex):List In:=if rightX x then cod x 0 else []
def codR(x:Ex):Int:=if rightX x then 0 else 1
theorem codX_yes{x:Ex}(h:rightX x=true):codX x=cod x 0∧codR x=0:=by unfold codX codR;rw[if_pos h,if_pos h];exact⟨rfl,rfl⟩
theorem codX_no{x:Ex}(h:rightX x=false):codX x=[]∧codR x=1:=by unfold codX codR;rw[if_neg (by simp[h]),if_neg (by simp[h])];exact⟨rfl,rfl⟩
theorem codX_fit(x:Ex):InsFit (codX x):=by
 cases h:rightX x with
 |true=>rw[(codX_yes h).1];exact ins_fit (right_code h).1
 |false=>rw[(codX_no h).1];intro o ho;cases ho
theorem code_bad{l:List In}{i:Nat}(hi:i<l.length){t:In}(ht:l[i]=t)(h:inOk l.length i t=false):codeOk l=false:=by
 cases e:codeOk l
 ·rfl
 ·have:=(codeOk_iff.1 e).2 i hi
  rw[ht,h] at this;cases this
theorem code_many{l:List In}(h:5000<l.length):codeOk l=false:=by
 cases e:codeOk l
 ·rfl
 ·have:=(codeOk_iff.1 e).1;omega
theorem okTo_step{l:List In}{i:Nat}(hi:i<l.length){t:In}(ht:l[i]=t)(h:okTo l i=true)(h1:inOk l.length i t=true):okTo l (i+1)=true:=by
 rw[okTo,List.getElem?_eq_getElem hi,h,ht];exact h1
theorem code_full{l:List In}(h:l.length≤5000)(h2:okTo l l.length=true):codeOk l=true:=by
 unfold codeOk;rw[h2];simp[h]
theorem ins_at{w wr:World}{A:Option Addr}{l:List In}(h:InsAt w A l)(hr:Rel w wr)(j:Nat)(hj:j<l.length):
  ∃(g off:Nat) (o n:Int) (nm:List UInt8),A=some ⟨g,off,none⟩∧wr.cell? ⟨g,off+j*3,none⟩=some (.int .i64 o)∧wr.cell? ⟨g,off+j*3+1,none⟩=some (.int .i64 n)∧wr.cell? ⟨g,off+j*3+2,none⟩=some (.string (B nm))∧l[j]=(o,n,nm):=by
 obtain⟨g,off,e,_,h0,h1,h2⟩:=(h.rel hr) j hj
 exact⟨g,off,l[j].1,l[j].2.1,l[j].2.2,e,h0,h1,h2,rfl⟩
theorem to_is{o:Int}(h:o=9∨o=12∨o=13)(i len:Nat):leastO i o=(i:Int)+1∧mostO len o=(len:Int):=by
 rcases h with rfl|rfl|rfl<;>exact⟨rfl,rfl⟩
theorem inOk_eq(len i:Nat)(o n:Int)(nm:List UInt8):inOk len i (o,n,nm)=(decide (1≤o∧o≤13)&&decide (leastO i o≤n∧n≤mostO len o)&&(if o=4 then isName nm else decide (nm=[]))):=rfl
def CompileOk:Prop:=∀(x:Ex) (S:Nat→Prop) (e:El) (w0 w:World),Rel w0 w→ExAt S w e x→size x≤90000→
  Calls Tryz.prog 45 #[EV e] w fun r w'=>∃A c,r= .returned (.tuple #[.slice A (codX x).length c,.int .i64 (codR x)])∧InsOwn w' w.heap.size (.slice A (codX x).length c) (codX x)∧Rel w0 w'
def CRightOk:Prop:=∀(A:Option Addr) (c:Nat) (l:List In) (w0 w:World),Rel w0 w→InsArg w A c l→Calls Tryz.prog 87 #[.slice A l.length c] w fun z w'=>z= .returned (.bool (codeOk l))∧Rel w0 w'
theorem Cm.new{w0 w:World}{m:Nat}(hr:Rel w0 w)(hm:MapIs w m kindsL):Cm (w.alloc (.cells #[.map (some m),.slice none 0 0] 102)) w0.heap.size w.heap.size m []:=
 ⟨hr.size,none,0,Bk.new w _ _,InsOwn.nil _ _,hm.alloc _⟩
theorem Cm.done{w:World}{C b m:Nat}{l:List In}(h:Cm w C b m l):∃A c,w.cell? ⟨b,1,none⟩=some (.slice A l.length c)∧InsOwn w C (.slice A l.length c) l:=by
 obtain⟨hC,A,c,h1,h2,h3⟩:=h
 exact⟨A,c,by rw[h1.cell];rfl,h2⟩
theorem compile_any:CompileOk:=fun x S e w0 w hr h hz=>by
 have HR:=yH hr
 have HE:=yH h
 obtain⟨k,n,nm,A',m,c'⟩:=e
 have HB:=yH (Bk.new w 52 #[.int .i64 k,.int .i64 n,.string (B nm),.slice A' m c'])
 have HA:=yH (hr.self.alloc (.cells #[.int .i64 k,.int .i64 n,.string (B nm),.slice A' m c'] 52))
 obtain⟨W,hW⟩:∃W,w.alloc (.cells #[.int .i64 k,.int .i64 n,.string (B nm),.slice A' m c'] 52)=W:=⟨_,rfl⟩
 rw[hW] at HA HB
 have hws:w.heap.size<W.heap.size:=HB.out.lt
 have hC:=tright_any x S (k,n,nm,A',m,c') W W HA.out.self (h.rel HA.out) (by omega)
 obtain⟨⟨b0,b1,b2,b3⟩,_⟩:=HB.out.four
 cases hx:rightX x with
 |false=>
  obtain⟨e1,e2⟩:=codX_no hx
  rw[e1,e2]
  rw[hx] at hC
  have HC:=yH hC
  clear hC hx e1 e2 h hr
  go_enter Tryz.func45,Tryz.ntmps45
  go_wp2_with (go_at_call 36;(with_reducible refine HC.out.mono ?_);rintro e w1 ⟨rfl,h1⟩)
  go_ret2
  exact⟨none,0,rfl,InsOwn.nil _ _,HR.out.trans (HA.out.trans h1)⟩
 |true=>
  obtain⟨e1,e2⟩:=codX_yes hx
  obtain⟨_,hl,h4⟩:=right_code hx
  have hf:fine 32 x=true:=by unfold rightX at hx;simp only[Bool.and_eq_true] at hx;exact hx.1.1.1
  have hcl:clen x≤90000:=by have:=cod_len 32 x hf 0;omega
  rw[e1,e2]
  rw[hx] at hC
  have HC:=yH hC
  have HX:=yH (fun(b m2:Nat) (w2:World) (hr2:Rel w w2) (hc2:Cm w2 w.heap.size b m2 [])=>cexpr_all 32 x hf S (k,n,nm,A',m,c') b m2 [] w w2 hr2 HE.out hc2 (by simpa using hcl))
  simp only[List.nil_append,List.length_nil] at HX
  generalize cod x 0=l at*
  clear hC hx e1 e2 h hr hl h4 hcl
  go_enter Tryz.func45,Tryz.ntmps45
  go_wp2_with (first
   |(go_at_call 36;(with_reducible refine HC.out.mono ?_);rintro e w1 ⟨rfl,h1⟩;have R1:=yH (HA.out.trans h1))
   |(go_at_call 64;(with_reducible refine(kinds_any w _ R1.out).mono ?_);rintro e w2 ⟨q,rfl,hq,m2,h2,r2⟩;have C2:=yH (Cm.new r2 m2);have R2:=yH (r2.alloc (.cells #[.map (some q),.slice none 0 0] 102));have HB2:=yH (((HB.out.rel h1).rel h2).alloc (.cells #[.map (some q),.slice none 0 0] 102));obtain⟨⟨d0,d1,d2,d3⟩,_⟩:=HB2.out.four)
   |(go_at_call 65;(with_reducible refine(HX.out w2.heap.size q _ R2.out C2.out).mono ?_);rintro e w3 ⟨rfl,c3,r3,k3⟩;obtain⟨A3,c5,y1,own3⟩:=c3.done))
  go_ret2
  exact⟨A3,c5,rfl,own3,HR.out.trans r3⟩
end Go.Proofs.YtfekhbeaphpelaaGreatDoor

namespace Go.Proofs.YtfekhbeaphpelaaGreatDoor
open Go.Lib
set_option linter.unusedVariables false
set_option linter.unusedSimpArgs false
abbrev Ce:=Option Int
abbrev Ms:=List Ce×Int
def takeM(s:Ms):Ce×Ms:=if s.2=0 then (match s.1.getLast? with|none=>(none,(s.1,100))|some a=>(a,(s.1.dropLast,0))) else (none,s)
def putM(s:Ms)(c:Ce):Ms:=if s.2=0 then (if 100≤s.1.length then (s.1,100) else (s.1++[c],0)) else s
def minusM(s:Ms)(c:Ce)(f:Int→Rs):Ms:=match c with
 |none=>putM s none
 |some v=>if s.2=0 then (match f v with| .error e=>(s.1,e)| .ok c=>putM s c) else s
def twoC(op:Int)(a b:Ce):Ce:=if op=11 then some (match a,b with|some a,some b=>if b<a then 1 else 0|_,_=>0) else bothF op a b
def twoM(op:Int)(s:Ms):Ms:=putM (takeM (takeM s).2).2 (twoC op (takeM (takeM s).2).1 (takeM s).1)
def stepM(l:List Of)(x:In)(at_:Nat)(s:Ms):Nat×Ms:=
 if x.1=1 then (at_+1,putM s (some x.2.1))
 else if x.1=2 then (at_+1,putM s (rk l 0))
 else if x.1=3 then (at_+1,putM s (rk l 1))
 else if x.1=4 then (at_+1,putM s (fromO l x.2.2))
 else if x.1=5 then (at_+1,minusM (takeM s).2 (takeM s).1 (fun v=>subR v x.2.1))
 else if x.1=6 then (at_+1,minusM (takeM s).2 (takeM s).1 (fun v=>cutR v x.2.1))
 else if x.1=9 then (match (takeM s).1 with|some v=>(x.2.1.toNat,putM (takeM s).2 (some v))|none=>(at_+1,(takeM s).2))
 else if x.1=10 then (at_+1,putM s (some (if x.2.1<(l.length:Int) then 1 else 0)))
 else if x.1=12 then (match (takeM s).1 with|some v=>if v=0 then (x.2.1.toNat,(takeM s).2) else (at_+1,(takeM s).2)|none=>(x.2.1.toNat,(takeM s).2))
 else if x.1=13 then (x.2.1.toNat,s)
 else (at_+1,twoM x.1 s)
def playM(l:List Of)(c:List In):Nat→Nat→Ms→Nat→Ms×Nat
 |0,_,s,n=>(s,n)
 |f+1,at_,s,n=>match c[at_]? with
  |none=>(s,n)
  |some x=>if s.2=0 then playM l c f (stepM l x at_ s).1 (stepM l x at_ s).2 (n+1) else (s,n)
def Fwd(c:List In):Prop:=∀i (h:i<c.length),isTo c[i].1=true→(i:Int)<c[i].2.1∧c[i].2.1≤(c.length:Int)
theorem fwd_of{c:List In}(h:codeOk c=true):Fwd c:=fun i hi ht=>by
 have h1:=(codeOk_iff.1 h).2 i hi
 unfold inOk leastO mostO at h1
 rw[ht] at h1
 simp only[Bool.and_eq_true,decide_eq_true_eq,if_true] at h1
 omega
theorem step_next{l:List Of}{c:List In}(hf:Fwd c){i:Nat}(hi:i<c.length)(s:Ms):i<(stepM l c[i] i s).1∧(stepM l c[i] i s).1≤c.length:=by
 have h:=hf i hi
 unfold stepM
 by_cases h9:c[i].1=9
 ·have:=h (by rw[h9];rfl)
  rw[if_neg (by omega),if_neg (by omega),if_neg (by omega),if_neg (by omega),if_neg (by omega),if_neg (by omega),if_pos h9]
  cases(takeM s).1<;>simp only<;>omega
 by_cases h12:c[i].1=12
 ·have:=h (by rw[h12];rfl)
  rw[if_neg (by omega),if_neg (by omega),if_neg (by omega),if_neg (by omega),if_neg (by omega),if_neg (by omega),if_neg (by omega),if_neg (by omega),if_pos h12]
  cases(takeM s).1 with
  |none=>simp only;omega
  |some v=>simp only;split<;>simp only<;>omega
 by_cases h13:c[i].1=13
 ·have:=h (by rw[h13];rfl)
  rw[if_neg (by omega),if_neg (by omega),if_neg (by omega),if_neg (by omega),if_neg (by omega),if_neg (by omega),if_neg (by omega),if_neg (by omega),if_neg (by omega),if_pos h13]
  simp only;omega
 rw[if_neg h9,if_neg h12,if_neg h13]
 repeat' split
 all_goals(simp only;omega)
theorem play_err(l:List Of)(c:List In)(f at_:Nat)(s:Ms)(n:Nat)(h:s.2≠0):playM l c f at_ s n=(s,n):=by
 cases f with
 |zero=>rfl
 |succ f=>
  rw[playM]
  cases c[at_]? with
  |none=>rfl
  |some x=>simp only;rw[if_neg h]
theorem play_end(l:List Of)(c:List In)(f at_:Nat)(s:Ms)(n:Nat)(h:c.length≤at_):playM l c f at_ s n=(s,n):=by
 cases f with
 |zero=>rfl
 |succ f=>rw[playM,List.getElem?_eq_none h]
theorem play_more{l:List Of}{c:List In}(hf:Fwd c):∀(f g at_:Nat) (s:Ms) (n:Nat),c.length-at_≤f→c.length-at_≤g→playM l c f at_ s n=playM l c g at_ s n:=by
 intro f
 induction f with
 |zero=>
  intro g at_ s n h1 h2
  rw[play_end l c 0 at_ s n (by omega),play_end l c g at_ s n (by omega)]
 |succ f ih=>
  intro g at_ s n h1 h2
  by_cases hl:at_<c.length
  ·cases g with
   |zero=>omega
   |succ g=>
    rw[playM,playM,List.getElem?_eq_getElem hl]
    simp only
    by_cases he:s.2=0
    ·rw[if_pos he,if_pos he]
     have:=(step_next (l:=l) hf hl s).1
     exact ih g _ _ _ (by omega) (by omega)
    ·rw[if_neg he,if_neg he]
  ·rw[play_end l c _ at_ s n (by omega),play_end l c _ at_ s n (by omega)]
def goM(l:List Of)(c:List In)(at_:Nat)(s:Ms)(n:Nat):Ms×Nat:=playM l c (c.length-at_) at_ s n
theorem go_err(l:List Of)(c:List In)(at_:Nat)(s:Ms)(n:Nat)(h:s.2≠0):goM l c at_ s n=(s,n):=play_err l c _ at_ s n h
theorem go_end(l:List Of)(c:List In)(at_:Nat)(s:Ms)(n:Nat)(h:c.length≤at_):goM l c at_ s n=(s,n):=play_end l c _ at_ s n h
theorem go_step{l:List Of}{c:List In}(hf:Fwd c){at_:Nat}{x:In}(hx:c[at_]?=some x)(S:List Ce)(n:Nat):goM l c at_ (S,0) n=goM l c (stepM l x at_ (S,0)).1 (stepM l x at_ (S,0)).2 (n+1):=by
 obtain⟨hl,rfl⟩:=List.getElem?_eq_some_iff.1 hx
 have:=(step_next (l:=l) hf hl (S,0)).1
 unfold goM
 obtain⟨f,hfu⟩:∃f,c.length-at_=f+1:=⟨c.length-at_-1,by omega⟩
 rw[hfu,playM,hx]
 simp only[if_true]
 exact play_more hf _ _ _ _ _ (by omega) (by omega)
def endR(s:Ms):Rs:=if s.2=0 then (match s.1 with|[c]=> .ok c|_=> .error 100) else .error s.2
def runS(l:List Of)(c:List In):Rs:=if offsOk l then (if codeOk c then endR (goM l c 0 ([],0) 0).1 else .error 100) else .error 1
def stepsS(l:List Of)(c:List In):Nat:=if offsOk l&&codeOk c then (goM l c 0 ([],0) 0).2 else 0
theorem run_yes{l:List Of}{c:List In}(h:offsOk l=true)(h':codeOk c=true):runS l c=endR (goM l c 0 ([],0) 0).1∧stepsS l c=(goM l c 0 ([],0) 0).2:=by
 unfold runS stepsS;rw[h,h'];exact⟨rfl,rfl⟩
theorem take_last(S:List Ce)(a:Ce):takeM (S++[a],0)=(a,(S,0)):=by
 unfold takeM;simp
theorem take_none:takeM ([],0)=(none,([],100)):=rfl
theorem put_room{S:List Ce}(h:S.length<100)(c:Ce):putM (S,0) c=(S++[c],0):=by
 unfold putM;rw[if_pos rfl,if_neg (by simp only;omega)]
theorem put_full{S:List Ce}(h:100≤S.length)(c:Ce):putM (S,0) c=(S,100):=by
 unfold putM;rw[if_pos rfl,if_pos h]
theorem put_err{s:Ms}(h:s.2≠0)(c:Ce):putM s c=s:=by unfold putM;rw[if_neg h]
theorem minus_ok{S:List Ce}{v:Int}{f:Int→Rs}{r:Ce}(h:f v= .ok r):minusM (S,0) (some v) f=putM (S,0) r:=by
 unfold minusM;simp only[if_true,h]
theorem minus_bad{S:List Ce}{v:Int}{f:Int→Rs}{e:Int}(h:f v= .error e):minusM (S,0) (some v) f=(S,e):=by
 unfold minusM;simp only[if_true,h]
end Go.Proofs.YtfekhbeaphpelaaGreatDoor

namespace Go.Proofs.YtfekhbeaphpelaaGreatDoor
open Go.RowKit Go.Lib
set_option linter.unusedVariables false
set_option linter.unusedSimpArgs false
def cellsC(c:Ce):List Value:=[.int .i64 (c.getD 0),.bool c.isSome]
def cellsS(S:List Ce):List Value:=S.flatMap cellsC
theorem cellsS_cons(c:Ce)(t:List Ce):cellsS (c::t)=cellsC c++cellsS t:=rfl
theorem cellsS_snoc(S:List Ce)(c:Ce):cellsS (S++[c])=cellsS S++cellsC c:=by simp[cellsS]
theorem cellsS_len(S:List Ce):(cellsS S).length=S.length*2:=by
 induction S with
 |nil=>rfl
 |cons e t ih=>rw[cellsS_cons,List.length_append,ih];simp[cellsC];omega
def StkOwn(T:TypeId)(w:World)(base:Nat)(v:Value)(S:List Ce):Prop:=w.ownsRow base T 2 v S.length (cellsS S)
theorem StkOwn.row{T:TypeId}{w:World}{base:Nat}{v:Value}{S:List Ce}(h:StkOwn T w base v S):w.ownsRow base T 2 v S.length (cellsS S):=h
theorem StkOwn.nil(T:TypeId)(w:World)(base:Nat):StkOwn T w base (.slice none 0 0) []:=World.ownsRow_nil _ _ _ _
theorem StkOwn.rel{T:TypeId}{w w':World}{base:Nat}{v:Value}{S:List Ce}(h:StkOwn T w base v S)(hr:Rel w w'):StkOwn T w' base v S:=own_rel h hr
theorem StkOwn.top{T:TypeId}{w:World}{base:Nat}{v:Value}{S:List Ce}{c:Ce}(h:StkOwn T w base v (S++[c])):
  ∃g cap,v= .slice (some ⟨g,0,none⟩) (S.length+1) cap∧base≤g∧g<w.heap.size∧S.length+1≤cap∧w.cell? ⟨g,S.length*2,none⟩=some (.int .i64 (c.getD 0))∧w.cell? ⟨g,S.length*2+1,none⟩=some (.bool c.isSome)∧StkOwn T w base (.slice (some ⟨g,0,none⟩) S.length cap) S:=by
 have hl:(S++[c]).length=S.length+1:=by simp
 rcases h.2 with ⟨_,h0⟩|⟨g,cap,cur,hv,hb,hh,hnc,hcm,hcs,htake⟩
 ·omega
 ·rw[hl] at hv hnc htake
  have hget:∀j u,(cellsS (S++[c]))[j]?=some u→w.cell? ⟨g,j,none⟩=some u:=fun j u hu=>by
   have:=h.cells (g:=g) (by rw[hv];rfl) j u hu
   rwa [addr_at,Nat.zero_add] at this
  refine⟨g,cap,hv,hb,Bk.lt (t:=T) hh,hnc,hget _ _ ?_,hget _ _ ?_,⟨cellsS_len S,.inr ⟨g,cap,cur,rfl,hb,hh,by omega,hcm,hcs, ?_⟩⟩⟩
  ·rw[cellsS_snoc,List.getElem?_append_right (by rw[cellsS_len];omega),cellsS_len,Nat.sub_self];rfl
  ·rw[cellsS_snoc,List.getElem?_append_right (by rw[cellsS_len];omega),cellsS_len,show S.length*2+1-S.length*2=1 by omega];rfl
  ·have e:=congrArg (List.take (S.length*2)) htake
   rw[List.take_take,cellsS_snoc,List.take_append_of_le_length (by rw[cellsS_len];omega),List.take_of_length_le (l:=cellsS S) (by rw[cellsS_len];omega),show min (S.length*2) ((S.length+1)*2)=S.length*2 by omega] at e
   exact e
def Kr(T:TypeId)(b:Nat)(w w':World):Prop:=Lib.OthersKept T (some b) w w'
theorem Kr.refl(T:TypeId)(b:Nat)(w:World):Kr T b w w:=Lib.OthersKept.refl _ _ w
theorem Kr.trans{T:TypeId}{b:Nat}{w w' w'':World}(h:Kr T b w w')(h':Kr T b w' w''):Kr T b w w'':=Lib.OthersKept.trans h h'
theorem Kr.alloc{T:TypeId}{b:Nat}{w w':World}(h:Kr T b w w')(o:Obj):Kr T b w (w'.alloc o):=Lib.OthersKept.alloc h o
theorem Kr.rel{T:TypeId}{b:Nat}{w w':World}(hr:Rel w w'):Kr T b w w':=fun k o hk _ _=>(hr.2.block k (by
 rcases Nat.lt_or_ge k w.heap.size with h|h
 ·exact h
 ·rw[Array.getElem?_eq_none h] at hk;cases hk)).trans hk
theorem Kr.set{T:TypeId}{b:Nat}{w w':World}(h:Kr T b w w'){p:Addr}(hp:p.block=b)(u:Value):Kr T b w (w'.setCell p u):=Lib.OthersKept.setCell h p hp u
theorem Kr.row{T:TypeId}{b:Nat}{w:World}{base:Nat}{v:Value}{S:List Ce}(h:StkOwn T w base v S){w':World}(hg:w.grownBy w' v.ownBlock):Kr T b w w':=fun k o hk hb ho=>by
 refine(hg.block k ?_ ?_).trans hk
 ·rcases Nat.lt_or_ge k w.heap.size with h|h
  ·exact h
  ·rw[Array.getElem?_eq_none h] at hk;cases hk
 ·intro e
  rcases h.2 with ⟨rfl,_⟩|⟨g,cap,cur,rfl,_,hh,_⟩
  ·cases e
  ·have:k=g:=by simpa [Value.ownBlock] using e
   subst this
   rw[hh] at hk
   injection hk with hk
   exact ho _ _ hk.symm
def Kt(b:Nat)(w w':World):Prop:=∀k o,w.heap[k]?=some o→k≠b→w'.heap[k]?=some o
theorem some_lt{w:World}{k:Nat}{o:Obj}(h:w.heap[k]?=some o):k<w.heap.size:=by
 rcases Nat.lt_or_ge k w.heap.size with h'|h'
 ·exact h'
 ·rw[Array.getElem?_eq_none h'] at h;cases h
theorem Kt.refl(b:Nat)(w:World):Kt b w w:=fun _ _ h _=>h
theorem Kt.trans{b:Nat}{w w' w'':World}(h:Kt b w w')(h':Kt b w' w''):Kt b w w'':=fun k o hk hb=>h' k o (h k o hk hb) hb
theorem Kt.alloc{b:Nat}{w w':World}(h:Kt b w w')(o:Obj):Kt b w (w'.alloc o):=fun k q hk hb=>(Below.heap_alloc w' o k (some_lt (h k q hk hb))).trans (h k q hk hb)
theorem Kt.drew{b:Nat}{w w':World}(h:Kt b w w'):Kt b w w'.drew:=h
theorem Kt.rel{b:Nat}{w w':World}(hr:Rel w w'):Kt b w w':=fun k o hk _=>(hr.2.block k (some_lt hk)).trans hk
theorem Kt.set{b:Nat}{w w':World}(h:Kt b w w'){p:Addr}(hp:p.block=b)(u:Value):Kt b w (w'.setCell p u):=fun k o hk hb=>(Below.heap_setCell w' p u k (by rw[hp];exact hb)).trans (h k o hk hb)
theorem Kt.fresh{b:Nat}{w w':World}(h:Kt b w w'){p:Addr}(hp:w.heap.size≤p.block)(u:Value):Kt b w (w'.setCell p u):=fun k o hk hb=>(Below.heap_setCell w' p u k (by have:=some_lt hk;omega)).trans (h k o hk hb)
theorem Kt.box{b:Nat}{w w':World}(h:Kt b w w'){g:Nat}(hg:w.heap.size≤g)(u v:Value):Kt b w ((w'.setCell ⟨g,0,none⟩ u).setCell ⟨g,1,none⟩ v):=(h.fresh (p:=⟨g,0,none⟩) hg u).fresh (p:=⟨g,1,none⟩) hg v
theorem Kt.bk{b:Nat}{w w':World}(h:Kt b w w'){g:Nat}{t:TypeId}{cs:Array Value}(hb:Bk w g t cs)(hne:g≠b):Bk w' g t cs:=h g _ hb hne
theorem Kt.kr{T:TypeId}{b:Nat}{w w':World}(h:Kt b w w'):Kr T b w w':=fun k o hk hb _=>h k o hk (fun e=>hb (by rw[e]))
theorem stack_ways(S:List Ce):S=[]∨∃T c,S=T++[c]:=by
 cases h:S.reverse with
 |nil=>exact .inl (by simpa using h)
 |cons c T=>exact .inr ⟨T.reverse,c,by have:=congrArg List.reverse h;simpa using this⟩
theorem Rel.box{w0 w:World}(h:Rel w0 w){g:Nat}(hg:w0.heap.size≤g)(u v:Value):Rel w0 ((w.setCell ⟨g,0,none⟩ u).setCell ⟨g,1,none⟩ v):=(h.setCell (p:=⟨g,0,none⟩) hg u).setCell (p:=⟨g,1,none⟩) hg v
theorem StkOwn.alloc{T:TypeId}{w:World}{base:Nat}{v:Value}{S:List Ce}(h:StkOwn T w base v S)(o:Obj):StkOwn T (w.alloc o) base v S:=h.row.alloc o
end Go.Proofs.YtfekhbeaphpelaaGreatDoor
