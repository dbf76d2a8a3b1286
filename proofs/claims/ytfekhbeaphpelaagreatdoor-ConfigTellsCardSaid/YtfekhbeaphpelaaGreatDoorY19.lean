/- The landed compiler's expr. -/

import Derived.Test.YtfekhbeaphpelaaGreatDoorY18
set_option maxRecDepth 100000
set_option maxHeartbeats 8000000
set_option linter.unusedVariables false
set_option linter.unusedSimpArgs false
namespace Go.Proofs.YtfekhbeaphpelaaGreatDoor
open Go.RowKit Go.Lib
theorem sclone_any(s:ByteArray)(hs:s.size≤1000000000)(w0 w:World)(hr:Rel w0 w):Calls Tryz.prog 85 #[.string s] w fun e w'=>e= .returned (.string s)∧Rel w0 w':=by
 have hc:=fun w=>Tryz.stringslite_Clone s w (by omega)
 go_enter Tryz.func85,Tryz.ntmps85
 go_wp2_with (go_at_call 111;refine(hc _).mono ?_;rintro e w' ⟨rfl,hw⟩)
 go_ret
 exact⟨rfl,hr.step hw⟩
def CC(x:Ex):Prop:=∀(S:Nat→Prop)(e:El)(b m:Nat)(l:List In)(w0 w:World),Rel w0 w→ExAt S w0 e x→Cm w w0.heap.size b m l→l.length+clen x≤90000→
  Calls Tryz.prog 65 #[.pointer (some ⟨b,0,none⟩),EV e] w fun r w'=>r= .returned (.tuple #[])∧Cm w' w0.heap.size b m (l++cod x l.length)∧Rel w0 w'∧Kq b w w'
theorem cexpr_as{x:Ex}(H:CC x){S:Nat→Prop}{e:El}{w0:World}(h:ExAt S w0 e x)(b m:Nat)(l l':List In)(hl:Hid (l++cod x l.length=l'))(hz:l.length+clen x≤90000):
  ∀w,Rel w0 w→Cm w w0.heap.size b m l→Calls Tryz.prog 65 #[.pointer (some ⟨b,0,none⟩),EV e] w fun r w'=>r= .returned (.tuple #[])∧Cm w' w0.heap.size b m l'∧Rel w0 w'∧Kq b w w':=fun w hr hc=>by
 rw[←hl.out];exact H S e b m l w0 w hr h hc hz
theorem Cm.ne{w:World}{C b m:Nat}{l:List In}(h:Cm w C b m l){p:Nat}{t:TypeId}{cs:Array Value}(hp:Bk w p t cs)(ht:t≠102):p≠b:=by
 obtain⟨_,A,c,hb,_⟩:=h
 exact Bk.ne hp hb ht
theorem set_mid(A B':List In)(o o':In)(n:Nat)(h:n=A.length):(A++[o]++B').set n o'=A++o'::B':=by
 subst h
 rw[List.append_assoc,List.set_append_right _ _ (Nat.le_refl _),Nat.sub_self];rfl
theorem get_mid(A B':List In)(o:In)(n:Nat)(h:n=A.length):(A++[o]++B')[n]?=some o:=by
 subst h
 rw[List.append_assoc,List.getElem?_append_right (Nat.le_refl _),Nat.sub_self];rfl
theorem else_done(l la lb:List In)(n:Nat)(hn:n=(l++la).length):((l++la)++[(9,0,[])]++lb).set n (9,(((l++la)++[(9,0,[])]++lb).length:Int),[])=l++joinE l.length la lb:=by
 rw[set_mid _ _ _ _ _ hn,joinE,List.append_assoc]
 simp only[List.length_append,List.length_cons,List.length_nil,Nat.zero_add]
theorem if_done(l lc la lb:List In)(n q:Nat)(hn:n=(l++lc).length)(hq:q=(l++lc++[(12,0,[])]++la).length):
  ((((l++lc)++[(12,0,[])]++la++[(13,0,[])]).set n (12,(((l++lc)++[(12,0,[])]++la++[(13,0,[])]).length:Int),[]))++lb).set q (13,((((l++lc)++[(12,0,[])]++la++[(13,0,[])]).set n (12,(((l++lc)++[(12,0,[])]++la++[(13,0,[])]).length:Int),[])++lb).length:Int),[])=l++joinI l.length lc la lb:=by
 have e1:(l++lc)++[(12,(0:Int),([]:List UInt8))]++la++[(13,0,[])]=(l++lc)++[(12,0,[])]++(la++[(13,0,[])]):=by rw[List.append_assoc]
 rw[e1,set_mid _ _ _ _ _ hn]
 generalize hX:((12:Int),(((l++lc)++[(12,(0:Int),([]:List UInt8))]++(la++[(13,0,[])])).length:Int),([]:List UInt8))=X
 have e2:(l++lc)++X::(la++[(13,0,[])])++lb=(l++lc++X::la)++[(13,0,[])]++lb:=by simp
 have hx:X=(12,((l.length+lc.length+la.length+2:Nat):Int),[]):=by
  rw[←hX]
  have:((l++lc)++[(12,(0:Int),([]:List UInt8))]++(la++[(13,0,[])])).length=l.length+lc.length+la.length+2:=by simp;omega
  rw[this]
 have hy:((l++lc++X::la)++[(13,(0:Int),([]:List UInt8))]++lb).length=l.length+lc.length+la.length+2+lb.length:=by simp;omega
 rw[e2,set_mid _ _ _ _ _ (by rw[hq];simp),hy,joinI,hx]
 simp
theorem w0rel{w0 w:World}(hr:Rel w0 w):Rel w0 w0:=Rel.start hr.1
theorem cexpr_else(d:Nat)(n:Int)(nm:List UInt8)(a b':Ex)(hf:fine (d+1) (.mk 9 n nm [a,b'])=true)(Ha:CC a)(Hb:CC b'):CC (.mk 9 n nm [a,b']):=fun S e b m l w0 w hr h hc hz=>by
 obtain⟨A',c',es,rfl,hk,hn,hm,hle,hrow,hsub⟩:=h.open
 have hblt:=hc.lt
 have HB:=yH (Bk.new w 52 #[yI 9,yI n,.string (B nm),.slice A' 2 c'])
 have HA:=yH (hr.alloc (.cells #[yI 9,yI n,.string (B nm),.slice A' 2 c'] 52))
 have HC:=yH (hc.alloc (.cells #[yI 9,yI n,.string (B nm),.slice A' 2 c'] 52))
 have HQ:=yH ((Kq.refl b w).alloc (.cells #[yI 9,yI n,.string (B nm),.slice A' 2 c'] 52))
 have hne:w.heap.size≠b:=by omega
 obtain⟨W,hW⟩:∃W,w.alloc (.cells #[yI 9,yI n,.string (B nm),.slice A' 2 c'] 52)=W:=⟨_,rfl⟩
 rw[hW] at HA HB HC HQ
 obtain⟨el0,hK0,ha0⟩:=kidq_of hrow hsub hle (w0rel hr) 0 (by simp)
 obtain⟨el1,hK1,ha1⟩:=kidq_of hrow hsub hle (w0rel hr) 1 (by simp)
 obtain⟨g,off,rfl⟩:=hK0.is
 have HK0:=yH (show KidQ w0 (some ⟨g,off,none⟩) 0 el0 from hK0)
 have HK1:=yH (show KidQ w0 (some ⟨g,off,none⟩) 4 el1 from hK1)
 have hcl:clen (.mk 9 n nm [a,b'])=clen a+1+clen b':=by rw[clen_mk,clens_cons,clens_cons,clens_nil,if_neg (by decide)];omega
 have la:=cod_len d a (fine_mem hf (y:=a) (by simp)) l.length
 have lb:=cod_len d b' (fine_mem hf (y:=b') (by simp)) (l.length+clen a+1)
 rw[hcl] at hz
 have HD:=yH ((else_done l (cod a l.length) (cod b' (l.length+clen a+1)) _ rfl).trans (show _=l++cod (.mk 9 n nm [a,b']) l.length by rw[cod_else]))
 have HC0:=yH (cexpr_as Ha ha0 b m l _ (yH rfl) (by omega))
 have e1:(l++cod a l.length++[((9:Int),(0:Int),([]:List UInt8))]).length=l.length+clen a+1:=by simp only[List.length_append,List.length_cons,List.length_nil,la]
 have HC1:=yH (cexpr_as Hb ha1 b m (l++cod a l.length++[(9,0,[])]) (l++cod a l.length++[(9,0,[])]++cod b' (l.length+clen a+1)) (yH (by rw[e1])) (by rw[e1];omega))
 have HL1:=yH (show(l++cod a l.length).length≤90000 by rw[List.length_append,la];omega)
 have HL3:=yH (show(l++cod a l.length++[((9:Int),(0:Int),([]:List UInt8))]++cod b' (l.length+clen a+1)).length≤90000 by rw[List.length_append,e1,lb];omega)
 have HG:=yH (get_mid (l++cod a l.length) (cod b' (l.length+clen a+1)) (9,0,[]) _ rfl)
 generalize l++cod (.mk 9 n nm [a,b']) l.length=lx at*
 generalize l++cod a l.length=l1 at*
 generalize cod b' (l.length+clen a+1)=lb' at*
 obtain⟨⟨b0,b1,b2,b3⟩,_⟩:=HB.out.four
 obtain⟨k00,k01,k02,k03⟩:=(HK0.out.rel HA.out).at0
 clear hrow hsub h hr hc ha0 ha1 hK0 hK1 la lb e1 hcl hz hle
 go_enter Tryz.func65,Tryz.ntmps65
 go_upto_region 10 with (go_at_call 65;(with_reducible refine(HC0.out _ HA.out HC.out).mono ?_);rintro e w1 ⟨rfl,c1,r1,k1⟩)
 have HB1:=yH (k1.bk HB.out hne (by decide))
 have HQ1:=yH (HQ.out.trans k1)
 clear k1
 obtain⟨⟨d0,d1,d2,d3⟩,_⟩:=HB1.out.four
 go_upto_region 11 with (go_at_call 83;(with_reducible refine(clead_any b m l1 9 HL1.out w0 _ r1 c1).mono ?_);rintro e w2 ⟨p,q,rfl,hp2,hq2,c2,r2,k2⟩)
 have HB2:=yH (k2.bk HB1.out hne (by decide))
 have HQ2:=yH (HQ1.out.trans k2)
 have HP2:=yH hp2
 have HI2:=yH hq2
 have hnp:=c2.ne hp2 (by decide)
 have hnq:=c2.ne hq2 (by decide)
 clear k2 hp2 hq2
 obtain⟨⟨e0,e1,e2,e3⟩,_⟩:=HB2.out.four
 obtain⟨k10,k11,k12,k13⟩:=(HK1.out.rel r2).at
 go_upto_region 12 with (go_at_call 65;(with_reducible refine(HC1.out _ r2 c2).mono ?_);rintro e w3 ⟨rfl,c3,r3,k3⟩)
 have HP3:=yH (k3.bk HP2.out hnp (by decide))
 have HI3:=yH (k3.bk HI2.out hnq (by decide))
 have HQ3:=yH (HQ2.out.trans k3)
 clear k3
 go_wp2_with (go_at_call 110;(with_reducible refine(cend_any b m p q l1.length _ 9 0 [] HG.out HL3.out w0 _ r3 c3 HP3.out HI3.out).mono ?_);rintro e w4 ⟨rfl,c4,r4,k4⟩)
 go_end0
 exact⟨rfl,by rw[←HD.out];exact c4,r4,HQ3.out.trans k4⟩
theorem cexpr_if(d:Nat)(n:Int)(nm:List UInt8)(cc a b':Ex)(hf:fine (d+1) (.mk 10 n nm [cc,a,b'])=true)(Hc:CC cc)(Ha:CC a)(Hb:CC b'):CC (.mk 10 n nm [cc,a,b']):=fun S e b m l w0 w hr h hc hz=>by
 obtain⟨A',c',es,rfl,hk,hn,hm,hle,hrow,hsub⟩:=h.open
 have hblt:=hc.lt
 have HB:=yH (Bk.new w 52 #[yI 10,yI n,.string (B nm),.slice A' 3 c'])
 have HA:=yH (hr.alloc (.cells #[yI 10,yI n,.string (B nm),.slice A' 3 c'] 52))
 have HC:=yH (hc.alloc (.cells #[yI 10,yI n,.string (B nm),.slice A' 3 c'] 52))
 have HQ:=yH ((Kq.refl b w).alloc (.cells #[yI 10,yI n,.string (B nm),.slice A' 3 c'] 52))
 have hne:w.heap.size≠b:=by omega
 obtain⟨W,hW⟩:∃W,w.alloc (.cells #[yI 10,yI n,.string (B nm),.slice A' 3 c'] 52)=W:=⟨_,rfl⟩
 rw[hW] at HA HB HC HQ
 obtain⟨el0,hK0,ha0⟩:=kidq_of hrow hsub hle (w0rel hr) 0 (by simp)
 obtain⟨el1,hK1,ha1⟩:=kidq_of hrow hsub hle (w0rel hr) 1 (by simp)
 obtain⟨el2,hK2,ha2⟩:=kidq_of hrow hsub hle (w0rel hr) 2 (by simp)
 obtain⟨g,off,rfl⟩:=hK0.is
 have HK0:=yH (show KidQ w0 (some ⟨g,off,none⟩) 0 el0 from hK0)
 have HK1:=yH (show KidQ w0 (some ⟨g,off,none⟩) 4 el1 from hK1)
 have HK2:=yH (show KidQ w0 (some ⟨g,off,none⟩) 8 el2 from hK2)
 have hcl:clen (.mk 10 n nm [cc,a,b'])=clen cc+clen a+2+clen b':=by rw[clen_mk,clens_cons,clens_cons,clens_cons,clens_nil,if_pos rfl];omega
 have lc:=cod_len d cc (fine_mem hf (y:=cc) (by simp)) l.length
 have la:=cod_len d a (fine_mem hf (y:=a) (by simp)) (l.length+clen cc+1)
 have lb:=cod_len d b' (fine_mem hf (y:=b') (by simp)) (l.length+clen cc+2+clen a)
 rw[hcl] at hz
 have HD:=yH ((if_done l (cod cc l.length) (cod a (l.length+clen cc+1)) (cod b' (l.length+clen cc+2+clen a)) _ _ rfl rfl).trans (show _=l++cod (.mk 10 n nm [cc,a,b']) l.length by rw[cod_if]))
 have HC0:=yH (cexpr_as Hc ha0 b m l _ (yH rfl) (by omega))
 have e1:(l++cod cc l.length++[((12:Int),(0:Int),([]:List UInt8))]).length=l.length+clen cc+1:=by simp only[List.length_append,List.length_cons,List.length_nil,lc]
 have HC1:=yH (cexpr_as Ha ha1 b m (l++cod cc l.length++[(12,0,[])]) (l++cod cc l.length++[(12,0,[])]++cod a (l.length+clen cc+1)) (yH (by rw[e1])) (by rw[e1];omega))
 have HL1:=yH (show(l++cod cc l.length).length≤90000 by rw[List.length_append,lc];omega)
 generalize l++cod (.mk 10 n nm [cc,a,b']) l.length=lx at*
 generalize l++cod cc l.length=l1 at*
 generalize cod a (l.length+clen cc+1)=la' at*
 have e3:(l1++[((12:Int),(0:Int),([]:List UInt8))]++la').length=l.length+clen cc+1+clen a:=by rw[List.length_append,e1,la]
 have HL3:=yH (show(l1++[((12:Int),(0:Int),([]:List UInt8))]++la').length≤90000 by rw[e3];omega)
 have HG1:=yH (get_mid l1 (la'++[(13,0,[])]) (12,0,[]) _ rfl)
 rw[←List.append_assoc] at HG1
 generalize hl3:l1++[((12:Int),(0:Int),([]:List UInt8))]++la'=l3 at*
 have HL4:=yH (show(l3++[((13:Int),(0:Int),([]:List UInt8))]).length≤90000 by rw[List.length_append,e3];simp;omega)
 have e5:((l3++[((13:Int),(0:Int),([]:List UInt8))]).set l1.length (12,((l3++[((13:Int),(0:Int),([]:List UInt8))]).length:Int),[])).length=l.length+clen cc+2+clen a:=by rw[List.length_set,List.length_append,e3];simp;omega
 have HG2:=yH (show(((l3++[((13:Int),(0:Int),([]:List UInt8))]).set l1.length (12,((l3++[((13:Int),(0:Int),([]:List UInt8))]).length:Int),[]))++cod b' (l.length+clen cc+2+clen a))[l3.length]?=some (13,0,[]) by
  rw[List.getElem?_append_left (by rw[e5,e3];omega),List.getElem?_set_ne (by rw[←hl3];simp),List.getElem?_append_right (Nat.le_refl _),Nat.sub_self];rfl)
 generalize h5:(l3++[((13:Int),(0:Int),([]:List UInt8))]).set l1.length (12,((l3++[((13:Int),(0:Int),([]:List UInt8))]).length:Int),[])=l5 at*
 have HC2:=yH (cexpr_as Hb ha2 b m l5 (l5++cod b' (l.length+clen cc+2+clen a)) (yH (by rw[e5])) (by rw[e5];omega))
 have HL6:=yH (show(l5++cod b' (l.length+clen cc+2+clen a)).length≤90000 by rw[List.length_append,e5,lb];omega)
 generalize l5++cod b' (l.length+clen cc+2+clen a)=l6 at*
 have H5:=yH h5
 obtain⟨⟨b0,b1,b2,b3⟩,_⟩:=HB.out.four
 obtain⟨k00,k01,k02,k03⟩:=(HK0.out.rel HA.out).at0
 clear hrow hsub h hr hc ha0 ha1 ha2 hK0 hK1 hK2 lc la lb e1 hcl hz hle hl3 e3 e5 h5
 go_enter Tryz.func65,Tryz.ntmps65
 go_upto_region 15 with (go_at_call 65;(with_reducible refine(HC0.out _ HA.out HC.out).mono ?_);rintro e w1 ⟨rfl,c1,r1,k1⟩)
 have HB1:=yH (k1.bk HB.out hne (by decide))
 have HQ1:=yH (HQ.out.trans k1)
 clear k1
 go_upto_region 16 with (go_at_call 83;(with_reducible refine(clead_any b m l1 12 HL1.out w0 _ r1 c1).mono ?_);rintro e w2 ⟨p,q,rfl,hp2,hq2,c2,r2,k2⟩)
 have HB2:=yH (k2.bk HB1.out hne (by decide))
 have HQ2:=yH (HQ1.out.trans k2)
 have HP2:=yH hp2
 have HI2:=yH hq2
 have hnp:=c2.ne hp2 (by decide)
 have hnq:=c2.ne hq2 (by decide)
 clear k2 hp2 hq2
 obtain⟨⟨e0,e1,e2,e3⟩,_⟩:=HB2.out.four
 obtain⟨k10,k11,k12,k13⟩:=(HK1.out.rel r2).at
 go_upto_region 17 with (go_at_call 65;(with_reducible refine(HC1.out _ r2 c2).mono ?_);rintro e w3 ⟨rfl,c3,r3,k3⟩)
 have HB3:=yH (k3.bk HB2.out hne (by decide))
 have HP3:=yH (k3.bk HP2.out hnp (by decide))
 have HI3:=yH (k3.bk HI2.out hnq (by decide))
 have HQ3:=yH (HQ2.out.trans k3)
 clear k3
 go_upto_region 18 with (go_at_call 83;(with_reducible refine(clead_any b m l3 13 HL3.out w0 _ r3 c3).mono ?_);rintro e w4 ⟨p',q',rfl,hp4,hq4,c4,r4,k4⟩)
 have HB4:=yH (k4.bk HB3.out hne (by decide))
 have HP4:=yH (k4.bk HP3.out hnp (by decide))
 have HI4:=yH (k4.bk HI3.out hnq (by decide))
 have HQ4:=yH (HQ3.out.trans k4)
 have HPP4:=yH hp4
 have HII4:=yH hq4
 have hnp':=c4.ne hp4 (by decide)
 have hnq':=c4.ne hq4 (by decide)
 clear k4 hp4 hq4
 go_upto_region 19 with (go_at_call 110;(with_reducible refine(cend_any b m p q l1.length _ 12 0 [] HG1.out HL4.out w0 _ r4 c4 HP4.out HI4.out).mono ?_);rintro e w5 ⟨rfl,c5,r5,k5⟩)
 rw[H5.out] at c5
 have HB5:=yH (k5.bk HB4.out hne (by decide))
 have HPP5:=yH (k5.bk HPP4.out hnp' (by decide))
 have HII5:=yH (k5.bk HII4.out hnq' (by decide))
 have HQ5:=yH (HQ4.out.trans k5)
 clear k5
 obtain⟨⟨x0,x1,x2,x3⟩,_⟩:=HB5.out.four
 obtain⟨k20,k21,k22,k23⟩:=(HK2.out.rel r5).at
 go_upto_region 20 with (go_at_call 65;(with_reducible refine(HC2.out _ r5 c5).mono ?_);rintro e w6 ⟨rfl,c6,r6,k6⟩)
 have HPP6:=yH (k6.bk HPP5.out hnp' (by decide))
 have HII6:=yH (k6.bk HII5.out hnq' (by decide))
 have HQ6:=yH (HQ5.out.trans k6)
 clear k6
 go_wp2_with (go_at_call 110;(with_reducible refine(cend_any b m p' q' l3.length _ 13 0 [] HG2.out HL6.out w0 _ r6 c6 HPP6.out HII6.out).mono ?_);rintro e w7 ⟨rfl,c7,r7,k7⟩)
 go_end0
 exact⟨rfl,by rw[←HD.out];exact c7,r7,HQ6.out.trans k7⟩
theorem look_kinds{k:Int}(hk:k=1∨k=2∨k=3∨k=4∨k=5∨k=6∨k=7∨k=8∨k=11∨k=12):(look kindsL k).getD (yI 0)=yI (opK k)∧(Lit.int .i64 k).wf=true:=by
 rcases hk with rfl|rfl|rfl|rfl|rfl|rfl|rfl|rfl|rfl|rfl
 all_goals exact⟨rfl,by decide⟩
theorem kind_run{w:World}{m:Nat}(h:MapIs w m kindsL){k:Int}(hk:k=1∨k=2∨k=3∨k=4∨k=5∨k=6∨k=7∨k=8∨k=11∨k=12):(Instr.lookup 99 (.map (some m)) (yI k) false).run Tryz.prog w= .ok (yI (opK k)) w:=by
 rw[←(look_kinds hk).1]
 exact h.look _ _ Tryz.underlying99 _ (by kernel_rfl) k (look_kinds hk).2
def SxC(w:World)(g b m:Nat)(cs:Array Value):Prop:=Bk w g 52 cs∧w.cell? ⟨b,0,none⟩=some (.map (some m))∧MapIs w m kindsL
theorem SxC.of{w:World}{C g b m:Nat}{cs:Array Value}{l:List In}(hb:Bk w g 52 cs)(hc:Cm w C b m l):SxC w g b m cs:=by
 obtain⟨A,c,h0,_⟩:=hc.cells
 exact⟨hb,h0,hc.map⟩
theorem cexpr_op(d:Nat)(k n:Int)(nm:List UInt8)(l:List Ex)(hf:fine (d+1) (.mk k n nm l)=true)(h9:k≠9)(h10:k≠10)(H:∀x∈l,CC x):CC (.mk k n nm l):=fun S e b m L w0 w hr h hc hz=>by
 obtain⟨hkl,hl2⟩:=op_kind hf h9 h10
 obtain⟨A',c',es,rfl,hk,hn,hm,hle,hrow,hsub⟩:=h.open
 have hblt:=hc.lt
 have HB:=yH (Bk.new w 52 #[yI k,yI n,.string (B nm),.slice A' l.length c'])
 have HA:=yH (hr.alloc (.cells #[yI k,yI n,.string (B nm),.slice A' l.length c'] 52))
 have HC:=yH (hc.alloc (.cells #[yI k,yI n,.string (B nm),.slice A' l.length c'] 52))
 have HQ:=yH ((Kq.refl b w).alloc (.cells #[yI k,yI n,.string (B nm),.slice A' l.length c'] 52))
 have hne:w.heap.size≠b:=by omega
 obtain⟨W,hW⟩:∃W,w.alloc (.cells #[yI k,yI n,.string (B nm),.slice A' l.length c'] 52)=W:=⟨_,rfl⟩
 rw[hW] at HA HB HC HQ
 have hcl:clen (.mk k n nm l)=clens l+1:=by rw[clen_mk,if_neg h10]
 have HCod:=yH (show L++cod (.mk k n nm l) L.length=L++cods l L.length++[(opK k,n,nm)] by rw[cod_op h9 h10,List.append_assoc])
 have HLt:=yH (fun j=>cods_len (l:=l.take j) (fun x hx=>fine_mem hf (List.mem_of_mem_take hx)) L.length)
 have HRow:=yH hrow
 have HSub:=yH hsub
 have HLe:=yH hle
 have HH:=yH H
 have HFl:=yH (fun x hx=>fine_mem hf (y:=x) hx)
 have HKk:=yH hkl
 have HW0:=yH (w0rel hr)
 rw[hcl] at hz
 have t9:(k==9)=false:=by simpa using h9
 have t10:(k==10)=false:=by simpa using h10
 have hnm:(B nm).size≤1000000000:=by rw[B_size];omega
 obtain⟨⟨b0,b1,b2,b3⟩,_⟩:=HB.out.four
 clear hrow hsub h hr hle H hcl hf hc hkl h9 h10 hm
 go_enter Tryz.func65,Tryz.ntmps65
 go_wp2_with (fail)
 go_loopw [14] (fun i wr=>∃(j:Nat),j≤l.length∧i=yI (j:Int)∧Cm wr w0.heap.size b m (L++cods (l.take j) L.length)∧Rel w0 wr∧Kq b W wr) (fun i _=>l.length-(RowKit.intOf i).toNat)
 case atStart=>exact⟨0,by omega,rfl,by rw[List.take_zero,cods_nil,List.append_nil];exact HC.out,HA.out,Kq.refl _ _⟩
 case round=>
  obtain⟨j,hj,rfl,hcm,hRw,hKw⟩:=hrel
  have HRw:=yH hRw
  have HCm:=yH hcm
  have HKw:=yH hKw
  have HBw:=yH (hKw.bk HB.out hne (by decide))
  by_cases hlt:j<l.length
  ·obtain⟨el,hK,ha⟩:=kidq_of HRow.out HSub.out HLe.out HW0.out j hlt
   obtain⟨hct,hcn⟩:=cods_take hlt L.length
   have hle2:=clens_take l (j+1)
   have lt0:=HLt.out j
   have hC:=yH (cexpr_as (HH.out _ (List.getElem_mem hlt)) ha b m (L++cods (l.take j) L.length) (L++cods (l.take (j+1)) L.length) (yH (by rw[hct,List.append_assoc,List.length_append,lt0])) (by rw[List.length_append,lt0];omega))
   obtain⟨g,off,rfl⟩:=hK.is
   obtain⟨k0,k1,k2,k3⟩:=(hK.rel HRw.out).at
   obtain⟨⟨u0,u1,u2,u3⟩,_⟩:=(Bk.new wr 52 #[yI el.1,yI el.2.1,.string (B el.2.2.1),.slice el.2.2.2.1 el.2.2.2.2.1 el.2.2.2.2.2]).four
   have HRa:=yH (HRw.out.alloc (.cells #[yI el.1,yI el.2.1,.string (B el.2.2.1),.slice el.2.2.2.1 el.2.2.2.2.1 el.2.2.2.2.2] 52))
   have HCa:=yH (HCm.out.alloc (.cells #[yI el.1,yI el.2.1,.string (B el.2.2.1),.slice el.2.2.2.1 el.2.2.2.2.1 el.2.2.2.2.2] 52))
   have HKa:=yH (HKw.out.alloc (.cells #[yI el.1,yI el.2.1,.string (B el.2.2.1),.slice el.2.2.2.1 el.2.2.2.2.1 el.2.2.2.2.2] 52))
   clear hct hcn hle2 lt0 hcm hRw hKw hK ha
   go_wp2_with (go_at_call 65;(with_reducible refine(hC.out _ HRa.out HCa.out).mono ?_);rintro e w1 ⟨rfl,c1,r1,k1⟩)
   go_roundw
   case rel=>exact⟨j+1,by omega,by go_num,c1,r1,HKa.out.trans k1⟩
   case measure=>simp[RowKit.intOf];omega
  ·obtain rfl:j=l.length:=by omega
   have HLn:=yH (show(L++cods l L.length).length≤90000 by
    have h1:=HLt.out l.length
    have h2:=clens_take l l.length
    rw[List.take_length] at h1 h2
    rw[List.length_append,h1];omega)
   rw[List.take_length] at HCm
   generalize L++cods l L.length=L1 at*
   obtain⟨V,hV⟩:∃V,wr=V:=⟨_,rfl⟩
   subst hV
   obtain⟨V,hV⟩:∃V,V=wr:=⟨_,rfl⟩
   subst hV
   have HBV:=HBw
   have HCV:=HCm
   have HRV:=HRw
   have HKV:=yH (HQ.out.trans HKw.out)
   have RV:=yH (HRw.out.self)
   obtain⟨⟨d0,d1,d2,d3⟩,_⟩:=HBw.out.four
   clear hcm hRw hKw
   go_upto_region 7 with (fail)
   refine wp_region_held_drew (S:=(fun w'=>SxC w' w.heap.size b m #[yI k,yI n,.string (B nm),.slice A' l.length c'])) (by kernel_rfl) (show SxC V.drew w.heap.size b m _ from SxC.of HBV.out HCV.out) (fun hH=> ?_)
   refine yL [0,1,2,3,4,5,6,7,8,9,10,11] (by kernel_rfl) hH (fun _ _ _ _ _=>id) ?_
   iterate 12
    refine yS rfl rfl (by rfl) ?_ ?_ ?_
    rotate_left
    ·rintro w' ⟨hx,hc0,hmm⟩;obtain⟨⟨z0,z1,z2,z3⟩,_⟩:=hx.four;have lk:=kind_run hmm HKk.out;go_simp;try with_reducible rfl
    try simp only[Act.put,yA,yB,yC]
   refine yZ ?_
   refine held_one (j:=12) (by kernel_rfl) rfl (fun K hK=> ?_)
   try simp only[yD,yE,yF]
   rw[if_pos (by rfl)]
   go_simp
   go_at_call 85
   (with_reducible refine(sclone_any (B nm) hnm V V.drew RV.out.drew).mono ?_)
   rintro e w5 ⟨rfl,h5⟩
   have C5:=yH (HCV.out.rel h5)
   refine hK.out _ _ (SxC.of (HBV.out.rel h5) C5.out) (fun hH=> ?_)
   clear hK K
   try simp only[Act.put,yA,yB,yC]
   refine yW 13 35 rfl rfl (by kernel_rfl) (by rfl) hH ?_ (fun _ _ _=>id) ?_ ?_
   rotate_left
   ·rintro w' ⟨hx,hc0,hmm⟩;obtain⟨⟨z0,z1,z2,z3⟩,_⟩:=hx.four;have lk:=kind_run hmm HKk.out;go_simp;try with_reducible rfl
   try simp only[Act.put,yA,yB,yC]
   refine held_one (j:=14) (by kernel_rfl) rfl (fun K hK=> ?_)
   try simp only[yD,yE,yF]
   rw[if_pos (by rfl)]
   go_simp
   go_at_call 84
   (with_reducible refine(cput_any b m L1 (opK k) n nm HLn.out w0 _ (HRV.out.trans h5) C5.out).mono ?_)
   rintro e w6 ⟨rfl,c6,r6,k6⟩
   refine hK.out _ _ (SxC.of (k6.bk (HBV.out.rel h5) hne (by decide)) c6) (fun hH=> ?_)
   clear hK K
   try simp only[Act.put,yA,yB,yC]
   refine wpAnyH_done (by kernel_rfl) ?_ _
   go_wp2_with (fail)
   go_end0
   exact⟨rfl,by rw[HCod.out];exact c6,r6,HKV.out.trans ((Kq.rel h5).trans k6)⟩
theorem cexpr_all:∀d x,fine d x=true→CC x:=fine_ind
 (fun d k n nm l hf h9 h10 H=>cexpr_op d k n nm l hf h9 h10 H)
 (fun d n nm a b hf Ha Hb=>cexpr_else d n nm a b hf Ha Hb)
 (fun d n nm c a b hf Hc Ha Hb=>cexpr_if d n nm c a b hf Hc Ha Hb)
def codX(x:Ex):List In:=if rightX x then cod x 0 else []
def codR(x:Ex):Int:=if rightX x then 0 else 1
theorem codX_yes{x:Ex}(h:rightX x=true):codX x=cod x 0∧codR x=0:=by unfold codX codR;rw[if_pos h,if_pos h];exact⟨rfl,rfl⟩
theorem codX_no{x:Ex}(h:rightX x=false):codX x=[]∧codR x=1:=by unfold codX codR;rw[if_neg (by simp[h]),if_neg (by simp[h])];exact⟨rfl,rfl⟩
theorem codX_fit(x:Ex):InsFit (codX x):=by
 cases h:rightX x with
 |true=>rw[(codX_yes h).1];exact ins_fit (right_code h).1
 |false=>rw[(codX_no h).1];intro o ho;cases ho
theorem code_bad{l:List In}{i:Nat}(hi:i<l.length){t:In}(ht:l[i]=t)(h:inOk l.length i t=false):codeOk l=false:=by
 cases e:codeOk l
 ·rfl
 ·have:=(codeOk_iff.1 e).2 i hi
  rw[ht,h] at this;cases this
theorem code_many{l:List In}(h:5000<l.length):codeOk l=false:=by
 cases e:codeOk l
 ·rfl
 ·have:=(codeOk_iff.1 e).1;omega
theorem okTo_step{l:List In}{i:Nat}(hi:i<l.length){t:In}(ht:l[i]=t)(h:okTo l i=true)(h1:inOk l.length i t=true):okTo l (i+1)=true:=by
 rw[okTo,List.getElem?_eq_getElem hi,h,ht];exact h1
theorem code_full{l:List In}(h:l.length≤5000)(h2:okTo l l.length=true):codeOk l=true:=by
 unfold codeOk;rw[h2];simp[h]
theorem ins_at{w wr:World}{A:Option Addr}{l:List In}(h:InsAt w A l)(hr:Rel w wr)(j:Nat)(hj:j<l.length):
  ∃(g off:Nat)(o n:Int)(nm:List UInt8),A=some ⟨g,off,none⟩∧wr.cell? ⟨g,off+j*3,none⟩=some (yI o)∧wr.cell? ⟨g,off+j*3+1,none⟩=some (yI n)∧wr.cell? ⟨g,off+j*3+2,none⟩=some (.string (B nm))∧l[j]=(o,n,nm):=by
 obtain⟨g,off,e,_,h0,h1,h2⟩:=(h.rel hr) j hj
 exact⟨g,off,l[j].1,l[j].2.1,l[j].2.2,e,h0,h1,h2,rfl⟩
theorem to_is{o:Int}(h:o=9∨o=12∨o=13)(i len:Nat):leastO i o=(i:Int)+1∧mostO len o=(len:Int):=by
 rcases h with rfl|rfl|rfl<;>exact⟨rfl,rfl⟩
theorem inOk_eq(len i:Nat)(o n:Int)(nm:List UInt8):inOk len i (o,n,nm)=(decide (1≤o∧o≤13)&&decide (leastO i o≤n∧n≤mostO len o)&&(if o=4 then isName nm else decide (nm=[]))):=rfl
def CompileOk:Prop:=∀(x:Ex)(S:Nat→Prop)(e:El)(w0 w:World),Rel w0 w→ExAt S w e x→size x≤90000→
  Calls Tryz.prog 45 #[EV e] w fun r w'=>∃A c,r= .returned (.tuple #[.slice A (codX x).length c,yI (codR x)])∧InsOwn w' w.heap.size (.slice A (codX x).length c) (codX x)∧Rel w0 w'
def CRightOk:Prop:=∀(A:Option Addr)(c:Nat)(l:List In)(w0 w:World),Rel w0 w→InsArg w A c l→Calls Tryz.prog 87 #[.slice A l.length c] w fun z w'=>z= .returned (.bool (codeOk l))∧Rel w0 w'
theorem Cm.new{w0 w:World}{m:Nat}(hr:Rel w0 w)(hm:MapIs w m kindsL):Cm (w.alloc (.cells #[.map (some m),.slice none 0 0] 102)) w0.heap.size w.heap.size m []:=
 ⟨hr.size,none,0,Bk.new w _ _,InsOwn.nil _ _,hm.alloc _⟩
theorem Cm.done{w:World}{C b m:Nat}{l:List In}(h:Cm w C b m l):∃A c,w.cell? ⟨b,1,none⟩=some (.slice A l.length c)∧InsOwn w C (.slice A l.length c) l:=by
 obtain⟨hC,A,c,h1,h2,h3⟩:=h
 exact⟨A,c,by rw[h1.cell];rfl,h2⟩
theorem compile_any:CompileOk:=fun x S e w0 w hr h hz=>by
 have HR:=yH hr
 have HE:=yH h
 obtain⟨k,n,nm,A',m,c'⟩:=e
 have HB:=yH (Bk.new w 52 #[yI k,yI n,.string (B nm),.slice A' m c'])
 have HA:=yH (hr.self.alloc (.cells #[yI k,yI n,.string (B nm),.slice A' m c'] 52))
 obtain⟨W,hW⟩:∃W,w.alloc (.cells #[yI k,yI n,.string (B nm),.slice A' m c'] 52)=W:=⟨_,rfl⟩
 rw[hW] at HA HB
 have hws:w.heap.size<W.heap.size:=HB.out.lt
 have hC:=tright_any x S (k,n,nm,A',m,c') W W HA.out.self (h.rel HA.out) (by omega)
 obtain⟨⟨b0,b1,b2,b3⟩,_⟩:=HB.out.four
 cases hx:rightX x with
 |false=>
  obtain⟨e1,e2⟩:=codX_no hx
  rw[e1,e2]
  rw[hx] at hC
  have HC:=yH hC
  clear hC hx e1 e2 h hr
  go_enter Tryz.func45,Tryz.ntmps45
  go_wp2_with (go_at_call 36;(with_reducible refine HC.out.mono ?_);rintro e w1 ⟨rfl,h1⟩)
  go_ret2
  exact⟨none,0,rfl,InsOwn.nil _ _,HR.out.trans (HA.out.trans h1)⟩
 |true=>
  obtain⟨e1,e2⟩:=codX_yes hx
  obtain⟨_,hl,h4⟩:=right_code hx
  have hf:fine 32 x=true:=by unfold rightX at hx;simp only[Bool.and_eq_true] at hx;exact hx.1.1.1
  have hcl:clen x≤90000:=by have:=cod_len 32 x hf 0;omega
  rw[e1,e2]
  rw[hx] at hC
  have HC:=yH hC
  have HX:=yH (fun(b m2:Nat)(w2:World)(hr2:Rel w w2)(hc2:Cm w2 w.heap.size b m2 [])=>cexpr_all 32 x hf S (k,n,nm,A',m,c') b m2 [] w w2 hr2 HE.out hc2 (by simpa using hcl))
  simp only[List.nil_append,List.length_nil] at HX
  generalize cod x 0=l at*
  clear hC hx e1 e2 h hr hl h4 hcl
  go_enter Tryz.func45,Tryz.ntmps45
  go_wp2_with (first
   |(go_at_call 36;(with_reducible refine HC.out.mono ?_);rintro e w1 ⟨rfl,h1⟩;have R1:=yH (HA.out.trans h1))
   |(go_at_call 64;(with_reducible refine(kinds_any w _ R1.out).mono ?_);rintro e w2 ⟨q,rfl,hq,m2,h2,r2⟩;have C2:=yH (Cm.new r2 m2);have R2:=yH (r2.alloc (.cells #[.map (some q),.slice none 0 0] 102));have HB2:=yH (((HB.out.rel h1).rel h2).alloc (.cells #[.map (some q),.slice none 0 0] 102));obtain⟨⟨d0,d1,d2,d3⟩,_⟩:=HB2.out.four)
   |(go_at_call 65;(with_reducible refine(HX.out w2.heap.size q _ R2.out C2.out).mono ?_);rintro e w3 ⟨rfl,c3,r3,k3⟩;obtain⟨A3,c5,y1,own3⟩:=c3.done))
  go_ret2
  exact⟨A3,c5,rfl,own3,HR.out.trans r3⟩
end Go.Proofs.YtfekhbeaphpelaaGreatDoor

namespace Go.Proofs.YtfekhbeaphpelaaGreatDoor
open Go.Lib
abbrev Ce:=Option Int
abbrev Ms:=List Ce×Int
def takeM(s:Ms):Ce×Ms:=if s.2=0 then (match s.1.getLast? with|none=>(none,(s.1,100))|some a=>(a,(s.1.dropLast,0))) else (none,s)
def putM(s:Ms)(c:Ce):Ms:=if s.2=0 then (if 100≤s.1.length then (s.1,100) else (s.1++[c],0)) else s
def minusM(s:Ms)(c:Ce)(f:Int→Rs):Ms:=match c with
 |none=>putM s none
 |some v=>if s.2=0 then (match f v with| .error e=>(s.1,e)| .ok c=>putM s c) else s
def twoC(op:Int)(a b:Ce):Ce:=if op=11 then some (match a,b with|some a,some b=>if b<a then 1 else 0|_,_=>0) else bothF op a b
def twoM(op:Int)(s:Ms):Ms:=putM (takeM (takeM s).2).2 (twoC op (takeM (takeM s).2).1 (takeM s).1)
def stepM(l:List Of)(x:In)(at_:Nat)(s:Ms):Nat×Ms:=
 if x.1=1 then (at_+1,putM s (some x.2.1))
 else if x.1=2 then (at_+1,putM s (rk l 0))
 else if x.1=3 then (at_+1,putM s (rk l 1))
 else if x.1=4 then (at_+1,putM s (fromO l x.2.2))
 else if x.1=5 then (at_+1,minusM (takeM s).2 (takeM s).1 (fun v=>subR v x.2.1))
 else if x.1=6 then (at_+1,minusM (takeM s).2 (takeM s).1 (fun v=>cutR v x.2.1))
 else if x.1=9 then (match (takeM s).1 with|some v=>(x.2.1.toNat,putM (takeM s).2 (some v))|none=>(at_+1,(takeM s).2))
 else if x.1=10 then (at_+1,putM s (some (if x.2.1<(l.length:Int) then 1 else 0)))
 else if x.1=12 then (match (takeM s).1 with|some v=>if v=0 then (x.2.1.toNat,(takeM s).2) else (at_+1,(takeM s).2)|none=>(x.2.1.toNat,(takeM s).2))
 else if x.1=13 then (x.2.1.toNat,s)
 else (at_+1,twoM x.1 s)
def playM(l:List Of)(c:List In):Nat→Nat→Ms→Nat→Ms×Nat
 |0,_,s,n=>(s,n)
 |f+1,at_,s,n=>match c[at_]? with
  |none=>(s,n)
  |some x=>if s.2=0 then playM l c f (stepM l x at_ s).1 (stepM l x at_ s).2 (n+1) else (s,n)
def Fwd(c:List In):Prop:=∀i (h:i<c.length),isTo c[i].1=true→(i:Int)<c[i].2.1∧c[i].2.1≤(c.length:Int)
theorem fwd_of{c:List In}(h:codeOk c=true):Fwd c:=fun i hi ht=>by
 have h1:=(codeOk_iff.1 h).2 i hi
 unfold inOk leastO mostO at h1
 rw[ht] at h1
 simp only[Bool.and_eq_true,decide_eq_true_eq,if_true] at h1
 omega
theorem step_next{l:List Of}{c:List In}(hf:Fwd c){i:Nat}(hi:i<c.length)(s:Ms):i<(stepM l c[i] i s).1∧(stepM l c[i] i s).1≤c.length:=by
 have h:=hf i hi
 unfold stepM
 by_cases h9:c[i].1=9
 ·have:=h (by rw[h9];rfl)
  rw[if_neg (by omega),if_neg (by omega),if_neg (by omega),if_neg (by omega),if_neg (by omega),if_neg (by omega),if_pos h9]
  cases(takeM s).1<;>simp only<;>omega
 by_cases h12:c[i].1=12
 ·have:=h (by rw[h12];rfl)
  rw[if_neg (by omega),if_neg (by omega),if_neg (by omega),if_neg (by omega),if_neg (by omega),if_neg (by omega),if_neg (by omega),if_neg (by omega),if_pos h12]
  cases(takeM s).1 with
  |none=>simp only;omega
  |some v=>simp only;split<;>simp only<;>omega
 by_cases h13:c[i].1=13
 ·have:=h (by rw[h13];rfl)
  rw[if_neg (by omega),if_neg (by omega),if_neg (by omega),if_neg (by omega),if_neg (by omega),if_neg (by omega),if_neg (by omega),if_neg (by omega),if_neg (by omega),if_pos h13]
  simp only;omega
 rw[if_neg h9,if_neg h12,if_neg h13]
 repeat' split
 all_goals(simp only;omega)
theorem play_err(l:List Of)(c:List In)(f at_:Nat)(s:Ms)(n:Nat)(h:s.2≠0):playM l c f at_ s n=(s,n):=by
 cases f with
 |zero=>rfl
 |succ f=>
  rw[playM]
  cases c[at_]? with
  |none=>rfl
  |some x=>simp only;rw[if_neg h]
theorem play_end(l:List Of)(c:List In)(f at_:Nat)(s:Ms)(n:Nat)(h:c.length≤at_):playM l c f at_ s n=(s,n):=by
 cases f with
 |zero=>rfl
 |succ f=>rw[playM,List.getElem?_eq_none h]
theorem play_more{l:List Of}{c:List In}(hf:Fwd c):∀(f g at_:Nat)(s:Ms)(n:Nat),c.length-at_≤f→c.length-at_≤g→playM l c f at_ s n=playM l c g at_ s n:=by
 intro f
 induction f with
 |zero=>
  intro g at_ s n h1 h2
  rw[play_end l c 0 at_ s n (by omega),play_end l c g at_ s n (by omega)]
 |succ f ih=>
  intro g at_ s n h1 h2
  by_cases hl:at_<c.length
  ·cases g with
   |zero=>omega
   |succ g=>
    rw[playM,playM,List.getElem?_eq_getElem hl]
    simp only
    by_cases he:s.2=0
    ·rw[if_pos he,if_pos he]
     have:=(step_next (l:=l) hf hl s).1
     exact ih g _ _ _ (by omega) (by omega)
    ·rw[if_neg he,if_neg he]
  ·rw[play_end l c _ at_ s n (by omega),play_end l c _ at_ s n (by omega)]
def goM(l:List Of)(c:List In)(at_:Nat)(s:Ms)(n:Nat):Ms×Nat:=playM l c (c.length-at_) at_ s n
theorem go_err(l:List Of)(c:List In)(at_:Nat)(s:Ms)(n:Nat)(h:s.2≠0):goM l c at_ s n=(s,n):=play_err l c _ at_ s n h
theorem go_end(l:List Of)(c:List In)(at_:Nat)(s:Ms)(n:Nat)(h:c.length≤at_):goM l c at_ s n=(s,n):=play_end l c _ at_ s n h
theorem go_step{l:List Of}{c:List In}(hf:Fwd c){at_:Nat}{x:In}(hx:c[at_]?=some x)(S:List Ce)(n:Nat):goM l c at_ (S,0) n=goM l c (stepM l x at_ (S,0)).1 (stepM l x at_ (S,0)).2 (n+1):=by
 obtain⟨hl,rfl⟩:=List.getElem?_eq_some_iff.1 hx
 have:=(step_next (l:=l) hf hl (S,0)).1
 unfold goM
 obtain⟨f,hfu⟩:∃f,c.length-at_=f+1:=⟨c.length-at_-1,by omega⟩
 rw[hfu,playM,hx]
 simp only[if_true]
 exact play_more hf _ _ _ _ _ (by omega) (by omega)
def endR(s:Ms):Rs:=if s.2=0 then (match s.1 with|[c]=> .ok c|_=> .error 100) else .error s.2
def runS(l:List Of)(c:List In):Rs:=if offsOk l then (if codeOk c then endR (goM l c 0 ([],0) 0).1 else .error 100) else .error 1
def stepsS(l:List Of)(c:List In):Nat:=if offsOk l&&codeOk c then (goM l c 0 ([],0) 0).2 else 0
theorem run_yes{l:List Of}{c:List In}(h:offsOk l=true)(h':codeOk c=true):runS l c=endR (goM l c 0 ([],0) 0).1∧stepsS l c=(goM l c 0 ([],0) 0).2:=by
 unfold runS stepsS;rw[h,h'];exact⟨rfl,rfl⟩
theorem take_last(S:List Ce)(a:Ce):takeM (S++[a],0)=(a,(S,0)):=by
 unfold takeM;simp
theorem take_none:takeM ([],0)=(none,([],100)):=rfl
theorem put_room{S:List Ce}(h:S.length<100)(c:Ce):putM (S,0) c=(S++[c],0):=by
 unfold putM;rw[if_pos rfl,if_neg (by simp only;omega)]
theorem put_full{S:List Ce}(h:100≤S.length)(c:Ce):putM (S,0) c=(S,100):=by
 unfold putM;rw[if_pos rfl,if_pos h]
theorem put_err{s:Ms}(h:s.2≠0)(c:Ce):putM s c=s:=by unfold putM;rw[if_neg h]
theorem minus_ok{S:List Ce}{v:Int}{f:Int→Rs}{r:Ce}(h:f v= .ok r):minusM (S,0) (some v) f=putM (S,0) r:=by
 unfold minusM;simp only[if_true,h]
theorem minus_bad{S:List Ce}{v:Int}{f:Int→Rs}{e:Int}(h:f v= .error e):minusM (S,0) (some v) f=(S,e):=by
 unfold minusM;simp only[if_true,h]
end Go.Proofs.YtfekhbeaphpelaaGreatDoor

namespace Go.Proofs.YtfekhbeaphpelaaGreatDoor
open Go.RowKit Go.Lib
def cellsC(c:Ce):List Value:=[yI (c.getD 0),.bool c.isSome]
def cellsS(S:List Ce):List Value:=S.flatMap cellsC
theorem cellsS_cons(c:Ce)(t:List Ce):cellsS (c::t)=cellsC c++cellsS t:=rfl
theorem cellsS_snoc(S:List Ce)(c:Ce):cellsS (S++[c])=cellsS S++cellsC c:=by simp[cellsS]
theorem cellsS_len(S:List Ce):(cellsS S).length=S.length*2:=by
 induction S with
 |nil=>rfl
 |cons e t ih=>rw[cellsS_cons,List.length_append,ih];simp[cellsC];omega
def StkOwn(T:TypeId)(w:World)(base:Nat)(v:Value)(S:List Ce):Prop:=w.ownsRow base T 2 v S.length (cellsS S)
theorem StkOwn.row{T:TypeId}{w:World}{base:Nat}{v:Value}{S:List Ce}(h:StkOwn T w base v S):w.ownsRow base T 2 v S.length (cellsS S):=h
theorem StkOwn.nil(T:TypeId)(w:World)(base:Nat):StkOwn T w base (.slice none 0 0) []:=World.ownsRow_nil _ _ _ _
theorem StkOwn.rel{T:TypeId}{w w':World}{base:Nat}{v:Value}{S:List Ce}(h:StkOwn T w base v S)(hr:Rel w w'):StkOwn T w' base v S:=own_rel h hr
theorem StkOwn.top{T:TypeId}{w:World}{base:Nat}{v:Value}{S:List Ce}{c:Ce}(h:StkOwn T w base v (S++[c])):
  ∃g cap,v= .slice (some ⟨g,0,none⟩) (S.length+1) cap∧base≤g∧g<w.heap.size∧S.length+1≤cap∧w.cell? ⟨g,S.length*2,none⟩=some (yI (c.getD 0))∧w.cell? ⟨g,S.length*2+1,none⟩=some (.bool c.isSome)∧StkOwn T w base (.slice (some ⟨g,0,none⟩) S.length cap) S:=by
 have hl:(S++[c]).length=S.length+1:=by simp
 rcases h.2 with ⟨_,h0⟩|⟨g,cap,cur,hv,hb,hh,hnc,hcm,hcs,htake⟩
 ·omega
 ·rw[hl] at hv hnc htake
  have hget:∀j u,(cellsS (S++[c]))[j]?=some u→w.cell? ⟨g,j,none⟩=some u:=fun j u hu=>by
   have:=h.cells (g:=g) (by rw[hv];rfl) j u hu
   rwa [addr_at,Nat.zero_add] at this
  refine⟨g,cap,hv,hb,Bk.lt (t:=T) hh,hnc,hget _ _ ?_,hget _ _ ?_,⟨cellsS_len S,.inr ⟨g,cap,cur,rfl,hb,hh,by omega,hcm,hcs, ?_⟩⟩⟩
  ·rw[cellsS_snoc,List.getElem?_append_right (by rw[cellsS_len];omega),cellsS_len,Nat.sub_self];rfl
  ·rw[cellsS_snoc,List.getElem?_append_right (by rw[cellsS_len];omega),cellsS_len,show S.length*2+1-S.length*2=1 by omega];rfl
  ·have e:=congrArg (List.take (S.length*2)) htake
   rw[List.take_take,cellsS_snoc,List.take_append_of_le_length (by rw[cellsS_len];omega),List.take_of_length_le (l:=cellsS S) (by rw[cellsS_len];omega),show min (S.length*2) ((S.length+1)*2)=S.length*2 by omega] at e
   exact e
def Kr(T:TypeId)(b:Nat)(w w':World):Prop:=Lib.OthersKept T (some b) w w'
theorem Kr.refl(T:TypeId)(b:Nat)(w:World):Kr T b w w:=Lib.OthersKept.refl _ _ w
theorem Kr.trans{T:TypeId}{b:Nat}{w w' w'':World}(h:Kr T b w w')(h':Kr T b w' w''):Kr T b w w'':=Lib.OthersKept.trans h h'
theorem Kr.alloc{T:TypeId}{b:Nat}{w w':World}(h:Kr T b w w')(o:Obj):Kr T b w (w'.alloc o):=Lib.OthersKept.alloc h o
theorem Kr.rel{T:TypeId}{b:Nat}{w w':World}(hr:Rel w w'):Kr T b w w':=fun k o hk _ _=>(hr.2.block k (by
 rcases Nat.lt_or_ge k w.heap.size with h|h
 ·exact h
 ·rw[Array.getElem?_eq_none h] at hk;cases hk)).trans hk
theorem Kr.set{T:TypeId}{b:Nat}{w w':World}(h:Kr T b w w'){p:Addr}(hp:p.block=b)(u:Value):Kr T b w (w'.setCell p u):=Lib.OthersKept.setCell h p hp u
theorem Kr.row{T:TypeId}{b:Nat}{w:World}{base:Nat}{v:Value}{S:List Ce}(h:StkOwn T w base v S){w':World}(hg:w.grownBy w' v.ownBlock):Kr T b w w':=fun k o hk hb ho=>by
 refine(hg.block k ?_ ?_).trans hk
 ·rcases Nat.lt_or_ge k w.heap.size with h|h
  ·exact h
  ·rw[Array.getElem?_eq_none h] at hk;cases hk
 ·intro e
  rcases h.2 with ⟨rfl,_⟩|⟨g,cap,cur,rfl,_,hh,_⟩
  ·cases e
  ·have:k=g:=by simpa [Value.ownBlock] using e
   subst this
   rw[hh] at hk
   injection hk with hk
   exact ho _ _ hk.symm
def Kt(b:Nat)(w w':World):Prop:=∀k o,w.heap[k]?=some o→k≠b→w'.heap[k]?=some o
theorem some_lt{w:World}{k:Nat}{o:Obj}(h:w.heap[k]?=some o):k<w.heap.size:=by
 rcases Nat.lt_or_ge k w.heap.size with h'|h'
 ·exact h'
 ·rw[Array.getElem?_eq_none h'] at h;cases h
theorem Kt.refl(b:Nat)(w:World):Kt b w w:=fun _ _ h _=>h
theorem Kt.trans{b:Nat}{w w' w'':World}(h:Kt b w w')(h':Kt b w' w''):Kt b w w'':=fun k o hk hb=>h' k o (h k o hk hb) hb
theorem Kt.alloc{b:Nat}{w w':World}(h:Kt b w w')(o:Obj):Kt b w (w'.alloc o):=fun k q hk hb=>(Below.heap_alloc w' o k (some_lt (h k q hk hb))).trans (h k q hk hb)
theorem Kt.drew{b:Nat}{w w':World}(h:Kt b w w'):Kt b w w'.drew:=h
theorem Kt.rel{b:Nat}{w w':World}(hr:Rel w w'):Kt b w w':=fun k o hk _=>(hr.2.block k (some_lt hk)).trans hk
theorem Kt.set{b:Nat}{w w':World}(h:Kt b w w'){p:Addr}(hp:p.block=b)(u:Value):Kt b w (w'.setCell p u):=fun k o hk hb=>(Below.heap_setCell w' p u k (by rw[hp];exact hb)).trans (h k o hk hb)
theorem Kt.fresh{b:Nat}{w w':World}(h:Kt b w w'){p:Addr}(hp:w.heap.size≤p.block)(u:Value):Kt b w (w'.setCell p u):=fun k o hk hb=>(Below.heap_setCell w' p u k (by have:=some_lt hk;omega)).trans (h k o hk hb)
theorem Kt.box{b:Nat}{w w':World}(h:Kt b w w'){g:Nat}(hg:w.heap.size≤g)(u v:Value):Kt b w ((w'.setCell ⟨g,0,none⟩ u).setCell ⟨g,1,none⟩ v):=(h.fresh (p:=⟨g,0,none⟩) hg u).fresh (p:=⟨g,1,none⟩) hg v
theorem Kt.bk{b:Nat}{w w':World}(h:Kt b w w'){g:Nat}{t:TypeId}{cs:Array Value}(hb:Bk w g t cs)(hne:g≠b):Bk w' g t cs:=h g _ hb hne
theorem Kt.kr{T:TypeId}{b:Nat}{w w':World}(h:Kt b w w'):Kr T b w w':=fun k o hk hb _=>h k o hk (fun e=>hb (by rw[e]))
theorem stack_ways(S:List Ce):S=[]∨∃T c,S=T++[c]:=by
 cases h:S.reverse with
 |nil=>exact .inl (by simpa using h)
 |cons c T=>exact .inr ⟨T.reverse,c,by have:=congrArg List.reverse h;simpa using this⟩
theorem Rel.box{w0 w:World}(h:Rel w0 w){g:Nat}(hg:w0.heap.size≤g)(u v:Value):Rel w0 ((w.setCell ⟨g,0,none⟩ u).setCell ⟨g,1,none⟩ v):=(h.setCell (p:=⟨g,0,none⟩) hg u).setCell (p:=⟨g,1,none⟩) hg v
theorem StkOwn.alloc{T:TypeId}{w:World}{base:Nat}{v:Value}{S:List Ce}(h:StkOwn T w base v S)(o:Obj):StkOwn T (w.alloc o) base v S:=h.row.alloc o
theorem MapIs.heap{w w':World}{b:Nat}{l:List (Int×Value)}(h:MapIs w b l)(e:w'.heap[b]?=w.heap[b]?):MapIs w' b l:=by
 obtain⟨D,⟨es,clock,h1,h2⟩,h3⟩:=h
 exact⟨D,⟨es,clock,e.trans h1,h2⟩,h3⟩
theorem MapIs.kr{w w':World}{q b:Nat}{T:TypeId}{l:List (Int×Value)}(h:MapIs w q l)(hk:Kr T b w w')(hq:q≠b):MapIs w' q l:=by
 obtain⟨es,clock,hb⟩:=h.block
 exact h.heap ((hk q _ hb (fun e=>hq (by injection e)) (fun _ _ e=>by cases e)).trans hb.symm)
theorem lm_ne:(111:TypeId)≠109:=by decide
abbrev Kl(b:Nat)(w w':World):Prop:=Kr 111 b w w'
def Mh(w:World)(C D b:Nat)(ov:Value)(nx st:Int)(S:List Ce):Prop:=
 C≤b∧b<D∧D≤w.heap.size∧S.length≤100∧∃A c,Bk w b 109 #[ov,yI nx,yI st,.slice A S.length c]∧StkOwn 111 w C (.slice A S.length c) S∧∀g,(Value.slice A S.length c).ownBlock=some g→g<D
section
variable {w w':World} {C D b:Nat} {ov:Value} {nx st:Int} {S:List Ce}
theorem Mh.of{A:Option Addr}{L c:Nat}(h1:C≤b)(h2:b<D)(h3:D≤w.heap.size)(h4:L≤100)(hL:S.length=L)(hb:Bk w b 109 #[ov,yI nx,yI st,.slice A L c])(ho:StkOwn 111 w C (.slice A L c) S)
  (hr:∀g,(Value.slice A L c).ownBlock=some g→g<D):Mh w C D b ov nx st S:=by
 subst hL
 exact⟨h1,h2,h3,h4,A,c,hb,ho,hr⟩
theorem Mh.lt(h:Mh w C D b ov nx st S):b<w.heap.size:=by have:=h.2.1;have:=h.2.2.1;omega
theorem Mh.rel(h:Mh w C D b ov nx st S)(hr:Rel w w'):Mh w' C D b ov nx st S:=by
 obtain⟨h1,h2,h3,h4,A,c,hb,ho,h5⟩:=h
 exact⟨h1,h2,by have:=hr.size;omega,h4,A,c,hb.rel hr,ho.rel hr,h5⟩
theorem Mh.wide(h:Mh w C D b ov nx st S){E:Nat}(h1:D≤E)(h2:E≤w.heap.size):Mh w C E b ov nx st S:=by
 obtain⟨g1,g2,g3,g4,A,c,hb,ho,g5⟩:=h
 exact⟨g1,by omega,h2,g4,A,c,hb,ho,fun g hg=>by have:=g5 g hg;omega⟩
theorem Mh.far(h:Mh w C D b ov nx st S){p:Addr}(hp:D≤p.block)(u:Value):Mh (w.setCell p u) C D b ov nx st S:=by
 obtain⟨h1,h2,h3,h4,A,c,hb,ho,h5⟩:=h
 exact⟨h1,h2,by rw[World.size_setCell];exact h3,h4,A,c,hb.far (p:=p) (by omega) u,own_set ho.row (fun e=>by have:=h5 _ e.symm;omega) u,h5⟩
theorem Mh.cells(h:Mh w C D b ov nx st S):∃A c,Bk w b 109 #[ov,yI nx,yI st,.slice A S.length c]:=by
 obtain⟨h1,h2,h3,h4,A,c,hb,ho,h5⟩:=h
 exact⟨A,c,hb⟩
theorem Mh.next(h:Mh w C D b ov nx st S)(n:Int):Mh (w.setCell ⟨b,1,none⟩ (yI n)) C D b ov n st S:=by
 obtain⟨h1,h2,h3,h4,A,c,hb,ho,h5⟩:=h
 exact⟨h1,h2,by rw[World.size_setCell];exact h3,h4,A,c,hb.set_ 1 _,own_set ho.row (own_ne ho.row hb lm_ne) _,h5⟩
theorem Mh.step(h:Mh w C D b ov nx st S)(n:Int):Mh (w.setCell ⟨b,2,none⟩ (yI n)) C D b ov nx n S:=by
 obtain⟨h1,h2,h3,h4,A,c,hb,ho,h5⟩:=h
 exact⟨h1,h2,by rw[World.size_setCell];exact h3,h4,A,c,hb.set_ 2 _,own_set ho.row (own_ne ho.row hb lm_ne) _,h5⟩
end
theorem told_info:(Tryz.prog.info? 111).map (fun i=>(i.zero,i.size,i.bytes))=some (some (.agg #[yI 0,.bool false]),2,16):=by kernel_rfl
abbrev CV1(c:Ce):Value:= .agg #[yI (c.getD 0),.bool c.isSome]
theorem ltake_none(b D:Nat)(ov:Value)(nx st:Int)(w0 w:World)(hr:Rel w0 w)(h:Mh w w0.heap.size D b ov nx st []):
  Calls Tryz.prog 154 #[.pointer (some ⟨b,0,none⟩)] w fun r w'=>r= .returned (.tuple #[CV1 none,yI 100])∧Rel w w':=by
 have HA:=yH (hr.self.alloc (.cells #[yI 0,.bool false] 111))
 have HX:=yH (Bk.new w 111 #[yI 0,.bool false])
 have hM:=h.rel HA.out
 obtain⟨W,hW⟩:∃W,w.alloc (.cells #[yI 0,.bool false] 111)=W:=⟨_,rfl⟩
 rw[hW] at HA HX hM
 obtain⟨A,c,hb⟩:=hM.cells
 obtain⟨⟨b0,b1,b2,b3⟩,_⟩:=hb.four
 simp only[List.length_nil] at b3
 obtain⟨⟨x0,x1⟩,x2,x3⟩:=HX.out.two
 obtain⟨⟨r0,r1⟩,_⟩:=(HX.out.put (yI 0) (.bool false)).two
 clear hr h hM hb
 go_enter Tryz.func154,Tryz.ntmps154
 go_wp2_with (fail)
 exact bodyPost_ret (v:= .tuple #[.agg #[yI 0,.bool false],yI 100]) (by simp[results,Tryz.results154,go_sem,r0,r1]) rfl ⟨rfl,HA.out.box (Nat.le_refl _) _ _⟩
theorem ltake_some(b D:Nat)(ov:Value)(nx st:Int)(S:List Ce)(t:Ce)(w0 w:World)(hr:Rel w0 w)(h:Mh w w0.heap.size D b ov nx st (S++[t])):
  Calls Tryz.prog 154 #[.pointer (some ⟨b,0,none⟩)] w fun r w'=>r= .returned (.tuple #[CV1 t,yI 0])∧Mh w' w0.heap.size D b ov nx st S∧Rel w0 w'∧Kt b w w':=by
 have HA:=yH (hr.alloc (.cells #[yI 0,.bool false] 111))
 have HK:=yH ((Kt.refl b w).alloc (.cells #[yI 0,.bool false] 111))
 have HX:=yH (Bk.new w 111 #[yI 0,.bool false])
 have hDw:=h.2.2.1
 have hM:=h.rel (hr.self.alloc (.cells #[yI 0,.bool false] 111))
 have hw0:w0.heap.size≤w.heap.size:=hr.size
 obtain⟨W,hW⟩:∃W,w.alloc (.cells #[yI 0,.bool false] 111)=W:=⟨_,rfl⟩
 rw[hW] at HA HK HX hM
 obtain⟨⟨x0,x1⟩,x2,x3⟩:=HX.out.two
 obtain⟨hC,hbD,hDW,hS,A,c,hb,ho,hrow⟩:=hM
 have hl:(S++[t]).length=S.length+1:=by simp
 rw[hl] at hb ho hrow hS
 obtain⟨g,cap,hv,hg0,hgl,hcap,t0,t1,ht⟩:=ho.top
 obtain⟨L,hL⟩:∃L,S.length=L:=⟨_,rfl⟩
 rw[hL] at hv t0 t1 ht hb hcap hS
 injection hv with e1 e2 e3
 subst e1
 subst e3
 have hgD:g<D:=hrow g rfl
 have HLn:=yH hL
 have HB:=yH hb
 have HT:=yH (show StkOwn 111 W w0.heap.size (.slice (some ⟨g,0,none⟩) L c) S from ht)
 obtain⟨tn,htn⟩:∃tn,t.getD 0=tn:=⟨_,rfl⟩
 obtain⟨tb,htb⟩:∃tb,t.isSome=tb:=⟨_,rfl⟩
 rw[htn] at t0
 rw[htb] at t1
 have HTn:=yH (show CV1 t= .agg #[yI tn,.bool tb] by rw[←htn,←htb])
 obtain⟨⟨b0,b1,b2,b3⟩,f0,f1,f2,f3⟩:=HB.out.four
 have q1:IntKind.i64.wrap ((L:Nat):Int)=((L:Nat):Int):=IntWalk.i64_in _ (by omega)
 have l0:(0:Int)≤(L:Int):=by omega
 have l1:(L:Int)<(L:Int)+1:=by omega
 have l2:L≤c:=by omega
 have l3:decide ((L:Int)<0)=false:=decide_eq_false (by omega)
 have hwb:w.heap.size≠b:=by omega
 clear hl hL ht htn htb hr h hb ho hrow
 go_enter Tryz.func154,Tryz.ntmps154
 go_upto_region 5 with (fail)
 have HBV:=yH (HB.out.alloc (.cells #[yI tn,.bool tb] 111))
 have HTV:=yH (HT.out.alloc (.cells #[yI tn,.bool tb] 111))
 have HXV:=yH (HX.out.alloc (.cells #[yI tn,.bool tb] 111))
 have HNV:=yH (Bk.new W 111 #[yI tn,.bool tb])
 have HAV:=yH (HA.out.alloc (.cells #[yI tn,.bool tb] 111))
 have HKV:=yH (HK.out.alloc (.cells #[yI tn,.bool tb] 111))
 have hWb:W.heap.size≠b:=by omega
 have hWw:W.heap.size≠w.heap.size:=by rw[←hW,World.size_alloc];omega
 have hDV:D≤(W.alloc (.cells #[yI tn,.bool tb] 111)).heap.size:=by rw[World.size_alloc];omega
 obtain⟨V,hV⟩:∃V,W.alloc (.cells #[yI tn,.bool tb] 111)=V:=⟨_,rfl⟩
 rw[hV] at HBV HTV HXV HNV HAV HKV hDV
 try rw[hV]
 obtain⟨⟨v0,v1,v2,v3⟩,u0,u1,u2,u3⟩:=HBV.out.four
 have HXU:=yH (HXV.out.far (p:=⟨b,3,none⟩) hwb (.slice (some ⟨g,0,none⟩) L c))
 have HNU:=yH (HNV.out.far (p:=⟨b,3,none⟩) hWb (.slice (some ⟨g,0,none⟩) L c))
 have HBU:=yH (show Bk (V.setCell ⟨b,3,none⟩ (.slice (some ⟨g,0,none⟩) L c)) b 109 #[ov,yI nx,yI st,.slice (some ⟨g,0,none⟩) L c] from HBV.out.set_ 3 (.slice (some ⟨g,0,none⟩) L c))
 have HTU:=yH (show StkOwn 111 (V.setCell ⟨b,3,none⟩ (.slice (some ⟨g,0,none⟩) L c)) w0.heap.size _ S from own_set (StkOwn.row HTV.out) (own_ne (StkOwn.row HTV.out) HBV.out lm_ne) _)
 have HAU:=yH (HAV.out.setCell (p:=⟨b,3,none⟩) hC (.slice (some ⟨g,0,none⟩) L c))
 have HKU:=yH (HKV.out.set (p:=⟨b,3,none⟩) rfl (.slice (some ⟨g,0,none⟩) L c))
 have hDU:D≤(V.setCell ⟨b,3,none⟩ (.slice (some ⟨g,0,none⟩) L c)).heap.size:=by rw[World.size_setCell];exact hDV
 go_upto_region 6 with (fail)
 obtain⟨U,hU⟩:∃U,V.setCell ⟨b,3,none⟩ (.slice (some ⟨g,0,none⟩) L c)=U:=⟨_,rfl⟩
 rw[hU] at HXU HNU HBU HTU HAU HKU hDU
 try rw[hU]
 have HMU:=yH (Mh.of hC hbD hDU (show L≤100 by omega) HLn.out HBU.out HTU.out (fun k e=>by
  have:g=k:=by simpa [Value.ownBlock] using e
  omega))
 obtain⟨⟨m0,m1⟩,_⟩:=HNU.out.two
 obtain⟨⟨k0,k1⟩,k2,k3⟩:=HXU.out.two
 obtain⟨⟨r0,r1⟩,_⟩:=(HXU.out.put (yI tn) (.bool tb)).two
 clear hV
 go_wp2_with (fail)
 exact bodyPost_ret (v:= .tuple #[.agg #[yI tn,.bool tb],yI 0]) (by simp[results,Tryz.results154,go_sem,r0,r1]) rfl ⟨by rw[HTn.out],(HMU.out.far (p:=⟨w.heap.size,0,none⟩) hDw _).far (p:=⟨w.heap.size,1,none⟩) hDw _,HAU.out.box hw0 _ _,HKU.out.box (Nat.le_refl _) _ _⟩
theorem lput_done{w w':World}{C b g c c' L:Nat}{A:Option Addr}{S:List Ce}{x:Ce}{xs:List Value}{ov:Value}{nx st:Int}(hC:C≤b)(hbD:b<w'.heap.size)(hL:S.length=L)(hl:L<100)(hb:Bk w b 109 #[ov,yI nx,yI st,.slice A L c])(ho:StkOwn 111 w C (.slice A L c) S)(hx:cellsC x=xs)
  (hw:w.grownBy w' (Value.slice A L c).ownBlock) (hown:w'.ownsRow C 111 2 (.slice (some ⟨g,0,none⟩) (L+1) c') (L+1) (cellsS S++xs)) (hg:g<w'.heap.size):
  Mh (w'.setCell ⟨b,3,none⟩ (.slice (some ⟨g,0,none⟩) (L+1) c')) C (w'.setCell ⟨b,3,none⟩ (.slice (some ⟨g,0,none⟩) (L+1) c')).heap.size b ov nx st (S++[x]):=by
 subst hL hx
 have hb':=hb.grown hw (own_ne ho.row hb lm_ne)
 have hs:=hb'.set_ 3 (.slice (some ⟨g,0,none⟩) (S.length+1) c')
 have hle:(S++[x]).length=S.length+1:=by simp
 refine Mh.of hC (by rw[World.size_setCell];exact hbD) (Nat.le_refl _) (show S.length+1≤100 by omega) hle hs ?_ (fun k e=>by
  have:g=k:=by simpa [Value.ownBlock] using e
  rw[World.size_setCell];omega)
 unfold StkOwn
 rw[cellsS_snoc,hle]
 exact own_set hown (own_ne hown hb' lm_ne) _
theorem lput_full(b D:Nat)(ov:Value)(nx st:Int)(S:List Ce)(x:Ce)(hS:S.length=100)(w0 w:World)(hr:Rel w0 w)(h:Mh w w0.heap.size D b ov nx st S):
  Calls Tryz.prog 155 #[.pointer (some ⟨b,0,none⟩),CV1 x] w fun r w'=>r= .returned (yI 100)∧Rel w w':=by
 obtain⟨n,hn⟩:∃n,x.getD 0=n:=⟨_,rfl⟩
 obtain⟨is,hi⟩:∃is,x.isSome=is:=⟨_,rfl⟩
 unfold CV1
 rw[hn,hi]
 have HA:=yH (hr.self.alloc (.cells #[yI n,.bool is] 111))
 have hM:=h.rel HA.out
 obtain⟨W,hW⟩:∃W,w.alloc (.cells #[yI n,.bool is] 111)=W:=⟨_,rfl⟩
 rw[hW] at HA hM
 obtain⟨A,c,hb⟩:=hM.cells
 rw[hS] at hb
 obtain⟨⟨b0,b1,b2,b3⟩,_⟩:=hb.four
 clear hr h hM hb hS
 go_enter Tryz.func155,Tryz.ntmps155
 go_wp2_with (fail)
 go_ret
 exact⟨rfl,HA.out⟩
theorem lput_room(b D:Nat)(ov:Value)(nx st:Int)(S:List Ce)(x:Ce)(hS:S.length<100)(w0 w:World)(hr:Rel w0 w)(h:Mh w w0.heap.size D b ov nx st S):
  Calls Tryz.prog 155 #[.pointer (some ⟨b,0,none⟩),CV1 x] w fun r w'=>r= .returned (yI 0)∧Mh w' w0.heap.size w'.heap.size b ov nx st (S++[x])∧Rel w0 w'∧Kl b w w':=by
 obtain⟨n,hn⟩:∃n,x.getD 0=n:=⟨_,rfl⟩
 obtain⟨is,hi⟩:∃is,x.isSome=is:=⟨_,rfl⟩
 have HCx:=yH (show cellsC x=[yI n,.bool is] by rw[←hn,←hi];rfl)
 unfold CV1
 rw[hn,hi]
 have hblt:=h.lt
 obtain⟨hC,hbD,hDw,hS',A,c,hb,ho,hrow⟩:=h
 obtain⟨L,hL⟩:∃L,S.length=L:=⟨_,rfl⟩
 rw[hL] at hb ho hS hS'
 have HL:=yH hL
 have HX:=yH (Bk.new w 111 #[yI n,.bool is])
 have HB:=yH (hb.alloc (.cells #[yI n,.bool is] 111))
 have HO:=yH (ho.alloc (.cells #[yI n,.bool is] 111))
 have HA:=yH (hr.alloc (.cells #[yI n,.bool is] 111))
 have HK:=yH ((Kr.refl 111 b w).alloc (.cells #[yI n,.bool is] 111))
 have hWs:(w.alloc (.cells #[yI n,.bool is] 111)).heap.size=w.heap.size+1:=World.size_alloc _ _
 obtain⟨W,hW⟩:∃W,w.alloc (.cells #[yI n,.bool is] 111)=W:=⟨_,rfl⟩
 rw[hW] at HX HB HO HA HK hWs
 obtain⟨⟨x0,x1⟩,_⟩:=HX.out.two
 obtain⟨⟨b0,b1,b2,b3⟩,f0,f1,f2,f3⟩:=HB.out.four
 have HB2:=yH (show Bk (W.alloc (.cells #[yI n,.bool is] 111)).drew b 109 _ from HB.out.alloc (.cells #[yI n,.bool is] 111))
 have HO2:=yH (show StkOwn 111 (W.alloc (.cells #[yI n,.bool is] 111)).drew w0.heap.size (.slice A L c) S from HO.out.alloc (.cells #[yI n,.bool is] 111))
 have HA2:=yH ((HA.out.alloc (.cells #[yI n,.bool is] 111)).drew)
 have HK2:=yH (show Kr 111 b w (W.alloc (.cells #[yI n,.bool is] 111)).drew from HK.out.alloc (.cells #[yI n,.bool is] 111))
 have hRow:(W.alloc (.cells #[yI n,.bool is] 111)).drew.ownsRow w0.heap.size 111 2 (.slice A L c) L (cellsS S):=by have:=StkOwn.row HO2.out;rw[HL.out] at this;exact this
 have HRow:=yH hRow
 have d3:(W.alloc (.cells #[yI n,.bool is] 111)).drew.cell? ⟨b,3,none⟩=some (.slice A L c):=HB2.out.cell 3
 have HN:=yH (show ∀(j:Nat)(u:Value),([yI n,.bool is]:List Value)[j]?=some u→(W.alloc (.cells #[yI n,.bool is] 111)).drew.cell? ((⟨w.heap.size+1,0,none⟩:Addr).add j)=some u from by rw[←hWs];exact World.news_of_block (Bk.new W 111 #[yI n,.bool is]))
 have hbs:w0.heap.size≤(W.alloc (.cells #[yI n,.bool is] 111)).drew.heap.size:=HA2.out.size
 have hsz:W.heap.size+1≤(W.alloc (.cells #[yI n,.bool is] 111)).drew.heap.size:=by show _≤(W.alloc (.cells #[yI n,.bool is] 111)).heap.size;rw[World.size_alloc];omega
 obtain⟨i0,hi0,hz0,hz1,hz2⟩:=info_parts told_info
 have t1:decide ((100:Int)≤(L:Int))=false:=decide_eq_false (by omega)
 clear hr hb ho hL hrow hRow hn hi
 go_enter Tryz.func155,Tryz.ntmps155
 go_upto_region 3 with (fail)
 refine wp_region_any (by kernel_rfl) ?_
 change wpAny _ _ _ _ _ _ _ W.drew
 refine yM [0,1,2,3] (by kernel_rfl) (fun _ _ _ _ _=>id) ?_
 iterate 4
  refine yT rfl rfl (by rfl) ?_ ?_ ?_
  rotate_left
  ·intro w';go_simp;try with_reducible rfl
  try simp only[Act.put,yA,yB,yC]
 refine yZ ?_
 refine till_take (i:=4) (v:= ?_) (S:=fun w'=>w'.cell? ⟨b,3,none⟩=some (.slice A L c)) (some 15) rfl rfl (by kernel_rfl) (by kernel_rfl) (by kernel_rfl) (fun _ _ _ h=>h) (Or.inl ⟨by rfl, ?_⟩) b3 ?_
 rotate_left 1
 ·intro w' hSw;go_simp;try with_reducible rfl
 try simp only[Act.put,yA,yB,yC]
 refine till_one (j:=5) (by kernel_rfl) rfl (fun K hK=> ?_)
 try simp only[yD,yE,yF]
 try rw[if_pos (by rfl)]
 go_simp
 refine hK.out _ _ b3 ?_
 clear hK K
 try simp only[Act.put,yA,yB,yC]
 refine till_one (j:=6) (by kernel_rfl) rfl (fun K hK=> ?_)
 try simp only[yD,yE,yF]
 try rw[if_pos (by rfl)]
 go_simp
 refine hK.out _ _ d3 ?_
 clear hK K
 try simp only[Act.put,yA,yB,yC]
 refine till_late (j:=7) (by kernel_rfl) rfl (by kernel_rfl) (fun K hK=> ?_)
 try simp only[yD,yE,yF]
 rw[if_pos (by rfl)]
 refine wp_append_lies _ _ _ 107 rfl w0.heap.size 111 i0 (.agg #[yI 0,.bool false]) 2 16 Tryz.underlying107 hi0 hz0 hz1 hz2 rfl (by decide) (.slice A L c) L (cellsS S) rfl HRow.out ⟨w.heap.size+1,0,none⟩ 1 1 [yI n,.bool is] rfl rfl HN.out (by intro u hu;simp at hu;rcases hu with rfl|rfl<;>rfl) (by decide) (by unfold maxLen;omega) (by omega) hbs _ rfl ?_
 intro g9 c9 w9 own9 gr9 at9 lt9
 have HB9:=yH (HB2.out.grown gr9 (own_ne (StkOwn.row HO2.out) HB2.out lm_ne))
 obtain⟨⟨y0,y1,y2,y3⟩,z0,z1,z2,z3⟩:=HB9.out.four
 have HO9:=yH own9
 have HG9:=yH gr9
 have hz9:=gr9.size
 clear own9 gr9 at9
 refine hK.out _ _ ?_
 clear hK K
 try simp only[Act.put,yA,yB,yC]
 refine till_late (j:=8) (by kernel_rfl) rfl (by kernel_rfl) (fun K hK=> ?_)
 try simp only[yD,yE,yF]
 try rw[if_pos (by rfl)]
 go_simp
 refine hK.out _ _ ?_
 clear hK K
 try simp only[Act.put,yA,yB,yC]
 refine till_late (j:=9) (by kernel_rfl) rfl (by kernel_rfl) (fun K hK=> ?_)
 try simp only[yD,yE,yF]
 try rw[if_pos (by rfl)]
 go_simp
 refine hK.out _ _ ?_
 clear hK K
 try simp only[Act.put,yA,yB,yC]
 refine till_late (j:=10) (by kernel_rfl) rfl (by kernel_rfl) (fun K hK=> ?_)
 try simp only[yD,yE,yF]
 try rw[if_pos (by rfl)]
 go_simp
 refine hK.out _ _ ?_
 clear hK K
 try simp only[Act.put,yA,yB,yC]
 refine till_done (by kernel_rfl) ?_ _
 go_wp2_with (fail)
 go_ret
 exact⟨rfl,lput_done hC (by omega) HL.out (by omega) HB2.out HO2.out HCx.out HG9.out HO9.out lt9,(HA2.out.grown HG9.out (fun k hk=>(HO2.out.row.lt k hk).1)).setCell (p:=⟨b,3,none⟩) hC _,(HK2.out.trans (Kr.row HO2.out HG9.out)).set (p:=⟨b,3,none⟩) rfl _⟩
def EvalOk:Prop:=∀(x:Ex)(S:Nat→Prop)(e:El)(A:Option Addr)(c:Nat)(os:List Of)(w0 w:World),(∃k n nm,x= .mk k n nm [])→Rel w0 w→ExAt S w e x→size x≤90000→OffArg w A c os→
  Calls Tryz.prog 166 #[EV e,.slice A os.length c] w fun z w'=>z= .returned (RV (evalS os x))∧Rel w0 w'
def LP(w0:World)(b:Nat)(ov:Value)(nx st:Int)(w:World)(T:List Ce)(er:Int)(e:Ending)(w':World):Prop:=
 e= .returned (yI er)∧Rel w0 w'∧Kl b w w'∧∃D S,Mh w' w0.heap.size D b ov nx st S∧(er=0→S=T)
theorem LP.back{w0 w w1 w':World}{b:Nat}{ov:Value}{nx st er:Int}{T:List Ce}{e:Ending}(hk:Kl b w w1)(h:Rel w0 w'∧Kl b w1 w'∧∃D S,Mh w' w0.heap.size D b ov nx st S∧(er=0→S=T))(he:e= .returned (yI er)):LP w0 b ov nx st w T er e w':=
 ⟨he,h.1,Kr.trans hk h.2.1,h.2.2⟩
theorem LP.same{w0 w w':World}{D b:Nat}{ov:Value}{nx st er:Int}{S T:List Ce}{e:Ending}(hr:Rel w0 w)(h:Mh w w0.heap.size D b ov nx st S)(hw:Rel w w')(he:e= .returned (yI er))(hne:er≠0):LP w0 b ov nx st w T er e w':=
 ⟨he,hr.trans hw,Kr.rel hw,D,S,h.rel hw,fun h0=>absurd h0 hne⟩
theorem ce_val(c:Ce):∃(p:Int)(q:Bool),CV1 c= .agg #[yI p,.bool q]:=⟨_,_,rfl⟩
theorem lput_as(b D:Nat)(ov:Value)(nx st:Int)(S T:List Ce)(er:Int)(c:Ce)(p:Int)(q:Bool)(hv:Hid (CV1 c= .agg #[yI p,.bool q]))(hm:Hid (putM (S,0) c=(T,er)))(w0 w:World)(hr:Rel w0 w)(h:Mh w w0.heap.size D b ov nx st S):
  Calls Tryz.prog 155 #[.pointer (some ⟨b,0,none⟩),.agg #[yI p,.bool q]] w (LP w0 b ov nx st w T er):=by
 rw[←hv.out]
 have hm:=hm.out
 rcases Nat.lt_or_ge S.length 100 with h1|h1
 ·rw[put_room h1 c] at hm
  injection hm with h2 h3
  subst h2 h3
  exact(lput_room b D ov nx st S c h1 w0 w hr h).mono fun e w' hh=>⟨hh.1,hh.2.2.1,hh.2.2.2,_,_,hh.2.1,fun _=>rfl⟩
 ·rw[put_full h1 c] at hm
  injection hm with h2 h3
  subst h2 h3
  exact(lput_full b D ov nx st S c (by have:=h.2.2.2.1;omega) w0 w hr h).mono fun e w' hh=>LP.same hr h hh.2 hh.1 (by decide)
theorem lrv_ok(c:Ce):RV (.ok c)= .tuple #[yI (c.getD 0),.bool c.isSome,yI 0]:=by cases c<;>rfl
theorem lamount_any(n:Int)(w0 w:World)(hr:Rel w0 w):
  Calls Tryz.prog 169 #[yI n] w fun e w'=>e= .returned (.agg #[yI n,.bool true])∧Rel w w':=by
 have HR:=yH hr.self
 have hz:w.heap.size≤w.heap.size:=Nat.le_refl _
 clear hr
 go_enter Tryz.func169,Tryz.ntmps169
 go_wp2_with (fail)
 exact bodyPost_ret (v:= .agg #[yI n,.bool true]) (by simp[results,Tryz.results169,go_sem]) rfl ⟨rfl,by first|exact HR.out.alloc _|exact((HR.out.alloc _).setCell hz _).setCell hz _⟩
theorem lso_any(q:Bool)(n:Int)(hn:Hid ((if q then 1 else 0)=n))(w0 w:World)(hr:Rel w0 w):
  Calls Tryz.prog 156 #[.bool q] w fun e w'=>e= .returned (.agg #[yI n,.bool true])∧Rel w w':=by
 have HA:=yH (hr.self.alloc (.cells #[yI 0,.bool false] 111))
 have HX:=yH (Bk.new w 111 #[yI 0,.bool false])
 obtain⟨W,hW⟩:∃W,w.alloc (.cells #[yI 0,.bool false] 111)=W:=⟨_,rfl⟩
 rw[hW] at HA HX
 clear hr
 have hn:=hn.out
 cases q with
 |true=>
  simp only[if_true] at hn
  subst hn
  go_enter Tryz.func156,Tryz.ntmps156
  go_wp2_with (go_at_call 169;(with_reducible refine(lamount_any 1 _ _ HA.out).mono ?_);rintro e w1 ⟨rfl,h1⟩;have R1:=yH h1;obtain⟨⟨d0,d1⟩,e0,e1⟩:=(HX.out.rel h1).two)
  obtain⟨⟨r0,r1⟩,_⟩:=((HX.out.rel R1.out).put (yI 1) (.bool true)).two
  exact bodyPost_ret (v:= .agg #[yI 1,.bool true]) (by simp[results,Tryz.results156,go_sem,r0,r1]) rfl ⟨rfl,(HA.out.trans R1.out).box (Nat.le_refl _) _ _⟩
 |false=>
  simp only[Bool.false_eq_true,if_false] at hn
  subst hn
  go_enter Tryz.func156,Tryz.ntmps156
  go_wp2_with (go_at_call 169;(with_reducible refine(lamount_any 0 _ _ HA.out).mono ?_);rintro e w1 ⟨rfl,h1⟩;have R1:=yH h1;obtain⟨⟨d0,d1⟩,e0,e1⟩:=(HX.out.rel h1).two)
  obtain⟨⟨r0,r1⟩,_⟩:=((HX.out.rel R1.out).put (yI 0) (.bool true)).two
  exact bodyPost_ret (v:= .agg #[yI 0,.bool true]) (by simp[results,Tryz.results156,go_sem,r0,r1]) rfl ⟨rfl,(HA.out.trans R1.out).box (Nat.le_refl _) _ _⟩
theorem ltell_any(H:EvalOk)(b D:Nat)(ov:Value)(nx st:Int)(S T:List Ce)(er:Int)(os:List Of)(A':Option Addr)(c':Nat)(hov:Hid (ov= .slice A' os.length c'))(k n:Int)(nm:List UInt8)(s:ByteArray)(hs:s=B nm)(c:Ce)(hx:evalS os (.mk k n nm [])= .ok c)(hk:i64 k)(hn:i64 n)(hl:nm.length≤100)(hm:Hid (putM (S,0) c=(T,er)))(w0 w:World)(hr:Rel w0 w)(h:Mh w w0.heap.size D b ov nx st S)(ho:OffArg w A' c' os):
  Calls Tryz.prog 145 #[.pointer (some ⟨b,0,none⟩),.agg #[yI k,yI n,.string s,.slice none 0 0]] w (LP w0 b ov nx st w T er):=by
 subst hs
 have HOv:=hov
 obtain⟨len,hlen⟩:∃len,os.length=len:=⟨_,rfl⟩
 obtain⟨p,q,hpq⟩:=ce_val c
 have HV:=yH hpq
 have HE:=yH (show ∀w1,Rel w w1→Calls Tryz.prog 166 #[.agg #[yI k,yI n,.string (B nm),.slice none 0 0],.slice A' len c'] w1 fun z w'=>z= .returned (.tuple #[yI p,.bool q,yI 0])∧Rel w1 w' from fun w1 hr1=>by
  have h1:=H (.mk k n nm []) (fun _=>True) (k,n,nm,none,0,0) A' c' os w1 w1 ⟨k,n,nm,rfl⟩ (hr.trans hr1).self (ExAt.leaf _ _ k n nm none 0 hk hn hl) (by rw[size_mk,sizes_nil];decide) (ho.rel hr1)
  rw[hx,lrv_ok,hlen] at h1
  injection hpq with e1
  have e2:=congrArg Array.toList e1
  simp only[List.cons.injEq,and_true] at e2
  injection e2.1 with _ e3
  injection e2.2 with e4
  rw[e3,e4] at h1
  exact h1)
 obtain rfl:=hov.out
 rw[hlen] at h
 have HM:=yH h
 have HR:=yH hr
 rw[hlen]
 have HA:=yH (hr.self.alloc (.cells #[yI k,yI n,.string (B nm),.slice none 0 0] 52))
 have HX:=yH (Bk.new w 52 #[yI k,yI n,.string (B nm),.slice none 0 0])
 have hM:=h.rel HA.out
 obtain⟨W,hW⟩:∃W,w.alloc (.cells #[yI k,yI n,.string (B nm),.slice none 0 0] 52)=W:=⟨_,rfl⟩
 rw[hW] at HA HX hM
 obtain⟨A,cc,hb⟩:=hM.cells
 obtain⟨⟨b0,b1,b2,b3⟩,_⟩:=hb.four
 obtain⟨⟨x0,x1,x2,x3⟩,_⟩:=HX.out.four
 clear hr h hM hb hpq ho hlen HOv hov hx
 go_enter Tryz.func145,Tryz.ntmps145
 go_upto_region 1 with (fail)
 go_region_law (rw[if_pos (by rfl)];go_simp;go_at_call 166;(with_reducible refine(HE.out _ (HA.out.drew)).mono ?_);rintro e w1 ⟨rfl,h1⟩;have R1:=yH (HA.out.drew.trans h1))
 all_goals
  go_wp2_with (go_at_call 155;(with_reducible refine(lput_as b D _ nx st S T er c p q HV hm w0 _ (HR.out.trans R1.out) (HM.out.rel R1.out)).mono ?_);rintro e w3 ⟨rfl,h3⟩)
  go_ret
  exact LP.back (Kr.rel R1.out) h3 rfl
theorem lpush_any(H:EvalOk)(b D:Nat)(ov:Value)(nx st:Int)(S T:List Ce)(er:Int)(os:List Of)(A':Option Addr)(c':Nat)(hov:Hid (ov= .slice A' os.length c'))(hok:offsOk os=true)(o n:Int)(s:ByteArray)(hn:0≤n∧n≤1000000000000)(hm:Hid (putM (S,0) (some n)=(T,er)))(w0 w:World)(hr:Rel w0 w)(h:Mh w w0.heap.size D b ov nx st S)(ho:OffArg w A' c' os):
  Calls Tryz.prog 116 #[.pointer (some ⟨b,0,none⟩),.agg #[yI o,yI n,.string s]] w (LP w0 b ov nx st w T er):=by
 have HA:=yH (hr.self.alloc (.cells #[yI o,yI n,.string s] 140))
 have HX:=yH (Bk.new w 140 #[yI o,yI n,.string s])
 have HT:=yH (fun(w1:World)(hr1:Rel w w1)=>ltell_any H b D ov nx st S T er os A' c' hov 4 n [] ⟨#[]⟩ (rfl) (some n) (by rw[eval_yes hok (right_leaf (by decide) hn (by decide) (fun h=>absurd h (by decide))),told_fix _ _ _ rfl];rfl) ⟨by decide,by decide⟩ ⟨by omega,by omega⟩ (by decide) hm w0 w1 (hr.trans hr1) (h.rel hr1) (ho.rel hr1))
 obtain⟨W,hW⟩:∃W,w.alloc (.cells #[yI o,yI n,.string s] 140)=W:=⟨_,rfl⟩
 rw[hW] at HA HX
 obtain⟨⟨x0,x1,x2⟩,_⟩:=three_of HX.out
 clear hr h ho hov hok
 go_enter Tryz.func116,Tryz.ntmps116
 go_wp2_with (go_at_call 145;(with_reducible refine(HT.out _ HA.out).mono ?_);rintro e w1 ⟨rfl,h1⟩)
 go_ret
 exact LP.back (Kr.rel HA.out) h1 rfl
theorem llowest_any(H:EvalOk)(b D:Nat)(ov:Value)(nx st:Int)(S T:List Ce)(er:Int)(os:List Of)(A':Option Addr)(c':Nat)(hov:Hid (ov= .slice A' os.length c'))(hok:offsOk os=true)(o n:Int)(s:ByteArray)(hm:Hid (putM (S,0) (rk os 0)=(T,er)))(w0 w:World)(hr:Rel w0 w)(h:Mh w w0.heap.size D b ov nx st S)(ho:OffArg w A' c' os):
  Calls Tryz.prog 117 #[.pointer (some ⟨b,0,none⟩),.agg #[yI o,yI n,.string s]] w (LP w0 b ov nx st w T er):=by
 have HA:=yH (hr.self.alloc (.cells #[yI o,yI n,.string s] 140))
 have HX:=yH (Bk.new w 140 #[yI o,yI n,.string s])
 have HT:=yH (fun(w1:World)(hr1:Rel w w1)=>ltell_any H b D ov nx st S T er os A' c' hov 1 0 [] ⟨#[]⟩ (rfl) (rk os 0) (by rw[eval_yes hok (right_leaf (by decide) (by decide) (by decide) (fun h=>absurd h (by decide))),told_one _ _ _ rfl]) ⟨by decide,by decide⟩ ⟨by decide,by decide⟩ (by decide) hm w0 w1 (hr.trans hr1) (h.rel hr1) (ho.rel hr1))
 obtain⟨W,hW⟩:∃W,w.alloc (.cells #[yI o,yI n,.string s] 140)=W:=⟨_,rfl⟩
 rw[hW] at HA HX
 obtain⟨⟨x0,x1,x2⟩,_⟩:=three_of HX.out
 clear hr h ho hov hok
 go_enter Tryz.func117,Tryz.ntmps117
 go_wp2_with (go_at_call 145;(with_reducible refine(HT.out _ HA.out).mono ?_);rintro e w1 ⟨rfl,h1⟩)
 go_ret
 exact LP.back (Kr.rel HA.out) h1 rfl
theorem lsecond_any(H:EvalOk)(b D:Nat)(ov:Value)(nx st:Int)(S T:List Ce)(er:Int)(os:List Of)(A':Option Addr)(c':Nat)(hov:Hid (ov= .slice A' os.length c'))(hok:offsOk os=true)(o n:Int)(s:ByteArray)(hm:Hid (putM (S,0) (rk os 1)=(T,er)))(w0 w:World)(hr:Rel w0 w)(h:Mh w w0.heap.size D b ov nx st S)(ho:OffArg w A' c' os):
  Calls Tryz.prog 118 #[.pointer (some ⟨b,0,none⟩),.agg #[yI o,yI n,.string s]] w (LP w0 b ov nx st w T er):=by
 have HA:=yH (hr.self.alloc (.cells #[yI o,yI n,.string s] 140))
 have HX:=yH (Bk.new w 140 #[yI o,yI n,.string s])
 have HT:=yH (fun(w1:World)(hr1:Rel w w1)=>ltell_any H b D ov nx st S T er os A' c' hov 2 0 [] ⟨#[]⟩ (rfl) (rk os 1) (by rw[eval_yes hok (right_leaf (by decide) (by decide) (by decide) (fun h=>absurd h (by decide))),told_two _ _ _ rfl]) ⟨by decide,by decide⟩ ⟨by decide,by decide⟩ (by decide) hm w0 w1 (hr.trans hr1) (h.rel hr1) (ho.rel hr1))
 obtain⟨W,hW⟩:∃W,w.alloc (.cells #[yI o,yI n,.string s] 140)=W:=⟨_,rfl⟩
 rw[hW] at HA HX
 obtain⟨⟨x0,x1,x2⟩,_⟩:=three_of HX.out
 clear hr h ho hov hok
 go_enter Tryz.func118,Tryz.ntmps118
 go_wp2_with (go_at_call 145;(with_reducible refine(HT.out _ HA.out).mono ?_);rintro e w1 ⟨rfl,h1⟩)
 go_ret
 exact LP.back (Kr.rel HA.out) h1 rfl
theorem lfrom_any(H:EvalOk)(b D:Nat)(ov:Value)(nx st:Int)(S T:List Ce)(er:Int)(os:List Of)(A':Option Addr)(c':Nat)(hov:Hid (ov= .slice A' os.length c'))(hok:offsOk os=true)(o n:Int)(s:ByteArray)(nm:List UInt8)(hs:s=B nm)(hnm:isName nm=true)(hm:Hid (putM (S,0) (fromO os nm)=(T,er)))(w0 w:World)(hr:Rel w0 w)(h:Mh w w0.heap.size D b ov nx st S)(ho:OffArg w A' c' os):
  Calls Tryz.prog 119 #[.pointer (some ⟨b,0,none⟩),.agg #[yI o,yI n,.string s]] w (LP w0 b ov nx st w T er):=by
 have HA:=yH (hr.self.alloc (.cells #[yI o,yI n,.string s] 140))
 have HX:=yH (Bk.new w 140 #[yI o,yI n,.string s])
 have HT:=yH (fun(w1:World)(hr1:Rel w w1)=>ltell_any H b D ov nx st S T er os A' c' hov 3 0 nm s (hs) (fromO os nm) (by rw[eval_yes hok (right_leaf (by decide) (by decide) ⟨fun _=>rfl,fun _=>(name_parts hnm).1⟩ (fun _=>hnm)),told_from _ _ _ rfl];rfl) ⟨by decide,by decide⟩ ⟨by decide,by decide⟩ (by have:=(name_parts hnm).2.2.1;omega) hm w0 w1 (hr.trans hr1) (h.rel hr1) (ho.rel hr1))
 obtain⟨W,hW⟩:∃W,w.alloc (.cells #[yI o,yI n,.string s] 140)=W:=⟨_,rfl⟩
 rw[hW] at HA HX
 obtain⟨⟨x0,x1,x2⟩,_⟩:=three_of HX.out
 clear hr h ho hov hok hs hnm
 go_enter Tryz.func119,Tryz.ntmps119
 go_wp2_with (go_at_call 145;(with_reducible refine(HT.out _ HA.out).mono ?_);rintro e w1 ⟨rfl,h1⟩)
 go_ret
 exact LP.back (Kr.rel HA.out) h1 rfl
theorem lmore_any(b D:Nat)(ov:Value)(nx st:Int)(S T:List Ce)(er:Int)(os:List Of)(A':Option Addr)(c':Nat)(hov:Hid (ov= .slice A' os.length c'))(o n:Int)(s:ByteArray)(hm:Hid (putM (S,0) (some (if n<(os.length:Int) then 1 else 0))=(T,er)))(w0 w:World)(hr:Rel w0 w)(h:Mh w w0.heap.size D b ov nx st S):
  Calls Tryz.prog 125 #[.pointer (some ⟨b,0,none⟩),.agg #[yI o,yI n,.string s]] w (LP w0 b ov nx st w T er):=by
 obtain⟨len,hlen⟩:∃len,os.length=len:=⟨_,rfl⟩
 rw[hlen] at hm hov
 obtain⟨p,hp⟩:∃p,(if n<(len:Int) then (1:Int) else 0)=p:=⟨_,rfl⟩
 rw[hp] at hm
 obtain⟨q,hq⟩:∃q,decide (n<(len:Int))=q:=⟨_,rfl⟩
 have HS:=yH (fun(w1:World)(hr1:Rel w w1)=>lso_any q p (yH (by rw[←hp,←hq];by_cases h:n<(len:Int)<;>simp[h])) w w1 hr1)
 have HM:=yH h
 have HR:=yH hr
 obtain rfl:=hov.out
 have HA:=yH (hr.self.alloc (.cells #[yI o,yI n,.string s] 140))
 have HX:=yH (Bk.new w 140 #[yI o,yI n,.string s])
 have hM:=h.rel HA.out
 obtain⟨W,hW⟩:∃W,w.alloc (.cells #[yI o,yI n,.string s] 140)=W:=⟨_,rfl⟩
 rw[hW] at HA HX hM
 obtain⟨A,cc,hb⟩:=hM.cells
 obtain⟨⟨b0,b1,b2,b3⟩,_⟩:=hb.four
 obtain⟨⟨x0,x1,x2⟩,_⟩:=three_of HX.out
 clear hr h hM hb hlen hp hov
 go_enter Tryz.func125,Tryz.ntmps125
 go_upto_region 1 with (fail)
 go_region_law (first
  |(rw[if_pos (by rfl)];go_simp;go_at_call 156;(with_reducible refine(HS.out _ (HA.out.drew)).mono ?_);rintro e w1 ⟨rfl,h1⟩;have R1:=yH (HA.out.drew.trans h1))
  |(rw[if_pos (by rfl)];go_simp;go_at_call 155;(with_reducible refine(lput_as b D _ nx st S T er (some p) p true (yH rfl) hm w0 _ (HR.out.trans R1.out) (HM.out.rel R1.out)).mono ?_);rintro e w3 ⟨rfl,h3⟩))
 all_goals
  go_wp2_with (fail)
  go_ret
  exact LP.back (Kr.rel R1.out) h3 rfl
theorem m9within_any(a l h:Int)(w:World):
  Calls Tryz.prog 164 #[yI a,yI l,yI h] w fun e w'=>e= .returned (.bool (wtM a l h))∧w=w':=by
 by_cases h1:l≤a<;>by_cases h2:a≤h
 all_goals
  go_enter Tryz.func164,Tryz.ntmps164
  go_wp2
  all_goals
   go_ret
   exact⟨ret_bool (by unfold wtM;rw[eq_comm];first|exact decide_eq_true (by omega)|exact decide_eq_false (by omega)),rfl⟩
theorem m9right_any(a:Int)(w:World):
  Calls Tryz.prog 140 #[yI a] w fun e w'=>e= .returned (.bool (rt a))∧w=w':=by
 by_cases h1: -1000000000000≤a<;>by_cases h2:a≤1000000000000
 all_goals
  go_enter Tryz.func140,Tryz.ntmps140
  go_wp2
  all_goals
   go_ret
   exact⟨ret_bool (by unfold rt;rw[eq_comm];first|exact decide_eq_true (by omega)|exact decide_eq_false (by omega)),rfl⟩
theorem m9checked_any(a:Int)(w:World):
  Calls Tryz.prog 167 #[yI a] w fun e w'=>Two e (told1 a) (told2 a)∧w=w':=by
 by_cases h1: -1000000000000≤a<;>by_cases h2:a≤1000000000000
 all_goals
  go_enter Tryz.func167,Tryz.ntmps167
  go_wp2
  go_ret2
  exact⟨m9ret_two (by unfold told1 rt;simp only[decide_eq_true_eq];split<;>omega) (by unfold told2 rt;simp only[decide_eq_true_eq];split<;>omega),rfl⟩
theorem m9sub_any(a b:Int)(w:World):
  Calls Tryz.prog 148 #[yI a,yI b] w fun e w'=>Two e (two1 a b (a-b)) (two2 a b (a-b))∧w=w':=by
 by_cases h60: -1000000000000≤a
 ·by_cases h50:a≤1000000000000
  ·by_cases h40: -1000000000000≤b
   ·by_cases h30:b≤1000000000000
    ·by_cases h20: -1000000000000≤a-b
     ·by_cases h10:a-b≤1000000000000
      ·go_enter Tryz.func148,Tryz.ntmps148
       go_wp2
       go_ret2
       exact⟨m9ret_two (by unfold two1 told1 rt;simp only[Bool.and_eq_true,decide_eq_true_eq];(repeat' split)<;>omega) (by unfold two2 told2 rt;simp only[Bool.and_eq_true,decide_eq_true_eq];(repeat' split)<;>omega),rfl⟩
      ·go_enter Tryz.func148,Tryz.ntmps148
       go_wp2
       go_ret2
       exact⟨m9ret_two (by unfold two1 told1 rt;simp only[Bool.and_eq_true,decide_eq_true_eq];(repeat' split)<;>omega) (by unfold two2 told2 rt;simp only[Bool.and_eq_true,decide_eq_true_eq];(repeat' split)<;>omega),rfl⟩
     ·go_enter Tryz.func148,Tryz.ntmps148
      go_wp2
      go_ret2
      exact⟨m9ret_two (by unfold two1 told1 rt;simp only[Bool.and_eq_true,decide_eq_true_eq];(repeat' split)<;>omega) (by unfold two2 told2 rt;simp only[Bool.and_eq_true,decide_eq_true_eq];(repeat' split)<;>omega),rfl⟩
    ·go_enter Tryz.func148,Tryz.ntmps148
     go_wp2
     go_ret2
     exact⟨m9ret_two (by unfold two1 told1 rt;simp only[Bool.and_eq_true,decide_eq_true_eq];(repeat' split)<;>omega) (by unfold two2 told2 rt;simp only[Bool.and_eq_true,decide_eq_true_eq];(repeat' split)<;>omega),rfl⟩
   ·go_enter Tryz.func148,Tryz.ntmps148
    go_wp2
    go_ret2
    exact⟨m9ret_two (by unfold two1 told1 rt;simp only[Bool.and_eq_true,decide_eq_true_eq];(repeat' split)<;>omega) (by unfold two2 told2 rt;simp only[Bool.and_eq_true,decide_eq_true_eq];(repeat' split)<;>omega),rfl⟩
  ·go_enter Tryz.func148,Tryz.ntmps148
   go_wp2
   go_ret2
   exact⟨m9ret_two (by unfold two1 told1 rt;simp only[Bool.and_eq_true,decide_eq_true_eq];(repeat' split)<;>omega) (by unfold two2 told2 rt;simp only[Bool.and_eq_true,decide_eq_true_eq];(repeat' split)<;>omega),rfl⟩
 ·go_enter Tryz.func148,Tryz.ntmps148
  go_wp2
  go_ret2
  exact⟨m9ret_two (by unfold two1 told1 rt;simp only[Bool.and_eq_true,decide_eq_true_eq];(repeat' split)<;>omega) (by unfold two2 told2 rt;simp only[Bool.and_eq_true,decide_eq_true_eq];(repeat' split)<;>omega),rfl⟩
theorem m9floor_any(p:Int)(hp: -9223372036854775808≤p)(hp':p≤9223372036854775807)(w:World):
  Calls Tryz.prog 168 #[yI p] w fun e w'=>e= .returned (yI (fl p))∧w=w':=by
 have b1: -922337203685477≤p.tdiv 10000:=by have:=tdt p 10000 (by omega);omega
 have b2:p.tdiv 10000≤922337203685477:=by have:=tdt p 10000 (by omega);omega
 by_cases h:p.tmod 10000<0
 all_goals
  go_enter Tryz.func168,Tryz.ntmps168
  go_wp2
  all_goals
   go_ret
   exact⟨ret_int (by unfold fl;split<;>first|rfl|omega),rfl⟩
theorem m9part_any(a b:Int)(up:Bool)(w:World):
  Calls Tryz.prog 150 #[yI a,yI b,.bool up] w fun e w'=>Two e (part1 a b up) (part2 a b up)∧w=w':=by
 cases ha:rt a
 ·have r1:part1 a b up=0:=by simp[part1,ha]
  have r2:part2 a b up=10:=by simp[part2,ha]
  rw[r1,r2];clear r1 r2
  go_enter Tryz.func150,Tryz.ntmps150
  go_wp2_with (first|(go_at_call 140;refine(m9right_any _ _).mono ?_;rintro e w' ⟨rfl,rfl⟩)|(go_at_call 164;refine(m9within_any _ _ _ _).mono ?_;rintro e w' ⟨rfl,rfl⟩))
  go_ret2
  exact⟨rfl,rfl⟩
 ·cases hb:wtM b (-100000) 100000
  ·have r1:part1 a b up=0:=by simp[part1,hb]
   have r2:part2 a b up=10:=by simp[part2,hb]
   rw[r1,r2];clear r1 r2
   go_enter Tryz.func150,Tryz.ntmps150
   go_wp2_with (first|(go_at_call 140;refine(m9right_any _ _).mono ?_;rintro e w' ⟨rfl,rfl⟩)|(go_at_call 164;refine(m9within_any _ _ _ _).mono ?_;rintro e w' ⟨rfl,rfl⟩))
   go_ret2
   exact⟨rfl,rfl⟩
  ·obtain⟨a1,a2⟩:=m9rt_iff.1 ha
   obtain⟨b1,b2⟩:=of_decide_eq_true hb
   obtain⟨p1,p2⟩: -100000000000000000≤a*b∧a*b≤100000000000000000:=m9prod_bd a1 a2 b1 b2
   have f1:= @m9fl_lt (a*b)
   have f2:= @m9fl_lt (-(a*b))
   obtain⟨g1,g2⟩: -100000000000000≤fl (-(a*b))∧fl (-(a*b))≤100000000000000:=by omega
   clear f1 f2
   cases up
   ·have r1:part1 a b false=told1 (fl (a*b)):=by simp[part1,ha,hb,prt]
    have r2:part2 a b false=told2 (fl (a*b)):=by simp[part2,ha,hb,prt]
    rw[r1,r2];clear r1 r2
    go_enter Tryz.func150,Tryz.ntmps150
    go_wp2_with (first|(go_at_call 140;refine(m9right_any _ _).mono ?_;rintro e w' ⟨rfl,rfl⟩)|(go_at_call 164;refine(m9within_any _ _ _ _).mono ?_;rintro e w' ⟨rfl,rfl⟩)|(go_at_call 168;refine(m9floor_any (a*b) (by omega) (by omega) w).mono ?_;rintro e w' ⟨rfl,rfl⟩)|(go_at_call 167;refine(m9checked_any _ _).mono ?_;rintro e w' ⟨rfl,rfl⟩))
    go_ret2
    exact⟨rfl,rfl⟩
   ·have r1:part1 a b true=told1 (-(fl (-(a*b)))):=by simp[part1,ha,hb,prt]
    have r2:part2 a b true=told2 (-(fl (-(a*b)))):=by simp[part2,ha,hb,prt]
    rw[r1,r2];clear r1 r2
    go_enter Tryz.func150,Tryz.ntmps150
    go_wp2_with (first|(go_at_call 140;refine(m9right_any _ _).mono ?_;rintro e w' ⟨rfl,rfl⟩)|(go_at_call 164;refine(m9within_any _ _ _ _).mono ?_;rintro e w' ⟨rfl,rfl⟩)|(go_at_call 168;refine(m9floor_any (-(a*b)) (by omega) (by omega) w).mono ?_;rintro e w' ⟨rfl,rfl⟩)|(go_at_call 167;refine(m9checked_any _ _).mono ?_;rintro e w' ⟨rfl,rfl⟩))
    go_ret2
    exact⟨rfl,rfl⟩
end Go.Proofs.YtfekhbeaphpelaaGreatDoor
