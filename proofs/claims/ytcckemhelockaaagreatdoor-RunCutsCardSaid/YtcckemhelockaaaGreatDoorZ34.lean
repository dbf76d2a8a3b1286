/- The landed compiler's expr: it writes an expression's code behind what it has written. -/
import Derived.Test.YtcckemhelockaaaGreatDoorZL
import Derived.Test.YtcckemhelockaaaGreatDoorZ00
import Derived.Test.YtcckemhelockaaaGreatDoorZ01
import Derived.Test.YtcckemhelockaaaGreatDoorZ02
import Derived.Test.YtcckemhelockaaaGreatDoorZ03
import Derived.Test.YtcckemhelockaaaGreatDoorZ04
import Derived.Test.YtcckemhelockaaaGreatDoorZ07
import Derived.Test.YtcckemhelockaaaGreatDoorZ09
import Derived.Test.YtcckemhelockaaaGreatDoorZ15
import Derived.Test.YtcckemhelockaaaGreatDoorZ16
import Derived.Test.YtcckemhelockaaaGreatDoorZ25
import Derived.Test.YtcckemhelockaaaGreatDoorZ26
import Derived.Test.YtcckemhelockaaaGreatDoorZ32
import Derived.Test.YtcckemhelockaaaGreatDoorZ33
namespace Go.Proofs.YtcckemhelockaaaGreatDoor
open Go.RowKit Go.Lib
set_option linter.unusedVariables false
set_option linter.unusedSimpArgs false
theorem sclone_any (s : ByteArray) (hs : s.size ≤ 1000000000) (w0 w : World) (hr : Rel w0 w) : Calls Tryz.prog 49 #[.string s] w fun e w' => e = .returned (.string s) ∧ Rel w0 w' := by
  have hc := fun w => Tryz.stringslite_Clone s w (by omega)
  go_enter Tryz.func49, Tryz.ntmps49
  go_wp2_with (go_at_call 95; refine (hc _).mono ?_; rintro e w' ⟨rfl, hw⟩)
  go_ret
  exact ⟨rfl, hr.step hw⟩
def CC (x : Ex) : Prop := ∀ (S : Nat → Prop) (e : El) (b m : Nat) (l : List In) (w0 w : World), Rel w0 w → ExAt S w0 e x → Cm w w0.heap.size b m l → l.length + clen x ≤ 90000 →
    Calls Tryz.prog 30 #[.pointer (some ⟨b, 0, none⟩), EV e] w fun r w' => r = .returned (.tuple #[]) ∧ Cm w' w0.heap.size b m (l ++ cod x l.length) ∧ Rel w0 w' ∧ Kq b w w'
theorem cexpr_as {x : Ex} (H : CC x) {S : Nat → Prop} {e : El} {w0 : World} (h : ExAt S w0 e x) (b m : Nat) (l l' : List In) (hl : Hid (l ++ cod x l.length = l')) (hz : l.length + clen x ≤ 90000) :
    ∀ w, Rel w0 w → Cm w w0.heap.size b m l → Calls Tryz.prog 30 #[.pointer (some ⟨b, 0, none⟩), EV e] w fun r w' => r = .returned (.tuple #[]) ∧ Cm w' w0.heap.size b m l' ∧ Rel w0 w' ∧ Kq b w w' := fun w hr hc => by
  rw [← hl.out]; exact H S e b m l w0 w hr h hc hz
theorem Cm.ne {w : World} {C b m : Nat} {l : List In} (h : Cm w C b m l) {p : Nat} {t : TypeId} {cs : Array Value} (hp : Bk w p t cs) (ht : t ≠ 77) : p ≠ b := by
  obtain ⟨_, A, c, hb, _⟩ := h
  exact Bk.ne hp hb ht
theorem set_mid (A B' : List In) (o o' : In) (n : Nat) (h : n = A.length) : (A ++ [o] ++ B').set n o' = A ++ o' :: B' := by
  subst h
  rw [List.append_assoc, List.set_append_right _ _ (Nat.le_refl _), Nat.sub_self]; rfl
theorem get_mid (A B' : List In) (o : In) (n : Nat) (h : n = A.length) : (A ++ [o] ++ B')[n]? = some o := by
  subst h
  rw [List.append_assoc, List.getElem?_append_right (Nat.le_refl _), Nat.sub_self]; rfl
theorem else_done (l la lb : List In) (n : Nat) (hn : n = (l ++ la).length) : ((l ++ la) ++ [(9, 0, [])] ++ lb).set n (9, (((l ++ la) ++ [(9, 0, [])] ++ lb).length : Int), []) = l ++ joinE l.length la lb := by
  rw [set_mid _ _ _ _ _ hn, joinE, List.append_assoc]
  simp only [List.length_append, List.length_cons, List.length_nil, Nat.zero_add]
theorem if_done (l lc la lb : List In) (n q : Nat) (hn : n = (l ++ lc).length) (hq : q = (l ++ lc ++ [(12, 0, [])] ++ la).length) :
    ((((l ++ lc) ++ [(12, 0, [])] ++ la ++ [(13, 0, [])]).set n (12, (((l ++ lc) ++ [(12, 0, [])] ++ la ++ [(13, 0, [])]).length : Int), [])) ++ lb).set q (13, ((((l ++ lc) ++ [(12, 0, [])] ++ la ++ [(13, 0, [])]).set n (12, (((l ++ lc) ++ [(12, 0, [])] ++ la ++ [(13, 0, [])]).length : Int), []) ++ lb).length : Int), []) = l ++ joinI l.length lc la lb := by
  have e1 : (l ++ lc) ++ [(12, (0 : Int), ([] : List UInt8))] ++ la ++ [(13, 0, [])] = (l ++ lc) ++ [(12, 0, [])] ++ (la ++ [(13, 0, [])]) := by rw [List.append_assoc]
  rw [e1, set_mid _ _ _ _ _ hn]
  generalize hX : ((12 : Int), (((l ++ lc) ++ [(12, (0 : Int), ([] : List UInt8))] ++ (la ++ [(13, 0, [])])).length : Int), ([] : List UInt8)) = X
  have e2 : (l ++ lc) ++ X :: (la ++ [(13, 0, [])]) ++ lb = (l ++ lc ++ X :: la) ++ [(13, 0, [])] ++ lb := by simp
  have hx : X = (12, ((l.length + lc.length + la.length + 2 : Nat) : Int), []) := by
    rw [← hX]
    have : ((l ++ lc) ++ [(12, (0 : Int), ([] : List UInt8))] ++ (la ++ [(13, 0, [])])).length = l.length + lc.length + la.length + 2 := by simp; omega
    rw [this]
  have hy : ((l ++ lc ++ X :: la) ++ [(13, (0 : Int), ([] : List UInt8))] ++ lb).length = l.length + lc.length + la.length + 2 + lb.length := by simp; omega
  rw [e2, set_mid _ _ _ _ _ (by rw [hq]; simp), hy, joinI, hx]
  simp
theorem w0rel {w0 w : World} (hr : Rel w0 w) : Rel w0 w0 := Rel.start hr.1
set_option maxRecDepth 100000 in
set_option maxHeartbeats 4000000 in
theorem cexpr_else (d : Nat) (n : Int) (nm : List UInt8) (a b' : Ex) (hf : fine (d + 1) (.mk 9 n nm [a, b']) = true) (Ha : CC a) (Hb : CC b') : CC (.mk 9 n nm [a, b']) := fun S e b m l w0 w hr h hc hz => by
  obtain ⟨A', c', es, rfl, hk, hn, hm, hle, hrow, hsub⟩ := h.open
  have hblt := hc.lt
  have HB := Lib.hid (Bk.new w 38 #[.int .i64 9, .int .i64 n, .string (B nm), .slice A' 2 c'])
  have HA := Lib.hid (hr.alloc (.cells #[.int .i64 9, .int .i64 n, .string (B nm), .slice A' 2 c'] 38))
  have HC := Lib.hid (hc.alloc (.cells #[.int .i64 9, .int .i64 n, .string (B nm), .slice A' 2 c'] 38))
  have HQ := Lib.hid ((Kq.refl b w).alloc (.cells #[.int .i64 9, .int .i64 n, .string (B nm), .slice A' 2 c'] 38))
  have hne : w.heap.size ≠ b := by omega
  obtain ⟨W, hW⟩ : ∃ W, w.alloc (.cells #[.int .i64 9, .int .i64 n, .string (B nm), .slice A' 2 c'] 38) = W := ⟨_, rfl⟩
  rw [hW] at HA HB HC HQ
  obtain ⟨el0, hK0, ha0⟩ := kidq_of hrow hsub hle (w0rel hr) 0 (by simp)
  obtain ⟨el1, hK1, ha1⟩ := kidq_of hrow hsub hle (w0rel hr) 1 (by simp)
  obtain ⟨g, off, rfl⟩ := hK0.is
  have HK0 := Lib.hid (show KidQ w0 (some ⟨g, off, none⟩) 0 el0 from hK0)
  have HK1 := Lib.hid (show KidQ w0 (some ⟨g, off, none⟩) 4 el1 from hK1)
  have hcl : clen (.mk 9 n nm [a, b']) = clen a + 1 + clen b' := by rw [clen_mk, clens_cons, clens_cons, clens_nil, if_neg (by decide)]; omega
  have la := cod_len d a (fine_mem hf (y := a) (by simp)) l.length
  have lb := cod_len d b' (fine_mem hf (y := b') (by simp)) (l.length + clen a + 1)
  rw [hcl] at hz
  have HD := Lib.hid ((else_done l (cod a l.length) (cod b' (l.length + clen a + 1)) _ rfl).trans (show _ = l ++ cod (.mk 9 n nm [a, b']) l.length by rw [cod_else]))
  have HC0 := Lib.hid (cexpr_as Ha ha0 b m l _ (Lib.hid rfl) (by omega))
  have e1 : (l ++ cod a l.length ++ [((9 : Int), (0 : Int), ([] : List UInt8))]).length = l.length + clen a + 1 := by simp only [List.length_append, List.length_cons, List.length_nil, la]
  have HC1 := Lib.hid (cexpr_as Hb ha1 b m (l ++ cod a l.length ++ [(9, 0, [])]) (l ++ cod a l.length ++ [(9, 0, [])] ++ cod b' (l.length + clen a + 1)) (Lib.hid (by rw [e1])) (by rw [e1]; omega))
  have HL1 := Lib.hid (show (l ++ cod a l.length).length ≤ 90000 by rw [List.length_append, la]; omega)
  have HL3 := Lib.hid (show (l ++ cod a l.length ++ [((9 : Int), (0 : Int), ([] : List UInt8))] ++ cod b' (l.length + clen a + 1)).length ≤ 90000 by rw [List.length_append, e1, lb]; omega)
  have HG := Lib.hid (get_mid (l ++ cod a l.length) (cod b' (l.length + clen a + 1)) (9, 0, []) _ rfl)
  generalize l ++ cod (.mk 9 n nm [a, b']) l.length = lx at *
  generalize l ++ cod a l.length = l1 at *
  generalize cod b' (l.length + clen a + 1) = lb' at *
  obtain ⟨⟨b0, b1, b2, b3⟩, _⟩ := HB.out.four
  obtain ⟨k00, k01, k02, k03⟩ := (HK0.out.rel HA.out).at0
  clear hrow hsub h hr hc ha0 ha1 hK0 hK1 la lb e1 hcl hz hle
  go_enter Tryz.func30, Tryz.ntmps30
  go_upto_region 10 with (go_at_call 30; (with_reducible refine (HC0.out _ HA.out HC.out).mono ?_); rintro e w1 ⟨rfl, c1, r1, k1⟩)
  have HB1 := Lib.hid (k1.bk HB.out hne (by decide))
  have HQ1 := Lib.hid (HQ.out.trans k1)
  clear k1
  obtain ⟨⟨d0, d1, d2, d3⟩, _⟩ := HB1.out.four
  go_upto_region 11 with (go_at_call 47; (with_reducible refine (clead_any b m l1 9 HL1.out w0 _ r1 c1).mono ?_); rintro e w2 ⟨p, q, rfl, hp2, hq2, c2, r2, k2⟩)
  have HB2 := Lib.hid (k2.bk HB1.out hne (by decide))
  have HQ2 := Lib.hid (HQ1.out.trans k2)
  have HP2 := Lib.hid hp2
  have HI2 := Lib.hid hq2
  have hnp := c2.ne hp2 (by decide)
  have hnq := c2.ne hq2 (by decide)
  clear k2 hp2 hq2
  obtain ⟨⟨e0, e1, e2, e3⟩, _⟩ := HB2.out.four
  obtain ⟨k10, k11, k12, k13⟩ := (HK1.out.rel r2).at
  go_upto_region 12 with (go_at_call 30; (with_reducible refine (HC1.out _ r2 c2).mono ?_); rintro e w3 ⟨rfl, c3, r3, k3⟩)
  have HP3 := Lib.hid (k3.bk HP2.out hnp (by decide))
  have HI3 := Lib.hid (k3.bk HI2.out hnq (by decide))
  have HQ3 := Lib.hid (HQ2.out.trans k3)
  clear k3
  go_wp2_with (go_at_call 94; (with_reducible refine (cend_any b m p q l1.length _ 9 0 [] HG.out HL3.out w0 _ r3 c3 HP3.out HI3.out).mono ?_); rintro e w4 ⟨rfl, c4, r4, k4⟩)
  go_end0
  exact ⟨rfl, by rw [← HD.out]; exact c4, r4, HQ3.out.trans k4⟩
set_option maxRecDepth 100000 in
set_option maxHeartbeats 4000000 in
theorem cexpr_if (d : Nat) (n : Int) (nm : List UInt8) (cc a b' : Ex) (hf : fine (d + 1) (.mk 10 n nm [cc, a, b']) = true) (Hc : CC cc) (Ha : CC a) (Hb : CC b') : CC (.mk 10 n nm [cc, a, b']) := fun S e b m l w0 w hr h hc hz => by
  obtain ⟨A', c', es, rfl, hk, hn, hm, hle, hrow, hsub⟩ := h.open
  have hblt := hc.lt
  have HB := Lib.hid (Bk.new w 38 #[.int .i64 10, .int .i64 n, .string (B nm), .slice A' 3 c'])
  have HA := Lib.hid (hr.alloc (.cells #[.int .i64 10, .int .i64 n, .string (B nm), .slice A' 3 c'] 38))
  have HC := Lib.hid (hc.alloc (.cells #[.int .i64 10, .int .i64 n, .string (B nm), .slice A' 3 c'] 38))
  have HQ := Lib.hid ((Kq.refl b w).alloc (.cells #[.int .i64 10, .int .i64 n, .string (B nm), .slice A' 3 c'] 38))
  have hne : w.heap.size ≠ b := by omega
  obtain ⟨W, hW⟩ : ∃ W, w.alloc (.cells #[.int .i64 10, .int .i64 n, .string (B nm), .slice A' 3 c'] 38) = W := ⟨_, rfl⟩
  rw [hW] at HA HB HC HQ
  obtain ⟨el0, hK0, ha0⟩ := kidq_of hrow hsub hle (w0rel hr) 0 (by simp)
  obtain ⟨el1, hK1, ha1⟩ := kidq_of hrow hsub hle (w0rel hr) 1 (by simp)
  obtain ⟨el2, hK2, ha2⟩ := kidq_of hrow hsub hle (w0rel hr) 2 (by simp)
  obtain ⟨g, off, rfl⟩ := hK0.is
  have HK0 := Lib.hid (show KidQ w0 (some ⟨g, off, none⟩) 0 el0 from hK0)
  have HK1 := Lib.hid (show KidQ w0 (some ⟨g, off, none⟩) 4 el1 from hK1)
  have HK2 := Lib.hid (show KidQ w0 (some ⟨g, off, none⟩) 8 el2 from hK2)
  have hcl : clen (.mk 10 n nm [cc, a, b']) = clen cc + clen a + 2 + clen b' := by rw [clen_mk, clens_cons, clens_cons, clens_cons, clens_nil, if_pos rfl]; omega
  have lc := cod_len d cc (fine_mem hf (y := cc) (by simp)) l.length
  have la := cod_len d a (fine_mem hf (y := a) (by simp)) (l.length + clen cc + 1)
  have lb := cod_len d b' (fine_mem hf (y := b') (by simp)) (l.length + clen cc + 2 + clen a)
  rw [hcl] at hz
  have HD := Lib.hid ((if_done l (cod cc l.length) (cod a (l.length + clen cc + 1)) (cod b' (l.length + clen cc + 2 + clen a)) _ _ rfl rfl).trans (show _ = l ++ cod (.mk 10 n nm [cc, a, b']) l.length by rw [cod_if]))
  have HC0 := Lib.hid (cexpr_as Hc ha0 b m l _ (Lib.hid rfl) (by omega))
  have e1 : (l ++ cod cc l.length ++ [((12 : Int), (0 : Int), ([] : List UInt8))]).length = l.length + clen cc + 1 := by simp only [List.length_append, List.length_cons, List.length_nil, lc]
  have HC1 := Lib.hid (cexpr_as Ha ha1 b m (l ++ cod cc l.length ++ [(12, 0, [])]) (l ++ cod cc l.length ++ [(12, 0, [])] ++ cod a (l.length + clen cc + 1)) (Lib.hid (by rw [e1])) (by rw [e1]; omega))
  have HL1 := Lib.hid (show (l ++ cod cc l.length).length ≤ 90000 by rw [List.length_append, lc]; omega)
  generalize l ++ cod (.mk 10 n nm [cc, a, b']) l.length = lx at *
  generalize l ++ cod cc l.length = l1 at *
  generalize cod a (l.length + clen cc + 1) = la' at *
  have e3 : (l1 ++ [((12 : Int), (0 : Int), ([] : List UInt8))] ++ la').length = l.length + clen cc + 1 + clen a := by rw [List.length_append, e1, la]
  have HL3 := Lib.hid (show (l1 ++ [((12 : Int), (0 : Int), ([] : List UInt8))] ++ la').length ≤ 90000 by rw [e3]; omega)
  have HG1 := Lib.hid (get_mid l1 (la' ++ [(13, 0, [])]) (12, 0, []) _ rfl)
  rw [← List.append_assoc] at HG1
  generalize hl3 : l1 ++ [((12 : Int), (0 : Int), ([] : List UInt8))] ++ la' = l3 at *
  have HL4 := Lib.hid (show (l3 ++ [((13 : Int), (0 : Int), ([] : List UInt8))]).length ≤ 90000 by rw [List.length_append, e3]; simp; omega)
  have e5 : ((l3 ++ [((13 : Int), (0 : Int), ([] : List UInt8))]).set l1.length (12, ((l3 ++ [((13 : Int), (0 : Int), ([] : List UInt8))]).length : Int), [])).length = l.length + clen cc + 2 + clen a := by rw [List.length_set, List.length_append, e3]; simp; omega
  have HG2 := Lib.hid (show (((l3 ++ [((13 : Int), (0 : Int), ([] : List UInt8))]).set l1.length (12, ((l3 ++ [((13 : Int), (0 : Int), ([] : List UInt8))]).length : Int), [])) ++ cod b' (l.length + clen cc + 2 + clen a))[l3.length]? = some (13, 0, []) by
    rw [List.getElem?_append_left (by rw [e5, e3]; omega), List.getElem?_set_ne (by rw [← hl3]; simp), List.getElem?_append_right (Nat.le_refl _), Nat.sub_self]; rfl)
  generalize h5 : (l3 ++ [((13 : Int), (0 : Int), ([] : List UInt8))]).set l1.length (12, ((l3 ++ [((13 : Int), (0 : Int), ([] : List UInt8))]).length : Int), []) = l5 at *
  have HC2 := Lib.hid (cexpr_as Hb ha2 b m l5 (l5 ++ cod b' (l.length + clen cc + 2 + clen a)) (Lib.hid (by rw [e5])) (by rw [e5]; omega))
  have HL6 := Lib.hid (show (l5 ++ cod b' (l.length + clen cc + 2 + clen a)).length ≤ 90000 by rw [List.length_append, e5, lb]; omega)
  generalize l5 ++ cod b' (l.length + clen cc + 2 + clen a) = l6 at *
  have H5 := Lib.hid h5
  obtain ⟨⟨b0, b1, b2, b3⟩, _⟩ := HB.out.four
  obtain ⟨k00, k01, k02, k03⟩ := (HK0.out.rel HA.out).at0
  clear hrow hsub h hr hc ha0 ha1 ha2 hK0 hK1 hK2 lc la lb e1 hcl hz hle hl3 e3 e5 h5
  go_enter Tryz.func30, Tryz.ntmps30
  go_upto_region 15 with (go_at_call 30; (with_reducible refine (HC0.out _ HA.out HC.out).mono ?_); rintro e w1 ⟨rfl, c1, r1, k1⟩)
  have HB1 := Lib.hid (k1.bk HB.out hne (by decide))
  have HQ1 := Lib.hid (HQ.out.trans k1)
  clear k1
  go_upto_region 16 with (go_at_call 47; (with_reducible refine (clead_any b m l1 12 HL1.out w0 _ r1 c1).mono ?_); rintro e w2 ⟨p, q, rfl, hp2, hq2, c2, r2, k2⟩)
  have HB2 := Lib.hid (k2.bk HB1.out hne (by decide))
  have HQ2 := Lib.hid (HQ1.out.trans k2)
  have HP2 := Lib.hid hp2
  have HI2 := Lib.hid hq2
  have hnp := c2.ne hp2 (by decide)
  have hnq := c2.ne hq2 (by decide)
  clear k2 hp2 hq2
  obtain ⟨⟨e0, e1, e2, e3⟩, _⟩ := HB2.out.four
  obtain ⟨k10, k11, k12, k13⟩ := (HK1.out.rel r2).at
  go_upto_region 17 with (go_at_call 30; (with_reducible refine (HC1.out _ r2 c2).mono ?_); rintro e w3 ⟨rfl, c3, r3, k3⟩)
  have HB3 := Lib.hid (k3.bk HB2.out hne (by decide))
  have HP3 := Lib.hid (k3.bk HP2.out hnp (by decide))
  have HI3 := Lib.hid (k3.bk HI2.out hnq (by decide))
  have HQ3 := Lib.hid (HQ2.out.trans k3)
  clear k3
  go_upto_region 18 with (go_at_call 47; (with_reducible refine (clead_any b m l3 13 HL3.out w0 _ r3 c3).mono ?_); rintro e w4 ⟨p', q', rfl, hp4, hq4, c4, r4, k4⟩)
  have HB4 := Lib.hid (k4.bk HB3.out hne (by decide))
  have HP4 := Lib.hid (k4.bk HP3.out hnp (by decide))
  have HI4 := Lib.hid (k4.bk HI3.out hnq (by decide))
  have HQ4 := Lib.hid (HQ3.out.trans k4)
  have HPP4 := Lib.hid hp4
  have HII4 := Lib.hid hq4
  have hnp' := c4.ne hp4 (by decide)
  have hnq' := c4.ne hq4 (by decide)
  clear k4 hp4 hq4
  go_upto_region 19 with (go_at_call 94; (with_reducible refine (cend_any b m p q l1.length _ 12 0 [] HG1.out HL4.out w0 _ r4 c4 HP4.out HI4.out).mono ?_); rintro e w5 ⟨rfl, c5, r5, k5⟩)
  rw [H5.out] at c5
  have HB5 := Lib.hid (k5.bk HB4.out hne (by decide))
  have HPP5 := Lib.hid (k5.bk HPP4.out hnp' (by decide))
  have HII5 := Lib.hid (k5.bk HII4.out hnq' (by decide))
  have HQ5 := Lib.hid (HQ4.out.trans k5)
  clear k5
  obtain ⟨⟨x0, x1, x2, x3⟩, _⟩ := HB5.out.four
  obtain ⟨k20, k21, k22, k23⟩ := (HK2.out.rel r5).at
  go_upto_region 20 with (go_at_call 30; (with_reducible refine (HC2.out _ r5 c5).mono ?_); rintro e w6 ⟨rfl, c6, r6, k6⟩)
  have HPP6 := Lib.hid (k6.bk HPP5.out hnp' (by decide))
  have HII6 := Lib.hid (k6.bk HII5.out hnq' (by decide))
  have HQ6 := Lib.hid (HQ5.out.trans k6)
  clear k6
  go_wp2_with (go_at_call 94; (with_reducible refine (cend_any b m p' q' l3.length _ 13 0 [] HG2.out HL6.out w0 _ r6 c6 HPP6.out HII6.out).mono ?_); rintro e w7 ⟨rfl, c7, r7, k7⟩)
  go_end0
  exact ⟨rfl, by rw [← HD.out]; exact c7, r7, HQ6.out.trans k7⟩
theorem look_kinds {k : Int} (hk : k = 1 ∨ k = 2 ∨ k = 3 ∨ k = 4 ∨ k = 5 ∨ k = 6 ∨ k = 7 ∨ k = 8 ∨ k = 11 ∨ k = 12) : (look kindsL k).getD (.int .i64 0) = .int .i64 (opK k) ∧ (Lit.int .i64 k).wf = true := by
  rcases hk with rfl | rfl | rfl | rfl | rfl | rfl | rfl | rfl | rfl | rfl
  all_goals exact ⟨rfl, by decide⟩
theorem kind_run {w : World} {m : Nat} (h : MapIs w m kindsL) {k : Int} (hk : k = 1 ∨ k = 2 ∨ k = 3 ∨ k = 4 ∨ k = 5 ∨ k = 6 ∨ k = 7 ∨ k = 8 ∨ k = 11 ∨ k = 12) : (Instr.lookup 74 (.map (some m)) (.int .i64 k) false).run Tryz.prog w = .ok (.int .i64 (opK k)) w := by
  rw [← (look_kinds hk).1]
  exact h.look _ _ Tryz.underlying74 _ (by kernel_rfl) k (look_kinds hk).2
/-- What stays behind a call of put. -/
def Sx (w : World) (g b m : Nat) (cs : Array Value) : Prop := Bk w g 38 cs ∧ w.cell? ⟨b, 0, none⟩ = some (.map (some m)) ∧ MapIs w m kindsL
theorem Sx.of {w : World} {C g b m : Nat} {cs : Array Value} {l : List In} (hb : Bk w g 38 cs) (hc : Cm w C b m l) : Sx w g b m cs := by
  obtain ⟨A, c, h0, _⟩ := hc.cells
  exact ⟨hb, h0, hc.map⟩
set_option maxRecDepth 100000 in
set_option maxHeartbeats 4000000 in
theorem cexpr_op (d : Nat) (k n : Int) (nm : List UInt8) (l : List Ex) (hf : fine (d + 1) (.mk k n nm l) = true) (h9 : k ≠ 9) (h10 : k ≠ 10) (H : ∀ x ∈ l, CC x) : CC (.mk k n nm l) := fun S e b m L w0 w hr h hc hz => by
  obtain ⟨hkl, hl2⟩ := op_kind hf h9 h10
  obtain ⟨A', c', es, rfl, hk, hn, hm, hle, hrow, hsub⟩ := h.open
  have hblt := hc.lt
  have HB := Lib.hid (Bk.new w 38 #[.int .i64 k, .int .i64 n, .string (B nm), .slice A' l.length c'])
  have HA := Lib.hid (hr.alloc (.cells #[.int .i64 k, .int .i64 n, .string (B nm), .slice A' l.length c'] 38))
  have HC := Lib.hid (hc.alloc (.cells #[.int .i64 k, .int .i64 n, .string (B nm), .slice A' l.length c'] 38))
  have HQ := Lib.hid ((Kq.refl b w).alloc (.cells #[.int .i64 k, .int .i64 n, .string (B nm), .slice A' l.length c'] 38))
  have hne : w.heap.size ≠ b := by omega
  obtain ⟨W, hW⟩ : ∃ W, w.alloc (.cells #[.int .i64 k, .int .i64 n, .string (B nm), .slice A' l.length c'] 38) = W := ⟨_, rfl⟩
  rw [hW] at HA HB HC HQ
  have hcl : clen (.mk k n nm l) = clens l + 1 := by rw [clen_mk, if_neg h10]
  have HCod := Lib.hid (show L ++ cod (.mk k n nm l) L.length = L ++ cods l L.length ++ [(opK k, n, nm)] by rw [cod_op h9 h10, List.append_assoc])
  have HLt := Lib.hid (fun j => cods_len (l := l.take j) (fun x hx => fine_mem hf (List.mem_of_mem_take hx)) L.length)
  have HRow := Lib.hid hrow
  have HSub := Lib.hid hsub
  have HLe := Lib.hid hle
  have HH := Lib.hid H
  have HFl := Lib.hid (fun x hx => fine_mem hf (y := x) hx)
  have HKk := Lib.hid hkl
  have HW0 := Lib.hid (w0rel hr)
  rw [hcl] at hz
  have t9 : (k == 9) = false := by simpa using h9
  have t10 : (k == 10) = false := by simpa using h10
  have hnm : (B nm).size ≤ 1000000000 := by rw [B_size]; omega
  obtain ⟨⟨b0, b1, b2, b3⟩, _⟩ := HB.out.four
  clear hrow hsub h hr hle H hcl hf hc hkl h9 h10 hm
  go_enter Tryz.func30, Tryz.ntmps30
  go_wp2_with (fail)
  go_loopw [14] (fun i wr => ∃ (j : Nat), j ≤ l.length ∧ i = .int .i64 (j : Int) ∧ Cm wr w0.heap.size b m (L ++ cods (l.take j) L.length) ∧ Rel w0 wr ∧ Kq b W wr) (fun i _ => l.length - (RowKit.intOf i).toNat)
  case atStart => exact ⟨0, by omega, rfl, by rw [List.take_zero, cods_nil, List.append_nil]; exact HC.out, HA.out, Kq.refl _ _⟩
  case round =>
    obtain ⟨j, hj, rfl, hcm, hRw, hKw⟩ := hrel
    have HRw := Lib.hid hRw
    have HCm := Lib.hid hcm
    have HKw := Lib.hid hKw
    have HBw := Lib.hid (hKw.bk HB.out hne (by decide))
    by_cases hlt : j < l.length
    · obtain ⟨el, hK, ha⟩ := kidq_of HRow.out HSub.out HLe.out HW0.out j hlt
      obtain ⟨hct, hcn⟩ := cods_take hlt L.length
      have hle2 := clens_take l (j + 1)
      have lt0 := HLt.out j
      have hC := Lib.hid (cexpr_as (HH.out _ (List.getElem_mem hlt)) ha b m (L ++ cods (l.take j) L.length) (L ++ cods (l.take (j + 1)) L.length) (Lib.hid (by rw [hct, List.append_assoc, List.length_append, lt0])) (by rw [List.length_append, lt0]; omega))
      obtain ⟨g, off, rfl⟩ := hK.is
      obtain ⟨k0, k1, k2, k3⟩ := (hK.rel HRw.out).at
      obtain ⟨⟨u0, u1, u2, u3⟩, _⟩ := (Bk.new wr 38 #[.int .i64 el.1, .int .i64 el.2.1, .string (B el.2.2.1), .slice el.2.2.2.1 el.2.2.2.2.1 el.2.2.2.2.2]).four
      have HRa := Lib.hid (HRw.out.alloc (.cells #[.int .i64 el.1, .int .i64 el.2.1, .string (B el.2.2.1), .slice el.2.2.2.1 el.2.2.2.2.1 el.2.2.2.2.2] 38))
      have HCa := Lib.hid (HCm.out.alloc (.cells #[.int .i64 el.1, .int .i64 el.2.1, .string (B el.2.2.1), .slice el.2.2.2.1 el.2.2.2.2.1 el.2.2.2.2.2] 38))
      have HKa := Lib.hid (HKw.out.alloc (.cells #[.int .i64 el.1, .int .i64 el.2.1, .string (B el.2.2.1), .slice el.2.2.2.1 el.2.2.2.2.1 el.2.2.2.2.2] 38))
      clear hct hcn hle2 lt0 hcm hRw hKw hK ha
      go_wp2_with (go_at_call 30; (with_reducible refine (hC.out _ HRa.out HCa.out).mono ?_); rintro e w1 ⟨rfl, c1, r1, k1⟩)
      go_roundw
      case rel => exact ⟨j + 1, by omega, by go_num, c1, r1, HKa.out.trans k1⟩
      case measure => simp [RowKit.intOf]; omega
    · obtain rfl : j = l.length := by omega
      have HLn := Lib.hid (show (L ++ cods l L.length).length ≤ 90000 by
        have h1 := HLt.out l.length
        have h2 := clens_take l l.length
        rw [List.take_length] at h1 h2
        rw [List.length_append, h1]; omega)
      rw [List.take_length] at HCm
      generalize L ++ cods l L.length = L1 at *
      obtain ⟨V, hV⟩ : ∃ V, wr = V := ⟨_, rfl⟩
      subst hV
      obtain ⟨V, hV⟩ : ∃ V, V = wr := ⟨_, rfl⟩
      subst hV
      have HBV := HBw
      have HCV := HCm
      have HRV := HRw
      have HKV := Lib.hid (HQ.out.trans HKw.out)
      have RV := Lib.hid (HRw.out.self)
      obtain ⟨⟨d0, d1, d2, d3⟩, _⟩ := HBw.out.four
      clear hcm hRw hKw
      go_upto_region 7 with (fail)
      refine wp_region_held_drew (S := (fun w' => Sx w' w.heap.size b m #[.int .i64 k, .int .i64 n, .string (B nm), .slice A' l.length c'])) (by kernel_rfl) (show Sx V.drew w.heap.size b m _ from Sx.of HBV.out HCV.out) (fun hHeld => ?_)
      refine held_take (i := 0) (v := ?_) (some 22) rfl rfl (by kernel_rfl) (by kernel_rfl) (by kernel_rfl) (fun _ _ _ h => h) (Or.inl ⟨by rfl, ?_⟩) hHeld ?_
      rotate_left 1
      · rintro w' ⟨hx, hc0, hmm⟩; obtain ⟨⟨z0, z1, z2, z3⟩, _⟩ := hx.four; have lk := kind_run hmm HKk.out; go_simp; try with_reducible rfl
      try simp only [Act.put, List.setIfInBounds_toArray, List.set_cons_zero, List.set_cons_succ]
      refine held_take (i := 1) (v := ?_) (some 23) rfl rfl (by kernel_rfl) (by kernel_rfl) (by kernel_rfl) (fun _ _ _ h => h) (Or.inl ⟨by rfl, ?_⟩) hHeld ?_
      rotate_left 1
      · rintro w' ⟨hx, hc0, hmm⟩; obtain ⟨⟨z0, z1, z2, z3⟩, _⟩ := hx.four; have lk := kind_run hmm HKk.out; go_simp; try with_reducible rfl
      try simp only [Act.put, List.setIfInBounds_toArray, List.set_cons_zero, List.set_cons_succ]
      refine held_take (i := 2) (v := ?_) (some 24) rfl rfl (by kernel_rfl) (by kernel_rfl) (by kernel_rfl) (fun _ _ _ h => h) (Or.inl ⟨by rfl, ?_⟩) hHeld ?_
      rotate_left 1
      · rintro w' ⟨hx, hc0, hmm⟩; obtain ⟨⟨z0, z1, z2, z3⟩, _⟩ := hx.four; have lk := kind_run hmm HKk.out; go_simp; try with_reducible rfl
      try simp only [Act.put, List.setIfInBounds_toArray, List.set_cons_zero, List.set_cons_succ]
      refine held_take (i := 3) (v := ?_) (some 25) rfl rfl (by kernel_rfl) (by kernel_rfl) (by kernel_rfl) (fun _ _ _ h => h) (Or.inl ⟨by rfl, ?_⟩) hHeld ?_
      rotate_left 1
      · rintro w' ⟨hx, hc0, hmm⟩; obtain ⟨⟨z0, z1, z2, z3⟩, _⟩ := hx.four; have lk := kind_run hmm HKk.out; go_simp; try with_reducible rfl
      try simp only [Act.put, List.setIfInBounds_toArray, List.set_cons_zero, List.set_cons_succ]
      refine held_take (i := 4) (v := ?_) (some 26) rfl rfl (by kernel_rfl) (by kernel_rfl) (by kernel_rfl) (fun _ _ _ h => h) (Or.inl ⟨by rfl, ?_⟩) hHeld ?_
      rotate_left 1
      · rintro w' ⟨hx, hc0, hmm⟩; obtain ⟨⟨z0, z1, z2, z3⟩, _⟩ := hx.four; have lk := kind_run hmm HKk.out; go_simp; try with_reducible rfl
      try simp only [Act.put, List.setIfInBounds_toArray, List.set_cons_zero, List.set_cons_succ]
      refine held_take (i := 5) (v := ?_) (some 27) rfl rfl (by kernel_rfl) (by kernel_rfl) (by kernel_rfl) (fun _ _ _ h => h) (Or.inl ⟨by rfl, ?_⟩) hHeld ?_
      rotate_left 1
      · rintro w' ⟨hx, hc0, hmm⟩; obtain ⟨⟨z0, z1, z2, z3⟩, _⟩ := hx.four; have lk := kind_run hmm HKk.out; go_simp; try with_reducible rfl
      try simp only [Act.put, List.setIfInBounds_toArray, List.set_cons_zero, List.set_cons_succ]
      refine held_take (i := 6) (v := ?_) (some 28) rfl rfl (by kernel_rfl) (by kernel_rfl) (by kernel_rfl) (fun _ _ _ h => h) (Or.inl ⟨by rfl, ?_⟩) hHeld ?_
      rotate_left 1
      · rintro w' ⟨hx, hc0, hmm⟩; obtain ⟨⟨z0, z1, z2, z3⟩, _⟩ := hx.four; have lk := kind_run hmm HKk.out; go_simp; try with_reducible rfl
      try simp only [Act.put, List.setIfInBounds_toArray, List.set_cons_zero, List.set_cons_succ]
      refine held_take (i := 7) (v := ?_) (some 29) rfl rfl (by kernel_rfl) (by kernel_rfl) (by kernel_rfl) (fun _ _ _ h => h) (Or.inl ⟨by rfl, ?_⟩) hHeld ?_
      rotate_left 1
      · rintro w' ⟨hx, hc0, hmm⟩; obtain ⟨⟨z0, z1, z2, z3⟩, _⟩ := hx.four; have lk := kind_run hmm HKk.out; go_simp; try with_reducible rfl
      try simp only [Act.put, List.setIfInBounds_toArray, List.set_cons_zero, List.set_cons_succ]
      refine held_take (i := 8) (v := ?_) (some 30) rfl rfl (by kernel_rfl) (by kernel_rfl) (by kernel_rfl) (fun _ _ _ h => h) (Or.inl ⟨by rfl, ?_⟩) hHeld ?_
      rotate_left 1
      · rintro w' ⟨hx, hc0, hmm⟩; obtain ⟨⟨z0, z1, z2, z3⟩, _⟩ := hx.four; have lk := kind_run hmm HKk.out; go_simp; try with_reducible rfl
      try simp only [Act.put, List.setIfInBounds_toArray, List.set_cons_zero, List.set_cons_succ]
      refine held_take (i := 9) (v := ?_) (some 31) rfl rfl (by kernel_rfl) (by kernel_rfl) (by kernel_rfl) (fun _ _ _ h => h) (Or.inl ⟨by rfl, ?_⟩) hHeld ?_
      rotate_left 1
      · rintro w' ⟨hx, hc0, hmm⟩; obtain ⟨⟨z0, z1, z2, z3⟩, _⟩ := hx.four; have lk := kind_run hmm HKk.out; go_simp; try with_reducible rfl
      try simp only [Act.put, List.setIfInBounds_toArray, List.set_cons_zero, List.set_cons_succ]
      refine held_take (i := 10) (v := ?_) (some 32) rfl rfl (by kernel_rfl) (by kernel_rfl) (by kernel_rfl) (fun _ _ _ h => h) (Or.inl ⟨by rfl, ?_⟩) hHeld ?_
      rotate_left 1
      · rintro w' ⟨hx, hc0, hmm⟩; obtain ⟨⟨z0, z1, z2, z3⟩, _⟩ := hx.four; have lk := kind_run hmm HKk.out; go_simp; try with_reducible rfl
      try simp only [Act.put, List.setIfInBounds_toArray, List.set_cons_zero, List.set_cons_succ]
      refine held_take (i := 11) (v := ?_) (some 33) rfl rfl (by kernel_rfl) (by kernel_rfl) (by kernel_rfl) (fun _ _ _ h => h) (Or.inl ⟨by rfl, ?_⟩) hHeld ?_
      rotate_left 1
      · rintro w' ⟨hx, hc0, hmm⟩; obtain ⟨⟨z0, z1, z2, z3⟩, _⟩ := hx.four; have lk := kind_run hmm HKk.out; go_simp; try with_reducible rfl
      try simp only [Act.put, List.setIfInBounds_toArray, List.set_cons_zero, List.set_cons_succ]
      refine held_one (j := 12) (by kernel_rfl) rfl (fun K hK => ?_)
      try simp only [List.getElem_toArray, List.getElem_cons_succ, List.getElem_cons_zero]
      rw [if_pos (by rfl)]
      go_simp
      go_at_call 49
      (with_reducible refine (sclone_any (B nm) hnm V V.drew RV.out.drew).mono ?_)
      rintro e w5 ⟨rfl, h5⟩
      have C5 := Lib.hid (HCV.out.rel h5)
      refine hK.out _ _ (Sx.of (HBV.out.rel h5) C5.out) (fun hHeld => ?_)
      clear hK K
      try simp only [Act.put, List.setIfInBounds_toArray, List.set_cons_zero, List.set_cons_succ]
      refine held_take (i := 13) (v := ?_) (some 35) rfl rfl (by kernel_rfl) (by kernel_rfl) (by kernel_rfl) (fun _ _ _ h => h) (Or.inl ⟨by rfl, ?_⟩) hHeld ?_
      rotate_left 1
      · rintro w' ⟨hx, hc0, hmm⟩; obtain ⟨⟨z0, z1, z2, z3⟩, _⟩ := hx.four; have lk := kind_run hmm HKk.out; go_simp; try with_reducible rfl
      try simp only [Act.put, List.setIfInBounds_toArray, List.set_cons_zero, List.set_cons_succ]
      refine held_one (j := 14) (by kernel_rfl) rfl (fun K hK => ?_)
      try simp only [List.getElem_toArray, List.getElem_cons_succ, List.getElem_cons_zero]
      rw [if_pos (by rfl)]
      go_simp
      go_at_call 48
      (with_reducible refine (cput_any b m L1 (opK k) n nm HLn.out w0 _ (HRV.out.trans h5) C5.out).mono ?_)
      rintro e w6 ⟨rfl, c6, r6, k6⟩
      refine hK.out _ _ (Sx.of (k6.bk (HBV.out.rel h5) hne (by decide)) c6) (fun hHeld => ?_)
      clear hK K
      try simp only [Act.put, List.setIfInBounds_toArray, List.set_cons_zero, List.set_cons_succ]
      refine wpAnyH_done (by kernel_rfl) ?_ _
      go_wp2_with (fail)
      go_end0
      exact ⟨rfl, by rw [HCod.out]; exact c6, r6, HKV.out.trans ((Kq.rel h5).trans k6)⟩
theorem cexpr_all : ∀ d x, fine d x = true → CC x := fine_ind
  (fun d k n nm l hf h9 h10 H => cexpr_op d k n nm l hf h9 h10 H)
  (fun d n nm a b hf Ha Hb => cexpr_else d n nm a b hf Ha Hb)
  (fun d n nm c a b hf Hc Ha Hb => cexpr_if d n nm c a b hf Hc Ha Hb)
end Go.Proofs.YtcckemhelockaaaGreatDoor
