/- The document's own answers of layer 10: an operation; an expression's code. -/
import Derived.Test.YtldopbkjchgcnaaDoorZ07
import Derived.Test.YtldopbkjchgcnaaDoorZ08
namespace Go.Proofs.YtldopbkjchgcnaaDoor
open Go.RowKit Go.Lib
set_option linter.unusedVariables false
set_option linter.unusedSimpArgs false

set_option maxRecDepth 100000 in
set_option maxHeartbeats 4000000 in
theorem rop10_any (k : Int) (hk : k = 1 ∨ k = 2 ∨ k = 3 ∨ k = 4 ∨ k = 5 ∨ k = 6 ∨ k = 7 ∨ k = 8 ∨ k = 11 ∨ k = 12) (w0 w : World) (hr : Rel w0 w) :
    Calls Tryd.prog 48 #[.int .i64 k] w fun e w' => e = .returned (.int .i64 (opK k)) ∧ Rel w0 w' := by
  have HR := Lib.hid hr
  have HB := Lib.hid (Bk.new w 3 #[.int .i64 0, .int .i64 2, .int .i64 3, .int .i64 4, .int .i64 1, .int .i64 5, .int .i64 6, .int .i64 7, .int .i64 8, .int .i64 9, .int .i64 0, .int .i64 10, .int .i64 11])
  have HA := Lib.hid (hr.alloc (.cells #[.int .i64 0, .int .i64 2, .int .i64 3, .int .i64 4, .int .i64 1, .int .i64 5, .int .i64 6, .int .i64 7, .int .i64 8, .int .i64 9, .int .i64 0, .int .i64 10, .int .i64 11] 3))
  obtain ⟨W, hW⟩ : ∃ W, w.alloc (.cells #[.int .i64 0, .int .i64 2, .int .i64 3, .int .i64 4, .int .i64 1, .int .i64 5, .int .i64 6, .int .i64 7, .int .i64 8, .int .i64 9, .int .i64 0, .int .i64 10, .int .i64 11] 3) = W := ⟨_, rfl⟩
  rw [hW] at HB HA
  clear hr
  rcases hk with rfl | rfl | rfl | rfl | rfl | rfl | rfl | rfl | rfl | rfl
  · have c := HB.out.cell 1
    simp only [List.getElem?_toArray, List.getElem?_cons_succ, List.getElem?_cons_zero] at c
    go_enter Tryd.func48, Tryd.ntmps48
    go_wp2_with (fail)
    go_ret
    exact ⟨rfl, HA.out⟩
  · have c := HB.out.cell 2
    simp only [List.getElem?_toArray, List.getElem?_cons_succ, List.getElem?_cons_zero] at c
    go_enter Tryd.func48, Tryd.ntmps48
    go_wp2_with (fail)
    go_ret
    exact ⟨rfl, HA.out⟩
  · have c := HB.out.cell 3
    simp only [List.getElem?_toArray, List.getElem?_cons_succ, List.getElem?_cons_zero] at c
    go_enter Tryd.func48, Tryd.ntmps48
    go_wp2_with (fail)
    go_ret
    exact ⟨rfl, HA.out⟩
  · have c := HB.out.cell 4
    simp only [List.getElem?_toArray, List.getElem?_cons_succ, List.getElem?_cons_zero] at c
    go_enter Tryd.func48, Tryd.ntmps48
    go_wp2_with (fail)
    go_ret
    exact ⟨rfl, HA.out⟩
  · have c := HB.out.cell 5
    simp only [List.getElem?_toArray, List.getElem?_cons_succ, List.getElem?_cons_zero] at c
    go_enter Tryd.func48, Tryd.ntmps48
    go_wp2_with (fail)
    go_ret
    exact ⟨rfl, HA.out⟩
  · have c := HB.out.cell 6
    simp only [List.getElem?_toArray, List.getElem?_cons_succ, List.getElem?_cons_zero] at c
    go_enter Tryd.func48, Tryd.ntmps48
    go_wp2_with (fail)
    go_ret
    exact ⟨rfl, HA.out⟩
  · have c := HB.out.cell 7
    simp only [List.getElem?_toArray, List.getElem?_cons_succ, List.getElem?_cons_zero] at c
    go_enter Tryd.func48, Tryd.ntmps48
    go_wp2_with (fail)
    go_ret
    exact ⟨rfl, HA.out⟩
  · have c := HB.out.cell 8
    simp only [List.getElem?_toArray, List.getElem?_cons_succ, List.getElem?_cons_zero] at c
    go_enter Tryd.func48, Tryd.ntmps48
    go_wp2_with (fail)
    go_ret
    exact ⟨rfl, HA.out⟩
  · have c := HB.out.cell 11
    simp only [List.getElem?_toArray, List.getElem?_cons_succ, List.getElem?_cons_zero] at c
    go_enter Tryd.func48, Tryd.ntmps48
    go_wp2_with (fail)
    go_ret
    exact ⟨rfl, HA.out⟩
  · have c := HB.out.cell 12
    simp only [List.getElem?_toArray, List.getElem?_cons_succ, List.getElem?_cons_zero] at c
    go_enter Tryd.func48, Tryd.ntmps48
    go_wp2_with (fail)
    go_ret
    exact ⟨rfl, HA.out⟩
def RCodeC (x : Ex) : Prop := ∀ (at_ : Nat) (S : Nat → Prop) (e : El) (w0 w : World), at_ + clen x ≤ 100000 → Rel w0 w → ExAt S w e x →
    Calls Tryd.prog 29 #[EV e, .int .i64 (at_ : Int)] w fun r w' => ∃ A c, r = .returned (.slice A (clen x) c) ∧ InsOwn w' w.heap.size (.slice A (clen x) c) (cod x at_) ∧ Rel w0 w'
/-- A call of code, its place spelled. -/
theorem rcode_at {x : Ex} (H : RCodeC x) {S : Nat → Prop} {W : World} {el : El} (ha : ExAt S W el x) (at_ : Nat) (hl : at_ + clen x ≤ 100000) (n : Nat) (hn : clen x = n) (l : List In) (hc : cod x at_ = l) (p : Int) (hp : p = (at_ : Int)) :
    ∀ w', Rel W w' → Calls Tryd.prog 29 #[EV el, .int .i64 p] w' fun r w2 => ∃ A c, r = .returned (.slice A n c) ∧ InsOwn w2 w'.heap.size (.slice A n c) l ∧ Rel w' w2 := fun w' h => by
  subst hn hc hp; exact H at_ S el w' w' hl h.self (ha.rel h)
/-- An element of a row, whole. -/
def KidQ (W : World) (A' : Option Addr) (i : Nat) (el : El) : Prop := ∃ g off, A' = some ⟨g, off, none⟩ ∧ g < W.heap.size ∧ W.cell? ⟨g, off + i, none⟩ = some (.int .i64 el.1) ∧ W.cell? ⟨g, off + i + 1, none⟩ = some (.int .i64 el.2.1) ∧ W.cell? ⟨g, off + i + 2, none⟩ = some (.string (B el.2.2.1)) ∧ W.cell? ⟨g, off + i + 3, none⟩ = some (.slice el.2.2.2.1 el.2.2.2.2.1 el.2.2.2.2.2)
theorem KidQ.rel {W W' : World} {A' : Option Addr} {i : Nat} {el : El} (h : KidQ W A' i el) (hr : Rel W W') : KidQ W' A' i el := by
  obtain ⟨g, off, e, hl, h0, h1, h2, h3⟩ := h
  have hk : ∀ j, W'.cell? ⟨g, j, none⟩ = W.cell? ⟨g, j, none⟩ := fun j => hr.2.cell (p := ⟨g, j, none⟩) hl
  exact ⟨g, off, e, by have := hr.size; omega, by rw [hk]; exact h0, by rw [hk]; exact h1, by rw [hk]; exact h2, by rw [hk]; exact h3⟩
theorem kidq_of {S : Nat → Prop} {w W : World} {A' : Option Addr} {es : List El} {l : List Ex} (hrow : RowE S w A' es) (hsub : ∀ i (h : i < es.length) (h' : i < l.length), ExAt S w es[i] l[i]) (hl : es.length = l.length) (hr : Rel w W) (j : Nat) (hj : j < l.length) : ∃ el : El, KidQ W A' (j * 4) el ∧ ExAt S W el l[j] := by
  obtain ⟨g, off, k, n, nm, A2, m, c, hA, h0, h1, h2, h3, ha⟩ := ExAt.arg hrow hsub hl hr j hj
  exact ⟨(k, n, nm, A2, m, c), ⟨g, off, hA, blk_of_cell h0, h0, h1, h2, h3⟩, ha⟩
theorem KidQ.at0 {W : World} {g off : Nat} {el : El} (h : KidQ W (some ⟨g, off, none⟩) 0 el) : W.cell? ⟨g, off, none⟩ = some (.int .i64 el.1) ∧ W.cell? ⟨g, off + 1, none⟩ = some (.int .i64 el.2.1) ∧ W.cell? ⟨g, off + 2, none⟩ = some (.string (B el.2.2.1)) ∧ W.cell? ⟨g, off + 3, none⟩ = some (.slice el.2.2.2.1 el.2.2.2.2.1 el.2.2.2.2.2) := by
  obtain ⟨g', off', e, _, h0, h1, h2, h3⟩ := h
  injection e with e; injection e with e1 e2; subst e1; subst e2
  exact ⟨h0, h1, h2, h3⟩
theorem KidQ.at {W : World} {g off i : Nat} {el : El} (h : KidQ W (some ⟨g, off, none⟩) i el) : W.cell? ⟨g, off + i, none⟩ = some (.int .i64 el.1) ∧ W.cell? ⟨g, off + i + 1, none⟩ = some (.int .i64 el.2.1) ∧ W.cell? ⟨g, off + i + 2, none⟩ = some (.string (B el.2.2.1)) ∧ W.cell? ⟨g, off + i + 3, none⟩ = some (.slice el.2.2.2.1 el.2.2.2.2.1 el.2.2.2.2.2) := by
  obtain ⟨g', off', e, _, h0, h1, h2, h3⟩ := h
  injection e with e; injection e with e1 e2; subst e1; subst e2
  exact ⟨h0, h1, h2, h3⟩
theorem KidQ.is {W : World} {A' : Option Addr} {i : Nat} {el : El} (h : KidQ W A' i el) : ∃ g off, A' = some ⟨g, off, none⟩ := by
  obtain ⟨g, off, e, _⟩ := h; exact ⟨g, off, e⟩
theorem own_none {w : World} {base : Nat} {A : Option Addr} {n c : Nat} {l : List In} (h : InsOwn w base (.slice A n c) l) (hn : n = l.length) : A = none → c = 0 := by
  subst hn
  rintro rfl
  rcases h.form with ⟨_, h, _⟩ | ⟨g, e, _⟩
  · exact h
  · cases e
set_option maxRecDepth 100000 in
set_option maxHeartbeats 4000000 in
theorem rcode_else (d : Nat) (n : Int) (nm : List UInt8) (a b : Ex) (hf : fine (d + 1) (.mk 9 n nm [a, b]) = true) (Ha : RCodeC a) (Hb : RCodeC b) : RCodeC (.mk 9 n nm [a, b]) := fun at_ S e w0 w hz hr h => by
  obtain ⟨A', c', es, rfl, hk, hn, hm, hle, hrow, hsub⟩ := h.open
  have HR := Lib.hid hr
  have HB := Lib.hid (Bk.new w 27 #[.int .i64 9, .int .i64 n, .string (B nm), .slice A' 2 c'])
  have HA := Lib.hid (hr.self.alloc (.cells #[.int .i64 9, .int .i64 n, .string (B nm), .slice A' 2 c'] 27))
  have hws : w.heap.size ≤ (w.alloc (.cells #[.int .i64 9, .int .i64 n, .string (B nm), .slice A' 2 c'] 27)).heap.size := by rw [World.size_alloc]; omega
  obtain ⟨W, hW⟩ : ∃ W, w.alloc (.cells #[.int .i64 9, .int .i64 n, .string (B nm), .slice A' 2 c'] 27) = W := ⟨_, rfl⟩
  rw [hW] at HA HB hws
  obtain ⟨el0, hK0, ha0⟩ := kidq_of hrow hsub hle HA.out 0 (by simp)
  obtain ⟨el1, hK1, ha1⟩ := kidq_of hrow hsub hle HA.out 1 (by simp)
  obtain ⟨g, off, rfl⟩ := hK0.is
  have HK0 := Lib.hid (show KidQ W (some ⟨g, off, none⟩) 0 el0 from hK0)
  have HK1 := Lib.hid (show KidQ W (some ⟨g, off, none⟩) 4 el1 from hK1)
  have hcl : clen (.mk 9 n nm [a, b]) = clen a + 1 + clen b := by rw [clen_mk, clens_cons, clens_cons, clens_nil, if_neg (by decide)]; omega
  have la := cod_len d a (fine_mem hf (y := a) (by simp)) at_
  have lb := cod_len d b (fine_mem hf (y := b) (by simp)) (at_ + clen a + 1)
  have HCod := Lib.hid (cod_else n nm a b at_)
  rw [hcl] at hz ⊢
  have hC0 := rcode_at Ha ha0 at_ (by omega) _ rfl _ rfl (at_ : Int) rfl
  have hC1 := rcode_at Hb ha1 (at_ + clen a + 1) (by omega) _ rfl _ rfl ((at_ : Int) + (clen a : Int) + 1) (by omega)
  unfold joinE at HCod
  rw [la, lb] at HCod
  clear hcl
  generalize clen a = na at *
  generalize clen b = nb at *
  generalize cod a at_ = la' at *
  generalize cod b (at_ + na + 1) = lb' at *
  have HC0 := Lib.hid hC0
  have HC1 := Lib.hid hC1
  have HLa := Lib.hid la
  have HLb := Lib.hid lb
  obtain ⟨⟨b0, b1, b2, b3⟩, _⟩ := HB.out.four
  obtain ⟨k00, k01, k02, k03⟩ := HK0.out.at0
  have RW0 := Lib.hid HA.out.self
  have q1 : IntKind.i64.wrap ((at_ : Int) + (na : Int)) = (at_ : Int) + (na : Int) := IntWalk.i64_in _ (by omega)
  have q2 : IntKind.i64.wrap ((at_ : Int) + (na : Int) + 1) = (at_ : Int) + (na : Int) + 1 := IntWalk.i64_in _ (by omega)
  have q3 : IntKind.i64.wrap ((at_ : Int) + (na : Int) + 1 + (nb : Int)) = (at_ : Int) + (na : Int) + 1 + (nb : Int) := IntWalk.i64_in _ (by omega)
  have HN := Lib.hid (show ((at_ + na + 1 + nb : Nat) : Int) = (at_ : Int) + (na : Int) + 1 + (nb : Int) by omega)
  clear hrow hsub h hr hC0 hC1 ha0 ha1 hK0 hK1
  go_enter Tryd.func29, Tryd.ntmps29
  go_upto_region 4 with (go_at_call 29; (with_reducible refine (HC0.out _ RW0.out).mono ?_); rintro e w1 ⟨Aa, ca, rfl, o, h⟩)
  have RW1 := Lib.hid (RW0.out.trans h)
  have P1 := Lib.hid (InsOwn.base o RW0.out.size)
  clear o h
  obtain ⟨⟨d0, d1, d2, d3⟩, _⟩ := (HB.out.rel RW1.out).four
  obtain ⟨e10, e11, e12, e13⟩ := (HK1.out.rel RW1.out).at
  go_upto_region 5 with (go_at_call 29; (with_reducible refine (HC1.out _ RW1.out).mono ?_); rintro e w2 ⟨Ab, cb, rfl, o, h⟩)
  have RW2 := Lib.hid (RW1.out.trans h)
  have P2 := Lib.hid (P1.out.rel h)
  have Ob_2 := Lib.hid o
  have Tb_2 := Lib.hid (Apt.of P1.out o)
  clear o h
  have HBk2 := Lib.hid (InsAt.of_bk (l := [(9, (at_ : Int) + (na : Int) + 1 + (nb : Int), [])]) (Bk.new w2 44 #[.int .i64 9, .int .i64 ((at_ : Int) + (na : Int) + 1 + (nb : Int)), .string ⟨#[]⟩]))
  have hz2 : W.heap.size ≤ (w2.alloc (.cells #[.int .i64 9, .int .i64 ((at_ : Int) + (na : Int) + 1 + (nb : Int)), .string ⟨#[]⟩] 44)).heap.size := Nat.le_trans RW2.out.size (by rw [World.size_alloc]; omega)
  go_upto_region 6 with (at_builtin; (refine wpList_plain rfl fun K hK => wp_iapp _ _ rfl (base := W.heap.size) (v := (.slice Aa na ca)) (os := la') rfl (P2.out.row.alloc _) (A := some ⟨w2.heap.size, 0, none⟩) (c := 1) (n := 1) (l := [(9, (at_ : Int) + (na : Int) + 1 + (nb : Int), [])]) rfl rfl (fun e => by cases e) HBk2.out (by simp) (by rw [HLa.out]; omega) hz2 fun v3 w3 own g9 b9 => hK _ _ ?_))
  have P3 := Lib.hid own
  have RW3 := Lib.hid ((RW2.out.alloc _).grown g9 (fun q hq => (P2.out.row.lt q hq).1))
  have Ob_3 := Lib.hid (InsOwn.kept (Ob_2.out.row.alloc _) Tb_2.out g9)
  have Tb_3 := Lib.hid (Tb_2.out.grow (Ob_2.out.row.alloc _) b9)
  clear own g9 b9
  go_wp2_with (at_builtin; (refine wpList_plain rfl fun K hK => wp_iapp _ _ rfl (base := W.heap.size) (v := v3) (os := (la' ++ [(9, (at_ : Int) + (na : Int) + 1 + (nb : Int), [])])) rfl P3.out (A := Ab) (c := cb) (n := nb) (l := lb') rfl HLb.out (own_none Ob_3.out HLb.out.symm) (Ob_3.out.at HLb.out.symm) (by rw [HLb.out]; omega) (by rw [List.length_append, HLa.out]; simp; omega) RW3.out.size fun v4 w4 own g9 b9 => hK _ _ ?_))
  have P4 := Lib.hid own
  have RW4 := Lib.hid ((RW3.out).grown g9 (fun q hq => (P3.out.row.lt q hq).1))
  clear own g9 b9
  go_ret
  have hl := Lib.hid (show (((la' ++ [(9, (at_ : Int) + (na : Int) + 1 + (nb : Int), [])]) ++ lb')).length = na + 1 + nb by rw [List.length_append, List.length_append, HLa.out, HLb.out]; rfl)
  obtain ⟨A9, c9, hv⟩ := P4.out.slice_of
  rw [hl.out] at hv
  subst hv
  refine ⟨A9, c9, rfl, ?_, HR.out.trans (HA.out.trans RW4.out)⟩
  have := P4.out.base hws
  rw [HCod.out, HN.out]
  rwa [List.append_assoc] at this
set_option maxRecDepth 100000 in
set_option maxHeartbeats 4000000 in
theorem rcode_if (d : Nat) (n : Int) (nm : List UInt8) (c a b : Ex) (hf : fine (d + 1) (.mk 10 n nm [c, a, b]) = true) (Hc : RCodeC c) (Ha : RCodeC a) (Hb : RCodeC b) : RCodeC (.mk 10 n nm [c, a, b]) := fun at_ S e w0 w hz hr h => by
  obtain ⟨A', c', es, rfl, hk, hn, hm, hle, hrow, hsub⟩ := h.open
  have HR := Lib.hid hr
  have HB := Lib.hid (Bk.new w 27 #[.int .i64 10, .int .i64 n, .string (B nm), .slice A' 3 c'])
  have HA := Lib.hid (hr.self.alloc (.cells #[.int .i64 10, .int .i64 n, .string (B nm), .slice A' 3 c'] 27))
  have hws : w.heap.size ≤ (w.alloc (.cells #[.int .i64 10, .int .i64 n, .string (B nm), .slice A' 3 c'] 27)).heap.size := by rw [World.size_alloc]; omega
  obtain ⟨W, hW⟩ : ∃ W, w.alloc (.cells #[.int .i64 10, .int .i64 n, .string (B nm), .slice A' 3 c'] 27) = W := ⟨_, rfl⟩
  rw [hW] at HA HB hws
  obtain ⟨el0, hK0, ha0⟩ := kidq_of hrow hsub hle HA.out 0 (by simp)
  obtain ⟨el1, hK1, ha1⟩ := kidq_of hrow hsub hle HA.out 1 (by simp)
  obtain ⟨el2, hK2, ha2⟩ := kidq_of hrow hsub hle HA.out 2 (by simp)
  obtain ⟨g, off, rfl⟩ := hK0.is
  have HK0 := Lib.hid (show KidQ W (some ⟨g, off, none⟩) 0 el0 from hK0)
  have HK1 := Lib.hid (show KidQ W (some ⟨g, off, none⟩) 4 el1 from hK1)
  have HK2 := Lib.hid (show KidQ W (some ⟨g, off, none⟩) 8 el2 from hK2)
  have hcl : clen (.mk 10 n nm [c, a, b]) = clen c + clen a + 2 + clen b := by rw [clen_mk, clens_cons, clens_cons, clens_cons, clens_nil, if_pos rfl]; omega
  have lc := cod_len d c (fine_mem hf (y := c) (by simp)) at_
  have la := cod_len d a (fine_mem hf (y := a) (by simp)) (at_ + clen c + 1)
  have lb := cod_len d b (fine_mem hf (y := b) (by simp)) (at_ + clen c + 2 + clen a)
  have HCod := Lib.hid (cod_if n nm c a b at_)
  rw [hcl] at hz ⊢
  have hC0 := rcode_at Hc ha0 at_ (by omega) _ rfl _ rfl (at_ : Int) rfl
  have hC1 := rcode_at Ha ha1 (at_ + clen c + 1) (by omega) _ rfl _ rfl ((at_ : Int) + (clen c : Int) + 1) (by omega)
  have hC2 := rcode_at Hb ha2 (at_ + clen c + 2 + clen a) (by omega) _ rfl _ rfl ((at_ : Int) + (clen c : Int) + (clen a : Int) + 2) (by omega)
  unfold joinI at HCod
  rw [lc, la, lb] at HCod
  clear hcl
  generalize clen c = nc at *
  generalize clen a = na at *
  generalize clen b = nb at *
  generalize cod c at_ = lc' at *
  generalize cod a (at_ + nc + 1) = la' at *
  generalize cod b (at_ + nc + 2 + na) = lb' at *
  have HC0 := Lib.hid hC0
  have HC1 := Lib.hid hC1
  have HC2 := Lib.hid hC2
  have HLc := Lib.hid lc
  have HLa := Lib.hid la
  have HLb := Lib.hid lb
  obtain ⟨⟨b0, b1, b2, b3⟩, _⟩ := HB.out.four
  obtain ⟨k00, k01, k02, k03⟩ := HK0.out.at0
  have RW0 := Lib.hid HA.out.self
  have q1 : IntKind.i64.wrap ((at_ : Int) + (nc : Int)) = (at_ : Int) + (nc : Int) := IntWalk.i64_in _ (by omega)
  have q2 : IntKind.i64.wrap ((at_ : Int) + (nc : Int) + 1) = (at_ : Int) + (nc : Int) + 1 := IntWalk.i64_in _ (by omega)
  have q3 : IntKind.i64.wrap ((at_ : Int) + (nc : Int) + (na : Int)) = (at_ : Int) + (nc : Int) + (na : Int) := IntWalk.i64_in _ (by omega)
  have q4 : IntKind.i64.wrap ((at_ : Int) + (nc : Int) + (na : Int) + 2) = (at_ : Int) + (nc : Int) + (na : Int) + 2 := IntWalk.i64_in _ (by omega)
  have q5 : IntKind.i64.wrap ((at_ : Int) + (nc : Int) + (na : Int) + 2 + (nb : Int)) = (at_ : Int) + (nc : Int) + (na : Int) + 2 + (nb : Int) := IntWalk.i64_in _ (by omega)
  have HN1 := Lib.hid (show ((at_ + nc + na + 2 : Nat) : Int) = (at_ : Int) + (nc : Int) + (na : Int) + 2 by omega)
  have HN2 := Lib.hid (show ((at_ + nc + na + 2 + nb : Nat) : Int) = (at_ : Int) + (nc : Int) + (na : Int) + 2 + (nb : Int) by omega)
  clear hrow hsub h hr hC0 hC1 hC2 ha0 ha1 ha2 hK0 hK1 hK2
  go_enter Tryd.func29, Tryd.ntmps29
  go_upto_region 9 with (go_at_call 29; (with_reducible refine (HC0.out _ RW0.out).mono ?_); rintro e w1 ⟨Ac, cc, rfl, o, h⟩)
  have RW1 := Lib.hid (RW0.out.trans h)
  have P1 := Lib.hid (InsOwn.base o RW0.out.size)
  clear o h
  obtain ⟨⟨d0, d1, d2, d3⟩, _⟩ := (HB.out.rel RW1.out).four
  obtain ⟨e10, e11, e12, e13⟩ := (HK1.out.rel RW1.out).at
  go_upto_region 10 with (go_at_call 29; (with_reducible refine (HC1.out _ RW1.out).mono ?_); rintro e w2 ⟨Aa, ca, rfl, o, h⟩)
  have RW2 := Lib.hid (RW1.out.trans h)
  have P2 := Lib.hid (P1.out.rel h)
  have Oa_2 := Lib.hid o
  have Ta_2 := Lib.hid (Apt.of P1.out o)
  clear o h
  obtain ⟨⟨f0, f1, f2, f3⟩, _⟩ := (HB.out.rel RW2.out).four
  obtain ⟨e20, e21, e22, e23⟩ := (HK2.out.rel RW2.out).at
  go_upto_region 11 with (go_at_call 29; (with_reducible refine (HC2.out _ RW2.out).mono ?_); rintro e w3 ⟨Ab, cb, rfl, o, h⟩)
  have RW3 := Lib.hid (RW2.out.trans h)
  have P3 := Lib.hid (P2.out.rel h)
  have Ob_3 := Lib.hid o
  have Tb_3 := Lib.hid (Apt.of P2.out o)
  have Oa_3 := Lib.hid (Oa_2.out.rel h)
  have Ta_3 := Lib.hid Ta_2.out
  clear o h
  have HBk3 := Lib.hid (InsAt.of_bk (l := [(12, (at_ : Int) + (nc : Int) + (na : Int) + 2, [])]) (Bk.new w3 44 #[.int .i64 12, .int .i64 ((at_ : Int) + (nc : Int) + (na : Int) + 2), .string ⟨#[]⟩]))
  have hz3 : W.heap.size ≤ (w3.alloc (.cells #[.int .i64 12, .int .i64 ((at_ : Int) + (nc : Int) + (na : Int) + 2), .string ⟨#[]⟩] 44)).heap.size := Nat.le_trans RW3.out.size (by rw [World.size_alloc]; omega)
  go_upto_region 12 with (at_builtin; (refine wpList_plain rfl fun K hK => wp_iapp _ _ rfl (base := W.heap.size) (v := (.slice Ac nc cc)) (os := lc') rfl (P3.out.row.alloc _) (A := some ⟨w3.heap.size, 0, none⟩) (c := 1) (n := 1) (l := [(12, (at_ : Int) + (nc : Int) + (na : Int) + 2, [])]) rfl rfl (fun e => by cases e) HBk3.out (by simp) (by rw [HLc.out]; omega) hz3 fun v4 w4 own g9 b9 => hK _ _ ?_))
  have P4 := Lib.hid own
  have RW4 := Lib.hid ((RW3.out.alloc _).grown g9 (fun q hq => (P3.out.row.lt q hq).1))
  have Oa_4 := Lib.hid (InsOwn.kept (Oa_3.out.row.alloc _) Ta_3.out g9)
  have Ta_4 := Lib.hid (Ta_3.out.grow (Oa_3.out.row.alloc _) b9)
  have Ob_4 := Lib.hid (InsOwn.kept (Ob_3.out.row.alloc _) Tb_3.out g9)
  have Tb_4 := Lib.hid (Tb_3.out.grow (Ob_3.out.row.alloc _) b9)
  clear own g9 b9
  go_upto_region 13 with (at_builtin; (refine wpList_plain rfl fun K hK => wp_iapp _ _ rfl (base := W.heap.size) (v := v4) (os := (lc' ++ [(12, (at_ : Int) + (nc : Int) + (na : Int) + 2, [])])) rfl P4.out (A := Aa) (c := ca) (n := na) (l := la') rfl HLa.out (own_none Oa_4.out HLa.out.symm) (Oa_4.out.at HLa.out.symm) (by rw [HLa.out]; omega) (by rw [List.length_append, HLc.out]; simp; omega) RW4.out.size fun v5 w5 own g9 b9 => hK _ _ ?_))
  have P5 := Lib.hid own
  have RW5 := Lib.hid ((RW4.out).grown g9 (fun q hq => (P4.out.row.lt q hq).1))
  have Ob_5 := Lib.hid (InsOwn.kept Ob_4.out Tb_4.out g9)
  have Tb_5 := Lib.hid (Tb_4.out.grow Ob_4.out b9)
  clear own g9 b9
  have HBk5 := Lib.hid (InsAt.of_bk (l := [(13, (at_ : Int) + (nc : Int) + (na : Int) + 2 + (nb : Int), [])]) (Bk.new w5 44 #[.int .i64 13, .int .i64 ((at_ : Int) + (nc : Int) + (na : Int) + 2 + (nb : Int)), .string ⟨#[]⟩]))
  have hz5 : W.heap.size ≤ (w5.alloc (.cells #[.int .i64 13, .int .i64 ((at_ : Int) + (nc : Int) + (na : Int) + 2 + (nb : Int)), .string ⟨#[]⟩] 44)).heap.size := Nat.le_trans RW5.out.size (by rw [World.size_alloc]; omega)
  go_upto_region 14 with (at_builtin; (refine wpList_plain rfl fun K hK => wp_iapp _ _ rfl (base := W.heap.size) (v := v5) (os := ((lc' ++ [(12, (at_ : Int) + (nc : Int) + (na : Int) + 2, [])]) ++ la')) rfl (P5.out.row.alloc _) (A := some ⟨w5.heap.size, 0, none⟩) (c := 1) (n := 1) (l := [(13, (at_ : Int) + (nc : Int) + (na : Int) + 2 + (nb : Int), [])]) rfl rfl (fun e => by cases e) HBk5.out (by simp) (by rw [List.length_append, List.length_append, HLc.out, HLa.out]; simp; omega) hz5 fun v6 w6 own g9 b9 => hK _ _ ?_))
  have P6 := Lib.hid own
  have RW6 := Lib.hid ((RW5.out.alloc _).grown g9 (fun q hq => (P5.out.row.lt q hq).1))
  have Ob_6 := Lib.hid (InsOwn.kept (Ob_5.out.row.alloc _) Tb_5.out g9)
  have Tb_6 := Lib.hid (Tb_5.out.grow (Ob_5.out.row.alloc _) b9)
  clear own g9 b9
  go_wp2_with (at_builtin; (refine wpList_plain rfl fun K hK => wp_iapp _ _ rfl (base := W.heap.size) (v := v6) (os := (((lc' ++ [(12, (at_ : Int) + (nc : Int) + (na : Int) + 2, [])]) ++ la') ++ [(13, (at_ : Int) + (nc : Int) + (na : Int) + 2 + (nb : Int), [])])) rfl P6.out (A := Ab) (c := cb) (n := nb) (l := lb') rfl HLb.out (own_none Ob_6.out HLb.out.symm) (Ob_6.out.at HLb.out.symm) (by rw [HLb.out]; omega) (by rw [List.length_append, List.length_append, List.length_append, HLc.out, HLa.out]; simp; omega) RW6.out.size fun v7 w7 own g9 b9 => hK _ _ ?_))
  have P7 := Lib.hid own
  have RW7 := Lib.hid ((RW6.out).grown g9 (fun q hq => (P6.out.row.lt q hq).1))
  clear own g9 b9
  go_ret
  have hl := Lib.hid (show (((((lc' ++ [(12, (at_ : Int) + (nc : Int) + (na : Int) + 2, [])]) ++ la') ++ [(13, (at_ : Int) + (nc : Int) + (na : Int) + 2 + (nb : Int), [])]) ++ lb')).length = nc + na + 2 + nb by rw [List.length_append, List.length_append, List.length_append, List.length_append, HLc.out, HLa.out, HLb.out]; simp; omega)
  obtain ⟨A9, c9, hv⟩ := P7.out.slice_of
  rw [hl.out] at hv
  subst hv
  refine ⟨A9, c9, rfl, ?_, HR.out.trans (HA.out.trans RW7.out)⟩
  have := P7.out.base hws
  rw [HCod.out, HN1.out, HN2.out]
  simp only [List.append_assoc, List.cons_append, List.nil_append] at this ⊢
  exact this
theorem cods_append (a b : List Ex) (at_ : Nat) : cods (a ++ b) at_ = cods a at_ ++ cods b (at_ + clens a) ∧ clens (a ++ b) = clens a + clens b := by
  induction a generalizing at_ with
  | nil => rw [List.nil_append, cods_nil, clens_nil]; exact ⟨by simp, by omega⟩
  | cons x t ih =>
    obtain ⟨h1, h2⟩ := ih (at_ + clen x)
    rw [List.cons_append, cods_cons, cods_cons, clens_cons, clens_cons, h1, h2, List.append_assoc, Nat.add_assoc]
    exact ⟨rfl, by omega⟩
theorem cods_take {l : List Ex} {j : Nat} (h : j < l.length) (at_ : Nat) : cods (l.take (j + 1)) at_ = cods (l.take j) at_ ++ cod l[j] (at_ + clens (l.take j)) ∧ clens (l.take (j + 1)) = clens (l.take j) + clen l[j] := by
  rw [List.take_succ_eq_append_getElem h]
  obtain ⟨h1, h2⟩ := cods_append (l.take j) [l[j]] at_
  rw [cods_cons, cods_nil, List.append_nil] at h1
  rw [clens_cons, clens_nil] at h2
  exact ⟨h1, by omega⟩
theorem clens_take (l : List Ex) (j : Nat) : clens (l.take j) ≤ clens l := by
  have := (cods_append (l.take j) (l.drop j) 0).2
  rw [List.take_append_drop] at this
  omega
theorem cods_len {d : Nat} {l : List Ex} (h : ∀ x ∈ l, fine d x = true) : ∀ at_, (cods l at_).length = clens l := by
  induction l with
  | nil => intro _; rw [cods_nil, clens_nil]; rfl
  | cons x t ih => intro p; rw [cods_cons, clens_cons, List.length_append, cod_len d x (h x (List.mem_cons_self ..)), ih fun y hy => h y (List.mem_cons_of_mem _ hy)]
theorem op_kind {d : Nat} {k n : Int} {nm : List UInt8} {l : List Ex} (h : fine (d + 1) (.mk k n nm l) = true) (h9 : k ≠ 9) (h10 : k ≠ 10) : (k = 1 ∨ k = 2 ∨ k = 3 ∨ k = 4 ∨ k = 5 ∨ k = 6 ∨ k = 7 ∨ k = 8 ∨ k = 11 ∨ k = 12) ∧ l.length ≤ 2 := by
  have hp := (fine_parts h).1
  unfold argsN at hp
  split at hp
  · exact ⟨by omega, by omega⟩
  · split at hp
    · exact ⟨by omega, by omega⟩
    · split at hp
      · exact ⟨by omega, by omega⟩
      · first | omega | (split at hp <;> omega)
set_option maxRecDepth 100000 in
set_option maxHeartbeats 4000000 in
theorem rcode_op (d : Nat) (k n : Int) (nm : List UInt8) (l : List Ex) (hf : fine (d + 1) (.mk k n nm l) = true) (h9 : k ≠ 9) (h10 : k ≠ 10) (H : ∀ x ∈ l, RCodeC x) : RCodeC (.mk k n nm l) := fun at_ S e w0 w hz hr h => by
  obtain ⟨hkl, hl2⟩ := op_kind hf h9 h10
  obtain ⟨A', c', es, rfl, hk, hn, hm, hle, hrow, hsub⟩ := h.open
  have HR := Lib.hid hr
  have HB := Lib.hid (Bk.new w 27 #[.int .i64 k, .int .i64 n, .string (B nm), .slice A' l.length c'])
  have HA := Lib.hid (hr.self.alloc (.cells #[.int .i64 k, .int .i64 n, .string (B nm), .slice A' l.length c'] 27))
  have hws : w.heap.size ≤ (w.alloc (.cells #[.int .i64 k, .int .i64 n, .string (B nm), .slice A' l.length c'] 27)).heap.size := by rw [World.size_alloc]; omega
  obtain ⟨W, hW⟩ : ∃ W, w.alloc (.cells #[.int .i64 k, .int .i64 n, .string (B nm), .slice A' l.length c'] 27) = W := ⟨_, rfl⟩
  rw [hW] at HA HB hws
  have hcl : clen (.mk k n nm l) = clens l + 1 := by rw [clen_mk, if_neg h10]
  have HCod := Lib.hid (cod_op (n := n) (nm := nm) (l := l) h9 h10 at_)
  have HLl := Lib.hid (cods_len (fun x hx => fine_mem hf hx) at_)
  have HLt := Lib.hid (fun j => cods_len (l := l.take j) (fun x hx => fine_mem hf (List.mem_of_mem_take hx)) at_)
  have HRow := Lib.hid hrow
  have HSub := Lib.hid hsub
  have HLe := Lib.hid hle
  have HH := Lib.hid H
  have HFl := Lib.hid (fun x hx => fine_mem hf (y := x) hx)
  rw [hcl] at hz ⊢
  have t9 : (k == 9) = false := by simpa using h9
  have t10 : (k == 10) = false := by simpa using h10
  obtain ⟨⟨b0, b1, b2, b3⟩, _⟩ := HB.out.four
  clear hrow hsub h hr hle H hcl hf
  go_enter Tryd.func29, Tryd.ntmps29
  go_wp2_with (fail)
  go_loopw [5, 11] (fun out i wr => ∃ (j : Nat) (A2 : Option Addr) (c2 : Nat), j ≤ l.length ∧ i = .int .i64 (j : Int) ∧ out = .slice A2 (clens (l.take j)) c2 ∧ InsOwn wr W.heap.size (.slice A2 (clens (l.take j)) c2) (cods (l.take j) at_) ∧ Rel W wr) (fun _ i _ => l.length - (RowKit.intOf i).toNat)
  case atStart => exact ⟨0, none, 0, by omega, rfl, by rw [List.take_zero, clens_nil], by rw [List.take_zero, clens_nil, cods_nil]; exact InsOwn.nil _ _, HA.out.self⟩
  case round =>
    obtain ⟨j, A2, c2, hj, rfl, rfl, hown, hRw⟩ := hrel
    have HRw := Lib.hid hRw
    have P := Lib.hid hown
    obtain ⟨⟨d0, d1, d2, d3⟩, _⟩ := (HB.out.rel hRw).four
    by_cases hlt : j < l.length
    · obtain ⟨el, hK, ha⟩ := kidq_of HRow.out HSub.out HLe.out (HA.out.trans hRw) j hlt
      obtain ⟨g, off, rfl⟩ := hK.is
      obtain ⟨k0, k1, k2, k3⟩ := hK.at
      obtain ⟨hct, hcn⟩ := cods_take hlt at_
      have hle2 := clens_take l (j + 1)
      have lj := cod_len d l[j] (HFl.out _ (List.getElem_mem hlt)) (at_ + clens (l.take j))
      have lt0 := HLt.out j
      have hC := rcode_at (HH.out _ (List.getElem_mem hlt)) ha (at_ + clens (l.take j)) (by omega) _ rfl _ rfl ((at_ : Int) + (clens (l.take j) : Int)) (by omega)
      have HCt := Lib.hid hct
      have HCn := Lib.hid hcn
      have hb1 : clens (l.take j) ≤ 100000 := by omega
      have hb2 : clen l[j] ≤ 100000 := by omega
      have q1 : IntKind.i64.wrap ((at_ : Int) + (clens (l.take j) : Int)) = (at_ : Int) + (clens (l.take j) : Int) := IntWalk.i64_in _ (by omega)
      clear hct hcn hle2 hown
      generalize cod l[j] (at_ + clens (l.take j)) = lk at *
      generalize cods (l.take j) at_ = lo at *
      generalize clens (l.take j) = no at *
      generalize clen l[j] = nk at *
      have HC := Lib.hid hC
      have HLj := Lib.hid lj
      have HLo := Lib.hid lt0
      clear hC lj lt0 hK ha hRw
      go_wp2_with (first
        | (go_at_call 29; (with_reducible refine (HC.out _ HRw.out.self).mono ?_); rintro e w1 ⟨A3, c3, rfl, o, h⟩; have P1 := Lib.hid (P.out.rel h); have RW1 := Lib.hid (HRw.out.trans h); have O1 := Lib.hid o; have T1 := Lib.hid (Apt.of P.out o); clear o h)
        | (at_builtin; (refine wpList_plain rfl fun K hK => wp_iapp _ _ rfl (base := W.heap.size) (v := .slice A2 no c2) (os := lo) rfl P1.out (A := A3) (c := c3) (n := nk) (l := lk) rfl HLj.out (own_none O1.out HLj.out.symm) (O1.out.at HLj.out.symm) (by rw [HLj.out]; omega) (by rw [HLo.out]; omega) RW1.out.size fun v2 w2 own g9 b9 => hK _ _ ?_)))
      have R2 := Lib.hid (RW1.out.grown g9 (fun q hq => (P1.out.row.lt q hq).1))
      have O2 := Lib.hid own
      obtain ⟨A4, c4, hv⟩ := InsOwn.slice_of own
      have hll : (lo ++ lk).length = no + nk := by rw [List.length_append, HLo.out, HLj.out]
      rw [hll] at hv
      subst hv
      clear own g9 b9 hll
      go_roundw
      case rel => exact ⟨j + 1, A4, c4, by omega, by go_num, by rw [HCn.out], by rw [HCn.out, HCt.out]; exact O2.out, R2.out⟩
      case measure => simp [RowKit.intOf]; omega
    · obtain rfl : j = l.length := by omega
      rw [List.take_length] at P ⊢
      clear hown hRw
      go_upto_region 19 with (fail)
      refine wp_region_held_drew (S := (fun w' => Rel W w')) (by kernel_rfl) HRw.out.drew (fun hHeld => ?_)
      refine held_take (i := 0) (v := ?_) (some 130) rfl rfl (by kernel_rfl) (by kernel_rfl) (by kernel_rfl) (fun _ _ _ h => h) (Or.inl ⟨by rfl, ?_⟩) hHeld ?_
      rotate_left 1
      · intro w' (h : Rel W w'); obtain ⟨⟨z0, z1, z2, z3⟩, _⟩ := (HB.out.rel h).four; go_simp; try with_reducible rfl
      try simp only [Act.put, List.setIfInBounds_toArray, List.set_cons_zero, List.set_cons_succ]
      refine held_take (i := 1) (v := ?_) (some 131) rfl rfl (by kernel_rfl) (by kernel_rfl) (by kernel_rfl) (fun _ _ _ h => h) (Or.inl ⟨by rfl, ?_⟩) hHeld ?_
      rotate_left 1
      · intro w' (h : Rel W w'); obtain ⟨⟨z0, z1, z2, z3⟩, _⟩ := (HB.out.rel h).four; go_simp; try with_reducible rfl
      try simp only [Act.put, List.setIfInBounds_toArray, List.set_cons_zero, List.set_cons_succ]
      refine held_take (i := 2) (v := ?_) (some 132) rfl rfl (by kernel_rfl) (by kernel_rfl) (by kernel_rfl) (fun _ _ _ h => h) (Or.inl ⟨by rfl, ?_⟩) hHeld ?_
      rotate_left 1
      · intro w' (h : Rel W w'); obtain ⟨⟨z0, z1, z2, z3⟩, _⟩ := (HB.out.rel h).four; go_simp; try with_reducible rfl
      try simp only [Act.put, List.setIfInBounds_toArray, List.set_cons_zero, List.set_cons_succ]
      refine held_take (i := 4) (v := ?_) (some 134) rfl rfl (by kernel_rfl) (by kernel_rfl) (by kernel_rfl) (fun _ _ _ h => h) (Or.inl ⟨by rfl, ?_⟩) hHeld ?_
      rotate_left 1
      · intro w' (h : Rel W w'); obtain ⟨⟨z0, z1, z2, z3⟩, _⟩ := (HB.out.rel h).four; go_simp; try with_reducible rfl
      try simp only [Act.put, List.setIfInBounds_toArray, List.set_cons_zero, List.set_cons_succ]
      refine held_take (i := 5) (v := ?_) (some 135) rfl rfl (by kernel_rfl) (by kernel_rfl) (by kernel_rfl) (fun _ _ _ h => h) (Or.inl ⟨by rfl, ?_⟩) hHeld ?_
      rotate_left 1
      · intro w' (h : Rel W w'); obtain ⟨⟨z0, z1, z2, z3⟩, _⟩ := (HB.out.rel h).four; go_simp; try with_reducible rfl
      try simp only [Act.put, List.setIfInBounds_toArray, List.set_cons_zero, List.set_cons_succ]
      refine held_take (i := 6) (v := ?_) (some 136) rfl rfl (by kernel_rfl) (by kernel_rfl) (by kernel_rfl) (fun _ _ _ h => h) (Or.inl ⟨by rfl, ?_⟩) hHeld ?_
      rotate_left 1
      · intro w' (h : Rel W w'); obtain ⟨⟨z0, z1, z2, z3⟩, _⟩ := (HB.out.rel h).four; go_simp; try with_reducible rfl
      try simp only [Act.put, List.setIfInBounds_toArray, List.set_cons_zero, List.set_cons_succ]
      refine held_take (i := 7) (v := ?_) (some 137) rfl rfl (by kernel_rfl) (by kernel_rfl) (by kernel_rfl) (fun _ _ _ h => h) (Or.inl ⟨by rfl, ?_⟩) hHeld ?_
      rotate_left 1
      · intro w' (h : Rel W w'); obtain ⟨⟨z0, z1, z2, z3⟩, _⟩ := (HB.out.rel h).four; go_simp; try with_reducible rfl
      try simp only [Act.put, List.setIfInBounds_toArray, List.set_cons_zero, List.set_cons_succ]
      refine held_one (j := 3) (by kernel_rfl) rfl (fun K hK => ?_)
      try simp only [List.getElem_toArray, List.getElem_cons_succ, List.getElem_cons_zero]
      rw [if_pos (by rfl)]
      go_simp
      go_at_call 48
      (with_reducible refine (rop10_any k hkl _ _ hHeld.self).mono ?_)
      rintro e w5 ⟨rfl, h5⟩
      have O5 := Lib.hid (P.out.rel (HRw.out.self.drew.trans h5))
      refine hK.out _ _ (hHeld.trans h5) (fun hHeld => ?_)
      clear hK K
      try simp only [Act.put, List.setIfInBounds_toArray, List.set_cons_zero, List.set_cons_succ]
      refine held_take (i := 8) (v := ?_) (some 138) rfl rfl (by kernel_rfl) (by kernel_rfl) (by kernel_rfl) (fun _ _ _ h => h) (Or.inl ⟨by rfl, ?_⟩) hHeld ?_
      rotate_left 1
      · intro w' (h : Rel W w'); obtain ⟨⟨z0, z1, z2, z3⟩, _⟩ := (HB.out.rel h).four; go_simp; try with_reducible rfl
      try simp only [Act.put, List.setIfInBounds_toArray, List.set_cons_zero, List.set_cons_succ]
      refine held_one (j := 9) (by kernel_rfl) rfl (fun K hK => ?_)
      try simp only [List.getElem_toArray, List.getElem_cons_succ, List.getElem_cons_zero]
      rw [if_pos (by rfl)]
      go_simp
      refine hK.out _ _ (hHeld.alloc _) (fun hHeld => ?_)
      clear hK K
      try simp only [Act.put, List.setIfInBounds_toArray, List.set_cons_zero, List.set_cons_succ]
      refine held_one (j := 10) (by kernel_rfl) rfl (fun K hK => ?_)
      try simp only [List.getElem_toArray, List.getElem_cons_succ, List.getElem_cons_zero]
      rw [if_pos (by rfl)]
      refine wp_iapp _ _ rfl (base := W.heap.size) (v := .slice A2 (clens l) c2) (os := cods l at_) rfl (O5.out.row.alloc _) (A := some ⟨w5.heap.size, 0, none⟩) (c := 1) (n := 1) (l := [(opK k, n, nm)]) rfl rfl (fun e => by cases e) (InsAt.of_bk (l := [(opK k, n, nm)]) (Bk.new w5 44 #[.int .i64 (opK k), .int .i64 n, .string (B nm)])) (by simp) (by rw [HLl.out]; omega) hHeld.size ?_
      intro v9 w9 own9 g9 b9
      refine hK.out _ _ (hHeld.grown g9 (fun q hq => (O5.out.row.lt q hq).1)) (fun hHeld => ?_)
      clear hK K
      try simp only [Act.put, List.setIfInBounds_toArray, List.set_cons_zero, List.set_cons_succ]
      refine held_take (i := 11) (v := ?_) (some 4) rfl rfl (by kernel_rfl) (by kernel_rfl) (by kernel_rfl) (fun _ _ _ h => h) (Or.inl ⟨by rfl, ?_⟩) hHeld ?_
      rotate_left 1
      · intro w' (h : Rel W w'); obtain ⟨⟨z0, z1, z2, z3⟩, _⟩ := (HB.out.rel h).four; go_simp; try with_reducible rfl
      try simp only [Act.put, List.setIfInBounds_toArray, List.set_cons_zero, List.set_cons_succ]
      refine wpAnyH_done (by kernel_rfl) ?_ _
      go_wp2_with (fail)
      go_ret
      have hl := Lib.hid (show (cods l at_ ++ [(opK k, n, nm)]).length = clens l + 1 by rw [List.length_append, HLl.out]; rfl)
      obtain ⟨A9, c9, hv⟩ := InsOwn.slice_of own9
      rw [hl.out] at hv
      subst hv
      rw [HCod.out]
      exact ⟨A9, c9, rfl, InsOwn.base own9 hws, HR.out.trans (HA.out.trans hHeld)⟩
/-- Any expression's code. -/
theorem rcode_all : ∀ d x, fine d x = true → RCodeC x := fine_ind (fun d k n nm l h h9 h10 ih => rcode_op d k n nm l h h9 h10 ih) (fun d n nm a b h ha hb => rcode_else d n nm a b h ha hb) (fun d n nm c a b h hc ha hb => rcode_if d n nm c a b h hc ha hb)
end Go.Proofs.YtldopbkjchgcnaaDoor
