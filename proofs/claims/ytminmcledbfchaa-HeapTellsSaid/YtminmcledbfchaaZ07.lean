/- Layer 16, the landed code: Change; Pop; Appends of layer 15: a slice onto a row of the call's own, whatever comes in (as in layer 13). -/
import Derived.Test.YtminmcledbfchaaZL
import Derived.Test.YtminmcledbfchaaZ00
import Derived.Test.YtminmcledbfchaaZ01
import Derived.Test.YtminmcledbfchaaZ04
import Derived.Test.YtminmcledbfchaaZ05
import Derived.Test.YtminmcledbfchaaZ06
namespace Go.Proofs.Ytminmcledbfchaa
open Go.RowKit Go.Lib
set_option linter.unusedVariables false
set_option linter.unusedSimpArgs false
theorem Ke.put_new {S : Nat → Prop} {w w' : World} (h : Ke S w w') {p : Addr} (hp : w.heap.size ≤ p.block) (u : Value) : Ke S w (w'.setCell p u) :=
  ⟨h.os, h.tape, h.output, by simpa using h.size, fun k hk hn => (Below.heap_setCell w' p u k (fun e => by rw [e] at hk; exact Nat.not_le_of_lt hk hp)).trans (h.block k hk hn)⟩
theorem LHp.put_new {w0 w : World} {v : Value} {S S0 : Nat → Prop} {m : Int} {L : List It} (h : LHp w v S m L) (hS : ∀ k, S k → k < w0.heap.size) {p : Addr} (hp : w0.heap.size ≤ p.block) (u : Value) : LHp (w.setCell p u) v S m L :=
  h.keep (by simp) (fun k hk => Below.heap_setCell w p u k (fun e => by have := hS k hk; rw [e] at this; exact Nat.not_le_of_lt this hp))
set_option maxRecDepth 100000 in
set_option maxHeartbeats 4000000 in
theorem lchange16 {w : World} {v : Value} {S : Nat → Prop} {m : Int} {L : List It} (k p : Int) (hr : Rel w w) (h : LHp w v S m L) (hk : i64 k) (hp0 : i64 p) :
    Calls Try.prog 17 #[v, .int .i64 k, .int .i64 p] w fun e w' => e = .returned (.bool (hasH L k)) ∧ ∃ S', LHp w' v S' m (chgH L k p) ∧ St S S' w w' := by
  have hwf := i64_wf hk
  have HE := Lib.hid h
  rcases h with ⟨rfl, _, _, rfl⟩ | ⟨g, b, u, l, rfl, rfl, hb, ho, hh0, m1, m2, m3⟩
  · have HP := Lib.hid (place_nil w hr k)
    clear hr hk hp0
    show Calls _ _ _ _ fun e w' => e = .returned (.bool false) ∧ _
    go_enter Try.func17, Try.ntmps17
    go_wp2_with (go_at_call 30; (with_reducible refine HP.out.mono ?_); rintro e w1 ⟨rfl, r1⟩; have R1 := Lib.hid r1; clear r1)
    go_ret
    exact ⟨rfl, S, HE.out.rel R1.out, St.of_rel R1.out⟩
  · have HP := place_any hb hr k hwf
    cases hh : hasH L k with
    | false =>
      rw [no_place ho hh] at HP
      have HP := Lib.hid (show Calls Try.prog 30 #[.pointer (some ⟨g, 0, none⟩), .int .i64 k] w fun e w' => e = .returned (.tuple #[.int .i64 0, .bool false]) ∧ Rel w w' from HP)
      have HL := Lib.hid (show chgH L k p = L by
        unfold chgH
        conv => rhs; rw [← List.map_id L]
        refine List.map_congr_left fun x hx => ?_
        rw [if_neg]
        · rfl
        · intro e
          have : hasH L k = true := has_iff.2 ⟨x, hx, e⟩
          rw [hh] at this; cases this)
      clear hr hk hb ho hh hh0 m3 hp0
      go_enter Try.func17, Try.ntmps17
      go_wp2_with (go_at_call 30; (with_reducible refine HP.out.mono ?_); rintro e w1 ⟨rfl, r1⟩; have R1 := Lib.hid r1; clear r1)
      go_ret
      exact ⟨rfl, _, by rw [HL.out]; exact HE.out.rel R1.out, St.of_rel R1.out⟩
    | true =>
      obtain ⟨i, y, hi, hx, hp⟩ := has_place ho hh
      rw [hp] at HP
      have HP := Lib.hid (show Calls Try.prog 30 #[.pointer (some ⟨g, 0, none⟩), .int .i64 k] w fun e w' => e = .returned (.tuple #[.int .i64 (i : Int), .bool true]) ∧ Rel w w' from HP)
      rcases hb.hm.form with ⟨_, e⟩ | ⟨q, c, rfl, hlc, hc, _⟩
      · subst e; simp at hi
      obtain ⟨n, hn⟩ : ∃ n, l.length = n := ⟨_, rfl⟩
      have HI := Lib.hid hi
      rw [hn] at hb hlc hi ⊢
      have HB := Lib.hid hb
      have HR := Lib.hid hr
      have HO := Lib.hid (rowed_set ho HI.out k p (by rw [hx]))
      have HD := Lib.hid (set_any hh0 HI.out (k, p))
      have HN := Lib.hid hn
      have HX := Lib.hid hx
      have HK := Lib.hid (show (atI l i).1 = k by rw [hx])
      have HF := Lib.hid (⟨hk, hp0⟩ : i64 k ∧ i64 p)
      have hi' : (i : Int) < (n : Int) := by omega
      have M3 := Lib.hid m3
      clear hr hk hb ho hh hx hp hh0 m3 hp0 hn
      go_enter Try.func17, Try.ntmps17
      go_upto_region 4 with (go_at_call 30; (with_reducible refine HP.out.mono ?_); rintro e w1 ⟨rfl, r1⟩; have R1 := Lib.hid r1; have HM := Lib.hid (HB.out.hm.rel r1); obtain ⟨⟨k0, k1, k2⟩, _⟩ := HM.out.box.three; obtain ⟨z0, z1, z2, z3⟩ := HM.out.at HI.out HX.out; clear r1)
      obtain ⟨HM2, HK2⟩ := HM.out.put2 (p := p) HI.out HN.out HK.out
      obtain ⟨W, hW⟩ : ∃ W, w1.setCell ⟨q, i * 2 + 1, none⟩ (.int .i64 p) = W := ⟨_, rfl⟩
      rw [hW] at HM2 HK2
      try rw [hW]
      clear hW k0 k1 k2 z0 z1 z2 z3
      have HB2 := Lib.hid (HM2.done (pos_set HI.out _ HK.out.symm).symm (by rw [List.length_set]) HO.out.dst (fun x hx => by
        rcases List.mem_or_eq_of_mem_set hx with h | h
        · exact HB.out.fit x h
        · subst h; exact HF.out) (by rw [List.length_set]; exact HB.out.cap))
      have HK2 := Lib.hid ((Ke.of_rel R1.out).on HK2)
      have HS := Lib.hid (settle_any HB2.out (HK2.out.rel_to HR.out) HO.out (i := i) (by rw [List.length_set]; exact HI.out) HD.out)
      clear HM2 HM
      go_wp2_with (go_at_call 34; (with_reducible refine HS.out.mono ?_); rintro e w2 ⟨rfl, l2, a1, a2, a3, a4⟩; have A1 := Lib.hid a1; have A2 := Lib.hid a2; have A3 := Lib.hid a3; have A4 := Lib.hid a4; clear a1 a2 a3 a4)
      go_ret
      exact ⟨rfl, _, .inr ⟨g, b, _, l2, rfl, rfl, A1.out, A2.out, A3.out, m1, m2, by rw [chg_len]; exact M3.out⟩, Gr.refl _ _, HK2.out.on A4.out⟩
set_option maxRecDepth 100000 in
set_option maxHeartbeats 4000000 in
theorem lpop_none {w : World} {p : Option Addr} {S : Nat → Prop} {m : Int} {L : List It} (hr : Rel w w) (h : LHp w (.pointer p) S m L) (HT : Hid (∀ w1, Rel w w1 → Calls Try.prog 23 #[.pointer p] w1 fun e w' => e = .returned (.tuple #[.agg #[.int .i64 0, .int .i64 0], .bool false]) ∧ Rel w1 w')) :
    Calls Try.prog 15 #[.pointer p] w fun e w' => e = .returned (.tuple #[.agg #[.int .i64 0, .int .i64 0], .bool false]) ∧ LHp w' (.pointer p) S m L ∧ Ke S w w' := by
  have HH := Lib.hid h
  have AL := Lib.hid (hr.alloc (.cells #[.int .i64 0, .int .i64 0] 36))
  have BX := Lib.hid (Bk.new w 36 #[.int .i64 0, .int .i64 0])
  clear hr h
  go_enter Try.func15, Try.ntmps15
  go_upto_region 1 with (fail)
  obtain ⟨w1, hw1⟩ : ∃ W, w.alloc (.cells #[.int .i64 0, .int .i64 0] 36) = W := ⟨_, rfl⟩
  obtain ⟨gx, hgx⟩ : ∃ q, w.heap.size = q := ⟨_, rfl⟩
  rw [hw1] at AL BX
  rw [hgx] at BX
  try rw [hw1]
  try rw [hgx]
  have Hgx := Lib.hid (show w.heap.size ≤ gx by rw [hgx]; exact Nat.le_refl _)
  clear hw1 hgx
  go_upto_region 2 with (go_at_call 23; (with_reducible refine (HT.out _ AL.out).mono ?_); rintro e w2 ⟨rfl, r2⟩; have R2 := Lib.hid (AL.out.trans r2); have BX2 := Lib.hid (BX.out.rel r2); clear r2)
  have BY := Lib.hid (Bk.new w2 36 #[.int .i64 0, .int .i64 0])
  have Hne := Lib.hid (Nat.ne_of_lt BX2.out.lt)
  have BX3 := Lib.hid (BX2.out.alloc (.cells #[.int .i64 0, .int .i64 0] 36))
  have R3 := Lib.hid (R2.out.alloc (.cells #[.int .i64 0, .int .i64 0] 36))
  obtain ⟨gy, hgy⟩ : ∃ q, w2.heap.size = q := ⟨_, rfl⟩
  have Hgy := Lib.hid (show w.heap.size ≤ gy by rw [← hgy]; exact R2.out.size)
  obtain ⟨W, hW⟩ : ∃ W, w2.alloc (.cells #[.int .i64 0, .int .i64 0] 36) = W := ⟨_, rfl⟩
  rw [hW] at BY BX3 R3
  try rw [hW]
  rw [hgy] at BY Hne
  try rw [hgy]
  clear hW hgy BX2 BX
  clear AL
  obtain ⟨⟨x0, x1⟩, ⟨c0, c1⟩⟩ := BX3.out.two
  obtain ⟨⟨y0, y1⟩, ⟨d0, d1⟩⟩ := BY.out.two
  go_wp2_with (fail)
  have RX := Lib.hid (BX3.out.put (.int .i64 0) (.int .i64 0))
  obtain ⟨r0, r1⟩ := RX.out.two.1
  exact bodyPost_ret (v := .tuple #[.agg #[.int .i64 0, .int .i64 0], .bool false]) (by simp [results, Try.results15, go_sem, r0, r1]) rfl ⟨rfl, HH.out.rel ((R3.out.setCell (p := ⟨gx, 0, none⟩) Hgx.out _).setCell (p := ⟨gx, 1, none⟩) Hgx.out _), Ke.of_rel ((R3.out.setCell (p := ⟨gx, 0, none⟩) Hgx.out _).setCell (p := ⟨gx, 1, none⟩) Hgx.out _)⟩
set_option maxRecDepth 100000 in
set_option maxHeartbeats 4000000 in
theorem lpop_some {w : World} {g b : Nat} {u : Value} {m : Int} {l L : List It} (hr : Rel w w) (hb : Hb w g b m u l) (ho : Rowed l L) (hh : OrdH l) (hl : 0 < l.length) (x y : Int) (hx : atI l 0 = (x, y)) (HT : Hid (∀ w1, Rel w w1 → Calls Try.prog 23 #[.pointer (some ⟨g, 0, none⟩)] w1 fun e w' => e = .returned (.tuple #[.agg #[.int .i64 x, .int .i64 y], .bool true]) ∧ Rel w1 w')) :
    Calls Try.prog 15 #[.pointer (some ⟨g, 0, none⟩)] w fun e w' => e = .returned (.tuple #[.agg #[.int .i64 x, .int .i64 y], .bool true]) ∧ ∃ u' l', Hb w' g b m u' l' ∧ Rowed l' (remH L x) ∧ OrdH l' ∧ u'.ownBlock = u.ownBlock ∧ Ke (SoF g b u) w w' := by
  have HB := Lib.hid hb
  have HO := Lib.hid ho
  have HD := Lib.hid hh
  have HL := Lib.hid hl
  have HX := Lib.hid hx
  clear hb ho hh hl hx
  have AL := Lib.hid (hr.alloc (.cells #[.int .i64 0, .int .i64 0] 36))
  have BX := Lib.hid (Bk.new w 36 #[.int .i64 0, .int .i64 0])
  clear hr
  go_enter Try.func15, Try.ntmps15
  go_upto_region 1 with (fail)
  obtain ⟨w1, hw1⟩ : ∃ W, w.alloc (.cells #[.int .i64 0, .int .i64 0] 36) = W := ⟨_, rfl⟩
  obtain ⟨gx, hgx⟩ : ∃ q, w.heap.size = q := ⟨_, rfl⟩
  rw [hw1] at AL BX
  rw [hgx] at BX
  try rw [hw1]
  try rw [hgx]
  have Hgx := Lib.hid (show w.heap.size ≤ gx by rw [hgx]; exact Nat.le_refl _)
  clear hw1 hgx
  go_upto_region 2 with (go_at_call 23; (with_reducible refine (HT.out _ AL.out).mono ?_); rintro e w2 ⟨rfl, r2⟩; have R2 := Lib.hid (AL.out.trans r2); have BX2 := Lib.hid (BX.out.rel r2); clear r2)
  have BY := Lib.hid (Bk.new w2 36 #[.int .i64 x, .int .i64 y])
  have Hne := Lib.hid (Nat.ne_of_lt BX2.out.lt)
  have BX3 := Lib.hid (BX2.out.alloc (.cells #[.int .i64 x, .int .i64 y] 36))
  have R3 := Lib.hid (R2.out.alloc (.cells #[.int .i64 x, .int .i64 y] 36))
  obtain ⟨gy, hgy⟩ : ∃ q, w2.heap.size = q := ⟨_, rfl⟩
  have Hgy := Lib.hid (show w.heap.size ≤ gy by rw [← hgy]; exact R2.out.size)
  obtain ⟨W, hW⟩ : ∃ W, w2.alloc (.cells #[.int .i64 x, .int .i64 y] 36) = W := ⟨_, rfl⟩
  rw [hW] at BY BX3 R3
  try rw [hW]
  rw [hgy] at BY Hne
  try rw [hgy]
  clear hW hgy BX2 BX
  clear AL
  have HB3 := Lib.hid (HB.out.rel R3.out)
  have HSx := Lib.hid (show ¬ SoF g b u gx from fun e => Nat.not_le_of_lt (HB.out.lt gx e) Hgx.out)
  have HSy := Lib.hid (show ¬ SoF g b u gy from fun e => Nat.not_le_of_lt (HB.out.lt gy e) Hgy.out)
  have htk := ltake16_any HB3.out R3.out.self HO.out HD.out HL.out
  rw [HX.out] at htk
  have HTk := Lib.hid (show Calls Try.prog 33 #[.pointer (some ⟨g, 0, none⟩), .int .i64 0] W fun e w' => e = .returned (.tuple #[]) ∧ ∃ v' l', Hb w' g b m v' l' ∧ Rowed l' (remH L x) ∧ OrdH l' ∧ v'.ownBlock = u.ownBlock ∧ Ke (SoF g b u) W w' from htk)
  clear htk
  go_wp2_with (go_at_call 33; (with_reducible refine HTk.out.mono ?_); rintro e w4 ⟨rfl, u4, l4, a1, a2, a3, a4, a5⟩; have A1 := Lib.hid a1; have A2 := Lib.hid a2; have A3 := Lib.hid a3; have A4 := Lib.hid a4; have A5 := Lib.hid a5; have BX4 := Lib.hid (a5.bk BX3.out HSx.out); have BY4 := Lib.hid (a5.bk BY.out HSy.out); obtain ⟨⟨x0, x1⟩, ⟨c0, c1⟩⟩ := BX4.out.two; obtain ⟨⟨y0, y1⟩, ⟨d0, d1⟩⟩ := BY4.out.two; clear a1 a2 a3 a4 a5)
  have RX := Lib.hid (BX4.out.put (.int .i64 x) (.int .i64 y))
  obtain ⟨r0, r1⟩ := RX.out.two.1
  have hS4 : SoF g b u4 = SoF g b u := SoF_eq A4.out
  have hz : ∀ k, SoF g b u4 k → k < w.heap.size := fun k hk => HB.out.lt k (by rw [← hS4]; exact hk)
  refine bodyPost_ret (v := .tuple #[.agg #[.int .i64 x, .int .i64 y], .bool true]) (by simp [results, Try.results15, go_sem, r0, r1]) rfl ⟨rfl, u4, l4, ?_, A2.out, A3.out, A4.out, (((Ke.of_rel R3.out).on A5.out).put_new (p := ⟨gx, 0, none⟩) Hgx.out _).put_new (p := ⟨gx, 1, none⟩) Hgx.out _⟩
  have hne : ∀ k, SoF g b u4 k → k ≠ gx := fun k hk e => by have := hz k hk; rw [e] at this; exact Nat.not_le_of_lt this Hgx.out
  exact (A1.out.keep (w' := w4.setCell ⟨gx, 0, none⟩ (.int .i64 x)) (by simp) (fun k hk => Below.heap_setCell w4 ⟨gx, 0, none⟩ _ k (hne k hk))).keep (by simp) (fun k hk => Below.heap_setCell _ ⟨gx, 1, none⟩ _ k (hne k hk))
theorem lpop16 {w : World} {v : Value} {S : Nat → Prop} {m : Int} {L : List It} (hr : Rel w w) (h : LHp w v S m L) :
    Calls Try.prog 15 #[v] w fun e w' => e = .returned (.tuple #[ItV (itH (topH L)), .bool (topH L).isSome]) ∧ ∃ S', LHp w' v S' m (popH L) ∧ St S S' w w' := by
  have hT : ∀ w1, Rel w w1 → Calls Try.prog 23 #[v] w1 fun e w' => e = .returned (.tuple #[ItV (itH (topH L)), .bool (topH L).isSome]) ∧ Rel w1 w' := fun w1 r => ltop16 r.self (h.rel r)
  have hp : ∃ p, v = .pointer p := by
    rcases h with ⟨rfl, _⟩ | ⟨g, b, u, l, rfl, _⟩
    · exact ⟨_, rfl⟩
    · exact ⟨_, rfl⟩
  by_cases hL : L = []
  · subst hL
    obtain ⟨p, rfl⟩ := hp
    exact (lpop_none hr h (Lib.hid hT)).mono fun e w' q => ⟨q.1, S, q.2.1, Gr.refl _ _, q.2.2⟩
  · rcases h with ⟨_, _, _, e⟩ | ⟨g, b, u, l, rfl, rfl, hb, ho, hh, m1, m2, m3⟩
    · exact absurd e hL
    · have hl0 : 0 < l.length := by
        rw [ho.len]
        exact List.length_pos_iff.2 hL
      have ht := row_top ho hh hl0
      rw [ht] at hT ⊢
      have hpop : popH L = remH L (atI l 0).1 := by unfold popH; rw [ht]
      have hlen := rem_len ho.srt ((ho.mem _).1 (at_mem hl0))
      rw [hpop]
      refine (lpop_some hr hb ho hh hl0 (atI l 0).1 (atI l 0).2 rfl (Lib.hid hT)).mono ?_
      rintro e w' ⟨he, u', l', a1, a2, a3, a4, a5⟩
      exact ⟨he, SoF g b u', .inr ⟨g, b, u', l', rfl, rfl, a1, a2, a3, m1, m2, by omega⟩, St.of_ke a5 (SoF_eq a4)⟩
end Go.Proofs.Ytminmcledbfchaa

namespace Go.Proofs.Ytminmcledbfchaa
open Go.RowKit Go.Lib
set_option linter.unusedVariables false
set_option linter.unusedSimpArgs false
section
variable {α : Type} {cl : α → List Value} {k : Nat}
theorem row_gone15 {w : World} {b : List α} (h : RowAt cl k w none b) : b = [] := by
  cases b with
  | nil => rfl
  | cons x r => obtain ⟨g, off, e, _⟩ := h 0 (by simp); cases e
theorem row_news15 (hk : ∀ x, (cl x).length = k) {w : World} {p : Addr} {b : List α} (h : RowAt cl k w (some p) b) : ∀ (j : Nat) (u : Value), (b.flatMap cl)[j]? = some u → w.cell? (p.add j) = some u := fun j u hu => by
  have hj : j < b.length * k := by
    rcases Nat.lt_or_ge j (b.length * k) with h' | h'
    · exact h'
    · rw [List.getElem?_eq_none (by rw [flat_len hk]; exact h')] at hu; cases hu
  have hk0 : 0 < k := by
    rcases Nat.eq_zero_or_pos k with h0 | h0
    · rw [h0, Nat.mul_zero] at hj; omega
    · exact h0
  have e : j = j / k * k + j % k := (Nat.div_add_mod' j k).symm
  have h1 : j / k < b.length := Nat.div_lt_of_lt_mul (by rw [Nat.mul_comm]; exact hj)
  have h2 : j % k < k := Nat.mod_lt _ hk0
  obtain ⟨g', off', e1, _, hc⟩ := h (j / k) h1
  injection e1 with e1
  subst e1
  rw [addr_at, e, ← Nat.add_assoc, hc (j % k) h2]
  rw [e, flat_at hk b (j / k) h1 (j % k) h2] at hu
  exact hu
theorem flat_one15 (h1 : ∀ x, ∀ u ∈ cl x, u.oneCell' = true) (b : List α) : ∀ u ∈ b.flatMap cl, u.oneCell' = true := fun u hu => by
  obtain ⟨x, _, hx⟩ := List.mem_flatMap.1 hu
  exact h1 x u hx
/-- A slice, whatever it is, appended onto a row of the call's own. -/
theorem wpList_onto15 {w : World} {ops : Array Oper} {rest : List Oper} {o : Oper} {a : Act} {Q : Exit → Act → World → Prop} (T LT : TypeId) (i0 : TypeInfo) (z : Value) (bytes : Nat) (hu : Try.prog.underlying LT = some (.slice T)) (hi0 : Try.prog.info? T = some i0) (hz0 : i0.zero = some z) (hz1 : i0.size = k) (hz2 : i0.bytes = bytes) (hzs : z.cells.size = k) (hk0 : 0 < k)
    (hk : ∀ x, (cl x).length = k) (h1 : ∀ x, ∀ u ∈ cl x, u.oneCell' = true) (hgd : o.guard = none) (s x : Operand)
    (ho : o.op = .call { callee := .builtin .append, args := #[s, x], argTypes := #[LT, LT] }) (base : Nat) (v : Value) (xs : List α) (hs : a.eval s = v) (hown : RowOwn T cl k w base v xs) (A : Option Addr) (n c : Nat) (b : List α) (hn : b.length = n) (hx : a.eval x = .slice A n c)
    (hat : RowAt cl k w A b) (hA : A = none → c = 0) (hl : (xs.length + b.length) * bytes ≤ 140737488355328) (hm : xs.length + b.length ≤ maxLen) (hbase : base ≤ w.heap.size)
    (h : ∀ v' w', RowOwn T cl k w' base v' (xs ++ b) → w.grownBy w' v.ownBlock → wpList Try.prog ops Q rest (a.put o.dst v') w') : wpList Try.prog ops Q (o :: rest) a w := by
  subst hn
  refine wpList_plain hgd fun K hK => ?_
  cases A with
  | none =>
    obtain rfl := row_gone15 hat
    obtain rfl := hA rfl
    have hrun := run_append_owned_none (P := Try.prog) (w := w) base LT o.type T i0 k hu hi0 v xs.length (xs.flatMap cl) hown
    have hx' : a.eval x = .slice none 0 0 := hx
    unfold Oper.wp
    simp [execOp, ho, resolve, invoke, builtin, hs, hx', hrun, Result.andThen]
    exact hK _ _ (h _ _ (by rw [List.append_nil]; exact hown) ⟨rfl, rfl, rfl, Nat.le_refl _, fun _ _ _ => rfl⟩)
  | some p =>
    obtain ⟨v', w', hrun, r1, r2, _⟩ := run_append_own (P := Try.prog) w base LT o.type T i0 z k bytes hu hi0 hz0 hz1 hz2 hzs hk0 v xs.length (xs.flatMap cl) hown p b.length c (b.flatMap cl) (flat_len hk b) (row_news15 hk hat) (flat_one15 h1 b) hm hl hbase
    unfold Oper.wp
    simp [execOp, ho, resolve, invoke, builtin, hs, hx, hrun, Result.andThen]
    refine hK _ _ (h _ _ ?_ r2)
    unfold RowOwn
    rw [List.length_append, List.flatMap_append]
    exact r1
end
end Go.Proofs.Ytminmcledbfchaa
