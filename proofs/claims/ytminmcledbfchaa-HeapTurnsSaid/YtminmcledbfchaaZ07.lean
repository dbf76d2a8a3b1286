/- Layer 16, the landed code: Change; Pop; Appends of layer 15: a slice onto a row of the call's own, whatever comes in (as in layer 13); Layer 16, the landed code: Push; DERIVED: THE SHELF's CONTRACTS AT THIS DUMP, IN PLAIN WORDS (tools/lay-plain.mjs out of 'TryShelf.lean', which tools/lay-shelf.mjs wrote): THE SAME DECLARATIONS UNDER THE SAME NAMES: 'import', 'namespace', 'open', 'def', 'theorem' AND NOTHING ELSE: no command of the shelf's: FOR A HAND-IN. Each laying: the table of numbers ('.._ren') and one theorem, a field a fact of the dump's own or the kernel's comparison; each contract: ONE APPLICATION. -/
import Derived.Test.YtminmcledbfchaaZL
import Derived.Test.YtminmcledbfchaaZ00
import Derived.Test.YtminmcledbfchaaZ01
import Derived.Test.YtminmcledbfchaaZ04
import Derived.Test.YtminmcledbfchaaZ05
import Derived.Test.YtminmcledbfchaaZ06
namespace Go.Proofs.Ytminmcledbfchaa
open Go.RowKit Go.Lib
set_option linter.unusedVariables false
set_option linter.unusedSimpArgs false
theorem Ke.put_new {S : Nat → Prop} {w w' : World} (h : Ke S w w') {p : Addr} (hp : w.heap.size ≤ p.block) (u : Value) : Ke S w (w'.setCell p u) :=
  ⟨h.os, h.tape, h.output, by simpa using h.size, fun k hk hn => (Below.heap_setCell w' p u k (fun e => by rw [e] at hk; exact Nat.not_le_of_lt hk hp)).trans (h.block k hk hn)⟩
theorem LHp.put_new {w0 w : World} {v : Value} {S S0 : Nat → Prop} {m : Int} {L : List It} (h : LHp w v S m L) (hS : ∀ k, S k → k < w0.heap.size) {p : Addr} (hp : w0.heap.size ≤ p.block) (u : Value) : LHp (w.setCell p u) v S m L :=
  h.keep (by simp) (fun k hk => Below.heap_setCell w p u k (fun e => by have := hS k hk; rw [e] at this; exact Nat.not_le_of_lt this hp))
set_option maxRecDepth 100000 in
set_option maxHeartbeats 4000000 in
theorem lchange16 {w : World} {v : Value} {S : Nat → Prop} {m : Int} {L : List It} (k p : Int) (hr : Rel w w) (h : LHp w v S m L) (hk : i64 k) (hp0 : i64 p) :
    Calls Try.prog 17 #[v, .int .i64 k, .int .i64 p] w fun e w' => e = .returned (.bool (hasH L k)) ∧ ∃ S', LHp w' v S' m (chgH L k p) ∧ St S S' w w' := by
  have hwf := i64_wf hk
  have HE := Lib.hid h
  rcases h with ⟨rfl, _, _, rfl⟩ | ⟨g, b, u, l, rfl, rfl, hb, ho, hh0, m1, m2, m3⟩
  · have HP := Lib.hid (place_nil w hr k)
    clear hr hk hp0
    show Calls _ _ _ _ fun e w' => e = .returned (.bool false) ∧ _
    go_enter Try.func17, Try.ntmps17
    go_wp2_with (go_at_call 30; (with_reducible refine HP.out.mono ?_); rintro e w1 ⟨rfl, r1⟩; have R1 := Lib.hid r1; clear r1)
    go_ret
    exact ⟨rfl, S, HE.out.rel R1.out, St.of_rel R1.out⟩
  · have HP := place_any hb hr k hwf
    cases hh : hasH L k with
    | false =>
      rw [no_place ho hh] at HP
      have HP := Lib.hid (show Calls Try.prog 30 #[.pointer (some ⟨g, 0, none⟩), .int .i64 k] w fun e w' => e = .returned (.tuple #[.int .i64 0, .bool false]) ∧ Rel w w' from HP)
      have HL := Lib.hid (show chgH L k p = L by
        unfold chgH
        conv => rhs; rw [← List.map_id L]
        refine List.map_congr_left fun x hx => ?_
        rw [if_neg]
        · rfl
        · intro e
          have : hasH L k = true := has_iff.2 ⟨x, hx, e⟩
          rw [hh] at this; cases this)
      clear hr hk hb ho hh hh0 m3 hp0
      go_enter Try.func17, Try.ntmps17
      go_wp2_with (go_at_call 30; (with_reducible refine HP.out.mono ?_); rintro e w1 ⟨rfl, r1⟩; have R1 := Lib.hid r1; clear r1)
      go_ret
      exact ⟨rfl, _, by rw [HL.out]; exact HE.out.rel R1.out, St.of_rel R1.out⟩
    | true =>
      obtain ⟨i, y, hi, hx, hp⟩ := has_place ho hh
      rw [hp] at HP
      have HP := Lib.hid (show Calls Try.prog 30 #[.pointer (some ⟨g, 0, none⟩), .int .i64 k] w fun e w' => e = .returned (.tuple #[.int .i64 (i : Int), .bool true]) ∧ Rel w w' from HP)
      rcases hb.hm.form with ⟨_, e⟩ | ⟨q, c, rfl, hlc, hc, _⟩
      · subst e; simp at hi
      obtain ⟨n, hn⟩ : ∃ n, l.length = n := ⟨_, rfl⟩
      have HI := Lib.hid hi
      rw [hn] at hb hlc hi ⊢
      have HB := Lib.hid hb
      have HR := Lib.hid hr
      have HO := Lib.hid (rowed_set ho HI.out k p (by rw [hx]))
      have HD := Lib.hid (set_any hh0 HI.out (k, p))
      have HN := Lib.hid hn
      have HX := Lib.hid hx
      have HK := Lib.hid (show (atI l i).1 = k by rw [hx])
      have HF := Lib.hid (⟨hk, hp0⟩ : i64 k ∧ i64 p)
      have hi' : (i : Int) < (n : Int) := by omega
      have M3 := Lib.hid m3
      clear hr hk hb ho hh hx hp hh0 m3 hp0 hn
      go_enter Try.func17, Try.ntmps17
      go_upto_region 4 with (go_at_call 30; (with_reducible refine HP.out.mono ?_); rintro e w1 ⟨rfl, r1⟩; have R1 := Lib.hid r1; have HM := Lib.hid (HB.out.hm.rel r1); obtain ⟨⟨k0, k1, k2⟩, _⟩ := HM.out.box.three; obtain ⟨z0, z1, z2, z3⟩ := HM.out.at HI.out HX.out; clear r1)
      obtain ⟨HM2, HK2⟩ := HM.out.put2 (p := p) HI.out HN.out HK.out
      obtain ⟨W, hW⟩ : ∃ W, w1.setCell ⟨q, i * 2 + 1, none⟩ (.int .i64 p) = W := ⟨_, rfl⟩
      rw [hW] at HM2 HK2
      try rw [hW]
      clear hW k0 k1 k2 z0 z1 z2 z3
      have HB2 := Lib.hid (HM2.done (pos_set HI.out _ HK.out.symm).symm (by rw [List.length_set]) HO.out.dst (fun x hx => by
        rcases List.mem_or_eq_of_mem_set hx with h | h
        · exact HB.out.fit x h
        · subst h; exact HF.out) (by rw [List.length_set]; exact HB.out.cap))
      have HK2 := Lib.hid ((Ke.of_rel R1.out).on HK2)
      have HS := Lib.hid (settle_any HB2.out (HK2.out.rel_to HR.out) HO.out (i := i) (by rw [List.length_set]; exact HI.out) HD.out)
      clear HM2 HM
      go_wp2_with (go_at_call 34; (with_reducible refine HS.out.mono ?_); rintro e w2 ⟨rfl, l2, a1, a2, a3, a4⟩; have A1 := Lib.hid a1; have A2 := Lib.hid a2; have A3 := Lib.hid a3; have A4 := Lib.hid a4; clear a1 a2 a3 a4)
      go_ret
      exact ⟨rfl, _, .inr ⟨g, b, _, l2, rfl, rfl, A1.out, A2.out, A3.out, m1, m2, by rw [chg_len]; exact M3.out⟩, Gr.refl _ _, HK2.out.on A4.out⟩
set_option maxRecDepth 100000 in
set_option maxHeartbeats 4000000 in
theorem lpop_none {w : World} {p : Option Addr} {S : Nat → Prop} {m : Int} {L : List It} (hr : Rel w w) (h : LHp w (.pointer p) S m L) (HT : Hid (∀ w1, Rel w w1 → Calls Try.prog 23 #[.pointer p] w1 fun e w' => e = .returned (.tuple #[.agg #[.int .i64 0, .int .i64 0], .bool false]) ∧ Rel w1 w')) :
    Calls Try.prog 15 #[.pointer p] w fun e w' => e = .returned (.tuple #[.agg #[.int .i64 0, .int .i64 0], .bool false]) ∧ LHp w' (.pointer p) S m L ∧ Ke S w w' := by
  have HH := Lib.hid h
  have AL := Lib.hid (hr.alloc (.cells #[.int .i64 0, .int .i64 0] 36))
  have BX := Lib.hid (Bk.new w 36 #[.int .i64 0, .int .i64 0])
  clear hr h
  go_enter Try.func15, Try.ntmps15
  go_upto_region 1 with (fail)
  obtain ⟨w1, hw1⟩ : ∃ W, w.alloc (.cells #[.int .i64 0, .int .i64 0] 36) = W := ⟨_, rfl⟩
  obtain ⟨gx, hgx⟩ : ∃ q, w.heap.size = q := ⟨_, rfl⟩
  rw [hw1] at AL BX
  rw [hgx] at BX
  try rw [hw1]
  try rw [hgx]
  have Hgx := Lib.hid (show w.heap.size ≤ gx by rw [hgx]; exact Nat.le_refl _)
  clear hw1 hgx
  go_upto_region 2 with (go_at_call 23; (with_reducible refine (HT.out _ AL.out).mono ?_); rintro e w2 ⟨rfl, r2⟩; have R2 := Lib.hid (AL.out.trans r2); have BX2 := Lib.hid (BX.out.rel r2); clear r2)
  have BY := Lib.hid (Bk.new w2 36 #[.int .i64 0, .int .i64 0])
  have Hne := Lib.hid (Nat.ne_of_lt BX2.out.lt)
  have BX3 := Lib.hid (BX2.out.alloc (.cells #[.int .i64 0, .int .i64 0] 36))
  have R3 := Lib.hid (R2.out.alloc (.cells #[.int .i64 0, .int .i64 0] 36))
  obtain ⟨gy, hgy⟩ : ∃ q, w2.heap.size = q := ⟨_, rfl⟩
  have Hgy := Lib.hid (show w.heap.size ≤ gy by rw [← hgy]; exact R2.out.size)
  obtain ⟨W, hW⟩ : ∃ W, w2.alloc (.cells #[.int .i64 0, .int .i64 0] 36) = W := ⟨_, rfl⟩
  rw [hW] at BY BX3 R3
  try rw [hW]
  rw [hgy] at BY Hne
  try rw [hgy]
  clear hW hgy BX2 BX
  clear AL
  obtain ⟨⟨x0, x1⟩, ⟨c0, c1⟩⟩ := BX3.out.two
  obtain ⟨⟨y0, y1⟩, ⟨d0, d1⟩⟩ := BY.out.two
  go_wp2_with (fail)
  have RX := Lib.hid (BX3.out.put (.int .i64 0) (.int .i64 0))
  obtain ⟨r0, r1⟩ := RX.out.two.1
  exact bodyPost_ret (v := .tuple #[.agg #[.int .i64 0, .int .i64 0], .bool false]) (by simp [results, Try.results15, go_sem, r0, r1]) rfl ⟨rfl, HH.out.rel ((R3.out.setCell (p := ⟨gx, 0, none⟩) Hgx.out _).setCell (p := ⟨gx, 1, none⟩) Hgx.out _), Ke.of_rel ((R3.out.setCell (p := ⟨gx, 0, none⟩) Hgx.out _).setCell (p := ⟨gx, 1, none⟩) Hgx.out _)⟩
set_option maxRecDepth 100000 in
set_option maxHeartbeats 4000000 in
theorem lpop_some {w : World} {g b : Nat} {u : Value} {m : Int} {l L : List It} (hr : Rel w w) (hb : Hb w g b m u l) (ho : Rowed l L) (hh : OrdH l) (hl : 0 < l.length) (x y : Int) (hx : atI l 0 = (x, y)) (HT : Hid (∀ w1, Rel w w1 → Calls Try.prog 23 #[.pointer (some ⟨g, 0, none⟩)] w1 fun e w' => e = .returned (.tuple #[.agg #[.int .i64 x, .int .i64 y], .bool true]) ∧ Rel w1 w')) :
    Calls Try.prog 15 #[.pointer (some ⟨g, 0, none⟩)] w fun e w' => e = .returned (.tuple #[.agg #[.int .i64 x, .int .i64 y], .bool true]) ∧ ∃ u' l', Hb w' g b m u' l' ∧ Rowed l' (remH L x) ∧ OrdH l' ∧ u'.ownBlock = u.ownBlock ∧ Ke (SoF g b u) w w' := by
  have HB := Lib.hid hb
  have HO := Lib.hid ho
  have HD := Lib.hid hh
  have HL := Lib.hid hl
  have HX := Lib.hid hx
  clear hb ho hh hl hx
  have AL := Lib.hid (hr.alloc (.cells #[.int .i64 0, .int .i64 0] 36))
  have BX := Lib.hid (Bk.new w 36 #[.int .i64 0, .int .i64 0])
  clear hr
  go_enter Try.func15, Try.ntmps15
  go_upto_region 1 with (fail)
  obtain ⟨w1, hw1⟩ : ∃ W, w.alloc (.cells #[.int .i64 0, .int .i64 0] 36) = W := ⟨_, rfl⟩
  obtain ⟨gx, hgx⟩ : ∃ q, w.heap.size = q := ⟨_, rfl⟩
  rw [hw1] at AL BX
  rw [hgx] at BX
  try rw [hw1]
  try rw [hgx]
  have Hgx := Lib.hid (show w.heap.size ≤ gx by rw [hgx]; exact Nat.le_refl _)
  clear hw1 hgx
  go_upto_region 2 with (go_at_call 23; (with_reducible refine (HT.out _ AL.out).mono ?_); rintro e w2 ⟨rfl, r2⟩; have R2 := Lib.hid (AL.out.trans r2); have BX2 := Lib.hid (BX.out.rel r2); clear r2)
  have BY := Lib.hid (Bk.new w2 36 #[.int .i64 x, .int .i64 y])
  have Hne := Lib.hid (Nat.ne_of_lt BX2.out.lt)
  have BX3 := Lib.hid (BX2.out.alloc (.cells #[.int .i64 x, .int .i64 y] 36))
  have R3 := Lib.hid (R2.out.alloc (.cells #[.int .i64 x, .int .i64 y] 36))
  obtain ⟨gy, hgy⟩ : ∃ q, w2.heap.size = q := ⟨_, rfl⟩
  have Hgy := Lib.hid (show w.heap.size ≤ gy by rw [← hgy]; exact R2.out.size)
  obtain ⟨W, hW⟩ : ∃ W, w2.alloc (.cells #[.int .i64 x, .int .i64 y] 36) = W := ⟨_, rfl⟩
  rw [hW] at BY BX3 R3
  try rw [hW]
  rw [hgy] at BY Hne
  try rw [hgy]
  clear hW hgy BX2 BX
  clear AL
  have HB3 := Lib.hid (HB.out.rel R3.out)
  have HSx := Lib.hid (show ¬ SoF g b u gx from fun e => Nat.not_le_of_lt (HB.out.lt gx e) Hgx.out)
  have HSy := Lib.hid (show ¬ SoF g b u gy from fun e => Nat.not_le_of_lt (HB.out.lt gy e) Hgy.out)
  have htk := ltake16_any HB3.out R3.out.self HO.out HD.out HL.out
  rw [HX.out] at htk
  have HTk := Lib.hid (show Calls Try.prog 33 #[.pointer (some ⟨g, 0, none⟩), .int .i64 0] W fun e w' => e = .returned (.tuple #[]) ∧ ∃ v' l', Hb w' g b m v' l' ∧ Rowed l' (remH L x) ∧ OrdH l' ∧ v'.ownBlock = u.ownBlock ∧ Ke (SoF g b u) W w' from htk)
  clear htk
  go_wp2_with (go_at_call 33; (with_reducible refine HTk.out.mono ?_); rintro e w4 ⟨rfl, u4, l4, a1, a2, a3, a4, a5⟩; have A1 := Lib.hid a1; have A2 := Lib.hid a2; have A3 := Lib.hid a3; have A4 := Lib.hid a4; have A5 := Lib.hid a5; have BX4 := Lib.hid (a5.bk BX3.out HSx.out); have BY4 := Lib.hid (a5.bk BY.out HSy.out); obtain ⟨⟨x0, x1⟩, ⟨c0, c1⟩⟩ := BX4.out.two; obtain ⟨⟨y0, y1⟩, ⟨d0, d1⟩⟩ := BY4.out.two; clear a1 a2 a3 a4 a5)
  have RX := Lib.hid (BX4.out.put (.int .i64 x) (.int .i64 y))
  obtain ⟨r0, r1⟩ := RX.out.two.1
  have hS4 : SoF g b u4 = SoF g b u := SoF_eq A4.out
  have hz : ∀ k, SoF g b u4 k → k < w.heap.size := fun k hk => HB.out.lt k (by rw [← hS4]; exact hk)
  refine bodyPost_ret (v := .tuple #[.agg #[.int .i64 x, .int .i64 y], .bool true]) (by simp [results, Try.results15, go_sem, r0, r1]) rfl ⟨rfl, u4, l4, ?_, A2.out, A3.out, A4.out, (((Ke.of_rel R3.out).on A5.out).put_new (p := ⟨gx, 0, none⟩) Hgx.out _).put_new (p := ⟨gx, 1, none⟩) Hgx.out _⟩
  have hne : ∀ k, SoF g b u4 k → k ≠ gx := fun k hk e => by have := hz k hk; rw [e] at this; exact Nat.not_le_of_lt this Hgx.out
  exact (A1.out.keep (w' := w4.setCell ⟨gx, 0, none⟩ (.int .i64 x)) (by simp) (fun k hk => Below.heap_setCell w4 ⟨gx, 0, none⟩ _ k (hne k hk))).keep (by simp) (fun k hk => Below.heap_setCell _ ⟨gx, 1, none⟩ _ k (hne k hk))
theorem lpop16 {w : World} {v : Value} {S : Nat → Prop} {m : Int} {L : List It} (hr : Rel w w) (h : LHp w v S m L) :
    Calls Try.prog 15 #[v] w fun e w' => e = .returned (.tuple #[ItV (itH (topH L)), .bool (topH L).isSome]) ∧ ∃ S', LHp w' v S' m (popH L) ∧ St S S' w w' := by
  have hT : ∀ w1, Rel w w1 → Calls Try.prog 23 #[v] w1 fun e w' => e = .returned (.tuple #[ItV (itH (topH L)), .bool (topH L).isSome]) ∧ Rel w1 w' := fun w1 r => ltop16 r.self (h.rel r)
  have hp : ∃ p, v = .pointer p := by
    rcases h with ⟨rfl, _⟩ | ⟨g, b, u, l, rfl, _⟩
    · exact ⟨_, rfl⟩
    · exact ⟨_, rfl⟩
  by_cases hL : L = []
  · subst hL
    obtain ⟨p, rfl⟩ := hp
    exact (lpop_none hr h (Lib.hid hT)).mono fun e w' q => ⟨q.1, S, q.2.1, Gr.refl _ _, q.2.2⟩
  · rcases h with ⟨_, _, _, e⟩ | ⟨g, b, u, l, rfl, rfl, hb, ho, hh, m1, m2, m3⟩
    · exact absurd e hL
    · have hl0 : 0 < l.length := by
        rw [ho.len]
        exact List.length_pos_iff.2 hL
      have ht := row_top ho hh hl0
      rw [ht] at hT ⊢
      have hpop : popH L = remH L (atI l 0).1 := by unfold popH; rw [ht]
      have hlen := rem_len ho.srt ((ho.mem _).1 (at_mem hl0))
      rw [hpop]
      refine (lpop_some hr hb ho hh hl0 (atI l 0).1 (atI l 0).2 rfl (Lib.hid hT)).mono ?_
      rintro e w' ⟨he, u', l', a1, a2, a3, a4, a5⟩
      exact ⟨he, SoF g b u', .inr ⟨g, b, u', l', rfl, rfl, a1, a2, a3, m1, m2, by omega⟩, St.of_ke a5 (SoF_eq a4)⟩
end Go.Proofs.Ytminmcledbfchaa

namespace Go.Proofs.Ytminmcledbfchaa
open Go.RowKit Go.Lib
set_option linter.unusedVariables false
set_option linter.unusedSimpArgs false
section
variable {α : Type} {cl : α → List Value} {k : Nat}
theorem row_gone15 {w : World} {b : List α} (h : RowAt cl k w none b) : b = [] := by
  cases b with
  | nil => rfl
  | cons x r => obtain ⟨g, off, e, _⟩ := h 0 (by simp); cases e
theorem row_news15 (hk : ∀ x, (cl x).length = k) {w : World} {p : Addr} {b : List α} (h : RowAt cl k w (some p) b) : ∀ (j : Nat) (u : Value), (b.flatMap cl)[j]? = some u → w.cell? (p.add j) = some u := fun j u hu => by
  have hj : j < b.length * k := by
    rcases Nat.lt_or_ge j (b.length * k) with h' | h'
    · exact h'
    · rw [List.getElem?_eq_none (by rw [flat_len hk]; exact h')] at hu; cases hu
  have hk0 : 0 < k := by
    rcases Nat.eq_zero_or_pos k with h0 | h0
    · rw [h0, Nat.mul_zero] at hj; omega
    · exact h0
  have e : j = j / k * k + j % k := (Nat.div_add_mod' j k).symm
  have h1 : j / k < b.length := Nat.div_lt_of_lt_mul (by rw [Nat.mul_comm]; exact hj)
  have h2 : j % k < k := Nat.mod_lt _ hk0
  obtain ⟨g', off', e1, _, hc⟩ := h (j / k) h1
  injection e1 with e1
  subst e1
  rw [addr_at, e, ← Nat.add_assoc, hc (j % k) h2]
  rw [e, flat_at hk b (j / k) h1 (j % k) h2] at hu
  exact hu
theorem flat_one15 (h1 : ∀ x, ∀ u ∈ cl x, u.oneCell' = true) (b : List α) : ∀ u ∈ b.flatMap cl, u.oneCell' = true := fun u hu => by
  obtain ⟨x, _, hx⟩ := List.mem_flatMap.1 hu
  exact h1 x u hx
/-- A slice, whatever it is, appended onto a row of the call's own. -/
theorem wpList_onto15 {w : World} {ops : Array Oper} {rest : List Oper} {o : Oper} {a : Act} {Q : Exit → Act → World → Prop} (T LT : TypeId) (i0 : TypeInfo) (z : Value) (bytes : Nat) (hu : Try.prog.underlying LT = some (.slice T)) (hi0 : Try.prog.info? T = some i0) (hz0 : i0.zero = some z) (hz1 : i0.size = k) (hz2 : i0.bytes = bytes) (hzs : z.cells.size = k) (hk0 : 0 < k)
    (hk : ∀ x, (cl x).length = k) (h1 : ∀ x, ∀ u ∈ cl x, u.oneCell' = true) (hgd : o.guard = none) (s x : Operand)
    (ho : o.op = .call { callee := .builtin .append, args := #[s, x], argTypes := #[LT, LT] }) (base : Nat) (v : Value) (xs : List α) (hs : a.eval s = v) (hown : RowOwn T cl k w base v xs) (A : Option Addr) (n c : Nat) (b : List α) (hn : b.length = n) (hx : a.eval x = .slice A n c)
    (hat : RowAt cl k w A b) (hA : A = none → c = 0) (hl : (xs.length + b.length) * bytes ≤ 140737488355328) (hm : xs.length + b.length ≤ maxLen) (hbase : base ≤ w.heap.size)
    (h : ∀ v' w', RowOwn T cl k w' base v' (xs ++ b) → w.grownBy w' v.ownBlock → wpList Try.prog ops Q rest (a.put o.dst v') w') : wpList Try.prog ops Q (o :: rest) a w := by
  subst hn
  refine wpList_plain hgd fun K hK => ?_
  cases A with
  | none =>
    obtain rfl := row_gone15 hat
    obtain rfl := hA rfl
    have hrun := run_append_owned_none (P := Try.prog) (w := w) base LT o.type T i0 k hu hi0 v xs.length (xs.flatMap cl) hown
    have hx' : a.eval x = .slice none 0 0 := hx
    unfold Oper.wp
    simp [execOp, ho, resolve, invoke, builtin, hs, hx', hrun, Result.andThen]
    exact hK _ _ (h _ _ (by rw [List.append_nil]; exact hown) ⟨rfl, rfl, rfl, Nat.le_refl _, fun _ _ _ => rfl⟩)
  | some p =>
    obtain ⟨v', w', hrun, r1, r2, _⟩ := run_append_own (P := Try.prog) w base LT o.type T i0 z k bytes hu hi0 hz0 hz1 hz2 hzs hk0 v xs.length (xs.flatMap cl) hown p b.length c (b.flatMap cl) (flat_len hk b) (row_news15 hk hat) (flat_one15 h1 b) hm hl hbase
    unfold Oper.wp
    simp [execOp, ho, resolve, invoke, builtin, hs, hx, hrun, Result.andThen]
    refine hK _ _ (h _ _ ?_ r2)
    unfold RowOwn
    rw [List.length_append, List.flatMap_append]
    exact r1
end
end Go.Proofs.Ytminmcledbfchaa

namespace Go.Proofs.Ytminmcledbfchaa
open Go.RowKit Go.Lib
set_option linter.unusedVariables false
set_option linter.unusedSimpArgs false
theorem item_info : (Try.prog.info? 36).map (fun i => (i.zero, i.size, i.bytes)) = some (some (.agg #[.int .i64 0, .int .i64 0]), 2, 16) := by kernel_rfl
/-- Behind an append of one, and the store of the slice. -/
theorem Hm.more {w w' : World} {g b c n q' c' : Nat} {m : Int} {A : Option Addr} {l : List It} {f : Int → Option Int} {z : Nat} {x : It} (h : Hm w g b m (.slice A n c) l f z) (hn : l.length = n)
    (ho : w'.ownsRow 0 36 2 (.slice (some ⟨q', 0, none⟩) (n + 1) c') (n + 1) (l.flatMap clH ++ clH x)) (hg : w.grownBy w' (Value.slice A n c).ownBlock) :
    Hm (w'.setCell ⟨g, 1, none⟩ (.slice (some ⟨q', 0, none⟩) (n + 1) c')) g b m (.slice (some ⟨q', 0, none⟩) (n + 1) c') (l ++ [x]) f z ∧ Ke (SoF g b (.slice A n c)) w (w'.setCell ⟨g, 1, none⟩ (.slice (some ⟨q', 0, none⟩) (n + 1) c')) := by
  have hb := h.box.grown hg h.g_ne
  have hr : RowOwn 36 clH 2 w' 0 (.slice (some ⟨q', 0, none⟩) (n + 1) c') (l ++ [x]) := RowOwn.more hn ho
  have hp : PlAt w' b f z := h.pl.blk (hg.block b h.pl.lt h.b_row)
  exact ⟨⟨hb.set_ 1 _, own_set hr.row (p := ⟨g, 1, none⟩) (own_ne hr.row hb (by decide)) _, hp.set (p := ⟨g, 1, none⟩) (hp.ne hb) _⟩,
    (Ke.grown hg (fun k hk => .inr (.inr hk.symm))).on (Ke.set (p := ⟨g, 1, none⟩) (.inl rfl) _)⟩
set_option maxRecDepth 100000 in
set_option maxHeartbeats 4000000 in
theorem lpush_same {w : World} {p : Option Addr} {k : Int} (pr : Int) (HP : Hid (Calls Try.prog 30 #[.pointer p, .int .i64 k] w fun e w' => ∃ i : Int, e = .returned (.tuple #[.int .i64 i, .bool true]) ∧ Rel w w')) :
    Calls Try.prog 13 #[.pointer p, .int .i64 k, .int .i64 pr] w fun e w' => e = .returned (.int .i64 1) ∧ Rel w w' := by
  go_enter Try.func13, Try.ntmps13
  go_wp2_with (go_at_call 30; (with_reducible refine HP.out.mono ?_); rintro e w1 ⟨i, rfl, r1⟩; have R1 := Lib.hid r1; clear r1)
  go_ret
  exact ⟨rfl, R1.out⟩
set_option maxRecDepth 100000 in
set_option maxHeartbeats 4000000 in
theorem lpush_nil (w : World) (hr : Rel w w) (k pr : Int) :
    Calls Try.prog 13 #[.pointer none, .int .i64 k, .int .i64 pr] w fun e w' => e = .returned (.int .i64 50) ∧ Rel w w' := by
  have HP := Lib.hid (place_nil w hr k)
  clear hr
  go_enter Try.func13, Try.ntmps13
  go_upto_region 4 with (go_at_call 30; (with_reducible refine HP.out.mono ?_); rintro e w1 ⟨rfl, r1⟩; have R1 := Lib.hid r1; clear r1)
  go_quiet (fail)
  all_goals
    go_wp2_with (fail)
    go_ret
    exact ⟨rfl, by first | exact R1.out | exact R1.out.drew | exact R1.out.drewN _⟩
set_option maxRecDepth 100000 in
set_option maxHeartbeats 4000000 in
theorem lpush_full {w : World} {g b : Nat} {u : Value} {m : Int} {l : List It} (hb : Hb w g b m u l) (hm : m ≤ (l.length : Int)) (k pr : Int) (HP : Hid (Calls Try.prog 30 #[.pointer (some ⟨g, 0, none⟩), .int .i64 k] w fun e w' => e = .returned (.tuple #[.int .i64 0, .bool false]) ∧ Rel w w')) :
    Calls Try.prog 13 #[.pointer (some ⟨g, 0, none⟩), .int .i64 k, .int .i64 pr] w fun e w' => e = .returned (.int .i64 50) ∧ Rel w w' := by
  obtain ⟨A, c, rfl⟩ := hb.slice_of
  have HB := Lib.hid hb
  obtain ⟨n, hn⟩ : ∃ n, l.length = n := ⟨_, rfl⟩
  rw [hn] at hm HB
  have hd : decide (m ≤ (n : Int)) = true := decide_eq_true hm
  clear hb hn
  go_enter Try.func13, Try.ntmps13
  go_upto_region 4 with (go_at_call 30; (with_reducible refine HP.out.mono ?_); rintro e w1 ⟨rfl, r1⟩; have R1 := Lib.hid r1; have HM := Lib.hid (HB.out.hm.rel r1); obtain ⟨⟨k0, k1, k2⟩, _⟩ := HM.out.box.three; clear r1)
  go_quiet (fail)
  all_goals
    go_wp2_with (fail)
    go_ret
    exact ⟨rfl, by first | exact R1.out | exact R1.out.drew | exact R1.out.drewN _⟩
set_option maxRecDepth 100000 in
set_option maxHeartbeats 4000000 in
theorem lpush_main {w : World} {g b : Nat} {u : Value} {m : Int} {l L : List It} (hr : Rel w w) (hb : Hb w g b m u l) (ho : Rowed l L) (hh : OrdH l) (hm : ¬ m ≤ (l.length : Int)) (hm2 : m ≤ 1000) (k pr : Int) (hk : i64 k) (hp : i64 pr) (hn0 : hasH L k = false) (HP : Hid (Calls Try.prog 30 #[.pointer (some ⟨g, 0, none⟩), .int .i64 k] w fun e w' => e = .returned (.tuple #[.int .i64 0, .bool false]) ∧ Rel w w')) :
    Calls Try.prog 13 #[.pointer (some ⟨g, 0, none⟩), .int .i64 k, .int .i64 pr] w fun e w' => e = .returned (.int .i64 0) ∧ ∃ u' l', Hb w' g b m u' l' ∧ Rowed l' (insH L (k, pr)) ∧ OrdH l' ∧ St (SoF g b u) (SoF g b u') w w' := by
  obtain ⟨A, c, rfl⟩ := hb.slice_of
  obtain ⟨n, hn⟩ : ∃ n, l.length = n := ⟨_, rfl⟩
  rw [hn] at hb hm ⊢
  have HB := Lib.hid hb
  have HR := Lib.hid hr
  have HN := Lib.hid hn
  have HO := Lib.hid ho
  have HD := Lib.hid hh
  have HK := Lib.hid (⟨hk, hp⟩ : i64 k ∧ i64 pr)
  have HH := Lib.hid hn0
  have hd : decide (m ≤ (n : Int)) = false := decide_eq_false hm
  have hn1 : n + 1 ≤ 1000 := by omega
  clear hb hr hn ho hh hk hp hn0
  go_enter Try.func13, Try.ntmps13
  go_upto_region 4 with (go_at_call 30; (with_reducible refine HP.out.mono ?_); rintro e w1 ⟨rfl, r1⟩; have R1 := Lib.hid r1; have HM := Lib.hid (HB.out.hm.rel r1); obtain ⟨⟨k0, k1, k2⟩, _⟩ := HM.out.box.three; clear r1)
  go_quiet (fail)
  have R2 := Lib.hid (R1.out.drewN nq)
  have HM2 := Lib.hid (HM.out.rel (R1.out.self.drewN nq))
  obtain ⟨W1, hW1⟩ : ∃ W, w1.drewN nq = W := ⟨_, rfl⟩
  rw [hW1] at R2 HM2
  try rw [hW1]
  clear hW1 k0 k1 k2 HM R1
  obtain ⟨⟨k0, k1, k2⟩, f0, f1, f2⟩ := HM2.out.box.three
  obtain ⟨i0, hi0, hz⟩ := Option.map_eq_some_iff.1 item_info
  simp only [Prod.mk.injEq] at hz
  obtain ⟨hz0, hz1, hz2⟩ := hz
  have HM3 := Lib.hid (HM2.out.rel (R2.out.self.alloc (.cells #[.int .i64 k, .int .i64 pr] 36)))
  have R3 := Lib.hid (R2.out.alloc (.cells #[.int .i64 k, .int .i64 pr] 36))
  have HRow := Lib.hid (show (W1.alloc (.cells #[.int .i64 k, .int .i64 pr] 36)).ownsRow 0 36 2 (.slice A n c) n (l.flatMap clH) by have := HM3.out.row.row; rw [HN.out] at this; exact this)
  have HNw := Lib.hid (show ∀ (j : Nat) (u : Value), ([.int .i64 k, .int .i64 pr] : List Value)[j]? = some u → (W1.alloc (.cells #[.int .i64 k, .int .i64 pr] 36)).cell? ((⟨W1.heap.size, 0, none⟩ : Addr).add j) = some u from row_news15 (cl := clH) (k := 2) (b := [(k, pr)]) clH_len (RowAt.of_bk (cl := clH) (k := 2) clH_len (T := 36) (xs := [(k, pr)]) (Bk.new W1 36 #[.int .i64 k, .int .i64 pr])))
  have HOne := Lib.hid (show ∀ v ∈ ([.int .i64 k, .int .i64 pr] : List Value), v.oneCell' = true from clH_one (k, pr))
  go_upto_region 8 with (at_builtin; (refine wpList_append_lies _ rfl _ _ 28 rfl 0 36 i0 (.agg #[.int .i64 0, .int .i64 0]) 2 16 Try.underlying28 hi0 hz0 hz1 hz2 rfl (by decide) (.slice A n c) n (l.flatMap clH) rfl HRow.out ⟨W1.heap.size, 0, none⟩ 1 1 [.int .i64 k, .int .i64 pr] rfl rfl HNw.out HOne.out (by decide) (by unfold maxLen; omega) (by omega) (Nat.zero_le _) _ rfl ?_); intro q2 c2 w2 own2 gr2 at2 lt2; have HO2 := Lib.hid own2; have HG2 := Lib.hid gr2; have HA2 := Lib.hid at2; have HB2 := Lib.hid (HM3.out.box.grown gr2 HM3.out.g_ne); clear own2 gr2 at2 k0 k1 k2 f0 f1 f2; obtain ⟨⟨k0, k1, k2⟩, f0, f1, f2⟩ := HB2.out.three)
  obtain ⟨HM4, HK4⟩ := HM3.out.more (x := (k, pr)) HN.out HO2.out HG2.out
  obtain ⟨W4, hW4⟩ : ∃ W, w2.setCell ⟨g, 1, none⟩ (.slice (some ⟨q2, 0, none⟩) (n + 1) c2) = W := ⟨_, rfl⟩
  rw [hW4] at HM4 HK4
  try rw [hW4]
  have HM4 := Lib.hid HM4
  have HK4 := Lib.hid ((Ke.of_rel R3.out).on HK4)
  clear hW4 HM3 HM2 HRow HNw HOne HB2 k0 k1 k2 f0 f1 f2
  obtain ⟨⟨k0, k1, k2⟩, f0, f1, f2⟩ := HM4.out.box.three
  have HP4 := Lib.hid (show PlAt W4 b (posf l) n by have := HM4.out.pl; rw [HN.out] at this; exact this)
  have HQ := Lib.hid (show (posf l k).isSome = false by rw [no_place HO.out HH.out]; rfl)
  have hwk := i64_wf HK.out.1
  go_upto_region 9 with (at_mapUpdate; (refine wp_place _ rfl _ _ _ rfl b n (posf l) rfl HP4.out (by unfold maxLen; omega) k (n : Int) rfl hwk rfl ?_); intro w5 p5 g5; rw [HQ.out] at p5; have HP5 := Lib.hid p5; have HG5 := Lib.hid g5; clear p5 g5)
  obtain ⟨HM5, HK5⟩ := HM4.out.mapped HP5.out HG5.out
  have HGr := Lib.hid (show Gr w (SoF g b (.slice A n c)) (SoF g b (.slice (some ⟨q2, 0, none⟩) (n + 1) c2)) from by
    rintro j (rfl | rfl | hj)
    · exact .inl (.inl rfl)
    · exact .inl (.inr (.inl rfl))
    · injection hj with hj
      rcases HA2.out with e | e
      · exact .inl (.inr (.inr (by rw [hj]; exact e.symm)))
      · exact .inr (by rw [hj]; show w.heap.size ≤ q2; rw [e]; exact R3.out.size))
  have HK6 := Lib.hid (HK4.out.trans HGr.out HK5)
  obtain ⟨e1, e2⟩ := pos_snoc HO.out.dst (x := (k, pr)) (fun i hi e => by
    have : hasH L k = true := has_iff.2 ⟨_, (HO.out.mem _).1 (at_mem hi), e⟩
    rw [HH.out] at this; cases this)
  rw [HN.out] at e1
  have HB5 := Lib.hid (HM5.done e1 (by rw [List.length_append, HN.out]; rfl) e2 (fun z hz => by
    rcases List.mem_append.1 hz with h | h
    · exact HB.out.fit z h
    · rw [List.mem_singleton] at h; subst h; exact HK.out) (by rw [List.length_append, HN.out]; exact hn1))
  have HO5 := Lib.hid (rowed_snoc HO.out (x := (k, pr)) HH.out)
  have hup := (push_up HD.out (k, pr)).any
  rw [HN.out] at hup
  have HRi := Lib.hid (rise_any HB5.out (HK6.out.rel_to HR.out) HO5.out (i := n) (by rw [List.length_append, HN.out]; exact Nat.lt_succ_self n) hup)
  have HLn := Lib.hid (show (insH L (k, pr)).length = n + 1 by rw [ins_len, ← HO.out.len, HN.out])
  clear e1 e2 hup HM5 HK5 k0 k1 k2 f0 f1 f2 HP4 HQ hwk HM4 HK4
  go_wp2_with (go_at_call 31; (with_reducible refine HRi.out.mono ?_); rintro e w6 ⟨rfl, l6, a1, a2, a3, a4⟩; have A1 := Lib.hid a1; have A2 := Lib.hid a2; have A3 := Lib.hid a3; have A4 := Lib.hid a4; clear a1 a2 a3 a4)
  go_ret
  refine ⟨rfl, _, l6, A1.out, A2.out, dn_done A3.out (fun j j0 hj hp => ?_), HGr.out, HK6.out.trans HGr.out A4.out⟩
  rw [A2.out.len, HLn.out] at hj
  unfold parN at hp
  omega
theorem lpush16 {w : World} {v : Value} {S : Nat → Prop} {m : Int} {L : List It} (k p : Int) (hr : Rel w w) (h : LHp w v S m L) (hk : i64 k) (hp : i64 p) :
    Calls Try.prog 13 #[v, .int .i64 k, .int .i64 p] w fun e w' => e = .returned (.int .i64 (pushE m L k)) ∧ ∃ S', LHp w' v S' m (pushL m L k p) ∧ St S S' w w' := by
  have hwf := i64_wf hk
  have hE := h
  rcases h with ⟨rfl, _, rfl, rfl⟩ | ⟨g, b, u, l, rfl, rfl, hb, ho, hh, m1, m2, m3⟩
  · exact (lpush_nil w hr k p).mono fun e w' q => ⟨q.1, S, hE.rel q.2, St.of_rel q.2⟩
  · have HP := place_any hb hr k hwf
    cases hs : hasH L k with
    | true =>
      obtain ⟨i, y, hi, hx, hp⟩ := has_place ho hs
      rw [hp] at HP
      have e1 : pushE m L k = 1 := by unfold pushE; rw [if_pos hs]
      have e2 : pushL m L k p = L := by unfold pushL; rw [e1]; rfl
      rw [e1, e2]
      exact (lpush_same p (Lib.hid (HP.mono fun e w' q => ⟨(i : Int), q.1, q.2⟩))).mono fun e w' q => ⟨q.1, _, hE.rel q.2, St.of_rel q.2⟩
    | false =>
      rw [no_place ho hs] at HP
      have hns : ¬ hasH L k = true := by rw [hs]; simp
      by_cases hm : m ≤ (L.length : Int)
      · have e1 : pushE m L k = 50 := by unfold pushE; rw [if_neg hns, if_pos hm]
        have e2 : pushL m L k p = L := by unfold pushL; rw [e1]; rfl
        rw [e1, e2]
        exact (lpush_full hb (by rw [ho.len]; exact hm) k p (Lib.hid HP)).mono fun e w' q => ⟨q.1, _, hE.rel q.2, St.of_rel q.2⟩
      · have e1 : pushE m L k = 0 := by unfold pushE; rw [if_neg hns, if_neg hm]
        have e2 : pushL m L k p = insH L (k, p) := by unfold pushL; rw [e1]; rfl
        rw [e1, e2]
        refine (lpush_main hr hb ho hh (by rw [ho.len]; exact hm) m2 k p hk hp hs (Lib.hid HP)).mono ?_
        rintro e w' ⟨he, u', l', a1, a2, a3, a4⟩
        exact ⟨he, SoF g b u', .inr ⟨g, b, u', l', rfl, rfl, a1, a2, a3, m1, m2, by rw [ins_len]; omega⟩, a4⟩
end Go.Proofs.Ytminmcledbfchaa

namespace Go.Proofs
open Go.Shelf
def Try.lays122_ren : Go.Shelf.Ren := ⟨fun | 122 => 38 | 215 => 44 | n => n, fun | 3 => 3 | 4 => 4 | n => n, fun | n => n⟩
theorem Try.lays122 : Go.Proofs.Lays.n122 Try.prog Try.lays122_ren := {
  mixed := by kernel_rfl
  f122 := Try.func38.trans (congrArg some (by kernel_rfl))
  f215 := Try.func44.trans (congrArg some (by kernel_rfl))
  t3 := Try.underlying3
  a3 := Try.isAgg3
  z3 := Try.sizeOf3
  v3 := Try.zeroValue3
  t4 := Try.underlying4
  a4 := Try.isAgg4
  z4 := Try.sizeOf4
  v4 := Try.zeroValue4 }
open Go.RowKit in
/-- cmp.Compare at int: "Compare returns -1 if x is less than y, 0 if x equals y, +1 if x is greater than y.": IT RETURNS 'Lib.compareInt x y'; the world is as it was. (LAID: no walk: one application.) -/
theorem Try.cmp_Compare_int (x y : Int) (w : World) :
    Calls Try.prog 38 #[.int .i64 x, .int .i64 y] w fun e w' => e = .returned (.int .i64 (Lib.compareInt x y)) ∧ w' = w := Any.cmp_Compare_int Try.lays122 x y w
def Try.sortItem_ren : Go.Shelf.Ren := ⟨fun | 6 => 36 | 15 => 43 | 14 => 42 | 28 => 54 | 29 => 55 | 20 => 46 | 21 => 47 | 22 => 48 | 23 => 49 | 24 => 50 | 25 => 51 | 26 => 52 | 27 => 53 | 46 => 56 | 47 => 57 | 48 => 58 | 49 => 59 | 50 => 60 | 57 => 61 | n => n, fun | 22 => 28 | 24 => 36 | 25 => 64 | 3 => 3 | 39 => 70 | 0 => 0 | 53 => 79 | 55 => 81 | 4 => 4 | 46 => 73 | 45 => 72 | 50 => 43 | 5 => 5 | 9 => 9 | 66 => 82 | 70 => 86 | 76 => 88 | 77 => 89 | n => n, fun | n => n⟩
theorem Try.sortItem : Go.Proofs.SlLaysF0.n6 Try.prog Try.sortItem_ren := {
  mixed := by kernel_rfl
  f6 := ⟨Try.f36.name, by decide, Try.func36.trans (congrArg some (by kernel_rfl))⟩
  f14 := ⟨Try.f42.name, by decide, Try.func42.trans (congrArg some (by kernel_rfl))⟩
  f15 := Try.func43.trans (congrArg some (by kernel_rfl))
  f20 := ⟨Try.f46.name, by decide, Try.func46.trans (congrArg some (by kernel_rfl))⟩
  f21 := ⟨Try.f47.name, by decide, Try.func47.trans (congrArg some (by kernel_rfl))⟩
  f22 := ⟨Try.f48.name, by decide, Try.func48.trans (congrArg some (by kernel_rfl))⟩
  f23 := ⟨Try.f49.name, by decide, Try.func49.trans (congrArg some (by kernel_rfl))⟩
  f24 := ⟨Try.f50.name, by decide, Try.func50.trans (congrArg some (by kernel_rfl))⟩
  f25 := ⟨Try.f51.name, by decide, Try.func51.trans (congrArg some (by kernel_rfl))⟩
  f26 := ⟨Try.f52.name, by decide, Try.func52.trans (congrArg some (by kernel_rfl))⟩
  f27 := ⟨Try.f53.name, by decide, Try.func53.trans (congrArg some (by kernel_rfl))⟩
  f28 := Try.func54.trans (congrArg some (by kernel_rfl))
  f29 := Try.func55.trans (congrArg some (by kernel_rfl))
  f46 := ⟨Try.f56.name, by decide, Try.func56.trans (congrArg some (by kernel_rfl))⟩
  f47 := Try.func57.trans (congrArg some (by kernel_rfl))
  f48 := Try.func58.trans (congrArg some (by kernel_rfl))
  f49 := ⟨Try.f59.name, by decide, Try.func59.trans (congrArg some (by kernel_rfl))⟩
  f50 := ⟨Try.f60.name, by decide, Try.func60.trans (congrArg some (by kernel_rfl))⟩
  f57 := ⟨Try.f61.name, by decide, Try.func61.trans (congrArg some (by kernel_rfl))⟩
  t0 := Try.underlying0
  a0 := Try.isAgg0
  z0 := Try.sizeOf0
  v0 := Try.zeroValue0
  t3 := Try.underlying3
  a3 := Try.isAgg3
  z3 := Try.sizeOf3
  v3 := Try.zeroValue3
  t4 := Try.underlying4
  a4 := Try.isAgg4
  z4 := Try.sizeOf4
  v4 := Try.zeroValue4
  t5 := Try.underlying5
  a5 := Try.isAgg5
  z5 := Try.sizeOf5
  v5 := Try.zeroValue5
  t9 := Try.underlying9
  a9 := Try.isAgg9
  z9 := Try.sizeOf9
  v9 := Try.zeroValue9
  t22 := Try.underlying28
  a22 := Try.isAgg28
  z22 := Try.sizeOf28
  v22 := Try.zeroValue28
  t25 := Try.underlying64
  a25 := Try.isAgg64
  z25 := Try.sizeOf64
  v25 := Try.zeroValue64
  t39 := Try.underlying70
  a39 := Try.isAgg70
  z39 := Try.sizeOf70
  v39 := Try.zeroValue70
  t45 := Try.underlying72
  a45 := Try.isAgg72
  z45 := Try.sizeOf72
  v45 := Try.zeroValue72
  t46 := Try.underlying73
  a46 := Try.isAgg73
  z46 := Try.sizeOf73
  v46 := Try.zeroValue73
  t50 := Try.underlying43
  a50 := Try.isAgg43
  z50 := Try.sizeOf43
  v50 := Try.zeroValue43
  t53 := Try.underlying79
  a53 := Try.isAgg79
  z53 := Try.sizeOf79
  v53 := Try.zeroValue79
  t55 := Try.underlying81
  a55 := Try.isAgg81
  z55 := Try.sizeOf81
  v55 := Try.zeroValue81
  t66 := Try.underlying82
  a66 := Try.isAgg82
  z66 := Try.sizeOf82
  v66 := Try.zeroValue82
  t70 := Try.underlying86
  a70 := Try.isAgg86
  z70 := Try.sizeOf86
  v70 := Try.zeroValue86
  t76 := Try.underlying88
  a76 := Try.isAgg88
  z76 := Try.sizeOf88
  v76 := Try.zeroValue88
  t77 := Try.underlying89
  a77 := Try.isAgg89
  z77 := Try.sizeOf89
  v77 := Try.zeroValue89 }
end Go.Proofs
