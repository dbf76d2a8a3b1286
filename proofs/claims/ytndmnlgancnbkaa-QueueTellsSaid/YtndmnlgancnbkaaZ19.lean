/- The document's own answers of layer 16: Change, Top, Prio, Pop, over its heap with its blocks. -/
import Derived.Test.YtndmnlgancnbkaaZL
import Derived.Test.YtndmnlgancnbkaaZ00
import Derived.Test.YtndmnlgancnbkaaZ01
import Derived.Test.YtndmnlgancnbkaaZ02
import Derived.Test.YtndmnlgancnbkaaZ03
import Derived.Test.YtndmnlgancnbkaaZ05
import Derived.Test.YtndmnlgancnbkaaZ11
import Derived.Test.YtndmnlgancnbkaaZ14
import Derived.Test.YtndmnlgancnbkaaZ16
import Derived.Test.YtndmnlgancnbkaaZ18
namespace Go.Proofs.Ytndmnlgancnbkaa
open Go.RowKit Go.Lib
set_option linter.unusedVariables false
set_option linter.unusedSimpArgs false
variable {t : TypeId} {rs : List Value}
theorem chg_set {L : List It} (hs : Srt L) {i : Nat} (hi : i < L.length) {k : Int} (p : Int) (hk : L[i].1 = k) : chgH L k p = L.set i (k, p) := by
  unfold chgH
  refine List.ext_getElem (by simp) fun j h1 h2 => ?_
  rw [List.getElem_map, List.getElem_set]
  by_cases e : i = j
  · subst e; rw [if_pos hk, if_pos rfl]
  · rw [if_neg e, if_neg]
    intro hj
    rw [List.length_map] at h1
    rcases Nat.lt_trichotomy i j with hlt | he | hlt
    · have := List.pairwise_iff_getElem.1 hs i j hi h1 hlt; omega
    · exact e he
    · have := List.pairwise_iff_getElem.1 hs j i h1 hi hlt; omega
section
variable {w w' : World} {g : Nat} {u : Value} {m : Int} {L : List It}
theorem Rb.own (h : Rb t rs w g u m L) (h0 : 0 < L.length) : ∃ q c, u = .slice (some ⟨q, 0, none⟩) L.length c ∧ g ≠ q ∧ (∀ i (hi : i < L.length), w.cell? ⟨q, i * 2 + 1, none⟩ = some (.int .i64 L[i].2) ∧ w.frozen? ⟨q, i * 2 + 1, none⟩ = false) := by
  have hr := h.row.row
  have hg := h.g_ne
  rcases hr.2 with ⟨_, e⟩ | ⟨q, c, cur, rfl, _, hh, hn, hc, hs, ht⟩
  · omega
  · refine ⟨q, c, rfl, fun e => hg (by rw [e]; rfl), fun i hi => ⟨?_, hr.frozenAt _⟩⟩
    have e := fun j (hj : j < 2) => flat_at (cl := clH) (k := 2) (fun _ => rfl) L i hi j hj
    have c1 := hr.cellAt (i * 2 + 1) (by omega)
    rw [e 1 (by decide)] at c1
    exact c1
end
set_option maxRecDepth 100000 in
set_option maxHeartbeats 8000000 in
theorem rchange_any {w : World} {g : Nat} {u : Value} {m : Int} {L : List It} (hr : Rel w w) (h : Rb t rs w g u m L) (k p : Int) (hk : i64 k) (hp : i64 p) :
    Calls Try.prog 31 #[.pointer (some ⟨g, 0, none⟩), .int .i64 k, .int .i64 p] w fun e w' => e = .returned (.bool (hasH L k)) ∧ Rb t rs w' g u m (chgH L k p) ∧ St (SoR g u) (SoR g u) w w' := by
  obtain ⟨A, c, e0, ha⟩ := h.at
  have hat := rat16_any g m L A L.length c k w hr ha
  cases hh : hasH L k with
  | false =>
    have HT := Lib.hid (show Calls Try.prog 46 #[.pointer (some ⟨g, 0, none⟩), .int .i64 k] w fun e w' => e = .returned (.int .i64 (-1)) ∧ Rel w w' from hat.mono (by
      rintro e w' ⟨r, he, h1, h2⟩
      rcases h2.out with ⟨i, hi, rfl, hk⟩ | ⟨rfl, _⟩
      · have : hasH L k = true := has_iff.2 ⟨_, List.getElem_mem hi, hk⟩
        rw [hh] at this; cases this
      · exact ⟨he, h1.out⟩))
    have HL := Lib.hid (show chgH L k p = L by
      unfold chgH
      conv => rhs; rw [← List.map_id L]
      refine List.map_congr_left fun x hx => ?_
      rw [if_neg]
      · rfl
      · intro e
        have : hasH L k = true := has_iff.2 ⟨x, hx, e⟩
        rw [hh] at this; cases this)
    have HB := Lib.hid h
    clear h hr hk hp hh hat ha
    go_enter Try.func31, Try.ntmps31
    go_wp2_with (go_at_call 46; (with_reducible refine HT.out.mono ?_); rintro e w1 ⟨rfl, r1⟩; have R1 := Lib.hid r1; clear r1)
    go_ret
    exact ⟨rfl, by rw [HL.out]; exact HB.out.rel R1.out, St.of_rel17 R1.out⟩
  | true =>
    have HT := Lib.hid (show Calls Try.prog 46 #[.pointer (some ⟨g, 0, none⟩), .int .i64 k] w fun e w' => ∃ i : Nat, e = .returned (.int .i64 (i : Int)) ∧ Rel w w' ∧ (∃ hi : i < L.length, L[i].1 = k) from hat.mono (by
      rintro e w' ⟨r, he, h1, h2⟩
      rcases h2.out with ⟨i, hi, rfl, hk⟩ | ⟨rfl, hn⟩
      · exact ⟨i, he, h1.out, hi, hk⟩
      · rw [hh] at hn; cases hn))
    have h0 : 0 < L.length := by
      obtain ⟨x, hx, _⟩ := has_iff.1 hh
      exact List.length_pos_of_mem hx
    obtain ⟨q, c2, e2, hgq, _⟩ := h.own h0
    obtain ⟨n, hn⟩ : ∃ n, L.length = n := ⟨_, rfl⟩
    have HN := Lib.hid hn
    rw [hn] at e2
    subst e2
    have HB := Lib.hid h
    have HF := Lib.hid (⟨hk, hp⟩ : i64 k ∧ i64 p)
    have H0 := Lib.hid h0
    have hc2 : n ≤ c2 := by
      rcases h.row.row.2 with ⟨e, _⟩ | ⟨q', cap, cur, e, _, _, hl, _⟩
      · injection e with e; cases e
      · injection e with _ _ e; rw [← e] at hl; omega
    have HGQ := Lib.hid hgq
    clear h hr hk hp hh hat ha e0 h0 hn hgq
    go_enter Try.func31, Try.ntmps31
    go_upto_region 2 with (go_at_call 46; (with_reducible refine HT.out.mono ?_); rintro e w1 ⟨i, rfl, r1, hik⟩; have R1 := Lib.hid r1; have HIK := Lib.hid hik; clear r1 hik)
    have HB1 := Lib.hid (HB.out.rel R1.out)
    obtain ⟨x0, x1⟩ := (BoxR.two ⟨_, _, HB1.out.box⟩).1
    have hin : i < n := by obtain ⟨hi, _⟩ := HIK.out; rw [← HN.out]; exact hi
    have hij : (i : Int) < (n : Int) := by omega
    have hij0 : (0 : Int) ≤ (i : Int) := by omega
    obtain ⟨y, z1, z2⟩ : ∃ y : Int, w1.cell? ⟨q, i * 2 + 1, none⟩ = some (.int .i64 y) ∧ w1.frozen? ⟨q, i * 2 + 1, none⟩ = false := by
      obtain ⟨q', c', e, _, hc⟩ := HB1.out.own H0.out
      injection e with e _ _
      injection e with e
      injection e with e
      subst e
      obtain ⟨hi, _⟩ := HIK.out
      exact ⟨_, hc i hi⟩
    have HZ := Lib.hid (show Rb t rs (w1.setCell ⟨q, i * 2 + 1, none⟩ (.int .i64 p)) g (.slice (some ⟨q, 0, none⟩) n c2) m (chgH L k p) ∧ Ke (SoR g (.slice (some ⟨q, 0, none⟩) n c2)) w1 (w1.setCell ⟨q, i * 2 + 1, none⟩ (.int .i64 p)) from by
      obtain ⟨hi, hk⟩ := HIK.out
      refine ⟨⟨HB1.out.box.far (p := ⟨q, i * 2 + 1, none⟩) HGQ.out _, ?_, HB1.out.tne, chg_srt HB1.out.srt k p, fun z hz => ?_, by rw [chg_len]; exact HB1.out.cap⟩, Ke.set17 (p := ⟨q, i * 2 + 1, none⟩) (.inr rfl) _⟩
      · rw [chg_set HB1.out.srt hi p hk]
        exact row_put217 HB1.out.row hi HN.out (by rw [at_get hi]; exact hk)
      · rcases (chg_mem HB1.out.srt).1 hz with ⟨rfl, _⟩ | ⟨hz, _⟩
        · exact HF.out
        · exact HB1.out.fit z hz)
    go_wp2_with (fail)
    go_ret
    exact ⟨rfl, HZ.out.1, Gr.refl _ _, (Ke.of_rel R1.out).on17 HZ.out.2⟩
theorem rchange16 {w : World} {v : Value} {S : Nat → Prop} {m : Int} {L : List It} (k p : Int) (hr : Rel w w) (h : RHp t rs w v S m L) (hk : i64 k) (hp : i64 p) :
    Calls Try.prog 31 #[v, .int .i64 k, .int .i64 p] w fun e w' => e = .returned (.bool (hasH L k)) ∧ ∃ S', RHp t rs w' v S' m (chgH L k p) ∧ St S S' w w' := by
  obtain ⟨g, u, rfl, rfl, hb⟩ := h
  refine (rchange_any hr hb k p hk hp).mono ?_
  rintro e w' ⟨he, a1, a2⟩
  exact ⟨he, SoR g u, ⟨g, u, rfl, rfl, a1⟩, a2⟩
theorem rtop16 {w : World} {v : Value} {S : Nat → Prop} {m : Int} {L : List It} (hr : Rel w w) (h : RHp t rs w v S m L) :
    Calls Try.prog 51 #[v] w fun e w' => e = .returned (.tuple #[ItV (itH (topH L)), .bool (topH L).isSome]) ∧ Rel w w' := by
  obtain ⟨g, u, rfl, rfl, hb⟩ := h
  obtain ⟨A, c, _, ha⟩ := hb.at
  exact (rtop16_any g m L A L.length c w hr ha).mono fun e w' q => ⟨q.1, q.2.out⟩
theorem rprio16 {w : World} {v : Value} {S : Nat → Prop} {m : Int} {L : List It} (k : Int) (hr : Rel w w) (h : RHp t rs w v S m L) :
    Calls Try.prog 30 #[v, .int .i64 k] w fun e w' => e = .returned (.tuple #[.int .i64 ((prioH L k).getD 0), .bool (hasH L k)]) ∧ Rel w w' := by
  obtain ⟨g, u, rfl, rfl, hb⟩ := h
  obtain ⟨A, c, _, ha⟩ := hb.at
  exact (rprio16_any g m L hb.srt A L.length c k w hr ha).mono fun e w' q => ⟨q.1, q.2.out⟩
set_option maxRecDepth 100000 in
set_option maxHeartbeats 4000000 in
theorem rpop_none {w : World} {p : Option Addr} {S : Nat → Prop} {m : Int} {L : List It} (hr : Rel w w) (h : RHp t rs w (.pointer p) S m L) (HT : Hid (∀ w1, Rel w w1 → Calls Try.prog 51 #[.pointer p] w1 fun e w' => e = .returned (.tuple #[.agg #[.int .i64 0, .int .i64 0], .bool false]) ∧ Rel w1 w')) :
    Calls Try.prog 37 #[.pointer p] w fun e w' => e = .returned (.tuple #[.agg #[.int .i64 0, .int .i64 0], .bool false]) ∧ RHp t rs w' (.pointer p) S m L ∧ Ke S w w' := by
  have HH := Lib.hid h
  have AL := Lib.hid (hr.alloc (.cells #[.int .i64 0, .int .i64 0] 64))
  have BX := Lib.hid (Bk.new w 64 #[.int .i64 0, .int .i64 0])
  clear hr h
  go_enter Try.func37, Try.ntmps37
  go_upto_region 1 with (fail)
  obtain ⟨w1, hw1⟩ : ∃ W, w.alloc (.cells #[.int .i64 0, .int .i64 0] 64) = W := ⟨_, rfl⟩
  obtain ⟨gx, hgx⟩ : ∃ q, w.heap.size = q := ⟨_, rfl⟩
  rw [hw1] at AL BX
  rw [hgx] at BX
  try rw [hw1]
  try rw [hgx]
  have Hgx := Lib.hid (show w.heap.size ≤ gx by rw [hgx]; exact Nat.le_refl _)
  clear hw1 hgx
  go_upto_region 2 with (go_at_call 51; (with_reducible refine (HT.out _ AL.out).mono ?_); rintro e w2 ⟨rfl, r2⟩; have R2 := Lib.hid (AL.out.trans r2); have BX2 := Lib.hid (BX.out.rel r2); clear r2)
  have BY := Lib.hid (Bk.new w2 64 #[.int .i64 0, .int .i64 0])
  have Hne := Lib.hid (Nat.ne_of_lt BX2.out.lt)
  have BX3 := Lib.hid (BX2.out.alloc (.cells #[.int .i64 0, .int .i64 0] 64))
  have R3 := Lib.hid (R2.out.alloc (.cells #[.int .i64 0, .int .i64 0] 64))
  obtain ⟨gy, hgy⟩ : ∃ q, w2.heap.size = q := ⟨_, rfl⟩
  have Hgy := Lib.hid (show w.heap.size ≤ gy by rw [← hgy]; exact R2.out.size)
  obtain ⟨W, hW⟩ : ∃ W, w2.alloc (.cells #[.int .i64 0, .int .i64 0] 64) = W := ⟨_, rfl⟩
  rw [hW] at BY BX3 R3
  try rw [hW]
  rw [hgy] at BY Hne
  try rw [hgy]
  clear hW hgy BX2 BX
  clear AL
  obtain ⟨⟨x0, x1⟩, ⟨c0, c1⟩⟩ := BX3.out.two
  obtain ⟨⟨y0, y1⟩, ⟨d0, d1⟩⟩ := BY.out.two
  go_wp2_with (fail)
  have RX := Lib.hid (BX3.out.put (.int .i64 0) (.int .i64 0))
  obtain ⟨r0, r1⟩ := RX.out.two.1
  exact bodyPost_ret (v := .tuple #[.agg #[.int .i64 0, .int .i64 0], .bool false]) (by simp [results, Try.results37, go_sem, r0, r1]) rfl ⟨rfl, HH.out.rel ((R3.out.setCell (p := ⟨gx, 0, none⟩) Hgx.out _).setCell (p := ⟨gx, 1, none⟩) Hgx.out _), Ke.of_rel ((R3.out.setCell (p := ⟨gx, 0, none⟩) Hgx.out _).setCell (p := ⟨gx, 1, none⟩) Hgx.out _)⟩
set_option maxRecDepth 100000 in
set_option maxHeartbeats 4000000 in
theorem rpop_some {w : World} {g : Nat} {u : Value} {m : Int} {L : List It} (hr : Rel w w) (hb : Rb t rs w g u m L) (x y : Int) (HT : Hid (∀ w1, Rel w w1 → Calls Try.prog 51 #[.pointer (some ⟨g, 0, none⟩)] w1 fun e w' => e = .returned (.tuple #[.agg #[.int .i64 x, .int .i64 y], .bool true]) ∧ Rel w1 w')) :
    Calls Try.prog 37 #[.pointer (some ⟨g, 0, none⟩)] w fun e w' => e = .returned (.tuple #[.agg #[.int .i64 x, .int .i64 y], .bool true]) ∧ ∃ u', Rb t rs w' g u' m (remH L x) ∧ St (SoR g u) (SoR g u') w w' := by
  have HB := Lib.hid hb
  clear hb
  have AL := Lib.hid (hr.alloc (.cells #[.int .i64 0, .int .i64 0] 64))
  have BX := Lib.hid (Bk.new w 64 #[.int .i64 0, .int .i64 0])
  clear hr
  go_enter Try.func37, Try.ntmps37
  go_upto_region 1 with (fail)
  obtain ⟨w1, hw1⟩ : ∃ W, w.alloc (.cells #[.int .i64 0, .int .i64 0] 64) = W := ⟨_, rfl⟩
  obtain ⟨gx, hgx⟩ : ∃ q, w.heap.size = q := ⟨_, rfl⟩
  rw [hw1] at AL BX
  rw [hgx] at BX
  try rw [hw1]
  try rw [hgx]
  have Hgx := Lib.hid (show w.heap.size ≤ gx by rw [hgx]; exact Nat.le_refl _)
  clear hw1 hgx
  go_upto_region 2 with (go_at_call 51; (with_reducible refine (HT.out _ AL.out).mono ?_); rintro e w2 ⟨rfl, r2⟩; have R2 := Lib.hid (AL.out.trans r2); have BX2 := Lib.hid (BX.out.rel r2); clear r2)
  have BY := Lib.hid (Bk.new w2 64 #[.int .i64 x, .int .i64 y])
  have Hne := Lib.hid (Nat.ne_of_lt BX2.out.lt)
  have BX3 := Lib.hid (BX2.out.alloc (.cells #[.int .i64 x, .int .i64 y] 64))
  have R3 := Lib.hid (R2.out.alloc (.cells #[.int .i64 x, .int .i64 y] 64))
  obtain ⟨gy, hgy⟩ : ∃ q, w2.heap.size = q := ⟨_, rfl⟩
  have Hgy := Lib.hid (show w.heap.size ≤ gy by rw [← hgy]; exact R2.out.size)
  obtain ⟨W, hW⟩ : ∃ W, w2.alloc (.cells #[.int .i64 x, .int .i64 y] 64) = W := ⟨_, rfl⟩
  rw [hW] at BY BX3 R3
  try rw [hW]
  rw [hgy] at BY Hne
  try rw [hgy]
  clear hW hgy BX2 BX
  clear AL
  have HB3 := Lib.hid (HB.out.rel R3.out)
  have HSx := Lib.hid (show ¬ SoR g u gx from fun e => Nat.not_le_of_lt (HB.out.lt gx e) Hgx.out)
  have HSy := Lib.hid (show ¬ SoR g u gy from fun e => Nat.not_le_of_lt (HB.out.lt gy e) Hgy.out)
  have HTk := Lib.hid (rremove_any R3.out.self HB3.out x)
  obtain ⟨bb, hbb⟩ : ∃ b, hasH L x = b := ⟨_, rfl⟩
  rw [hbb] at HTk
  clear hbb
  obtain ⟨⟨y0, y1⟩, ⟨d0, d1⟩⟩ := BY.out.two
  go_wp2_with (go_at_call 39; (with_reducible refine HTk.out.mono ?_); rintro e w4 ⟨rfl, u4, a1, a2⟩; have A1 := Lib.hid a1; have A2 := Lib.hid a2; have BX4 := Lib.hid (a2.2.bk BX3.out HSx.out); have BY4 := Lib.hid (a2.2.bk BY.out HSy.out); clear y0 y1 d0 d1; obtain ⟨⟨x0, x1⟩, ⟨c0, c1⟩⟩ := BX4.out.two; obtain ⟨⟨y0, y1⟩, ⟨d0, d1⟩⟩ := BY4.out.two; clear a1 a2)
  have RX := Lib.hid (BX4.out.put (.int .i64 x) (.int .i64 y))
  obtain ⟨r0, r1⟩ := RX.out.two.1
  refine bodyPost_ret (v := .tuple #[.agg #[.int .i64 x, .int .i64 y], .bool true]) (by simp [results, Try.results37, go_sem, r0, r1]) rfl ⟨rfl, u4, ?_, ?_, (((Ke.of_rel R3.out).on17 A2.out.2).put_new17 (p := ⟨gx, 0, none⟩) Hgx.out _).put_new17 (p := ⟨gx, 1, none⟩) Hgx.out _⟩
  · have hne : ∀ k, SoR g u4 k → k ≠ gx := fun k hk e => by
      subst e
      rcases A2.out.1 k hk with q | q
      · exact HSx.out q
      · exact Nat.not_le_of_lt BX3.out.lt q
    exact (A1.out.keep (w' := w4.setCell ⟨gx, 0, none⟩ (.int .i64 x)) (fun k hk => Below.heap_setCell w4 ⟨gx, 0, none⟩ _ k (hne k hk))).keep (fun k hk => Below.heap_setCell _ ⟨gx, 1, none⟩ _ k (hne k hk))
  · intro k hk
    rcases A2.out.1 k hk with q | q
    · exact .inl q
    · exact .inr (Nat.le_trans R3.out.size q)
theorem rpop16 {w : World} {v : Value} {S : Nat → Prop} {m : Int} {L : List It} (hr : Rel w w) (h : RHp t rs w v S m L) :
    Calls Try.prog 37 #[v] w fun e w' => e = .returned (.tuple #[ItV (itH (topH L)), .bool (topH L).isSome]) ∧ ∃ S', RHp t rs w' v S' m (popH L) ∧ St S S' w w' := by
  have hT : ∀ w1, Rel w w1 → Calls Try.prog 51 #[v] w1 fun e w' => e = .returned (.tuple #[ItV (itH (topH L)), .bool (topH L).isSome]) ∧ Rel w1 w' := fun w1 r => rtop16 r.self (h.rel r)
  obtain ⟨g, u, rfl, rfl, hb⟩ := h
  cases ht : topH L with
  | none =>
    have hpop : popH L = L := by unfold popH; rw [ht]
    rw [ht] at hT
    rw [hpop]
    exact (rpop_none hr ⟨g, u, rfl, rfl, hb⟩ (Lib.hid hT)).mono fun e w' q => ⟨q.1, SoR g u, q.2.1, Gr.refl _ _, q.2.2⟩
  | some x =>
    have hpop : popH L = remH L x.1 := by unfold popH; rw [ht]
    rw [ht] at hT
    rw [hpop]
    refine (rpop_some hr hb x.1 x.2 (Lib.hid hT)).mono ?_
    rintro e w' ⟨he, u', a1, a2⟩
    exact ⟨he, SoR g u', ⟨g, u', rfl, rfl, a1⟩, a2⟩
end Go.Proofs.Ytndmnlgancnbkaa
