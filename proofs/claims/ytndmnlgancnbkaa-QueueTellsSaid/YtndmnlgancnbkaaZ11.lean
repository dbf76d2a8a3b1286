/- Layer 16, the landed code: an item taken; Layer 16, the landed code: what a heap is in memory; how many, the most urgent, how urgent one is; Layer 16, the landed code: New; how urgent one is; Change, Remove, Pop; Layer 16, the landed code: Change; Pop. -/
import Derived.Test.YtndmnlgancnbkaaZL
import Derived.Test.YtndmnlgancnbkaaZ00
import Derived.Test.YtndmnlgancnbkaaZ01
import Derived.Test.YtndmnlgancnbkaaZ02
import Derived.Test.YtndmnlgancnbkaaZ03
import Derived.Test.YtndmnlgancnbkaaZ08
import Derived.Test.YtndmnlgancnbkaaZ09
import Derived.Test.YtndmnlgancnbkaaZ10
namespace Go.Proofs.Ytndmnlgancnbkaa
open Go.RowKit Go.Lib
set_option linter.unusedVariables false
set_option linter.unusedSimpArgs false
theorem flat_take (l : List It) (k : Nat) : (l.take k).flatMap clH = (l.flatMap clH).take (k * 2) := by
  induction l generalizing k with
  | nil => simp
  | cons x t ih =>
    cases k with
    | zero => simp
    | succ k =>
      rw [List.take_succ_cons, List.flatMap_cons, List.flatMap_cons, ih, show (k + 1) * 2 = 2 + k * 2 by omega]
      exact (List.take_length_add_append (l₁ := clH x) (k * 2)).symm
theorem row_cut {w : World} {q n c k : Nat} {l : List It} (h : RowOwn 64 clH 2 w 0 (.slice (some ⟨q, 0, none⟩) n c) l) (hn : l.length = n) (hk : k ≤ n) :
    RowOwn 64 clH 2 w 0 (.slice (some ⟨q, 0, none⟩) k c) (l.take k) := by
  have hr := h.row
  have hlen : (l.take k).length = k := by rw [List.length_take]; omega
  unfold RowOwn
  rw [hlen, flat_take]
  rcases hr.2 with ⟨e, _⟩ | ⟨q', c', cur, e, _, hh, hx, hc, hs, ht⟩
  · injection e with e; cases e
  · injection e with e e2 e3
    injection e with e
    injection e with e
    subst e; subst e3
    refine ⟨by rw [List.length_take, hr.1]; omega, .inr ⟨q, c, cur, rfl, Nat.zero_le _, hh, by omega, hc, hs, ?_⟩⟩
    rw [← ht, List.take_take, hn, Nat.min_eq_left (by omega)]
theorem set_shorter {w : World} {g b q n c k : Nat} {m : Int} {l : List It} {f : Int → Option Int} {z : Nat} (h : Hm w g b m (.slice (some ⟨q, 0, none⟩) n c) l f z) (hn : l.length = n) (hk : k ≤ n) :
    Hm (w.setCell ⟨g, 1, none⟩ (.slice (some ⟨q, 0, none⟩) k c)) g b m (.slice (some ⟨q, 0, none⟩) k c) (l.take k) f z ∧ Ke (SoF g b (.slice (some ⟨q, 0, none⟩) n c)) w (w.setCell ⟨g, 1, none⟩ (.slice (some ⟨q, 0, none⟩) k c)) :=
  ⟨⟨h.box.set_ 1 _, own_set (row_cut h.row hn hk).row (p := ⟨g, 1, none⟩) h.g_ne _, h.pl.set (p := ⟨g, 1, none⟩) (h.pl.ne h.box) _⟩, Ke.set (p := ⟨g, 1, none⟩) (.inl rfl) _⟩
theorem SoF_eq {g b : Nat} {v v' : Value} (h : v'.ownBlock = v.ownBlock) : SoF g b v' = SoF g b v := by unfold SoF; rw [h]
set_option maxRecDepth 100000 in
set_option maxHeartbeats 4000000 in
theorem ltake16_any {w : World} {g b : Nat} {m : Int} {v : Value} {l L : List It} (h : Hb w g b m v l) (hr : Rel w w) (ho : Rowed l L) (hh : OrdH l) {i : Nat} (hi : i < l.length) :
    Calls Try.prog 48 #[.pointer (some ⟨g, 0, none⟩), .int .i64 (i : Int)] w fun e w' => e = .returned (.tuple #[]) ∧ ∃ v' l', Hb w' g b m v' l' ∧ Rowed l' (remH L (atI l i).1) ∧ OrdH l' ∧ v'.ownBlock = v.ownBlock ∧ Ke (SoF g b v) w w' := by
  rcases h.hm.form with ⟨_, e⟩ | ⟨q, c, rfl, hlc, hc, hq, hat, hf⟩
  · subst e; simp at hi
  obtain ⟨t, ht⟩ : ∃ t, l.length = t + 1 := ⟨l.length - 1, by omega⟩
  have hle : t + 1 ≤ 1000 := by rw [← ht]; exact h.cap
  have HI := Lib.hid hi
  have HT := Lib.hid (show t < l.length by omega)
  obtain ⟨n, hn⟩ : ∃ n, t + 1 = n := ⟨_, rfl⟩
  rw [hn] at ht hle
  rw [ht] at h hlc hi ⊢
  have HN := Lib.hid ht
  have HTN := Lib.hid hn
  have hi1 : (n : Int) - 1 = (t : Int) := by omega
  have htn : (t : Int) < (n : Int) := by omega
  have htc : (t : Int) ≤ (c : Int) := by omega
  have htc' : t ≤ c := by omega
  have hti : i ≤ t := by omega
  obtain ⟨⟨k0, k1, k2⟩, f0, f1, f2⟩ := h.box.three
  have HH := Lib.hid h
  have HR := Lib.hid hr
  have HO := Lib.hid ho
  have HD := Lib.hid hh
  have HSW := Lib.hid (swap_any h (i := i) (j := t) HI.out HT.out)
  have HL1 := Lib.hid (show (swpI l i t).length = n by rw [swp_len]; exact ht)
  have HF := Lib.hid (h.fit_at HI.out)
  obtain ⟨⟨xk, xp⟩, hx⟩ : ∃ x, atI l i = x := ⟨_, rfl⟩
  have HX := Lib.hid hx
  have HXT := Lib.hid (show atI (swpI l i t) t = (xk, xp) by rw [at_swp_j HI.out HT.out, hx])
  rw [hx] at HF ⊢
  clear h hr ho hh hat hf hq ht hx hn
  go_enter Try.func48, Try.ntmps48
  go_upto_region 2 with (go_at_call 61; (with_reducible refine HSW.out.mono ?_); rintro e w1 ⟨rfl, s1, s2⟩; have HS1 := Lib.hid s1; have HS2 := Lib.hid s2; clear s1 s2 k0 k1 k2 f0 f1 f2)
  obtain ⟨⟨k0, k1, k2⟩, f0, f1, f2⟩ := HS1.out.box.three
  obtain ⟨v0, v1, v2, v3⟩ := HS1.out.hm.at (by rw [HL1.out]; omega) HXT.out
  go_still_tail 12, (by kernel_rfl)
  have HP := Lib.hid (show PlAt w1.drew b (posf (swpI l i t)) n by have := HS1.out.pl; rw [HL1.out] at this; exact this)
  have HQ := Lib.hid (show (posf (swpI l i t) xk).isSome = true by rw [pos_some HS1.out.dst (i := t) (by rw [HL1.out]; omega) (by rw [HXT.out])]; rfl)
  refine wp_unplace _ rfl _ _ rfl b n (posf (swpI l i t)) rfl HP.out xk rfl HF.out.1 HQ.out ?_
  intro w2 p2 g2
  obtain ⟨HM2, HK2⟩ := HS1.out.hm.drew.mapped p2 g2
  have HM2 := Lib.hid HM2
  have HK2 := Lib.hid (HS2.out.drew.on HK2)
  clear p2 g2 HP HQ k0 k1 k2 f0 f1 f2 v0 v1 v2 v3
  obtain ⟨⟨k0, k1, k2⟩, f0, f1, f2⟩ := HM2.out.box.three
  go_upto_region 4 with (fail)
  obtain ⟨HM3, HK3⟩ := set_shorter HM2.out HL1.out (k := t) (by omega)
  obtain ⟨W, hW⟩ : ∃ W, w2.setCell ⟨g, 1, none⟩ (.slice (some ⟨q, 0, none⟩) t c) = W := ⟨_, rfl⟩
  rw [hW] at HM3 HK3
  try rw [hW]
  clear hW
  have HK3 := Lib.hid (HK2.out.on HK3)
  have HB := Lib.hid (HM3.done (by
      have := pos_take HS1.out.dst (n := t) (by rw [HL1.out]; exact HTN.out)
      rw [HXT.out] at this
      exact this) (by rw [List.length_take, HL1.out]; omega) (dst_take HS1.out.dst t) (fun x hx => HS1.out.fit x (List.mem_of_mem_take hx)) (by rw [List.length_take, HL1.out]; omega))
  have HRo := Lib.hid (show Rowed ((swpI l i t).take t) (remH L xk) by
    have := rowed_take (HO.out.swp HI.out HT.out) (n := t) (by rw [HL1.out]; exact HTN.out)
    rw [HXT.out] at this
    exact this)
  have HLt := Lib.hid (show ((swpI l i t).take t).length = t by rw [List.length_take, HL1.out]; omega)
  have HRW := Lib.hid (HK3.out.rel_to HR.out)
  clear HM3 k0 k1 k2 f0 f1 f2 HM2 HK2
  by_cases he : i = t
  · subst he
    have hlt : ¬ (i : Int) < (i : Int) := by omega
    have HE := Lib.hid (show OrdH ((swpI l i i).take i) by
      rw [take_last HD.out (by rw [HN.out]; exact HTN.out)]
      exact ord_take HD.out i)
    go_wp2_with (fail)
    go_end0
    exact ⟨rfl, _, _, HB.out, HRo.out, HE.out, rfl, HK3.out⟩
  · have hlt : (i : Int) < (t : Int) := by omega
    have HE := Lib.hid (settle_any HB.out HRW.out HRo.out (i := i) (by rw [HLt.out]; omega) (take_any HD.out (by rw [HN.out]; exact HTN.out) (by omega)))
    go_wp2_with (go_at_call 44; (with_reducible refine HE.out.mono ?_); rintro e w5 ⟨rfl, l5, c1, c2, c3, c4⟩; have C1 := Lib.hid c1; have C2 := Lib.hid c2; have C3 := Lib.hid c3; have C4 := Lib.hid c4; clear c1 c2 c3 c4)
    go_end0
    exact ⟨rfl, _, _, C1.out, C2.out, C3.out, rfl, HK3.out.on C4.out⟩
end Go.Proofs.Ytndmnlgancnbkaa

namespace Go.Proofs.Ytndmnlgancnbkaa
open Go.RowKit Go.Lib
set_option linter.unusedVariables false
set_option linter.unusedSimpArgs false
/-- The landed heap: items L by their keys, room for m. -/
def LHp (w : World) (v : Value) (S : Nat → Prop) (m : Int) (L : List It) : Prop :=
  (v = .pointer none ∧ S = (fun _ => False) ∧ m = 0 ∧ L = []) ∨ ∃ (g b : Nat) (u : Value) (l : List It), v = .pointer (some ⟨g, 0, none⟩) ∧ S = SoF g b u ∧ Hb w g b m u l ∧ Rowed l L ∧ OrdH l ∧ 1 ≤ m ∧ m ≤ 1000 ∧ (L.length : Int) ≤ m
theorem LHp.srt {w : World} {v : Value} {S : Nat → Prop} {m : Int} {L : List It} (h : LHp w v S m L) : Srt L := by
  rcases h with ⟨_, _, _, rfl⟩ | ⟨g, b, u, l, _, _, _, hr, _⟩
  · exact srt_nil
  · exact hr.srt
theorem LHp.fit {w : World} {v : Value} {S : Nat → Prop} {m : Int} {L : List It} (h : LHp w v S m L) : ∀ z ∈ L, i64 z.1 ∧ i64 z.2 := by
  rcases h with ⟨_, _, _, rfl⟩ | ⟨g, b, u, l, _, _, hb, hr, _⟩
  · intro z hz; cases hz
  · exact fun z hz => hb.fit z ((hr.mem z).2 hz)
theorem LHp.len {w : World} {v : Value} {S : Nat → Prop} {m : Int} {L : List It} (h : LHp w v S m L) : (L.length : Int) ≤ m ∧ m ≤ 1000 := by
  rcases h with ⟨_, _, rfl, rfl⟩ | ⟨g, b, u, l, _, _, _, _, _, _, h2, h3⟩
  · exact ⟨by simp, by omega⟩
  · exact ⟨h3, h2⟩
theorem LHp.lt {w : World} {v : Value} {S : Nat → Prop} {m : Int} {L : List It} (h : LHp w v S m L) : ∀ k, S k → k < w.heap.size := by
  rcases h with ⟨_, rfl, _⟩ | ⟨g, b, u, l, _, rfl, hb, _⟩
  · exact fun k hk => hk.elim
  · exact hb.lt
theorem LHp.keep {w w' : World} {v : Value} {S : Nat → Prop} {m : Int} {L : List It} (h : LHp w v S m L) (hs : w.heap.size ≤ w'.heap.size) (hk : ∀ k, S k → w'.heap[k]? = w.heap[k]?) : LHp w' v S m L := by
  rcases h with h | ⟨g, b, u, l, h1, rfl, hb, h2⟩
  · exact .inl h
  · exact .inr ⟨g, b, u, l, h1, rfl, hb.keep hs hk, h2⟩
theorem Hb.slice_of {w : World} {g b : Nat} {m : Int} {v : Value} {l : List It} (h : Hb w g b m v l) : ∃ A c, v = .slice A l.length c := by
  obtain ⟨A, c, e, _⟩ := h.row.slice_of
  exact ⟨A, c, e⟩
set_option maxRecDepth 100000 in
set_option maxHeartbeats 4000000 in
theorem lcount16 {w : World} {v : Value} {S : Nat → Prop} {m : Int} {L : List It} (hr : Rel w w) (h : LHp w v S m L) :
    Calls Try.prog 60 #[v] w fun e w' => e = .returned (.int .i64 (L.length : Int)) ∧ Rel w w' := by
  have HR := Lib.hid hr
  rcases h with ⟨rfl, _, _, rfl⟩ | ⟨g, b, u, l, rfl, _, hb, ho, _⟩
  · clear hr
    go_enter Try.func60, Try.ntmps60
    go_wp2_with (fail)
    go_ret
    exact ⟨rfl, HR.out⟩
  · obtain ⟨A, c, rfl⟩ := hb.slice_of
    obtain ⟨⟨k0, k1, k2⟩, _⟩ := hb.box.three
    rw [ho.len] at k1
    clear hr hb ho
    go_enter Try.func60, Try.ntmps60
    go_wp2_with (fail)
    go_ret
    exact ⟨rfl, HR.out⟩
set_option maxRecDepth 100000 in
set_option maxHeartbeats 4000000 in
theorem ltop_none (w : World) (p : Option Addr) (hr : Rel w w) (HC : Hid (∀ w1, Rel w w1 → Calls Try.prog 60 #[.pointer p] w1 fun e w' => e = .returned (.int .i64 0) ∧ Rel w1 w')) :
    Calls Try.prog 47 #[.pointer p] w fun e w' => e = .returned (.tuple #[.agg #[.int .i64 0, .int .i64 0], .bool false]) ∧ Rel w w' := by
  have AL := Lib.hid (hr.alloc (.cells #[.int .i64 0, .int .i64 0] 64))
  have BX := Lib.hid (Bk.new w 64 #[.int .i64 0, .int .i64 0])
  clear hr
  go_enter Try.func47, Try.ntmps47
  go_upto_region 1 with (fail)
  obtain ⟨w1, hw1⟩ : ∃ W, w.alloc (.cells #[.int .i64 0, .int .i64 0] 64) = W := ⟨_, rfl⟩
  obtain ⟨gx, hgx⟩ : ∃ q, w.heap.size = q := ⟨_, rfl⟩
  rw [hw1] at AL BX
  rw [hgx] at BX
  try rw [hw1]
  try rw [hgx]
  have Hgx := Lib.hid (show w.heap.size ≤ gx by rw [hgx]; exact Nat.le_refl _)
  clear hw1 hgx
  obtain ⟨⟨b0, b1⟩, ⟨c0, c1⟩⟩ := BX.out.two
  go_wp2_with (go_at_call 60; (with_reducible refine (HC.out _ AL.out).mono ?_); rintro e w2 ⟨rfl, r2⟩; have R2 := Lib.hid (AL.out.trans r2); have BX2 := Lib.hid (BX.out.rel r2); clear b0 b1 c0 c1; obtain ⟨⟨b0, b1⟩, ⟨c0, c1⟩⟩ := BX2.out.two; clear r2)
  have RX := Lib.hid (BX2.out.put (.int .i64 0) (.int .i64 0))
  obtain ⟨r0, r1⟩ := RX.out.two.1
  exact bodyPost_ret (v := .tuple #[.agg #[.int .i64 0, .int .i64 0], .bool false]) (by simp [results, Try.results47, go_sem, r0, r1]) rfl ⟨rfl, (R2.out.setCell (p := ⟨gx, 0, none⟩) Hgx.out _).setCell (p := ⟨gx, 1, none⟩) Hgx.out _⟩
set_option maxRecDepth 100000 in
set_option maxHeartbeats 4000000 in
theorem ltop_some (w : World) (g b q n c : Nat) (m x y : Int) (l : List It) (hr : Rel w w) (HB : Hid (Hb w g b m (.slice (some ⟨q, 0, none⟩) n c) l)) (HN : Hid (l.length = n)) (h0 : 0 < n) (hlc : n ≤ c) (HX : Hid (atI l 0 = (x, y))) (HC : Hid (∀ w1, Rel w w1 → Calls Try.prog 60 #[.pointer (some ⟨g, 0, none⟩)] w1 fun e w' => e = .returned (.int .i64 (n : Int)) ∧ Rel w1 w')) :
    Calls Try.prog 47 #[.pointer (some ⟨g, 0, none⟩)] w fun e w' => e = .returned (.tuple #[.agg #[.int .i64 x, .int .i64 y], .bool true]) ∧ Rel w w' := by
  have hnb : ((n : Int) == 0) = false := by simpa using (show ¬ (n : Int) = 0 by omega)
  have hnp : (0 : Int) < (n : Int) := by omega
  have AL := Lib.hid (hr.alloc (.cells #[.int .i64 0, .int .i64 0] 64))
  have BX := Lib.hid (Bk.new w 64 #[.int .i64 0, .int .i64 0])
  clear hr
  go_enter Try.func47, Try.ntmps47
  go_upto_region 1 with (fail)
  obtain ⟨w1, hw1⟩ : ∃ W, w.alloc (.cells #[.int .i64 0, .int .i64 0] 64) = W := ⟨_, rfl⟩
  obtain ⟨gx, hgx⟩ : ∃ q, w.heap.size = q := ⟨_, rfl⟩
  rw [hw1] at AL BX
  rw [hgx] at BX
  try rw [hw1]
  try rw [hgx]
  have Hgx := Lib.hid (show w.heap.size ≤ gx by rw [hgx]; exact Nat.le_refl _)
  clear hw1 hgx
  obtain ⟨⟨b0, b1⟩, ⟨c0, c1⟩⟩ := BX.out.two
  go_wp2_with (go_at_call 60; (with_reducible refine (HC.out _ AL.out).mono ?_); rintro e w2 ⟨rfl, r2⟩; have R2 := Lib.hid (AL.out.trans r2); have BX2 := Lib.hid (BX.out.rel r2); clear b0 b1 c0 c1; obtain ⟨⟨b0, b1⟩, ⟨c0, c1⟩⟩ := BX2.out.two; have HM2 := Lib.hid (HB.out.hm.rel R2.out); obtain ⟨⟨k0, k1, k2⟩, _⟩ := HM2.out.box.three; obtain ⟨z0, z1, _, _⟩ := HM2.out.at (by rw [HN.out]; exact h0) HX.out; rw [Nat.zero_mul] at z0; rw [Nat.zero_mul, Nat.zero_add] at z1; clear r2)
  have RX := Lib.hid (BX2.out.put (.int .i64 x) (.int .i64 y))
  obtain ⟨r0, r1⟩ := RX.out.two.1
  exact bodyPost_ret (v := .tuple #[.agg #[.int .i64 x, .int .i64 y], .bool true]) (by simp [results, Try.results47, go_sem, r0, r1]) rfl ⟨rfl, (R2.out.setCell (p := ⟨gx, 0, none⟩) Hgx.out _).setCell (p := ⟨gx, 1, none⟩) Hgx.out _⟩
theorem LHp.rel {w w' : World} {v : Value} {S : Nat → Prop} {m : Int} {L : List It} (h : LHp w v S m L) (r : Rel w w') : LHp w' v S m L := h.keep r.size (fun k hk => r.2.block k (h.lt k hk))
theorem ltop16 {w : World} {v : Value} {S : Nat → Prop} {m : Int} {L : List It} (hr : Rel w w) (h : LHp w v S m L) :
    Calls Try.prog 47 #[v] w fun e w' => e = .returned (.tuple #[ItV (itH (topH L)), .bool (topH L).isSome]) ∧ Rel w w' := by
  have hcnt : ∀ w1, Rel w w1 → Calls Try.prog 60 #[v] w1 fun e w' => e = .returned (.int .i64 (L.length : Int)) ∧ Rel w1 w' := fun w1 r => lcount16 r.self (h.rel r)
  have hp : ∃ p, v = .pointer p := by
    rcases h with ⟨rfl, _⟩ | ⟨g, b, u, l, rfl, _⟩
    · exact ⟨_, rfl⟩
    · exact ⟨_, rfl⟩
  by_cases hL : L = []
  · subst hL
    obtain ⟨p, rfl⟩ := hp
    exact ltop_none w p hr (Lib.hid hcnt)
  · rcases h with ⟨_, _, _, e⟩ | ⟨g, b, u, l, rfl, _, hb, ho, hh, _⟩
    · exact absurd e hL
    · have hl0 : 0 < l.length := by
        rw [ho.len]
        exact List.length_pos_iff.2 hL
      rcases hb.hm.form with ⟨_, e⟩ | ⟨q, c, rfl, hlc, _⟩
      · subst e; simp at hl0
      · rw [row_top ho hh hl0]
        rw [← ho.len] at hcnt
        exact ltop_some w g b q l.length c m _ _ l hr (Lib.hid hb) (Lib.hid rfl) hl0 hlc (Lib.hid rfl) (Lib.hid hcnt)
end Go.Proofs.Ytndmnlgancnbkaa

namespace Go.Proofs.Ytndmnlgancnbkaa
open Go.RowKit Go.Lib
set_option linter.unusedVariables false
set_option linter.unusedSimpArgs false
theorem St.of_rel {S : Nat → Prop} {w w' : World} (hr : Rel w w') : St S S w w' := ⟨Gr.refl _ _, Ke.of_rel hr⟩
theorem St.of_ke {S S' : Nat → Prop} {w w' : World} (h : Ke S w w') (e : S' = S) : St S S' w w' := by subst e; exact ⟨Gr.refl _ _, h⟩
set_option maxRecDepth 100000 in
set_option maxHeartbeats 4000000 in
theorem lnew16 (most : Int) (w : World) (hr : Rel w w) (hm : i64 most) :
    Calls Try.prog 22 #[.int .i64 most] w fun e w' => Rel w w' ∧ ((1 ≤ most ∧ most ≤ 1000 ∧ ∃ (g : Nat) (S : Nat → Prop), e = .returned (.pointer (some ⟨g, 0, none⟩)) ∧ LHp w' (.pointer (some ⟨g, 0, none⟩)) S most [] ∧ ∀ k, S k → w.heap.size ≤ k) ∨ (¬ (1 ≤ most ∧ most ≤ 1000) ∧ e = .returned (.pointer none))) := by
  have hmm := @run_makeMap Try.prog
  have HR := Lib.hid hr
  have R1 := Lib.hid (hr.alloc (.map #[] 0))
  have M1 := Lib.hid (PlAt.made w)
  have R2 := Lib.hid (R1.out.alloc (.cells #[.int .i64 most, .slice none 0 0, .map (some w.heap.size)] 77))
  have M2 := Lib.hid (M1.out.alloc (.cells #[.int .i64 most, .slice none 0 0, .map (some w.heap.size)] 77))
  have B2 := Lib.hid (Bk.new (w.alloc (.map #[] 0)) 77 #[.int .i64 most, .slice none 0 0, .map (some w.heap.size)])
  have e1 : (w.alloc (.map #[] 0)).heap.size = w.heap.size + 1 := World.size_alloc ..
  rw [e1] at B2
  clear hr hm e1
  generalize hQ : (fun (e : Ending) (w' : World) => Rel w w' ∧ ((1 ≤ most ∧ most ≤ 1000 ∧ ∃ (g : Nat) (S : Nat → Prop), e = .returned (.pointer (some ⟨g, 0, none⟩)) ∧ LHp w' (.pointer (some ⟨g, 0, none⟩)) S most [] ∧ ∀ k, S k → w.heap.size ≤ k) ∨ (¬ (1 ≤ most ∧ most ≤ 1000) ∧ e = .returned (.pointer none)))) = Q
  have HQ := Lib.hid hQ
  clear hQ
  by_cases h1 : most < 1
  · have H1 := Lib.hid h1
    go_enter Try.func22, Try.ntmps22
    go_wp2_with (fail)
    rw [← HQ.out]
    exact ⟨HR.out, .inr ⟨by have := H1.out; omega, rfl⟩⟩
  · by_cases h2 : 1000 < most
    · have H1 := Lib.hid h1
      have H2 := Lib.hid h2
      go_enter Try.func22, Try.ntmps22
      go_wp2_with (fail)
      rw [← HQ.out]
      exact ⟨HR.out, .inr ⟨by have := H2.out; omega, rfl⟩⟩
    · have H1 := Lib.hid h1
      have H2 := Lib.hid h2
      go_enter Try.func22, Try.ntmps22
      go_wp2_with (fail)
      rw [← HQ.out]
      refine ⟨R2.out, .inl ⟨by have := H1.out; omega, by have := H2.out; omega, w.heap.size + 1, SoF (w.heap.size + 1) w.heap.size (.slice none 0 0), rfl, .inr ⟨_, _, _, [], rfl, rfl, ⟨B2.out, RowOwn.nil _ _ _, M2.out, fun i j hi => absurd hi (by simp), (fun z hz => by cases hz), by simp⟩, ⟨srt_nil, rfl, fun z => Iff.rfl, fun i j hi => absurd hi (by simp)⟩, fun j _ hj => absurd hj (by simp), by have := H1.out; omega, by have := H2.out; omega, by have := H1.out; simp; omega⟩, ?_⟩⟩
      rintro k (rfl | rfl | hk)
      · exact Nat.le_succ _
      · exact Nat.le_refl _
      · cases hk
theorem prio_at {l L : List It} (h : Rowed l L) {i : Nat} (hi : i < l.length) {k y : Int} (hx : atI l i = (k, y)) : (prioH L k).getD 0 = y ∧ hasH L k = true := by
  have hm : (k, y) ∈ L := by rw [← hx]; exact (h.mem _).1 (at_mem hi)
  have hh : hasH L k = true := has_iff.2 ⟨_, hm, rfl⟩
  refine ⟨?_, hh⟩
  unfold prioH
  cases hf : L.find? fun x => decide (x.1 = k) with
  | none =>
    have := List.find?_eq_none.1 hf _ hm
    simp at this
  | some z =>
    have h1 := List.find?_some hf
    rw [decide_eq_true_eq] at h1
    have h2 := srt_key h.srt (List.mem_of_find?_eq_some hf) hm h1
    rw [h2]; rfl
theorem prio_no {L : List It} {k : Int} (hh : hasH L k = false) : (prioH L k).getD 0 = 0 := by
  unfold prioH
  rw [List.find?_eq_none.2 (fun x hx => by
    rw [decide_eq_true_eq]
    intro e
    have : hasH L k = true := has_iff.2 ⟨x, hx, e⟩
    rw [hh] at this; cases this)]
  rfl
/-- A key that is there. -/
theorem has_place {l L : List It} (h : Rowed l L) {k : Int} (hh : hasH L k = true) : ∃ (i : Nat) (y : Int), i < l.length ∧ atI l i = (k, y) ∧ posf l k = some (i : Int) := by
  obtain ⟨x, hx, e⟩ := has_iff.1 hh
  obtain ⟨i, hi, e2⟩ := mem_at ((h.mem x).2 hx)
  refine ⟨i, x.2, hi, by rw [e2, ← e], pos_some h.one hi (by rw [e2, e])⟩
theorem no_place {l L : List It} (h : Rowed l L) {k : Int} (hh : hasH L k = false) : posf l k = none := by
  have := pos_has h k
  rw [hh] at this
  cases hp : posf l k with
  | none => rfl
  | some v => rw [hp] at this; cases this
set_option maxRecDepth 100000 in
set_option maxHeartbeats 4000000 in
theorem lprio16 {w : World} {v : Value} {S : Nat → Prop} {m : Int} {L : List It} (k : Int) (hr : Rel w w) (h : LHp w v S m L) (hk : i64 k) :
    Calls Try.prog 27 #[v, .int .i64 k] w fun e w' => e = .returned (.tuple #[.int .i64 ((prioH L k).getD 0), .bool (hasH L k)]) ∧ Rel w w' := by
  have hwf := i64_wf hk
  rcases h with ⟨rfl, _, _, rfl⟩ | ⟨g, b, u, l, rfl, _, hb, ho, _⟩
  · have HP := Lib.hid (place_nil w hr k)
    clear hr hk
    show Calls _ _ _ _ fun e w' => e = .returned (.tuple #[.int .i64 0, .bool false]) ∧ Rel w w'
    go_enter Try.func27, Try.ntmps27
    go_wp2_with (go_at_call 43; (with_reducible refine HP.out.mono ?_); rintro e w1 ⟨rfl, r1⟩; have R1 := Lib.hid r1; clear r1)
    go_ret2
    exact ⟨rfl, R1.out⟩
  · have HP := place_any hb hr k hwf
    cases hh : hasH L k with
    | false =>
      rw [no_place ho hh] at HP
      rw [prio_no hh]
      have HP := Lib.hid (show Calls Try.prog 43 #[.pointer (some ⟨g, 0, none⟩), .int .i64 k] w fun e w' => e = .returned (.tuple #[.int .i64 0, .bool false]) ∧ Rel w w' from HP)
      clear hr hk hb ho hh
      go_enter Try.func27, Try.ntmps27
      go_wp2_with (go_at_call 43; (with_reducible refine HP.out.mono ?_); rintro e w1 ⟨rfl, r1⟩; have R1 := Lib.hid r1; clear r1)
      go_ret2
      exact ⟨rfl, R1.out⟩
    | true =>
      obtain ⟨i, y, hi, hx, hp⟩ := has_place ho hh
      rw [hp] at HP
      rw [(prio_at ho hi hx).1]
      have HP := Lib.hid (show Calls Try.prog 43 #[.pointer (some ⟨g, 0, none⟩), .int .i64 k] w fun e w' => e = .returned (.tuple #[.int .i64 (i : Int), .bool true]) ∧ Rel w w' from HP)
      rcases hb.hm.form with ⟨_, e⟩ | ⟨q, c, rfl, hlc, hc, _⟩
      · subst e; simp at hi
      obtain ⟨n, hn⟩ : ∃ n, l.length = n := ⟨_, rfl⟩
      rw [hn] at hb hlc hi
      have HB := Lib.hid hb
      have HN := Lib.hid hn
      have HX := Lib.hid hx
      have hi' : (i : Int) < (n : Int) := by omega
      clear hr hk hb ho hh hx hp hn
      go_enter Try.func27, Try.ntmps27
      go_wp2_with (go_at_call 43; (with_reducible refine HP.out.mono ?_); rintro e w1 ⟨rfl, r1⟩; have R1 := Lib.hid r1; have HM := Lib.hid (HB.out.hm.rel r1); obtain ⟨⟨k0, k1, k2⟩, _⟩ := HM.out.box.three; obtain ⟨z0, z1, _, _⟩ := HM.out.at (by rw [HN.out]; exact hi) HX.out; clear r1)
      go_ret2
      exact ⟨rfl, R1.out⟩
set_option maxRecDepth 100000 in
set_option maxHeartbeats 4000000 in
theorem lremove16 {w : World} {v : Value} {S : Nat → Prop} {m : Int} {L : List It} (k : Int) (hr : Rel w w) (h : LHp w v S m L) (hk : i64 k) :
    Calls Try.prog 38 #[v, .int .i64 k] w fun e w' => e = .returned (.bool (hasH L k)) ∧ ∃ S', LHp w' v S' m (remH L k) ∧ St S S' w w' := by
  have hwf := i64_wf hk
  have HE := Lib.hid h
  rcases h with ⟨rfl, _, _, rfl⟩ | ⟨g, b, u, l, rfl, rfl, hb, ho, hh0, m1, m2, m3⟩
  · have HP := Lib.hid (place_nil w hr k)
    clear hr hk
    show Calls _ _ _ _ fun e w' => e = .returned (.bool false) ∧ _
    go_enter Try.func38, Try.ntmps38
    go_wp2_with (go_at_call 43; (with_reducible refine HP.out.mono ?_); rintro e w1 ⟨rfl, r1⟩; have R1 := Lib.hid r1; clear r1)
    go_ret
    exact ⟨rfl, S, HE.out.rel R1.out, St.of_rel R1.out⟩
  · have HP := place_any hb hr k hwf
    cases hh : hasH L k with
    | false =>
      rw [no_place ho hh] at HP
      have HP := Lib.hid (show Calls Try.prog 43 #[.pointer (some ⟨g, 0, none⟩), .int .i64 k] w fun e w' => e = .returned (.tuple #[.int .i64 0, .bool false]) ∧ Rel w w' from HP)
      have HL := Lib.hid (show remH L k = L by
        unfold remH
        rw [List.filter_eq_self]
        intro x hx
        rw [decide_eq_true_eq]
        intro e
        have : hasH L k = true := has_iff.2 ⟨x, hx, e⟩
        rw [hh] at this; cases this)
      clear hr hk hb ho hh hh0 m3
      go_enter Try.func38, Try.ntmps38
      go_wp2_with (go_at_call 43; (with_reducible refine HP.out.mono ?_); rintro e w1 ⟨rfl, r1⟩; have R1 := Lib.hid r1; clear r1)
      go_ret
      exact ⟨rfl, _, by rw [HL.out]; exact HE.out.rel R1.out, St.of_rel R1.out⟩
    | true =>
      obtain ⟨i, y, hi, hx, hp⟩ := has_place ho hh
      rw [hp] at HP
      have HP := Lib.hid (show Calls Try.prog 43 #[.pointer (some ⟨g, 0, none⟩), .int .i64 k] w fun e w' => e = .returned (.tuple #[.int .i64 (i : Int), .bool true]) ∧ Rel w w' from HP)
      have HB := Lib.hid hb
      have HR := Lib.hid hr
      have HO := Lib.hid ho
      have HD := Lib.hid hh0
      have HI := Lib.hid hi
      have HX := Lib.hid hx
      have HS := Lib.hid (show (remH L k).length + 1 = L.length by
        have := rem_len ho.srt ((ho.mem _).1 (at_mem hi))
        rw [hx] at this
        exact this)
      have M3 := Lib.hid m3
      clear hr hk hb ho hh hx hp hh0 m3 hi
      go_enter Try.func38, Try.ntmps38
      go_wp2_with (first | (go_at_call 43; (with_reducible refine HP.out.mono ?_); rintro e w1 ⟨rfl, r1⟩; have R1 := Lib.hid r1; clear r1) | (go_at_call 48; (with_reducible refine (ltake16_any (HB.out.rel R1.out) (R1.out.self) HO.out HD.out HI.out).mono ?_); rintro e w2 ⟨rfl, v2, l2, a1, a2, a3, a4, a5⟩; have A1 := Lib.hid a1; have A2 := Lib.hid a2; have A3 := Lib.hid a3; have A4 := Lib.hid a4; have A5 := Lib.hid a5; clear a1 a2 a3 a4 a5))
      go_ret
      refine ⟨rfl, SoF g b v2, .inr ⟨g, b, v2, l2, rfl, rfl, A1.out, ?_, A3.out, m1, m2, ?_⟩, St.of_ke ((Ke.of_rel R1.out).on A5.out) (SoF_eq A4.out)⟩
      · have := A2.out
        rw [HX.out] at this
        exact this
      · have h1 := HS.out
        have h2 := M3.out
        omega
end Go.Proofs.Ytndmnlgancnbkaa

namespace Go.Proofs.Ytndmnlgancnbkaa
open Go.RowKit Go.Lib
set_option linter.unusedVariables false
set_option linter.unusedSimpArgs false
theorem Ke.put_new {S : Nat → Prop} {w w' : World} (h : Ke S w w') {p : Addr} (hp : w.heap.size ≤ p.block) (u : Value) : Ke S w (w'.setCell p u) :=
  ⟨h.os, h.tape, h.output, by simpa using h.size, fun k hk hn => (Below.heap_setCell w' p u k (fun e => by rw [e] at hk; exact Nat.not_le_of_lt hk hp)).trans (h.block k hk hn)⟩
theorem LHp.put_new {w0 w : World} {v : Value} {S S0 : Nat → Prop} {m : Int} {L : List It} (h : LHp w v S m L) (hS : ∀ k, S k → k < w0.heap.size) {p : Addr} (hp : w0.heap.size ≤ p.block) (u : Value) : LHp (w.setCell p u) v S m L :=
  h.keep (by simp) (fun k hk => Below.heap_setCell w p u k (fun e => by have := hS k hk; rw [e] at this; exact Nat.not_le_of_lt this hp))
set_option maxRecDepth 100000 in
set_option maxHeartbeats 4000000 in
theorem lchange16 {w : World} {v : Value} {S : Nat → Prop} {m : Int} {L : List It} (k p : Int) (hr : Rel w w) (h : LHp w v S m L) (hk : i64 k) (hp0 : i64 p) :
    Calls Try.prog 28 #[v, .int .i64 k, .int .i64 p] w fun e w' => e = .returned (.bool (hasH L k)) ∧ ∃ S', LHp w' v S' m (chgH L k p) ∧ St S S' w w' := by
  have hwf := i64_wf hk
  have HE := Lib.hid h
  rcases h with ⟨rfl, _, _, rfl⟩ | ⟨g, b, u, l, rfl, rfl, hb, ho, hh0, m1, m2, m3⟩
  · have HP := Lib.hid (place_nil w hr k)
    clear hr hk hp0
    show Calls _ _ _ _ fun e w' => e = .returned (.bool false) ∧ _
    go_enter Try.func28, Try.ntmps28
    go_wp2_with (go_at_call 43; (with_reducible refine HP.out.mono ?_); rintro e w1 ⟨rfl, r1⟩; have R1 := Lib.hid r1; clear r1)
    go_ret
    exact ⟨rfl, S, HE.out.rel R1.out, St.of_rel R1.out⟩
  · have HP := place_any hb hr k hwf
    cases hh : hasH L k with
    | false =>
      rw [no_place ho hh] at HP
      have HP := Lib.hid (show Calls Try.prog 43 #[.pointer (some ⟨g, 0, none⟩), .int .i64 k] w fun e w' => e = .returned (.tuple #[.int .i64 0, .bool false]) ∧ Rel w w' from HP)
      have HL := Lib.hid (show chgH L k p = L by
        unfold chgH
        conv => rhs; rw [← List.map_id L]
        refine List.map_congr_left fun x hx => ?_
        rw [if_neg]
        · rfl
        · intro e
          have : hasH L k = true := has_iff.2 ⟨x, hx, e⟩
          rw [hh] at this; cases this)
      clear hr hk hb ho hh hh0 m3 hp0
      go_enter Try.func28, Try.ntmps28
      go_wp2_with (go_at_call 43; (with_reducible refine HP.out.mono ?_); rintro e w1 ⟨rfl, r1⟩; have R1 := Lib.hid r1; clear r1)
      go_ret
      exact ⟨rfl, _, by rw [HL.out]; exact HE.out.rel R1.out, St.of_rel R1.out⟩
    | true =>
      obtain ⟨i, y, hi, hx, hp⟩ := has_place ho hh
      rw [hp] at HP
      have HP := Lib.hid (show Calls Try.prog 43 #[.pointer (some ⟨g, 0, none⟩), .int .i64 k] w fun e w' => e = .returned (.tuple #[.int .i64 (i : Int), .bool true]) ∧ Rel w w' from HP)
      rcases hb.hm.form with ⟨_, e⟩ | ⟨q, c, rfl, hlc, hc, _⟩
      · subst e; simp at hi
      obtain ⟨n, hn⟩ : ∃ n, l.length = n := ⟨_, rfl⟩
      have HI := Lib.hid hi
      rw [hn] at hb hlc hi ⊢
      have HB := Lib.hid hb
      have HR := Lib.hid hr
      have HO := Lib.hid (rowed_set ho HI.out k p (by rw [hx]))
      have HD := Lib.hid (set_any hh0 HI.out (k, p))
      have HN := Lib.hid hn
      have HX := Lib.hid hx
      have HK := Lib.hid (show (atI l i).1 = k by rw [hx])
      have HF := Lib.hid (⟨hk, hp0⟩ : i64 k ∧ i64 p)
      have hi' : (i : Int) < (n : Int) := by omega
      have M3 := Lib.hid m3
      clear hr hk hb ho hh hx hp hh0 m3 hp0 hn
      go_enter Try.func28, Try.ntmps28
      go_upto_region 4 with (go_at_call 43; (with_reducible refine HP.out.mono ?_); rintro e w1 ⟨rfl, r1⟩; have R1 := Lib.hid r1; have HM := Lib.hid (HB.out.hm.rel r1); obtain ⟨⟨k0, k1, k2⟩, _⟩ := HM.out.box.three; obtain ⟨z0, z1, z2, z3⟩ := HM.out.at HI.out HX.out; clear r1)
      obtain ⟨HM2, HK2⟩ := HM.out.put2 (p := p) HI.out HN.out HK.out
      obtain ⟨W, hW⟩ : ∃ W, w1.setCell ⟨q, i * 2 + 1, none⟩ (.int .i64 p) = W := ⟨_, rfl⟩
      rw [hW] at HM2 HK2
      try rw [hW]
      clear hW k0 k1 k2 z0 z1 z2 z3
      have HB2 := Lib.hid (HM2.done (pos_set HI.out _ HK.out.symm).symm (by rw [List.length_set]) HO.out.dst (fun x hx => by
        rcases List.mem_or_eq_of_mem_set hx with h | h
        · exact HB.out.fit x h
        · subst h; exact HF.out) (by rw [List.length_set]; exact HB.out.cap))
      have HK2 := Lib.hid ((Ke.of_rel R1.out).on HK2)
      have HS := Lib.hid (settle_any HB2.out (HK2.out.rel_to HR.out) HO.out (i := i) (by rw [List.length_set]; exact HI.out) HD.out)
      clear HM2 HM
      go_wp2_with (go_at_call 44; (with_reducible refine HS.out.mono ?_); rintro e w2 ⟨rfl, l2, a1, a2, a3, a4⟩; have A1 := Lib.hid a1; have A2 := Lib.hid a2; have A3 := Lib.hid a3; have A4 := Lib.hid a4; clear a1 a2 a3 a4)
      go_ret
      exact ⟨rfl, _, .inr ⟨g, b, _, l2, rfl, rfl, A1.out, A2.out, A3.out, m1, m2, by rw [chg_len]; exact M3.out⟩, Gr.refl _ _, HK2.out.on A4.out⟩
set_option maxRecDepth 100000 in
set_option maxHeartbeats 4000000 in
theorem lpop_none {w : World} {p : Option Addr} {S : Nat → Prop} {m : Int} {L : List It} (hr : Rel w w) (h : LHp w (.pointer p) S m L) (HT : Hid (∀ w1, Rel w w1 → Calls Try.prog 47 #[.pointer p] w1 fun e w' => e = .returned (.tuple #[.agg #[.int .i64 0, .int .i64 0], .bool false]) ∧ Rel w1 w')) :
    Calls Try.prog 34 #[.pointer p] w fun e w' => e = .returned (.tuple #[.agg #[.int .i64 0, .int .i64 0], .bool false]) ∧ LHp w' (.pointer p) S m L ∧ Ke S w w' := by
  have HH := Lib.hid h
  have AL := Lib.hid (hr.alloc (.cells #[.int .i64 0, .int .i64 0] 64))
  have BX := Lib.hid (Bk.new w 64 #[.int .i64 0, .int .i64 0])
  clear hr h
  go_enter Try.func34, Try.ntmps34
  go_upto_region 1 with (fail)
  obtain ⟨w1, hw1⟩ : ∃ W, w.alloc (.cells #[.int .i64 0, .int .i64 0] 64) = W := ⟨_, rfl⟩
  obtain ⟨gx, hgx⟩ : ∃ q, w.heap.size = q := ⟨_, rfl⟩
  rw [hw1] at AL BX
  rw [hgx] at BX
  try rw [hw1]
  try rw [hgx]
  have Hgx := Lib.hid (show w.heap.size ≤ gx by rw [hgx]; exact Nat.le_refl _)
  clear hw1 hgx
  go_upto_region 2 with (go_at_call 47; (with_reducible refine (HT.out _ AL.out).mono ?_); rintro e w2 ⟨rfl, r2⟩; have R2 := Lib.hid (AL.out.trans r2); have BX2 := Lib.hid (BX.out.rel r2); clear r2)
  have BY := Lib.hid (Bk.new w2 64 #[.int .i64 0, .int .i64 0])
  have Hne := Lib.hid (Nat.ne_of_lt BX2.out.lt)
  have BX3 := Lib.hid (BX2.out.alloc (.cells #[.int .i64 0, .int .i64 0] 64))
  have R3 := Lib.hid (R2.out.alloc (.cells #[.int .i64 0, .int .i64 0] 64))
  obtain ⟨gy, hgy⟩ : ∃ q, w2.heap.size = q := ⟨_, rfl⟩
  have Hgy := Lib.hid (show w.heap.size ≤ gy by rw [← hgy]; exact R2.out.size)
  obtain ⟨W, hW⟩ : ∃ W, w2.alloc (.cells #[.int .i64 0, .int .i64 0] 64) = W := ⟨_, rfl⟩
  rw [hW] at BY BX3 R3
  try rw [hW]
  rw [hgy] at BY Hne
  try rw [hgy]
  clear hW hgy BX2 BX
  clear AL
  obtain ⟨⟨x0, x1⟩, ⟨c0, c1⟩⟩ := BX3.out.two
  obtain ⟨⟨y0, y1⟩, ⟨d0, d1⟩⟩ := BY.out.two
  go_wp2_with (fail)
  have RX := Lib.hid (BX3.out.put (.int .i64 0) (.int .i64 0))
  obtain ⟨r0, r1⟩ := RX.out.two.1
  exact bodyPost_ret (v := .tuple #[.agg #[.int .i64 0, .int .i64 0], .bool false]) (by simp [results, Try.results34, go_sem, r0, r1]) rfl ⟨rfl, HH.out.rel ((R3.out.setCell (p := ⟨gx, 0, none⟩) Hgx.out _).setCell (p := ⟨gx, 1, none⟩) Hgx.out _), Ke.of_rel ((R3.out.setCell (p := ⟨gx, 0, none⟩) Hgx.out _).setCell (p := ⟨gx, 1, none⟩) Hgx.out _)⟩
set_option maxRecDepth 100000 in
set_option maxHeartbeats 4000000 in
theorem lpop_some {w : World} {g b : Nat} {u : Value} {m : Int} {l L : List It} (hr : Rel w w) (hb : Hb w g b m u l) (ho : Rowed l L) (hh : OrdH l) (hl : 0 < l.length) (x y : Int) (hx : atI l 0 = (x, y)) (HT : Hid (∀ w1, Rel w w1 → Calls Try.prog 47 #[.pointer (some ⟨g, 0, none⟩)] w1 fun e w' => e = .returned (.tuple #[.agg #[.int .i64 x, .int .i64 y], .bool true]) ∧ Rel w1 w')) :
    Calls Try.prog 34 #[.pointer (some ⟨g, 0, none⟩)] w fun e w' => e = .returned (.tuple #[.agg #[.int .i64 x, .int .i64 y], .bool true]) ∧ ∃ u' l', Hb w' g b m u' l' ∧ Rowed l' (remH L x) ∧ OrdH l' ∧ u'.ownBlock = u.ownBlock ∧ Ke (SoF g b u) w w' := by
  have HB := Lib.hid hb
  have HO := Lib.hid ho
  have HD := Lib.hid hh
  have HL := Lib.hid hl
  have HX := Lib.hid hx
  clear hb ho hh hl hx
  have AL := Lib.hid (hr.alloc (.cells #[.int .i64 0, .int .i64 0] 64))
  have BX := Lib.hid (Bk.new w 64 #[.int .i64 0, .int .i64 0])
  clear hr
  go_enter Try.func34, Try.ntmps34
  go_upto_region 1 with (fail)
  obtain ⟨w1, hw1⟩ : ∃ W, w.alloc (.cells #[.int .i64 0, .int .i64 0] 64) = W := ⟨_, rfl⟩
  obtain ⟨gx, hgx⟩ : ∃ q, w.heap.size = q := ⟨_, rfl⟩
  rw [hw1] at AL BX
  rw [hgx] at BX
  try rw [hw1]
  try rw [hgx]
  have Hgx := Lib.hid (show w.heap.size ≤ gx by rw [hgx]; exact Nat.le_refl _)
  clear hw1 hgx
  go_upto_region 2 with (go_at_call 47; (with_reducible refine (HT.out _ AL.out).mono ?_); rintro e w2 ⟨rfl, r2⟩; have R2 := Lib.hid (AL.out.trans r2); have BX2 := Lib.hid (BX.out.rel r2); clear r2)
  have BY := Lib.hid (Bk.new w2 64 #[.int .i64 x, .int .i64 y])
  have Hne := Lib.hid (Nat.ne_of_lt BX2.out.lt)
  have BX3 := Lib.hid (BX2.out.alloc (.cells #[.int .i64 x, .int .i64 y] 64))
  have R3 := Lib.hid (R2.out.alloc (.cells #[.int .i64 x, .int .i64 y] 64))
  obtain ⟨gy, hgy⟩ : ∃ q, w2.heap.size = q := ⟨_, rfl⟩
  have Hgy := Lib.hid (show w.heap.size ≤ gy by rw [← hgy]; exact R2.out.size)
  obtain ⟨W, hW⟩ : ∃ W, w2.alloc (.cells #[.int .i64 x, .int .i64 y] 64) = W := ⟨_, rfl⟩
  rw [hW] at BY BX3 R3
  try rw [hW]
  rw [hgy] at BY Hne
  try rw [hgy]
  clear hW hgy BX2 BX
  clear AL
  have HB3 := Lib.hid (HB.out.rel R3.out)
  have HSx := Lib.hid (show ¬ SoF g b u gx from fun e => Nat.not_le_of_lt (HB.out.lt gx e) Hgx.out)
  have HSy := Lib.hid (show ¬ SoF g b u gy from fun e => Nat.not_le_of_lt (HB.out.lt gy e) Hgy.out)
  have htk := ltake16_any HB3.out R3.out.self HO.out HD.out HL.out
  rw [HX.out] at htk
  have HTk := Lib.hid (show Calls Try.prog 48 #[.pointer (some ⟨g, 0, none⟩), .int .i64 0] W fun e w' => e = .returned (.tuple #[]) ∧ ∃ v' l', Hb w' g b m v' l' ∧ Rowed l' (remH L x) ∧ OrdH l' ∧ v'.ownBlock = u.ownBlock ∧ Ke (SoF g b u) W w' from htk)
  clear htk
  go_wp2_with (go_at_call 48; (with_reducible refine HTk.out.mono ?_); rintro e w4 ⟨rfl, u4, l4, a1, a2, a3, a4, a5⟩; have A1 := Lib.hid a1; have A2 := Lib.hid a2; have A3 := Lib.hid a3; have A4 := Lib.hid a4; have A5 := Lib.hid a5; have BX4 := Lib.hid (a5.bk BX3.out HSx.out); have BY4 := Lib.hid (a5.bk BY.out HSy.out); obtain ⟨⟨x0, x1⟩, ⟨c0, c1⟩⟩ := BX4.out.two; obtain ⟨⟨y0, y1⟩, ⟨d0, d1⟩⟩ := BY4.out.two; clear a1 a2 a3 a4 a5)
  have RX := Lib.hid (BX4.out.put (.int .i64 x) (.int .i64 y))
  obtain ⟨r0, r1⟩ := RX.out.two.1
  have hS4 : SoF g b u4 = SoF g b u := SoF_eq A4.out
  have hz : ∀ k, SoF g b u4 k → k < w.heap.size := fun k hk => HB.out.lt k (by rw [← hS4]; exact hk)
  refine bodyPost_ret (v := .tuple #[.agg #[.int .i64 x, .int .i64 y], .bool true]) (by simp [results, Try.results34, go_sem, r0, r1]) rfl ⟨rfl, u4, l4, ?_, A2.out, A3.out, A4.out, (((Ke.of_rel R3.out).on A5.out).put_new (p := ⟨gx, 0, none⟩) Hgx.out _).put_new (p := ⟨gx, 1, none⟩) Hgx.out _⟩
  have hne : ∀ k, SoF g b u4 k → k ≠ gx := fun k hk e => by have := hz k hk; rw [e] at this; exact Nat.not_le_of_lt this Hgx.out
  exact (A1.out.keep (w' := w4.setCell ⟨gx, 0, none⟩ (.int .i64 x)) (by simp) (fun k hk => Below.heap_setCell w4 ⟨gx, 0, none⟩ _ k (hne k hk))).keep (by simp) (fun k hk => Below.heap_setCell _ ⟨gx, 1, none⟩ _ k (hne k hk))
theorem lpop16 {w : World} {v : Value} {S : Nat → Prop} {m : Int} {L : List It} (hr : Rel w w) (h : LHp w v S m L) :
    Calls Try.prog 34 #[v] w fun e w' => e = .returned (.tuple #[ItV (itH (topH L)), .bool (topH L).isSome]) ∧ ∃ S', LHp w' v S' m (popH L) ∧ St S S' w w' := by
  have hT : ∀ w1, Rel w w1 → Calls Try.prog 47 #[v] w1 fun e w' => e = .returned (.tuple #[ItV (itH (topH L)), .bool (topH L).isSome]) ∧ Rel w1 w' := fun w1 r => ltop16 r.self (h.rel r)
  have hp : ∃ p, v = .pointer p := by
    rcases h with ⟨rfl, _⟩ | ⟨g, b, u, l, rfl, _⟩
    · exact ⟨_, rfl⟩
    · exact ⟨_, rfl⟩
  by_cases hL : L = []
  · subst hL
    obtain ⟨p, rfl⟩ := hp
    exact (lpop_none hr h (Lib.hid hT)).mono fun e w' q => ⟨q.1, S, q.2.1, Gr.refl _ _, q.2.2⟩
  · rcases h with ⟨_, _, _, e⟩ | ⟨g, b, u, l, rfl, rfl, hb, ho, hh, m1, m2, m3⟩
    · exact absurd e hL
    · have hl0 : 0 < l.length := by
        rw [ho.len]
        exact List.length_pos_iff.2 hL
      have ht := row_top ho hh hl0
      rw [ht] at hT ⊢
      have hpop : popH L = remH L (atI l 0).1 := by unfold popH; rw [ht]
      have hlen := rem_len ho.srt ((ho.mem _).1 (at_mem hl0))
      rw [hpop]
      refine (lpop_some hr hb ho hh hl0 (atI l 0).1 (atI l 0).2 rfl (Lib.hid hT)).mono ?_
      rintro e w' ⟨he, u', l', a1, a2, a3, a4, a5⟩
      exact ⟨he, SoF g b u', .inr ⟨g, b, u', l', rfl, rfl, a1, a2, a3, m1, m2, by omega⟩, St.of_ke a5 (SoF_eq a4)⟩
end Go.Proofs.Ytndmnlgancnbkaa
