/- Layer 17: who waits is told ahead of all that are wanted much later (QueueAges). -/
import Derived.Test.YtndmnlgancnbkaaZL
import Derived.Test.YtndmnlgancnbkaaZ00
import Derived.Test.YtndmnlgancnbkaaZ01
import Derived.Test.YtndmnlgancnbkaaZ02
import Derived.Test.YtndmnlgancnbkaaZ03
import Derived.Test.YtndmnlgancnbkaaZ11
import Derived.Test.YtndmnlgancnbkaaZ14
import Derived.Test.YtndmnlgancnbkaaZ16
namespace Go.Proofs.Ytndmnlgancnbkaa
open Go.RowKit Go.Lib
set_option linter.unusedVariables false
set_option linter.unusedSimpArgs false
set_option maxRecDepth 100000 in
set_option maxHeartbeats 16000000 in
theorem QueueAges_at {QP : QpT} (H : QueueOk QP) (age prio later many : Int) (h0 : i64 age) (h1 : i64 prio) (h2 : i64 later) (h3 : i64 many) (w : World) (hr : Rel w w) :
    Calls Try.prog 5 #[.int .i64 age, .int .i64 prio, .int .i64 later, .int .i64 many] w fun e w' => e = .returned (.bool true) ∧ Rel w w' := by
  have HR := Lib.hid hr
  have HH := Lib.hid H
  have HAw := Lib.hid (fun (w : World) (hr : Rel w w) => awake17_any H w hr)
  obtain ⟨q, hq⟩ : ∃ q, pk age 30 = q := ⟨_, rfl⟩
  obtain ⟨p, hp⟩ : ∃ q, pk prio 1001 = q := ⟨_, rfl⟩
  obtain ⟨lt, hlt⟩ : ∃ q, pk later 1000 = q := ⟨_, rfl⟩
  obtain ⟨mn, hmn⟩ : ∃ q, pk many 10 = q := ⟨_, rfl⟩
  have bq := pk_bd age 30 (by omega)
  have bp := pk_bd prio 1001 (by omega)
  have bl := pk_bd later 1000 (by omega)
  have bm := pk_bd many 10 (by omega)
  rw [hq] at bq
  rw [hp] at bp
  rw [hlt] at bl
  rw [hmn] at bm
  have P0 := Lib.hid (fun (w : World) => pk17_as age 30 q (Lib.hid hq) h0 (by omega) (by omega) w)
  have P1 := Lib.hid (fun (w : World) => pk17_as prio 1001 p (Lib.hid hp) h1 (by omega) (by omega) w)
  have P2 := Lib.hid (fun (w : World) => pk17_as later 1000 lt (Lib.hid hlt) h2 (by omega) (by omega) w)
  have P3 := Lib.hid (fun (w : World) => pk17_as many 10 mn (Lib.hid hmn) h3 (by omega) (by omega) w)
  obtain ⟨n, hn⟩ : ∃ n : Nat, (n : Int) = 1 + mn := ⟨(1 + mn).toNat, by omega⟩
  obtain ⟨g, hg⟩ : ∃ g, 1 + q = g := ⟨_, rfl⟩
  have hg1 : 1 ≤ g := by omega
  have hg2 : g ≤ 30 := by omega
  have hn10 : n ≤ 10 := by omega
  have hpg0 : 0 ≤ p * g := Int.mul_nonneg bp.1 (by omega)
  have hpg1 : p * g ≤ 1000 * g := Int.mul_le_mul_of_nonneg_right (by omega) (by omega)
  obtain ⟨f, hf⟩ : ∃ f, p * g - (6 + 1000 * g + lt) = f := ⟨_, rfl⟩
  have hf5 : f < -5 := by omega
  have HF := Lib.hid hf
  have HF5 := Lib.hid hf5
  have KN := Lib.hid (fun (w1 : World) (hr : Rel w w1) => qnew H (w0 := w) w1 hr (room := 20) (age := g) (by omega) (by omega) (by omega) (by omega))
  have K0 := Lib.hid (fun (w1 : World) (v : Value) (S : Nat → Prop) (h : Qq QP w w1 v S 20 g [] []) => show Calls Try.prog 12 #[v, .int .i64 11, .int .i64 0, .int .i64 5] w1 fun e w' => ∃ S', e = .returned (.int .i64 0) ∧ Hid (Qq QP w w' v S' 20 g [(11, -5)] []) ∧ Hid (St S S' w1 w') from by
    have hv : wantV g 11 0 5 = true := wantV_iff.2 ⟨hg1, by omega, by omega, by omega, by omega⟩
    obtain ⟨e1, e2, e3⟩ := want_in (m := 20) (D := []) hv (L := []) rfl (by simp)
    refine qwant H h (in17 (by omega) (by omega)) (in17 (by omega) (by omega)) (in17 (by omega) (by omega)) e1 ?_ e3
    rw [e2]
    show [((11 : Int), wgt g 0 5)] = _
    unfold wgt
    simp)
  have K1 := Lib.hid (fun (w1 : World) (v : Value) (S : Nat → Prop) (i : Nat) (L : List It) (hi : i < n) (hA : AgF f i L) (h : Qq QP w w1 v S 20 g L []) => show Calls Try.prog 12 #[v, .int .i64 (10 - (i : Int)), .int .i64 p, .int .i64 (5 + 1000 * g + 1 + lt + (i : Int))] w1 fun e w' => ∃ S', e = .returned (.int .i64 0) ∧ Hid (Qq QP w w' v S' 20 g (insH L (10 - (i : Int), f - (i : Int))) []) ∧ Hid (St S S' w1 w') from by
    have hv : wantV g (10 - (i : Int)) p (5 + 1000 * g + 1 + lt + (i : Int)) = true := wantV_iff.2 ⟨hg1, by omega, by omega, by omega, by omega⟩
    obtain ⟨e1, e2, e3⟩ := want_in (m := 20) (D := []) hv (agf_has hA) (by rw [hA.len]; omega)
    refine qwant H h (in17 (by omega) (by omega)) (in17 (by omega) (by omega)) (in17 (by omega) (by omega)) e1 ?_ e3
    rw [e2]
    congr 2
    unfold wgt
    omega)
  have KX := Lib.hid (fun (w1 : World) (v : Value) (S : Nat → Prop) (L : List It) (x : Int) (b : Bool) (hx : (itH (topH L)).1 = x) (hb : (topH L).isSome = b) (h : Qq QP w w1 v S 20 g L []) => qnext H h (t := 0) (L' := popH L) (D' := []) (in17 (by omega) (by omega)) hx hb rfl rfl)
  have HG0 := Lib.hid hg1
  clear H hr h0 h1 h2 h3 hq hp hlt hmn hf hf5 hpg0 hpg1
  go_enter Try.func5, Try.ntmps5
  go_upto_region 2 with (go_at_call 8; (with_reducible refine (HAw.out w HR.out).mono ?_); rintro e w1 ⟨rfl, r1⟩; have R1 := Lib.hid r1; clear r1)
  go_upto_region 3 with (go_at_call 9; (with_reducible refine (P0.out _).mono ?_); rintro e w1' ⟨rfl, rfl⟩)
  try rw [hg]
  clear hg bq P0 HAw
  go_upto_region 4 with (go_at_call 10; (with_reducible refine (KN.out w1 R1.out).mono ?_); rintro e w2 ⟨gq, S2, rfl, h2, _, _⟩)
  obtain ⟨v, hv⟩ : ∃ v, Value.pointer (some ⟨gq, 0, none⟩) = v := ⟨_, rfl⟩
  rw [hv] at h2
  try rw [hv]
  clear hv KN R1
  go_upto_region 5 with (go_at_call 9; (with_reducible refine (P3.out _).mono ?_); rintro e w2' ⟨rfl, rfl⟩)
  try rw [← hn]
  clear hn bm P3
  go_upto_region 6 with (go_at_call 12; (with_reducible refine (K0.out _ _ _ h2.out).mono ?_); rintro e w3 ⟨S3, rfl, h3, _⟩)
  clear h2 K0
  go_upto_block 0 with (fail)
  go_cut [] (fun wx => ∃ (L : List It) (S : Nat → Prop), Hid (AgF f n L) ∧ Hid (Qq QP w wx v S 20 g L []))
  case first =>
    go_wp2_with (fail)
    go_loopw [14] (fun i wr => ∃ (j : Nat) (L : List It) (S : Nat → Prop), i = .int .i64 (j : Int) ∧ j ≤ n ∧ Hid (AgF f j L) ∧ Hid (Qq QP w wr v S 20 g L [])) (fun i _ => n - (RowKit.intOf i).toNat)
    case atStart => exact ⟨0, _, S3, rfl, by omega, Lib.hid (agf_nil f), h3⟩
    case round =>
      obtain ⟨j, L, S, rfl, hj, HA, HQ⟩ := hrel
      by_cases hlt : j < n
      · have hij : (j : Int) < (n : Int) := by omega
        have HJ := Lib.hid hlt
        go_wp2_with (first | (go_at_call 9; (first | (with_reducible refine (P1.out _).mono ?_) | (with_reducible refine (P2.out _).mono ?_)); rintro e wq ⟨rfl, rfl⟩) | (go_at_call 12; (with_reducible refine (K1.out _ _ _ _ _ HJ.out HA.out HQ.out).mono ?_); rintro e w4 ⟨S4, rfl, h4, _⟩))
        go_roundw
        case rel => exact ⟨j + 1, _, S4, by go_num, by omega, Lib.hid (agf_step HA.out), h4⟩
        case measure => simp [RowKit.intOf]; omega
      · obtain rfl : j = n := by omega
        go_wp2_with (fail)
        go_meet
        exact ⟨L, S, HA, HQ⟩
  obtain ⟨L5, S5, HA5, HQ5⟩ := hcut
  have HT5 := Lib.hid (agf_top HA5.out HF5.out)
  have HX5 := Lib.hid (show (itH (topH L5)).1 = 11 ∧ (topH L5).isSome = true by rw [HT5.out.1]; exact ⟨rfl, rfl⟩)
  clear h3 K1 P1 P2
  go_upto_region 12 with (go_at_call 14; (with_reducible refine (KX.out _ _ _ _ 11 true HX5.out.1 HX5.out.2 HQ5.out).mono ?_); rintro e w6 ⟨S6, rfl, h6, _⟩)
  have HA6 := Lib.hid HT5.out.2
  obtain ⟨L6, hL6⟩ : ∃ L, popH L5 = L := ⟨_, rfl⟩
  rw [hL6] at h6 HA6
  clear hL6 HT5 HA5 HQ5
  go_upto_block 2 with (fail)
  go_cut [] (fun wx => ∃ (S : Nat → Prop), Hid (Qq QP w wx v S 20 g [] []))
  case first =>
    go_wp2_with (fail)
    go_loopw [17] (fun i wr => ∃ (j : Nat) (L : List It) (S : Nat → Prop), i = .int .i64 (j : Int) ∧ j ≤ n ∧ Hid (AgL f j n L) ∧ Hid (Qq QP w wr v S 20 g L [])) (fun i _ => n - (RowKit.intOf i).toNat)
    case atStart => exact ⟨0, L6, S6, rfl, by omega, HA6, h6⟩
    case round =>
      obtain ⟨j, L, S, rfl, hj, HA, HQ⟩ := hrel
      by_cases hlt : j < n
      · have hij : (j : Int) < (n : Int) := by omega
        have HTj := Lib.hid (agl_top HA.out hlt)
        have HXj := Lib.hid (show (itH (topH L)).1 = 10 - (j : Int) ∧ (topH L).isSome = true by rw [HTj.out.1]; exact ⟨rfl, rfl⟩)
        go_wp2_with (go_at_call 14; (with_reducible refine (KX.out _ _ _ _ (10 - (j : Int)) true HXj.out.1 HXj.out.2 HQ.out).mono ?_); rintro e w7 ⟨S7, rfl, h7, _⟩)
        go_roundw
        case rel => exact ⟨j + 1, _, S7, by go_num, by omega, Lib.hid HTj.out.2, h7⟩
        case measure => simp [RowKit.intOf]; omega
      · obtain rfl : j = n := by omega
        have HE := Lib.hid (agl_end HA.out)
        have HQ2 := Lib.hid (show Qq QP w wr v S 20 g [] [] by have := HQ.out; rw [HE.out] at this; exact this)
        clear HQ HA HE
        go_wp2_with (fail)
        go_meet
        exact ⟨S, HQ2⟩
  obtain ⟨S8, HQ8⟩ := hcut
  have HX8 := Lib.hid (show (itH (topH ([] : List It))).1 = 0 ∧ (topH ([] : List It)).isSome = false from ⟨rfl, rfl⟩)
  go_wp2_with (go_at_call 14; (with_reducible refine (KX.out _ _ _ [] 0 false HX8.out.1 HX8.out.2 HQ8.out).mono ?_); rintro e w9 ⟨S9, rfl, h9, _⟩)
  go_ret
  exact ⟨rfl, h9.out.rel⟩
end Go.Proofs.Ytndmnlgancnbkaa
