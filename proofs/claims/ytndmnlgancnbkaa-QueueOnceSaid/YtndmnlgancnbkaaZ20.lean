/- Layer 17: who is wanted many times is told once, as the most urgent time asks (QueueOnce). -/
import Derived.Test.YtndmnlgancnbkaaZL
import Derived.Test.YtndmnlgancnbkaaZ00
import Derived.Test.YtndmnlgancnbkaaZ01
import Derived.Test.YtndmnlgancnbkaaZ02
import Derived.Test.YtndmnlgancnbkaaZ03
import Derived.Test.YtndmnlgancnbkaaZ11
import Derived.Test.YtndmnlgancnbkaaZ14
import Derived.Test.YtndmnlgancnbkaaZ15
import Derived.Test.YtndmnlgancnbkaaZ19
namespace Go.Proofs.Ytndmnlgancnbkaa
open Go.RowKit Go.Lib
set_option linter.unusedVariables false
set_option linter.unusedSimpArgs false
set_option maxRecDepth 100000 in
set_option maxHeartbeats 16000000 in
theorem QueueOnce_at {QP : QpT} (H : QueueOk QP) (A : Option Addr) (c : Nat) (zs : List Int) (other : Int) (h1 : i64 other) (w : World) (hr : Rel w w) (hZ : Nums w A c zs) :
    Calls Try.prog 6 #[.slice A zs.length c, .int .i64 other] w fun e w' => e = .returned (.bool true) ∧ Rel w w' := by
  have HR := Lib.hid hr
  have HH := Lib.hid H
  have HZ := Lib.hid hZ
  have HAw := Lib.hid (fun (w : World) (hr : Rel w w) => awake17_any H w hr)
  obtain ⟨N, hN⟩ : ∃ n, zs.length = n := ⟨_, rfl⟩
  have hN9 : N ≤ 9223372036854775807 := by rw [← hN]; have h1 := hZ.1; have h2 := hZ.2.1; unfold maxLen at h2; omega
  have HN := Lib.hid hN
  rw [hN]
  obtain ⟨o, ho⟩ : ∃ q, pk other 100 = q := ⟨_, rfl⟩
  have bo := pk_bd other 100 (by omega)
  rw [ho] at bo
  have HO := Lib.hid bo
  have P0 := Lib.hid (fun (w : World) => pk17_as other 100 o (Lib.hid ho) h1 (by omega) (by omega) w)
  have PZ := Lib.hid (fun (z p : Int) (hz : i64 z) (hp : pk z 100 = p) (w : World) => pk17_as z 100 p (Lib.hid hp) hz (by omega) (by omega) w)
  have KN := Lib.hid (fun (w1 : World) (hr : Rel w w1) => qnew H (w0 := w) w1 hr (room := 5) (age := 10) (by omega) (by omega) (by omega) (by omega))
  have K1 := Lib.hid (fun (w1 : World) (v : Value) (S : Nat → Prop) (mo p : Int) (L : List It) (hp : 0 ≤ p ∧ p < 100) (hA : OnceL mo L) (h : Qq QP w w1 v S 5 10 L []) => show Calls Try.prog 12 #[v, .int .i64 3, .int .i64 p, .int .i64 7] w1 fun e w' => ∃ (S' : Nat → Prop) (L' : List It), e = .returned (.int .i64 0) ∧ Hid (OnceL (max mo p) L') ∧ Hid (Qq QP w w' v S' 5 10 L' []) from by
    obtain ⟨e1, e2, e3⟩ := once_step hA hp
    refine (qwant H h (in17 (by omega) (by omega)) (in17 (by omega) (by omega)) (in17 (by omega) (by omega)) e1 rfl e3).mono ?_
    rintro e w' ⟨S', he, a1, _⟩
    exact ⟨S', _, he, Lib.hid e2, a1⟩)
  have K2 := Lib.hid (fun (w1 : World) (v : Value) (S : Nat → Prop) (mo : Int) (L : List It) (hA : OnceL mo L) (h : Qq QP w w1 v S 5 10 L []) => show Calls Try.prog 12 #[v, .int .i64 4, .int .i64 o, .int .i64 7] w1 fun e w' => ∃ (S' : Nat → Prop), e = .returned (.int .i64 0) ∧ Hid (Qq QP w w' v S' 5 10 (L ++ [(4, o * 10 - 7)]) []) from by
    obtain ⟨e1, e2, e3⟩ := once_two hA bo
    refine (qwant H h (in17 (by omega) (by omega)) (in17 (by omega) (by omega)) (in17 (by omega) (by omega)) e1 e2 e3).mono ?_
    rintro e w' ⟨S', he, a1, _⟩
    exact ⟨S', he, a1⟩)
  have KX := Lib.hid (fun (w1 : World) (v : Value) (S : Nat → Prop) (L : List It) (x : Int) (b : Bool) (hx : (itH (topH L)).1 = x) (hb : (topH L).isSome = b) (h : Qq QP w w1 v S 5 10 L []) => qnext H h (t := 8) (L' := popH L) (D' := []) (in17 (by omega) (by omega)) hx hb rfl rfl)
  clear H hr hZ hN h1 ho
  go_enter Try.func6, Try.ntmps6
  go_upto_region 2 with (go_at_call 8; (with_reducible refine (HAw.out w HR.out).mono ?_); rintro e w1 ⟨rfl, r1⟩; have R1 := Lib.hid r1; clear r1)
  go_upto_region 3 with (go_at_call 10; (with_reducible refine (KN.out w1 R1.out).mono ?_); rintro e w2 ⟨gq, S2, rfl, h2, _, _⟩)
  obtain ⟨v, hv⟩ : ∃ v, Value.pointer (some ⟨gq, 0, none⟩) = v := ⟨_, rfl⟩
  rw [hv] at h2
  try rw [hv]
  clear hv KN R1 HAw
  go_upto_block 0 with (fail)
  go_cut [7] (fun m wx => ∃ (mo : Int) (L : List It) (S : Nat → Prop), m = .int .i64 mo ∧ Hid (OnceL mo L) ∧ Hid (Qq QP w wx v S 5 10 L []))
  case first =>
    go_wp2_with (fail)
    go_loopw [7, 8] (fun m i wr => ∃ (mo : Int) (j : Nat) (L : List It) (S : Nat → Prop), m = .int .i64 mo ∧ i = .int .i64 (j : Int) ∧ j ≤ N ∧ j ≤ 12 ∧ Hid (OnceL mo L) ∧ Hid (Qq QP w wr v S 5 10 L [])) (fun _ i _ => N - (RowKit.intOf i).toNat)
    case atStart => exact ⟨-1, 0, [], S2, rfl, rfl, by omega, by omega, Lib.hid once_nil, h2⟩
    case round =>
      obtain ⟨mo, j, L, S, rfl, rfl, hj, hj12, HA, HQ⟩ := hrel
      by_cases hlt : j < N
      · by_cases hl12 : j < 12
        · have hij : (j : Int) < (N : Int) := by omega
          have hij2 : (j : Int) < 12 := by omega
          have hij0 : (0 : Int) ≤ (j : Int) := by omega
          obtain ⟨a, z, rfl, c0, _, hz⟩ := nums_at (HZ.out.rel HQ.out.rel) j (by rw [HN.out]; exact hlt)
          obtain ⟨p, hp⟩ : ∃ p, pk z 100 = p := ⟨_, rfl⟩
          have bp := pk_bd z 100 (by omega)
          rw [hp] at bp
          have HP := Lib.hid bp
          have PP := Lib.hid (fun w => PZ.out z p hz hp w)
          have hmo := once_bd HA.out
          clear hz hp
          by_cases hc : mo < p
          · have hm1 : max mo p = p := by omega
            have HM1 := Lib.hid hm1
            clear hm1
            go_wp2_with (first | (go_at_call 9; (with_reducible refine (PP.out _).mono ?_); rintro e wq ⟨rfl, rfl⟩) | (go_at_call 12; (with_reducible refine (K1.out _ _ _ _ _ _ HP.out HA.out HQ.out).mono ?_); rintro e w4 ⟨S4, L4, rfl, a4, h4⟩))
            go_roundw
            case rel => exact ⟨_, j + 1, L4, S4, rfl, by go_num, by omega, by omega, by first | exact a4 | (rw [HM1.out] at a4; exact a4) | (have := a4.out; rw [HM1.out] at this; exact Lib.hid this), h4⟩
            case measure => simp [RowKit.intOf]; omega
          · have hm1 : max mo p = mo := by omega
            have HM1 := Lib.hid hm1
            clear hm1
            go_wp2_with (first | (go_at_call 9; (with_reducible refine (PP.out _).mono ?_); rintro e wq ⟨rfl, rfl⟩) | (go_at_call 12; (with_reducible refine (K1.out _ _ _ _ _ _ HP.out HA.out HQ.out).mono ?_); rintro e w4 ⟨S4, L4, rfl, a4, h4⟩))
            go_roundw
            case rel => exact ⟨_, j + 1, L4, S4, rfl, by go_num, by omega, by omega, by first | exact a4 | (rw [HM1.out] at a4; exact a4) | (have := a4.out; rw [HM1.out] at this; exact Lib.hid this), h4⟩
            case measure => simp [RowKit.intOf]; omega
        · have hij : (j : Int) < (N : Int) := by omega
          have hij2 : ¬ (j : Int) < 12 := by omega
          go_wp2_with (fail)
          go_meet
          exact ⟨mo, L, S, rfl, HA, HQ⟩
      · have hij : ¬ (j : Int) < (N : Int) := by omega
        go_wp2_with (fail)
        go_meet
        exact ⟨mo, L, S, rfl, HA, HQ⟩
  obtain ⟨mo, L5, S5, rfl, HA5, HQ5⟩ := hcut
  clear h2 K1 PZ
  have bmo := once_bd HA5.out
  obtain ⟨L6, hp6, hp7, ht7, hw⟩ := once_told HA5.out bo
  have HP6 := Lib.hid hp6
  have HP7 := Lib.hid hp7
  have HX7 := Lib.hid (show (itH (topH (popH L6))).1 = 0 ∧ (topH (popH L6)).isSome = false by rw [ht7]; exact ⟨rfl, rfl⟩)
  obtain ⟨x, b, y, d, hx, hb, hy, hd, hfin⟩ : ∃ (x : Int) (b : Bool) (y : Int) (d : Bool), (itH (topH (L5 ++ [(4, o * 10 - 7)]))).1 = x ∧ (topH (L5 ++ [(4, o * 10 - 7)])).isSome = b ∧ (itH (topH L6)).1 = y ∧ (topH L6).isSome = d ∧ ((mo = -1 ∧ x = 4 ∧ b = true ∧ y = 0 ∧ d = false) ∨ (0 ≤ mo ∧ o ≤ mo ∧ x = 3 ∧ b = true ∧ y = 4 ∧ d = true) ∨ (0 ≤ mo ∧ mo < o ∧ x = 4 ∧ b = true ∧ y = 3 ∧ d = true)) := by
    refine ⟨_, _, _, _, rfl, rfl, rfl, rfl, ?_⟩
    rcases hw with ⟨e, t1, t2⟩ | ⟨e, t1, t2⟩ | ⟨e0, e, t1, t2⟩
    · exact .inl ⟨e, by rw [t1]; rfl, by rw [t1]; rfl, by rw [t2]; rfl, by rw [t2]; rfl⟩
    · exact .inr (.inl ⟨by omega, e, by rw [t1]; rfl, by rw [t1]; rfl, by rw [t2]; rfl, by rw [t2]; rfl⟩)
    · exact .inr (.inr ⟨e0, e, by rw [t1]; rfl, by rw [t1]; rfl, by rw [t2]; rfl, by rw [t2]; rfl⟩)
  have HX := Lib.hid hx
  have HB := Lib.hid hb
  have HY := Lib.hid hy
  have HD := Lib.hid hd
  clear hp6 hp7 ht7 hw hx hb hy hd
  go_upto_region 17 with (first | (go_at_call 9; (with_reducible refine (P0.out _).mono ?_); rintro e wq ⟨rfl, rfl⟩) | (go_at_call 12; (with_reducible refine (K2.out _ _ _ _ _ HA5.out HQ5.out).mono ?_); rintro e w6 ⟨S6, rfl, h6⟩) | (go_at_call 14; (first | (with_reducible refine (KX.out _ _ _ _ _ _ HX.out HB.out h6.out).mono ?_); rintro e w7 ⟨S7, rfl, h7, _⟩; rw [HP6.out] at h7; clear h6 | (with_reducible refine (KX.out _ _ _ _ _ _ HY.out HD.out h7.out).mono ?_); rintro e w8 ⟨S8, rfl, h8, _⟩; clear h7 | (with_reducible refine (KX.out _ _ _ _ _ _ HX7.out.1 HX7.out.2 h8.out).mono ?_); rintro e w9 ⟨S9, rfl, h9, _⟩; clear h8)))
  rcases hfin with ⟨rfl, rfl, rfl, rfl, rfl⟩ | ⟨e0, e1, rfl, rfl, rfl, rfl⟩ | ⟨e0, e1, rfl, rfl, rfl, rfl⟩
  · go_wp2_with (fail)
    go_ret
    exact ⟨rfl, h9.out.rel⟩
  · have c1 : ¬ mo < 0 := by omega
    go_wp2_with (fail)
    go_ret
    exact ⟨by first | rfl | (simp; omega), h9.out.rel⟩
  · have c1 : ¬ mo < 0 := by omega
    have c2 : ¬ o ≤ mo := by omega
    go_wp2_with (fail)
    go_ret
    exact ⟨by first | rfl | (simp; omega), h9.out.rel⟩
end Go.Proofs.Ytndmnlgancnbkaa
