/- The walk of SumParts. -/
import Derived.Test.YtokepfcebkpnfaaSumLawC
import Derived.Deep.DeepCutAuto
namespace Go.Proofs.Ytokepfcebkpnfaa
open Go.RowKit Go.Lib
set_option linter.unusedVariables false
set_option linter.unusedSimpArgs false

theorem parts_nought (a c : ByteArray) (m : Int) (h : ((sm a : Nat) : Int) = m) : ((sm (a ++ bt m) : Nat) : Int) = 0 ∧ ((sm (a ++ bt m ++ c) : Nat) : Int) = (crc c.data.toList 0 : Nat) := by
  have hb := sm_bd a
  have e := (sm_two a m (by omega) (by omega)).2 h.symm
  refine ⟨e, ?_⟩
  rw [sm_app, show sm (a ++ bt m) = 0 by omega]
theorem parts_same (a b c : ByteArray) : ((sm (a ++ c) : Nat) : Int) = (sm (b ++ c) : Nat) ↔ ((sm a : Nat) : Int) = (sm b : Nat) := by
  rw [sm_app, sm_app]
  refine ⟨fun h => ?_, fun h => ?_⟩
  · have := crc_inj c.data.toList (sm_bd a) (sm_bd b) (by omega)
    omega
  · rw [show sm a = sm b by omega]
def cut (a : ByteArray) : ByteArray := if (a.size : Int) ≤ 1000 then a else a.extract 0 1000
theorem cut_yes {a : ByteArray} (h : (a.size : Int) ≤ 1000) : a = cut a := by unfold cut; rw [if_pos h]
theorem cut_no {a : ByteArray} (h : ¬ (a.size : Int) ≤ 1000) : a.extract 0 1000 = cut a := by unfold cut; rw [if_neg h]
theorem cut_le (a : ByteArray) : (cut a).size ≤ 1000 := by
  unfold cut
  split
  · omega
  · exact cut_size a 1000
set_option maxHeartbeats 1000000 in
theorem SumParts_same (a0 a1 a2 A0 A1 A2 : ByteArray) (w : World) (s0 : a0.size ≤ 9223372036854775807) (s1 : a1.size ≤ 9223372036854775807) (s2 : a2.size ≤ 9223372036854775807)
    (c0 : Hid (cut a0 = A0)) (c1 : Hid (cut a1 = A1)) (c2 : Hid (cut a2 = A2)) (z0 : A0.size ≤ 1000) (z1 : A1.size ≤ 1000) (z2 : A2.size ≤ 1000) (ma mx mc : Int)
    (y0 : (A0 ++ bt ma).size ≤ 1002) (y1 : (A1 ++ bt ma).size ≤ 1002) (y2 : (A0 ++ bt ma ++ A2).size ≤ 2002) (y3 : (A1 ++ bt ma ++ A2).size ≤ 2002) (y4 : (A0 ++ A2).size ≤ 2000) (y5 : (A1 ++ A2).size ≤ 2000)
    (e0 : Hid (((sm A0 : Nat) : Int) = ma)) (e1 : Hid (((sm A1 : Nat) : Int) = ma)) (e2 : Hid (((sm (A0 ++ bt ma) : Nat) : Int) = 0)) (e3 : Hid (((sm (A1 ++ bt ma) : Nat) : Int) = 0)) (e4 : Hid (((sm (A0 ++ bt ma ++ A2) : Nat) : Int) = mx)) (e5 : Hid (((sm (A1 ++ bt ma ++ A2) : Nat) : Int) = mx)) (e6 : Hid (((sm (A0 ++ A2) : Nat) : Int) = mc)) (e7 : Hid (((sm (A1 ++ A2) : Nat) : Int) = mc)) :
    Calls Try.prog 7 #[.string a0, .string a1, .string a2] w fun e w' => e = .returned (.bool true) ∧ Below w.heap.size w w' := by
  have hr := Rel.start w
  have k0 := bt_size ma
  go_enter Try.func7, Try.ntmps7
  go_upto_region 2 with (first | (go_at_call 9; (with_reducible refine (awake_any _ _ (by assumption)).mono ?_); rintro e w' ⟨rfl, hr'⟩))
  go_cut [8] (fun s wx => s = .string A0 ∧ w' = wx)
  case first =>
    by_cases hs : (a0.size : Int) ≤ 1000
    · have e := Lib.hid (cut_yes hs)
      go_wp2_with (fail)
      all_goals
        go_meet
        exact ⟨by rw [c0.out.symm, ← e.out], rfl⟩
    · have e := Lib.hid (cut_no hs)
      go_wp2_with (fail)
      all_goals
        go_meet
        exact ⟨by rw [c0.out.symm, ← e.out], rfl⟩
  obtain ⟨rfl, rfl⟩ := hcut
  go_upto_region 3 with (first | (go_at_call 9; (with_reducible refine (awake_any _ _ (by assumption)).mono ?_); rintro e w' ⟨rfl, hr'⟩))
  go_cut [9] (fun s wx => s = .string A1 ∧ w' = wx)
  case first =>
    by_cases hs : (a1.size : Int) ≤ 1000
    · have e := Lib.hid (cut_yes hs)
      go_wp2_with (fail)
      all_goals
        go_meet
        exact ⟨by rw [c1.out.symm, ← e.out], rfl⟩
    · have e := Lib.hid (cut_no hs)
      go_wp2_with (fail)
      all_goals
        go_meet
        exact ⟨by rw [c1.out.symm, ← e.out], rfl⟩
  obtain ⟨rfl, rfl⟩ := hcut
  go_upto_region 4 with (first | (go_at_call 9; (with_reducible refine (awake_any _ _ (by assumption)).mono ?_); rintro e w' ⟨rfl, hr'⟩))
  go_cut [10] (fun s wx => s = .string A2 ∧ w' = wx)
  case first =>
    by_cases hs : (a2.size : Int) ≤ 1000
    · have e := Lib.hid (cut_yes hs)
      go_wp2_with (fail)
      all_goals
        go_meet
        exact ⟨by rw [c2.out.symm, ← e.out], rfl⟩
    · have e := Lib.hid (cut_no hs)
      go_wp2_with (fail)
      all_goals
        go_meet
        exact ⟨by rw [c2.out.symm, ← e.out], rfl⟩
  obtain ⟨rfl, rfl⟩ := hcut
  go_wp2_with (first
    | (go_at_call 12; (with_reducible refine (bytes_all _ _ _ (by assumption)).mono ?_); rintro e w' ⟨rfl, hr'⟩)
    | (go_at_call 10; (first | (with_reducible refine (int_at _ (of_sm _ (by omega) _) e0).mono ?_) | (with_reducible refine (int_at _ (of_sm _ (by omega) _) e1).mono ?_) | (with_reducible refine (int_at _ (of_sm _ (by omega) _) e2).mono ?_) | (with_reducible refine (int_at _ (of_sm _ (by omega) _) e3).mono ?_) | (with_reducible refine (int_at _ (of_sm _ (by omega) _) e4).mono ?_) | (with_reducible refine (int_at _ (of_sm _ (by omega) _) e5).mono ?_) | (with_reducible refine (int_at _ (of_sm _ (by omega) _) e6).mono ?_) | (with_reducible refine (int_at _ (of_sm _ (by omega) _) e7).mono ?_)); rintro e w' ⟨rfl, rfl⟩))
  go_ret
  exact ⟨rfl, Rel.below (by assumption)⟩
set_option maxHeartbeats 1000000 in
theorem SumParts_unlike (a0 a1 a2 A0 A1 A2 : ByteArray) (w : World) (s0 : a0.size ≤ 9223372036854775807) (s1 : a1.size ≤ 9223372036854775807) (s2 : a2.size ≤ 9223372036854775807)
    (c0 : Hid (cut a0 = A0)) (c1 : Hid (cut a1 = A1)) (c2 : Hid (cut a2 = A2)) (z0 : A0.size ≤ 1000) (z1 : A1.size ≤ 1000) (z2 : A2.size ≤ 1000) (ma mb mx mc md : Int) (n1 : (ma == mb) = false) (n2 : (mc == md) = false)
    (y0 : (A0 ++ bt ma).size ≤ 1002) (y1 : (A1 ++ bt mb).size ≤ 1002) (y2 : (A0 ++ bt ma ++ A2).size ≤ 2002) (y3 : (A1 ++ bt mb ++ A2).size ≤ 2002) (y4 : (A0 ++ A2).size ≤ 2000) (y5 : (A1 ++ A2).size ≤ 2000)
    (e0 : Hid (((sm A0 : Nat) : Int) = ma)) (e1 : Hid (((sm A1 : Nat) : Int) = mb)) (e2 : Hid (((sm (A0 ++ bt ma) : Nat) : Int) = 0)) (e3 : Hid (((sm (A1 ++ bt mb) : Nat) : Int) = 0)) (e4 : Hid (((sm (A0 ++ bt ma ++ A2) : Nat) : Int) = mx)) (e5 : Hid (((sm (A1 ++ bt mb ++ A2) : Nat) : Int) = mx)) (e6 : Hid (((sm (A0 ++ A2) : Nat) : Int) = mc)) (e7 : Hid (((sm (A1 ++ A2) : Nat) : Int) = md)) :
    Calls Try.prog 7 #[.string a0, .string a1, .string a2] w fun e w' => e = .returned (.bool true) ∧ Below w.heap.size w w' := by
  have hr := Rel.start w
  have k0 := bt_size ma
  have k1 := bt_size mb
  go_enter Try.func7, Try.ntmps7
  go_upto_region 2 with (first | (go_at_call 9; (with_reducible refine (awake_any _ _ (by assumption)).mono ?_); rintro e w' ⟨rfl, hr'⟩))
  go_cut [8] (fun s wx => s = .string A0 ∧ w' = wx)
  case first =>
    by_cases hs : (a0.size : Int) ≤ 1000
    · have e := Lib.hid (cut_yes hs)
      go_wp2_with (fail)
      all_goals
        go_meet
        exact ⟨by rw [c0.out.symm, ← e.out], rfl⟩
    · have e := Lib.hid (cut_no hs)
      go_wp2_with (fail)
      all_goals
        go_meet
        exact ⟨by rw [c0.out.symm, ← e.out], rfl⟩
  obtain ⟨rfl, rfl⟩ := hcut
  go_upto_region 3 with (first | (go_at_call 9; (with_reducible refine (awake_any _ _ (by assumption)).mono ?_); rintro e w' ⟨rfl, hr'⟩))
  go_cut [9] (fun s wx => s = .string A1 ∧ w' = wx)
  case first =>
    by_cases hs : (a1.size : Int) ≤ 1000
    · have e := Lib.hid (cut_yes hs)
      go_wp2_with (fail)
      all_goals
        go_meet
        exact ⟨by rw [c1.out.symm, ← e.out], rfl⟩
    · have e := Lib.hid (cut_no hs)
      go_wp2_with (fail)
      all_goals
        go_meet
        exact ⟨by rw [c1.out.symm, ← e.out], rfl⟩
  obtain ⟨rfl, rfl⟩ := hcut
  go_upto_region 4 with (first | (go_at_call 9; (with_reducible refine (awake_any _ _ (by assumption)).mono ?_); rintro e w' ⟨rfl, hr'⟩))
  go_cut [10] (fun s wx => s = .string A2 ∧ w' = wx)
  case first =>
    by_cases hs : (a2.size : Int) ≤ 1000
    · have e := Lib.hid (cut_yes hs)
      go_wp2_with (fail)
      all_goals
        go_meet
        exact ⟨by rw [c2.out.symm, ← e.out], rfl⟩
    · have e := Lib.hid (cut_no hs)
      go_wp2_with (fail)
      all_goals
        go_meet
        exact ⟨by rw [c2.out.symm, ← e.out], rfl⟩
  obtain ⟨rfl, rfl⟩ := hcut
  go_wp2_with (first
    | (go_at_call 12; (with_reducible refine (bytes_all _ _ _ (by assumption)).mono ?_); rintro e w' ⟨rfl, hr'⟩)
    | (go_at_call 10; (first | (with_reducible refine (int_at _ (of_sm _ (by omega) _) e0).mono ?_) | (with_reducible refine (int_at _ (of_sm _ (by omega) _) e1).mono ?_) | (with_reducible refine (int_at _ (of_sm _ (by omega) _) e2).mono ?_) | (with_reducible refine (int_at _ (of_sm _ (by omega) _) e3).mono ?_) | (with_reducible refine (int_at _ (of_sm _ (by omega) _) e4).mono ?_) | (with_reducible refine (int_at _ (of_sm _ (by omega) _) e5).mono ?_) | (with_reducible refine (int_at _ (of_sm _ (by omega) _) e6).mono ?_) | (with_reducible refine (int_at _ (of_sm _ (by omega) _) e7).mono ?_)); rintro e w' ⟨rfl, rfl⟩))
  go_ret
  exact ⟨rfl, Rel.below (by assumption)⟩
theorem SumParts_walk (a0 a1 a2 : ByteArray) (w : World) (s0 : a0.size ≤ 9223372036854775807) (s1 : a1.size ≤ 9223372036854775807) (s2 : a2.size ≤ 9223372036854775807) :
    Calls Try.prog 7 #[.string a0, .string a1, .string a2] w fun e w' => e = .returned (.bool true) ∧ Below w.heap.size w w' := by
  have z0 := cut_le a0
  have z1 := cut_le a1
  have z2 := cut_le a2
  have p0 := bt_size (sm (cut a0) : Nat)
  have p1 := bt_size (sm (cut a1) : Nat)
  obtain ⟨q0, q1⟩ := parts_nought (cut a0) (cut a2) _ rfl
  obtain ⟨q2, q3⟩ := parts_nought (cut a1) (cut a2) _ rfl
  have hp := parts_same (cut a0) (cut a1) (cut a2)
  have y0 : (cut a0 ++ bt (sm (cut a0) : Nat)).size ≤ 1002 := by rw [app_size]; omega
  have y1 : (cut a1 ++ bt (sm (cut a1) : Nat)).size ≤ 1002 := by rw [app_size]; omega
  have y2 : (cut a0 ++ bt (sm (cut a0) : Nat) ++ cut a2).size ≤ 2002 := by rw [app_size]; omega
  have y3 : (cut a1 ++ bt (sm (cut a1) : Nat) ++ cut a2).size ≤ 2002 := by rw [app_size]; omega
  have y4 : (cut a0 ++ cut a2).size ≤ 2000 := by rw [app_size]; omega
  have y5 : (cut a1 ++ cut a2).size ≤ 2000 := by rw [app_size]; omega
  by_cases h : ((sm (cut a0) : Nat) : Int) = (sm (cut a1) : Nat)
  · rw [← h] at q2 q3 y1 y3
    exact SumParts_same a0 a1 a2 _ _ _ w s0 s1 s2 (Lib.hid rfl) (Lib.hid rfl) (Lib.hid rfl) z0 z1 z2 _ _ _ y0 y1 y2 y3 y4 y5 (Lib.hid rfl) (Lib.hid h.symm) (Lib.hid q0) (Lib.hid q2) (Lib.hid q1) (Lib.hid q3) (Lib.hid rfl) (Lib.hid (hp.2 h).symm)
  · exact SumParts_unlike a0 a1 a2 _ _ _ w s0 s1 s2 (Lib.hid rfl) (Lib.hid rfl) (Lib.hid rfl) z0 z1 z2 _ _ _ _ _ (ne_at h) (ne_at fun e => h (hp.1 e)) y0 y1 y2 y3 y4 y5 (Lib.hid rfl) (Lib.hid rfl) (Lib.hid q0) (Lib.hid q2) (Lib.hid q1) (Lib.hid q3) (Lib.hid rfl) (Lib.hid rfl)
end Go.Proofs.Ytokepfcebkpnfaa
