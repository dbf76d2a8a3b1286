/- The walks of SumTells, SumBytes, SumNought. -/
import Derived.Test.YtokepfcebkpnfaaSumLeaf
namespace Go.Proofs.Ytokepfcebkpnfaa
open Go.RowKit Go.Lib
set_option linter.unusedVariables false
set_option linter.unusedSimpArgs false

theorem bd64 {a : Int} (h : (Lit.int .i64 a).wf = true) : -9223372036854775808 ≤ a ∧ a ≤ 9223372036854775807 := by
  have := bounds_i64 h; omega
theorem Rel.below {w0 w : World} (h : Rel w0 w) : Below w0.heap.size w0 w := h
theorem app_size (a b : ByteArray) : (a ++ b).size = a.size + b.size := by simp
noncomputable def sm (s : ByteArray) : Nat := crc s.data.toList 65535
theorem sm_bd (s : ByteArray) : sm s < 65536 := crc_bd _ (by omega)
theorem of_sm (s : ByteArray) (hs : s.size ≤ 9223372036854775807) (w : World) :
    Calls Try.prog 10 #[.string s] w fun e w' => e = .returned (.int .i64 (sm s : Nat)) ∧ w = w' := of_any s hs w
theorem rof_sm (s : ByteArray) (hs : s.size ≤ 9223372036854775807) (w : World) :
    Calls Try.prog 11 #[.string s] w fun e w' => e = .returned (.int .i64 (sm s : Nat)) ∧ w = w' := rof_any s hs w
theorem cut_size (s : ByteArray) (n : Nat) : (s.extract 0 n).size ≤ n := by rw [ByteArray.size_extract]; omega
theorem B_toList (l : List UInt8) : (B l).toList = l := ByteArray.toList_mk l
theorem toL (b : ByteArray) : b.toList = b.data.toList := by
  have h := B_toList b.data.toList
  rw [B_of] at h
  exact h
theorem same_list {a b : ByteArray} (h : a ≠ b) : (a.toList == b.toList) = false := by
  rw [beq_eq_false_iff_ne, toL, toL]
  intro e
  exact h (by rw [← B_of a, ← B_of b, e])
theorem ne_at {a b : Int} (h : a ≠ b) : (a == b) = false := by rw [beq_eq_false_iff_ne]; exact h
set_option maxHeartbeats 1000000 in
theorem SumTells_walk (a0 : ByteArray) (a1 : Int) (w : World) (s0 : a0.size ≤ 9223372036854775807) (w1 : (Lit.int .i64 a1).wf = true) :
    Calls Try.prog 3 #[.string a0, .int .i64 a1] w fun e w' => e = .returned (.bool true) ∧ Below w.heap.size w w' := by
  have hr := Rel.start w
  obtain ⟨u0, u1⟩ := bd64 w1
  have hp := pn_bd a1
  have hz := cut_size a0 3000
  by_cases hs : 3000 < a0.size
  all_goals
    go_enter Try.func3, Try.ntmps3
    go_wp2_with (first
      | (go_at_call 9; (with_reducible refine (awake_any _ _ (by assumption)).mono ?_); rintro e w' ⟨rfl, hr'⟩)
      | (go_at_call 14; (first | (with_reducible refine (pick16 _ (by omega) (by omega) _).mono ?_) | (with_reducible refine (pick8 _ (by omega) (by omega) _).mono ?_)); rintro e w' ⟨rfl, rfl⟩)
      | (go_at_call 10; (with_reducible refine (of_sm _ (by omega) _).mono ?_); rintro e w' ⟨rfl, rfl⟩)
      | (go_at_call 11; (with_reducible refine (rof_sm _ (by omega) _).mono ?_); rintro e w' ⟨rfl, rfl⟩)
      | (go_at_call 12; (first | (with_reducible refine (bytes_any _ (by assumption) _ _ (by assumption)).mono ?_) | (with_reducible refine (bytes_all _ _ _ (by assumption)).mono ?_)); rintro e w' ⟨rfl, hr'⟩)
      | (go_at_call 13; (first | (with_reducible refine (rbytes_any _ (by assumption) _ _ (by assumption)).mono ?_) | (with_reducible refine (rbytes_all _ _ _ (by assumption)).mono ?_)); rintro e w' ⟨rfl, hr'⟩))
    go_ret
    exact ⟨rfl, Rel.below (by assumption)⟩
theorem bt_size (n : Int) : (bt n).size ≤ 2 := by
  unfold bt
  split
  · exact Nat.le_refl 2
  · exact Nat.zero_le 2
theorem sm_two (t : ByteArray) (n : Int) (h0 : 0 ≤ n) (h1 : n < 65536) : ((sm (t ++ bt n) : Nat) : Int) = 0 ↔ n = (sm t : Nat) := by
  obtain ⟨k, rfl⟩ := Int.eq_ofNat_of_zero_le h0
  rw [bt_yes k (by omega)]
  unfold sm
  rw [ByteArray.data_append, Array.toList_append, B_list]
  have := crc_nought t.data.toList (n := 65535) (by omega) (k := k) (by omega)
  omega
set_option maxHeartbeats 1000000 in
theorem SumNought_walk (a0 : ByteArray) (a1 : Int) (w : World) (s0 : a0.size ≤ 9223372036854775807) (w1 : (Lit.int .i64 a1).wf = true) :
    Calls Try.prog 5 #[.string a0, .int .i64 a1] w fun e w' => e = .returned (.bool true) ∧ Below w.heap.size w w' := by
  have hr := Rel.start w
  obtain ⟨u0, u1⟩ := bd64 w1
  obtain ⟨k, hk⟩ : ∃ k, pk a1 65536 = k := ⟨_, rfl⟩
  have hb := pk_bd a1 65536 (by omega)
  rw [hk] at hb
  obtain ⟨b0, b1⟩ := hb
  have HK := Lib.hid hk
  clear hk
  have zk := bt_size k
  by_cases hs : 3000 < a0.size
  all_goals
    obtain ⟨t, ht⟩ : ∃ t, (if 3000 < a0.size then a0.extract 0 3000 else a0) = t := ⟨_, rfl⟩
    first | rw [if_pos hs] at ht | rw [if_neg hs] at ht
    obtain ⟨m, hm⟩ : ∃ m : Int, ((sm t : Nat) : Int) = m := ⟨_, rfl⟩
    have c := sm_bd t
    have b2 : 0 ≤ m := by omega
    have b3 : m < 65536 := by omega
    have zm := bt_size m
    have z : t.size ≤ 3000 := by
      first
        | (rw [← ht]; exact cut_size a0 3000)
        | (rw [← ht]; omega)
    have e1 := Lib.hid ((sm_two t m b2 b3).2 hm.symm)
    have e2 := sm_two t k b0 b1
    rw [hm] at e2
    have HM := Lib.hid hm
    clear hm c
    have z1 : (t ++ bt m).size ≤ 3002 := by rw [app_size]; omega
    have z2 : (t ++ bt k).size ≤ 3002 := by rw [app_size]; omega
    by_cases hkm : k = m
    · subst hkm
      subst ht
      go_enter Try.func5, Try.ntmps5
      go_wp2_with (first
        | (go_at_call 9; (with_reducible refine (awake_any _ _ (by assumption)).mono ?_); rintro e w' ⟨rfl, hr'⟩)
        | (go_at_call 14; (with_reducible refine (int_at _ (pick_any _ _ u0 u1 (by omega) (by omega) _) HK).mono ?_); rintro e w' ⟨rfl, rfl⟩)
        | (go_at_call 10; (first | (with_reducible refine (int_at _ (of_sm _ (by omega) _) HM).mono ?_) | (with_reducible refine (int_at _ (of_sm _ (by omega) _) e1).mono ?_)); rintro e w' ⟨rfl, rfl⟩)
        | (go_at_call 12; (with_reducible refine (bytes_all _ _ _ (by assumption)).mono ?_); rintro e w' ⟨rfl, hr'⟩))
      go_ret
      exact ⟨rfl, Rel.below (by assumption)⟩
    · obtain ⟨v, hv⟩ : ∃ v : Int, ((sm (t ++ bt k) : Nat) : Int) = v := ⟨_, rfl⟩
      rw [hv] at e2
      have HV := Lib.hid hv
      have f1 : (v == 0) = false := by rw [beq_eq_false_iff_ne]; exact fun h => hkm (e2.1 h)
      have f2 : (k == m) = false := by rw [beq_eq_false_iff_ne]; exact hkm
      clear e2 hv
      subst ht
      go_enter Try.func5, Try.ntmps5
      go_wp2_with (first
        | (go_at_call 9; (with_reducible refine (awake_any _ _ (by assumption)).mono ?_); rintro e w' ⟨rfl, hr'⟩)
        | (go_at_call 14; (with_reducible refine (int_at _ (pick_any _ _ u0 u1 (by omega) (by omega) _) HK).mono ?_); rintro e w' ⟨rfl, rfl⟩)
        | (go_at_call 10; (first | (with_reducible refine (int_at _ (of_sm _ (by omega) _) HM).mono ?_) | (with_reducible refine (int_at _ (of_sm _ (by omega) _) e1).mono ?_) | (with_reducible refine (int_at _ (of_sm _ (by omega) _) HV).mono ?_)); rintro e w' ⟨rfl, rfl⟩)
        | (go_at_call 12; (with_reducible refine (bytes_all _ _ _ (by assumption)).mono ?_); rintro e w' ⟨rfl, hr'⟩))
      go_ret
      exact ⟨rfl, Rel.below (by assumption)⟩
end Go.Proofs.Ytokepfcebkpnfaa
