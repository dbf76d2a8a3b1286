/- The walks of SumLength and SumParts. -/
import Derived.Test.YtokepfcebkpnfaaSumLawA
namespace Go.Proofs.Ytokepfcebkpnfaa
open Go.RowKit Go.Lib
set_option linter.unusedVariables false
set_option linter.unusedSimpArgs false

def bo (k : Int) : UInt8 := UInt8.ofNat k.toNat
theorem bo_nat {k : Int} (h0 : 0 ≤ k) (h1 : k < 256) : ((bo k).toNat : Int) = k := by
  unfold bo
  rw [UInt8.toNat_ofNat', Nat.mod_eq_of_lt (by omega)]
  omega
theorem bo_same {k l : Int} (h0 : 0 ≤ k) (h1 : k < 256) (h2 : 0 ≤ l) (h3 : l < 256) : bo k = bo l ↔ k = l :=
  ⟨fun h => by rw [← bo_nat h0 h1, ← bo_nat h2 h3, h], fun h => by rw [h]⟩
theorem one_byte (k : Int) (h0 : 0 ≤ k) (h1 : k < 256) (w : World) : (convert 27 9 (.slice (some ⟨w.heap.size, 0, none⟩) 1 1)).run Try.prog (w.alloc (.cells #[.int .u8 k] 5)) =
    .ok (.string (B [bo k])) (w.alloc (.cells #[.int .u8 k] 5)) := by
  have e := bo_nat h0 h1
  rw [show (Value.int .u8 k) = Value.int .u8 ((bo k).toNat : Int) by rw [e]]
  exact run_convert_bytes_back (P := Try.prog) _ 27 9 5 ⟨w.heap.size, 0, none⟩ 1 [bo k] Try.underlying27 Try.underlying5 Try.underlying9 (fun j hj => by
    obtain rfl : j = 0 := by simpa using hj
    simp [Addr.add, go_sem])
theorem one_byte' (k : Int) (h0 : 0 ≤ k) (h1 : k < 256) (w : World) (o : Obj) : (convert 27 9 (.slice (some ⟨w.heap.size + 1, 0, none⟩) 1 1)).run Try.prog ((w.alloc o).alloc (.cells #[.int .u8 k] 5)) =
    .ok (.string (B [bo k])) ((w.alloc o).alloc (.cells #[.int .u8 k] 5)) := by
  have h := one_byte k h0 h1 (w.alloc o)
  rw [show (w.alloc o).heap.size = w.heap.size + 1 by simp] at h
  exact h
theorem sm_app (a b : ByteArray) : sm (a ++ b) = crc b.data.toList (sm a) := by
  unfold sm
  rw [ByteArray.data_append, Array.toList_append, crc_append]
theorem sm_behind (t : ByteArray) {k l : Int} (h0 : 0 ≤ k) (h1 : k < 256) (h2 : 0 ≤ l) (h3 : l < 256) (h : k ≠ l) : ((sm (t ++ B [bo k]) : Nat) : Int) ≠ (sm (t ++ B [bo l]) : Nat) := by
  intro e
  have e' : sm (t ++ B [bo k]) = sm (t ++ B [bo l]) := by omega
  unfold sm at e'
  rw [ByteArray.data_append, Array.toList_append, ByteArray.data_append, Array.toList_append, B_list, B_list] at e'
  exact h ((bo_same h0 h1 h2 h3).1 ((crc_behind t.data.toList (by omega) _ _).1 e'))
theorem sm_ahead (t : ByteArray) {k l : Int} (h0 : 0 ≤ k) (h1 : k < 256) (h2 : 0 ≤ l) (h3 : l < 256) (h : k ≠ l) : ((sm (B [bo k] ++ t) : Nat) : Int) ≠ (sm (B [bo l] ++ t) : Nat) := by
  intro e
  have e' : sm (B [bo k] ++ t) = sm (B [bo l] ++ t) := by omega
  unfold sm at e'
  rw [ByteArray.data_append, Array.toList_append, ByteArray.data_append, Array.toList_append, B_list, B_list] at e'
  exact h ((bo_same h0 h1 h2 h3).1 ((crc_ahead t.data.toList (by omega) _ _).1 e'))
theorem bo_ne {k l : Int} (h0 : 0 ≤ k) (h1 : k < 256) (h2 : 0 ≤ l) (h3 : l < 256) (h : k ≠ l) : B [bo k] ≠ B [bo l] := by
  intro e
  exact h ((bo_same h0 h1 h2 h3).1 (List.cons.inj (B_inj.1 e)).1)
set_option maxHeartbeats 1000000 in
theorem SumLength_walk (a0 : ByteArray) (a1 a2 : Int) (w : World) (s0 : a0.size ≤ 9223372036854775807) (w1 : (Lit.int .i64 a1).wf = true) (w2 : (Lit.int .i64 a2).wf = true) :
    Calls Try.prog 8 #[.string a0, .int .i64 a1, .int .i64 a2] w fun e w' => e = .returned (.bool true) ∧ Below w.heap.size w w' := by
  have hr := Rel.start w
  obtain ⟨u0, u1⟩ := bd64 w1
  obtain ⟨u2, u3⟩ := bd64 w2
  obtain ⟨k, hk⟩ : ∃ k, pk a1 256 = k := ⟨_, rfl⟩
  obtain ⟨l, hl⟩ : ∃ l, pk a2 256 = l := ⟨_, rfl⟩
  have hb := pk_bd a1 256 (by omega)
  have hb' := pk_bd a2 256 (by omega)
  rw [hk] at hb
  rw [hl] at hb'
  obtain ⟨b0, b1⟩ := hb
  obtain ⟨b2, b3⟩ := hb'
  have HK := Lib.hid hk
  have HL := Lib.hid hl
  clear hk hl
  have hc1 := one_byte k b0 b1
  have hc2 := one_byte' l b2 b3
  by_cases hs : (a0.size : Int) ≤ 1000
  all_goals
    obtain ⟨t, ht⟩ : ∃ t, (if (a0.size : Int) ≤ 1000 then a0 else a0.extract 0 1000) = t := ⟨_, rfl⟩
    first | rw [if_pos hs] at ht | rw [if_neg hs] at ht
    have z : t.size ≤ 1000 := by
      first
        | (rw [← ht]; exact cut_size a0 1000)
        | (rw [← ht]; omega)
    have c := sm_bd t
    obtain ⟨m3, h3⟩ : ∃ m : Int, ((sm t : Nat) : Int) = m := ⟨_, rfl⟩
    have c1 : decide ((0 : Int) ≤ m3) = true := decide_eq_true (by omega)
    have c2 : decide (m3 ≤ (65535 : Int)) = true := decide_eq_true (by omega)
    have H3 := Lib.hid h3
    clear h3 c
    by_cases hkl : k = l
    · subst hkl
      obtain ⟨X, hX⟩ : ∃ X, B [bo k] = X := ⟨_, rfl⟩
      have zx : X.size ≤ 1 := by rw [← hX]; exact Nat.le_refl 1
      rw [hX] at hc1
      simp only [hX] at hc2
      clear hX
      obtain ⟨m1, h1⟩ : ∃ m : Int, ((sm (t ++ X) : Nat) : Int) = m := ⟨_, rfl⟩
      obtain ⟨m2, h2⟩ : ∃ m : Int, ((sm (X ++ t) : Nat) : Int) = m := ⟨_, rfl⟩
      have H1 := Lib.hid h1
      have H2 := Lib.hid h2
      clear h1 h2
      have z1 : (t ++ X).size ≤ 1001 := by rw [app_size]; omega
      have z2 : (X ++ t).size ≤ 1001 := by rw [app_size]; omega
      subst ht
      go_enter Try.func8, Try.ntmps8
      go_wp2_with (first
        | (go_at_call 9; (with_reducible refine (awake_any _ _ (by assumption)).mono ?_); rintro e w' ⟨rfl, hr'⟩)
        | (go_at_call 14; (first | (with_reducible refine (int_at _ (pick_any _ _ u0 u1 (by omega) (by omega) _) HK).mono ?_) | (with_reducible refine (int_at _ (pick_any _ _ u2 u3 (by omega) (by omega) _) HL).mono ?_)); rintro e w' ⟨rfl, rfl⟩)
        | (go_at_call 10; (first | (with_reducible refine (int_at _ (of_sm _ (by omega) _) H3).mono ?_) | (with_reducible refine (int_at _ (of_sm _ (by omega) _) H1).mono ?_) | (with_reducible refine (int_at _ (of_sm _ (by omega) _) H2).mono ?_)); rintro e w' ⟨rfl, rfl⟩))
      go_ret
      exact ⟨rfl, Rel.below (Rel.alloc (Rel.alloc (by assumption) _) _)⟩
    · have n1 := sm_behind t b0 b1 b2 b3 hkl
      have n2 := sm_ahead t b0 b1 b2 b3 hkl
      have n3 := bo_ne b0 b1 b2 b3 hkl
      obtain ⟨X, hX⟩ : ∃ X, B [bo k] = X := ⟨_, rfl⟩
      obtain ⟨Y, hY⟩ : ∃ X, B [bo l] = X := ⟨_, rfl⟩
      have zx : X.size ≤ 1 := by rw [← hX]; exact Nat.le_refl 1
      have zy : Y.size ≤ 1 := by rw [← hY]; exact Nat.le_refl 1
      rw [hX] at hc1
      simp only [hY] at hc2
      rw [hX, hY] at n1 n2 n3
      clear hX hY
      obtain ⟨m1, h1⟩ : ∃ m : Int, ((sm (t ++ X) : Nat) : Int) = m := ⟨_, rfl⟩
      obtain ⟨m2, h2⟩ : ∃ m : Int, ((sm (X ++ t) : Nat) : Int) = m := ⟨_, rfl⟩
      obtain ⟨m4, h4⟩ : ∃ m : Int, ((sm (t ++ Y) : Nat) : Int) = m := ⟨_, rfl⟩
      obtain ⟨m5, h5⟩ : ∃ m : Int, ((sm (Y ++ t) : Nat) : Int) = m := ⟨_, rfl⟩
      rw [h1, h4] at n1
      rw [h2, h5] at n2
      have f1 := ne_at n1
      have f2 := ne_at n2
      have f3 := same_list n3
      have H1 := Lib.hid h1
      have H2 := Lib.hid h2
      have H4 := Lib.hid h4
      have H5 := Lib.hid h5
      clear h1 h2 h4 h5 n1 n2 n3
      have z1 : (t ++ X).size ≤ 1001 := by rw [app_size]; omega
      have z2 : (X ++ t).size ≤ 1001 := by rw [app_size]; omega
      have z4 : (t ++ Y).size ≤ 1001 := by rw [app_size]; omega
      have z5 : (Y ++ t).size ≤ 1001 := by rw [app_size]; omega
      subst ht
      go_enter Try.func8, Try.ntmps8
      go_wp2_with (first
        | (go_at_call 9; (with_reducible refine (awake_any _ _ (by assumption)).mono ?_); rintro e w' ⟨rfl, hr'⟩)
        | (go_at_call 14; (first | (with_reducible refine (int_at _ (pick_any _ _ u0 u1 (by omega) (by omega) _) HK).mono ?_) | (with_reducible refine (int_at _ (pick_any _ _ u2 u3 (by omega) (by omega) _) HL).mono ?_)); rintro e w' ⟨rfl, rfl⟩)
        | (go_at_call 10; (first | (with_reducible refine (int_at _ (of_sm _ (by omega) _) H3).mono ?_) | (with_reducible refine (int_at _ (of_sm _ (by omega) _) H1).mono ?_) | (with_reducible refine (int_at _ (of_sm _ (by omega) _) H2).mono ?_) | (with_reducible refine (int_at _ (of_sm _ (by omega) _) H4).mono ?_) | (with_reducible refine (int_at _ (of_sm _ (by omega) _) H5).mono ?_)); rintro e w' ⟨rfl, rfl⟩))
      go_ret
      exact ⟨rfl, Rel.below (Rel.alloc (Rel.alloc (by assumption) _) _)⟩
end Go.Proofs.Ytokepfcebkpnfaa
