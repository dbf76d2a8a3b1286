/- ParseDeep: kind 1, 34; ParseDeep: an if, at most thirty-one; ParseDeep: an if, 32; ParseDeep: an if, 33; ParseDeep: an if, 34. -/
import Derived.Test.YtoajbbcjmalngaaZ30
namespace Go.Proofs.Ytoajbbcjmalngaa
open Go.RowKit Go.Lib
set_option linter.unusedVariables false
set_option linter.unusedSimpArgs false

set_option maxRecDepth 100000 in
set_option maxHeartbeats 8000000 in
theorem deep_way5 (HP : ParseOk) (n kind cut : Int) (n0 : -9223372036854775808 ≤ n) (n1 : n ≤ 9223372036854775807) (k0 : -9223372036854775808 ≤ kind) (k1 : kind ≤ 9223372036854775807) (c0 : -9223372036854775808 ≤ cut) (c1 : cut ≤ 9223372036854775807) (j k : Nat) (hj : pk kind 3 = (j : Int)) (hk : 30 + pk n 5 = (k : Int)) (hj3 : j < 3) (hjj : j = 1) (hkk : k = 34) (w : World) (hr : Rel w w) :
    Calls Try.prog 4 #[.int .i64 n, .int .i64 kind, .int .i64 cut] w fun e w' => e = .returned (.bool true) ∧ Rel w w' := by
  have HP := Lib.hid HP
  have HR := Lib.hid hr
  have HJ := Lib.hid hj
  have HN := Lib.hid (show pk n 5 = (k : Int) - 30 by omega)
  have hkn := pk_bd n 5 (by omega)
  have hk30 : 30 ≤ k := by omega
  have hk34 : k ≤ 34 := by omega
  have hj3' : (j : Int) < 3 := by omega
  obtain ⟨U, hU⟩ : ∃ U, B (opL j) = U := ⟨_, rfl⟩
  obtain ⟨S, hS⟩ : ∃ S, B (shL j) = S := ⟨_, rfl⟩
  have hc1 := fun w => op_cell w j hj3 U hU
  have hc2 : ∀ w : World, ((w.alloc (.cells #[.string ⟨#[108, 101, 115, 115, 40]⟩, .string ⟨#[109, 105, 110, 40, 49, 46, 48, 48, 44, 32]⟩, .string ⟨#[105, 102, 40, 97, 98, 111, 118, 101, 40, 115, 101, 99, 111, 110, 100, 44, 32, 108, 111, 119, 101, 115, 116, 41, 44, 32, 50, 46, 48, 48, 44, 32]⟩] 9)).alloc (.cells #[.string ⟨#[44, 32, 49, 46, 48, 48, 41]⟩, .string ⟨#[41]⟩, .string ⟨#[41]⟩] 9)).cell? ⟨w.heap.size + 1, j, none⟩ = some (.string S) := fun w => by have h := sh_cell (w.alloc (.cells #[.string ⟨#[108, 101, 115, 115, 40]⟩, .string ⟨#[109, 105, 110, 40, 49, 46, 48, 48, 44, 32]⟩, .string ⟨#[105, 102, 40, 97, 98, 111, 118, 101, 40, 115, 101, 99, 111, 110, 100, 44, 32, 108, 111, 119, 101, 115, 116, 41, 44, 32, 50, 46, 48, 48, 44, 32]⟩] 9)) j hj3 S hS; rw [World.size_alloc] at h; exact h
  have hUs : U.size = (opL j).length := by rw [← hU, B_size]
  have hSs : S.size = (shL j).length := by rw [← hS, B_size]
  have HU := Lib.hid hU
  have HS := Lib.hid hS
  have hU32 : U.size ≤ 32 := by rw [hUs]; exact (opL_len j).1
  have hS7 : S.size ≤ 7 := by rw [hSs]; exact (opL_len j).2
  have hw1 : IntKind.i64.wrap (30 + ((k : Int) - 30)) = (k : Int) := by rw [show 30 + ((k : Int) - 30) = (k : Int) by omega]; exact IntWalk.i64_in _ (by omega)
  have hw0 : 30 + ((k : Int) - 30) = (k : Int) := by omega
  have t32 : decide ((32 : Int) < (k : Int)) = true := by simp; omega
  have t33 : ((k : Int) == 33) = false := by simp; omega
  have t322 : decide ((32 : Int) ≤ (k : Int)) = true := by simp; omega
  have t1 : ((j : Int) == 1) = true := by simp; omega
  have t2 : ((j : Int) == 2) = false := by simp; omega
  have HUs := Lib.hid hUs
  have HSs := Lib.hid hSs
  have HJJ := Lib.hid hjj
  have HKK := Lib.hid hkk
  clear hr hj hk hkn hU hS hUs hSs hjj hkk
  go_enter Try.func4, Try.ntmps4
  go_wp2_with (first
    | (go_at_call 5; (with_reducible refine (awake8_any HP.out _ _ HR.out).mono ?_); rintro e w1 ⟨rfl, h1⟩)
    | (go_at_call 8; (with_reducible refine (pk8_as n 5 ((k : Int) - 30) HN n0 n1 (by decide) (by decide) _).mono ?_); rintro e w2 ⟨rfl, rfl⟩)
    | (go_at_call 8; (with_reducible refine (pk8_as kind 3 (j : Int) HJ k0 k1 (by decide) (by decide) _).mono ?_); rintro e w2 ⟨rfl, rfl⟩))
  obtain ⟨W1, hW1⟩ : ∃ W, (w1.alloc (.cells #[.string ⟨#[108, 101, 115, 115, 40]⟩, .string ⟨#[109, 105, 110, 40, 49, 46, 48, 48, 44, 32]⟩, .string ⟨#[105, 102, 40, 97, 98, 111, 118, 101, 40, 115, 101, 99, 111, 110, 100, 44, 32, 108, 111, 119, 101, 115, 116, 41, 44, 32, 50, 46, 48, 48, 44, 32]⟩] 9)).alloc (.cells #[.string ⟨#[44, 32, 49, 46, 48, 48, 41]⟩, .string ⟨#[41]⟩, .string ⟨#[41]⟩] 9) = W := ⟨_, rfl⟩
  have HR1 := Lib.hid (show Rel w W1 by rw [← hW1]; exact (h1.alloc _).alloc _)
  rw [hW1]
  clear hW1 hc1 hc2 hw1 hw0
  go_loop [11, 12] (fun tv iv => ∃ (i : Nat) (C : ByteArray), 1 ≤ i ∧ i ≤ k ∧ iv = .int .i64 (i : Int) ∧ tv = .string C ∧ Hid (C = B (rep (i - 1) (opL j)))) (fun _ iv => k - (RowKit.intOf iv).toNat)
  case atStart => exact ⟨1, ⟨#[]⟩, Nat.le_refl _, by omega, rfl, rfl, Lib.hid rfl⟩
  case round =>
    obtain ⟨i, C, hi1, hik, rfl, rfl, HC⟩ := hrel
    have hCs := Lib.hid (show C.size = (i - 1) * U.size by rw [HC.out, B_size, rep_len, HUs.out])
    have hC9 : C.size ≤ 1100 := by
      rw [hCs.out]
      exact Nat.le_trans (Nat.mul_le_mul (show i - 1 ≤ 33 by omega) hU32) (by decide)
    by_cases hlt : i < k
    · have s1 : ¬ (9223372036854775807 < C.size + U.size) := by omega
      have hw2 : IntKind.i64.wrap ((i : Int) + 1) = (i : Int) + 1 := IntWalk.i64_in _ (by omega)
      have HNx := Lib.hid (show C ++ U = B (rep (i + 1 - 1) (opL j)) by rw [HC.out, ← HU.out, B_append, ← rep_succ, show i - 1 + 1 = i + 1 - 1 by omega])
      go_wp2_with (fail)
      go_round
      case rel => exact ⟨i + 1, _, by omega, by omega, by go_num, rfl, HNx⟩
      case measure => simp [RowKit.intOf]; omega
    · obtain rfl : i = k := by omega
      have hUl : U.size = 10 := by rw [HUs.out, HJJ.out]; rfl
      have hCl : C.size = 330 := by rw [hCs.out, hUl, HKK.out]
      have s2 : ¬ (9223372036854775807 < C.size + (⟨#[108, 111, 119, 101, 115, 116]⟩ : ByteArray).size) := by have : (⟨#[108, 111, 119, 101, 115, 116]⟩ : ByteArray).size = 6 := rfl; omega
      go_wp2_with (first
        | (go_at_call 8; (with_reducible refine (pk8_as kind 3 (j : Int) HJ k0 k1 (by decide) (by decide) _).mono ?_); rintro e w2 ⟨rfl, rfl⟩))
      go_loop [11, 14] (fun tv iv => ∃ (m : Nat) (D : ByteArray), 1 ≤ m ∧ m ≤ i ∧ iv = .int .i64 (m : Int) ∧ tv = .string D ∧ Hid (D = (C ++ ⟨#[108, 111, 119, 101, 115, 116]⟩) ++ B (rep (m - 1) (shL j)))) (fun _ iv => i - (RowKit.intOf iv).toNat)
      case atStart => exact ⟨1, _, Nat.le_refl _, by omega, rfl, rfl, Lib.hid (by rw [show B (rep (1 - 1) (shL j)) = ByteArray.empty from rfl, ByteArray.append_empty])⟩
      case round =>
        obtain ⟨m, D, hm1, hmk, rfl, rfl, HD⟩ := hrel
        have hDs := Lib.hid (show D.size = C.size + 6 + (m - 1) * S.size by rw [HD.out, ByteArray.size_append, ByteArray.size_append, B_size, rep_len, HSs.out]; rfl)
        have hD9 : D.size ≤ 1400 := by
          rw [hDs.out]
          have := Nat.mul_le_mul (show m - 1 ≤ 33 by omega) hS7
          omega
        by_cases hlt2 : m < i
        · have s3 : ¬ (9223372036854775807 < D.size + S.size) := by omega
          have hw3 : IntKind.i64.wrap ((m : Int) + 1) = (m : Int) + 1 := IntWalk.i64_in _ (by omega)
          have HNx := Lib.hid (show D ++ S = (C ++ ⟨#[108, 111, 119, 101, 115, 116]⟩) ++ B (rep (m + 1 - 1) (shL j)) by rw [HD.out, ← HS.out, ByteArray.append_assoc, B_append, ← rep_succ, show m - 1 + 1 = m + 1 - 1 by omega])
          go_wp2_with (fail)
          go_round
          case rel => exact ⟨m + 1, _, by omega, by omega, by go_num, rfl, HNx⟩
          case measure => simp [RowKit.intOf]; omega
        · obtain rfl : m = i := by omega
          have HX := Lib.hid (show D = B (text (nest j (m - 1))) by rw [HD.out, HC.out, nest_bytes])
          have zD : D.size ≤ 9223372036854775807 := by omega
          have hpe : parseS (text (nest j (m - 1))) = .error (81, 314) := by
            have hkk := HKK.out
            have := deep_parse j (m - 1) (by have := HJJ.out; split <;> omega) (by omega)
            rw [this, HJJ.out]; rfl
          have PX : Hid (parseS D.data.toList = .error (81, 314)) := Lib.hid (by rw [HX.out, B_list]; exact hpe)
          go_wp2_with (first
            | (go_at_call 10; (with_reducible refine (pparse_no HP.out D 81 314 PX zD _ _ HR1.out.self).mono ?_); rintro e w5 ⟨rfl, h5⟩; have AA := h5.self.alloc (.cells #[.int .i64 0, .int .i64 0, .string ⟨#[]⟩, .slice none 0 0] 30))
            | (go_at_call 8; (with_reducible refine (pk8_as kind 3 (j : Int) HJ k0 k1 (by decide) (by decide) _).mono ?_); rintro e w6 ⟨rfl, rfl⟩))
          go_ret
          exact ⟨rfl, (HR1.out.trans h5).trans AA⟩
end Go.Proofs.Ytoajbbcjmalngaa

namespace Go.Proofs.Ytoajbbcjmalngaa
open Go.RowKit Go.Lib
set_option linter.unusedVariables false
set_option linter.unusedSimpArgs false

set_option maxRecDepth 100000 in
set_option maxHeartbeats 8000000 in
theorem deep_way6 (HP : ParseOk) (n kind cut : Int) (n0 : -9223372036854775808 ≤ n) (n1 : n ≤ 9223372036854775807) (k0 : -9223372036854775808 ≤ kind) (k1 : kind ≤ 9223372036854775807) (c0 : -9223372036854775808 ≤ cut) (c1 : cut ≤ 9223372036854775807) (j k : Nat) (hj : pk kind 3 = (j : Int)) (hk : 30 + pk n 5 = (k : Int)) (hj3 : j < 3) (hjj : j = 2) (hkk : k ≤ 31) (w : World) (hr : Rel w w) :
    Calls Try.prog 4 #[.int .i64 n, .int .i64 kind, .int .i64 cut] w fun e w' => e = .returned (.bool true) ∧ Rel w w' := by
  have HP := Lib.hid HP
  have HR := Lib.hid hr
  have HJ := Lib.hid hj
  have HN := Lib.hid (show pk n 5 = (k : Int) - 30 by omega)
  have hkn := pk_bd n 5 (by omega)
  have hk30 : 30 ≤ k := by omega
  have hk34 : k ≤ 34 := by omega
  have hj3' : (j : Int) < 3 := by omega
  obtain ⟨U, hU⟩ : ∃ U, B (opL j) = U := ⟨_, rfl⟩
  obtain ⟨S, hS⟩ : ∃ S, B (shL j) = S := ⟨_, rfl⟩
  have hc1 := fun w => op_cell w j hj3 U hU
  have hc2 : ∀ w : World, ((w.alloc (.cells #[.string ⟨#[108, 101, 115, 115, 40]⟩, .string ⟨#[109, 105, 110, 40, 49, 46, 48, 48, 44, 32]⟩, .string ⟨#[105, 102, 40, 97, 98, 111, 118, 101, 40, 115, 101, 99, 111, 110, 100, 44, 32, 108, 111, 119, 101, 115, 116, 41, 44, 32, 50, 46, 48, 48, 44, 32]⟩] 9)).alloc (.cells #[.string ⟨#[44, 32, 49, 46, 48, 48, 41]⟩, .string ⟨#[41]⟩, .string ⟨#[41]⟩] 9)).cell? ⟨w.heap.size + 1, j, none⟩ = some (.string S) := fun w => by have h := sh_cell (w.alloc (.cells #[.string ⟨#[108, 101, 115, 115, 40]⟩, .string ⟨#[109, 105, 110, 40, 49, 46, 48, 48, 44, 32]⟩, .string ⟨#[105, 102, 40, 97, 98, 111, 118, 101, 40, 115, 101, 99, 111, 110, 100, 44, 32, 108, 111, 119, 101, 115, 116, 41, 44, 32, 50, 46, 48, 48, 44, 32]⟩] 9)) j hj3 S hS; rw [World.size_alloc] at h; exact h
  have hUs : U.size = (opL j).length := by rw [← hU, B_size]
  have hSs : S.size = (shL j).length := by rw [← hS, B_size]
  have HU := Lib.hid hU
  have HS := Lib.hid hS
  have hU32 : U.size ≤ 32 := by rw [hUs]; exact (opL_len j).1
  have hS7 : S.size ≤ 7 := by rw [hSs]; exact (opL_len j).2
  have hw1 : IntKind.i64.wrap (30 + ((k : Int) - 30)) = (k : Int) := by rw [show 30 + ((k : Int) - 30) = (k : Int) by omega]; exact IntWalk.i64_in _ (by omega)
  have hw0 : 30 + ((k : Int) - 30) = (k : Int) := by omega
  have t32 : decide ((32 : Int) < (k : Int)) = false := by simp; omega
  have t33 : ((k : Int) == 33) = false := by simp; omega
  have t322 : decide ((32 : Int) ≤ (k : Int)) = false := by simp; omega
  have t1 : ((j : Int) == 1) = false := by simp; omega
  have t2 : ((j : Int) == 2) = true := by simp; omega
  have HUs := Lib.hid hUs
  have HSs := Lib.hid hSs
  have HJJ := Lib.hid hjj
  have HKK := Lib.hid hkk
  clear hr hj hk hkn hU hS hUs hSs hjj hkk
  go_enter Try.func4, Try.ntmps4
  go_wp2_with (first
    | (go_at_call 5; (with_reducible refine (awake8_any HP.out _ _ HR.out).mono ?_); rintro e w1 ⟨rfl, h1⟩)
    | (go_at_call 8; (with_reducible refine (pk8_as n 5 ((k : Int) - 30) HN n0 n1 (by decide) (by decide) _).mono ?_); rintro e w2 ⟨rfl, rfl⟩)
    | (go_at_call 8; (with_reducible refine (pk8_as kind 3 (j : Int) HJ k0 k1 (by decide) (by decide) _).mono ?_); rintro e w2 ⟨rfl, rfl⟩))
  obtain ⟨W1, hW1⟩ : ∃ W, (w1.alloc (.cells #[.string ⟨#[108, 101, 115, 115, 40]⟩, .string ⟨#[109, 105, 110, 40, 49, 46, 48, 48, 44, 32]⟩, .string ⟨#[105, 102, 40, 97, 98, 111, 118, 101, 40, 115, 101, 99, 111, 110, 100, 44, 32, 108, 111, 119, 101, 115, 116, 41, 44, 32, 50, 46, 48, 48, 44, 32]⟩] 9)).alloc (.cells #[.string ⟨#[44, 32, 49, 46, 48, 48, 41]⟩, .string ⟨#[41]⟩, .string ⟨#[41]⟩] 9) = W := ⟨_, rfl⟩
  have HR1 := Lib.hid (show Rel w W1 by rw [← hW1]; exact (h1.alloc _).alloc _)
  rw [hW1]
  clear hW1 hc1 hc2 hw1 hw0
  go_loop [11, 12] (fun tv iv => ∃ (i : Nat) (C : ByteArray), 1 ≤ i ∧ i ≤ k ∧ iv = .int .i64 (i : Int) ∧ tv = .string C ∧ Hid (C = B (rep (i - 1) (opL j)))) (fun _ iv => k - (RowKit.intOf iv).toNat)
  case atStart => exact ⟨1, ⟨#[]⟩, Nat.le_refl _, by omega, rfl, rfl, Lib.hid rfl⟩
  case round =>
    obtain ⟨i, C, hi1, hik, rfl, rfl, HC⟩ := hrel
    have hCs := Lib.hid (show C.size = (i - 1) * U.size by rw [HC.out, B_size, rep_len, HUs.out])
    have hC9 : C.size ≤ 1100 := by
      rw [hCs.out]
      exact Nat.le_trans (Nat.mul_le_mul (show i - 1 ≤ 33 by omega) hU32) (by decide)
    by_cases hlt : i < k
    · have s1 : ¬ (9223372036854775807 < C.size + U.size) := by omega
      have hw2 : IntKind.i64.wrap ((i : Int) + 1) = (i : Int) + 1 := IntWalk.i64_in _ (by omega)
      have HNx := Lib.hid (show C ++ U = B (rep (i + 1 - 1) (opL j)) by rw [HC.out, ← HU.out, B_append, ← rep_succ, show i - 1 + 1 = i + 1 - 1 by omega])
      go_wp2_with (fail)
      go_round
      case rel => exact ⟨i + 1, _, by omega, by omega, by go_num, rfl, HNx⟩
      case measure => simp [RowKit.intOf]; omega
    · obtain rfl : i = k := by omega
      have s2 : ¬ (9223372036854775807 < C.size + (⟨#[108, 111, 119, 101, 115, 116]⟩ : ByteArray).size) := by have : (⟨#[108, 111, 119, 101, 115, 116]⟩ : ByteArray).size = 6 := rfl; omega
      go_wp2_with (first
        | (go_at_call 8; (with_reducible refine (pk8_as kind 3 (j : Int) HJ k0 k1 (by decide) (by decide) _).mono ?_); rintro e w2 ⟨rfl, rfl⟩))
      go_loop [11, 14] (fun tv iv => ∃ (m : Nat) (D : ByteArray), 1 ≤ m ∧ m ≤ i ∧ iv = .int .i64 (m : Int) ∧ tv = .string D ∧ Hid (D = (C ++ ⟨#[108, 111, 119, 101, 115, 116]⟩) ++ B (rep (m - 1) (shL j)))) (fun _ iv => i - (RowKit.intOf iv).toNat)
      case atStart => exact ⟨1, _, Nat.le_refl _, by omega, rfl, rfl, Lib.hid (by rw [show B (rep (1 - 1) (shL j)) = ByteArray.empty from rfl, ByteArray.append_empty])⟩
      case round =>
        obtain ⟨m, D, hm1, hmk, rfl, rfl, HD⟩ := hrel
        have hDs := Lib.hid (show D.size = C.size + 6 + (m - 1) * S.size by rw [HD.out, ByteArray.size_append, ByteArray.size_append, B_size, rep_len, HSs.out]; rfl)
        have hD9 : D.size ≤ 1400 := by
          rw [hDs.out]
          have := Nat.mul_le_mul (show m - 1 ≤ 33 by omega) hS7
          omega
        by_cases hlt2 : m < i
        · have s3 : ¬ (9223372036854775807 < D.size + S.size) := by omega
          have hw3 : IntKind.i64.wrap ((m : Int) + 1) = (m : Int) + 1 := IntWalk.i64_in _ (by omega)
          have HNx := Lib.hid (show D ++ S = (C ++ ⟨#[108, 111, 119, 101, 115, 116]⟩) ++ B (rep (m + 1 - 1) (shL j)) by rw [HD.out, ← HS.out, ByteArray.append_assoc, B_append, ← rep_succ, show m - 1 + 1 = m + 1 - 1 by omega])
          go_wp2_with (fail)
          go_round
          case rel => exact ⟨m + 1, _, by omega, by omega, by go_num, rfl, HNx⟩
          case measure => simp [RowKit.intOf]; omega
        · obtain rfl : m = i := by omega
          have HX := Lib.hid (show D = B (text (nest j (m - 1))) by rw [HD.out, HC.out, nest_bytes])
          have zD : D.size ≤ 9223372036854775807 := by omega
          have hkk := HKK.out
          have hjj := HJJ.out
          have PX : Hid (parseS D.data.toList = .ok (nest j (m - 1))) := Lib.hid (by rw [HX.out, B_list]; exact parse_text (nest_right j (m - 1) (by omega) (by omega)))
          obtain ⟨q, hq⟩ : ∃ q : Nat, pk cut 5 = (q : Int) := ⟨(pk cut 5).toNat, by have := pk_bd cut 5 (by omega); omega⟩
          have hq5 : q < 5 := by have := pk_bd cut 5 (by omega); omega
          have HQ := Lib.hid hq
          obtain ⟨cd, pl, hcd, hpx, hpl⟩ := deep_short (j := j) (n := m - 1) (q := q + 1) (by omega) (by omega) (by omega) (by omega) (by omega) HX.out
          have hD6 : 6 ≤ D.size := by rw [hDs.out]; omega
          obtain ⟨Y, hY⟩ : ∃ Y, D.extract 0 (D.size - (q + 1)) = Y := ⟨_, rfl⟩
          rw [hY] at hpx
          have hcut : D.extract 0 (D.size - 1 - q) = Y := by rw [show D.size - 1 - q = D.size - (q + 1) by omega]; exact hY
          have zY : Y.size ≤ 9223372036854775807 := by rw [← hY, ByteArray.size_extract]; omega
          have PY := Lib.hid hpx
          have hw4 : IntKind.i64.wrap ((D.size : Int) - 1) = (D.size : Int) - 1 := IntWalk.i64_in _ (by omega)
          have hw5 : IntKind.i64.wrap ((D.size : Int) - 1 - (q : Int)) = (D.size : Int) - 1 - (q : Int) := IntWalk.i64_in _ (by omega)
          have hb1 : 0 ≤ (D.size : Int) - 1 - (q : Int) := by omega
          have hb2 : (D.size : Int) - 1 - (q : Int) ≤ (D.size : Int) := by omega
          have hle : decide (pl ≤ (D.size : Int) - 1 - (q : Int)) = true := by simp; omega
          clear hq hpx hpl hY hjj hkk
          rcases hcd with rfl | rfl
          all_goals
            go_wp2_with (first
              | (go_at_call 10; (with_reducible refine (pparse_yes HP.out D (nest j (m - 1)) PX zD _ _ HR1.out.self).mono ?_); rintro e w5 ⟨va, rfl, ea, h5⟩; have AA := h5.self.alloc (.cells #[.int .i64 va.1, .int .i64 va.2.1, .string (B va.2.2.1), .slice va.2.2.2.1 va.2.2.2.2.1 va.2.2.2.2.2] 30); have R5 := (HR1.out.trans h5).trans AA; clear ea)
              | (go_at_call 8; (with_reducible refine (pk8_as kind 3 (j : Int) HJ k0 k1 (by decide) (by decide) _).mono ?_); rintro e w6 ⟨rfl, rfl⟩)
              | (go_at_call 8; (with_reducible refine (pk8_as cut 5 (q : Int) HQ c0 c1 (by decide) (by decide) _).mono ?_); rintro e w6 ⟨rfl, rfl⟩)
              | (go_at_call 10; (with_reducible refine (pparse_no HP.out Y _ pl PY zY _ _ AA.self).mono ?_); rintro e w7 ⟨rfl, h7⟩; have AB := h7.self.alloc (.cells #[.int .i64 0, .int .i64 0, .string ⟨#[]⟩, .slice none 0 0] 30)))
            go_ret
            exact ⟨rfl, (R5.trans h7).trans AB⟩
end Go.Proofs.Ytoajbbcjmalngaa

namespace Go.Proofs.Ytoajbbcjmalngaa
open Go.RowKit Go.Lib
set_option linter.unusedVariables false
set_option linter.unusedSimpArgs false

set_option maxRecDepth 100000 in
set_option maxHeartbeats 8000000 in
theorem deep_way7 (HP : ParseOk) (n kind cut : Int) (n0 : -9223372036854775808 ≤ n) (n1 : n ≤ 9223372036854775807) (k0 : -9223372036854775808 ≤ kind) (k1 : kind ≤ 9223372036854775807) (c0 : -9223372036854775808 ≤ cut) (c1 : cut ≤ 9223372036854775807) (j k : Nat) (hj : pk kind 3 = (j : Int)) (hk : 30 + pk n 5 = (k : Int)) (hj3 : j < 3) (hjj : j = 2) (hkk : k = 32) (w : World) (hr : Rel w w) :
    Calls Try.prog 4 #[.int .i64 n, .int .i64 kind, .int .i64 cut] w fun e w' => e = .returned (.bool true) ∧ Rel w w' := by
  have HP := Lib.hid HP
  have HR := Lib.hid hr
  have HJ := Lib.hid hj
  have HN := Lib.hid (show pk n 5 = (k : Int) - 30 by omega)
  have hkn := pk_bd n 5 (by omega)
  have hk30 : 30 ≤ k := by omega
  have hk34 : k ≤ 34 := by omega
  have hj3' : (j : Int) < 3 := by omega
  obtain ⟨U, hU⟩ : ∃ U, B (opL j) = U := ⟨_, rfl⟩
  obtain ⟨S, hS⟩ : ∃ S, B (shL j) = S := ⟨_, rfl⟩
  have hc1 := fun w => op_cell w j hj3 U hU
  have hc2 : ∀ w : World, ((w.alloc (.cells #[.string ⟨#[108, 101, 115, 115, 40]⟩, .string ⟨#[109, 105, 110, 40, 49, 46, 48, 48, 44, 32]⟩, .string ⟨#[105, 102, 40, 97, 98, 111, 118, 101, 40, 115, 101, 99, 111, 110, 100, 44, 32, 108, 111, 119, 101, 115, 116, 41, 44, 32, 50, 46, 48, 48, 44, 32]⟩] 9)).alloc (.cells #[.string ⟨#[44, 32, 49, 46, 48, 48, 41]⟩, .string ⟨#[41]⟩, .string ⟨#[41]⟩] 9)).cell? ⟨w.heap.size + 1, j, none⟩ = some (.string S) := fun w => by have h := sh_cell (w.alloc (.cells #[.string ⟨#[108, 101, 115, 115, 40]⟩, .string ⟨#[109, 105, 110, 40, 49, 46, 48, 48, 44, 32]⟩, .string ⟨#[105, 102, 40, 97, 98, 111, 118, 101, 40, 115, 101, 99, 111, 110, 100, 44, 32, 108, 111, 119, 101, 115, 116, 41, 44, 32, 50, 46, 48, 48, 44, 32]⟩] 9)) j hj3 S hS; rw [World.size_alloc] at h; exact h
  have hUs : U.size = (opL j).length := by rw [← hU, B_size]
  have hSs : S.size = (shL j).length := by rw [← hS, B_size]
  have HU := Lib.hid hU
  have HS := Lib.hid hS
  have hU32 : U.size ≤ 32 := by rw [hUs]; exact (opL_len j).1
  have hS7 : S.size ≤ 7 := by rw [hSs]; exact (opL_len j).2
  have hw1 : IntKind.i64.wrap (30 + ((k : Int) - 30)) = (k : Int) := by rw [show 30 + ((k : Int) - 30) = (k : Int) by omega]; exact IntWalk.i64_in _ (by omega)
  have hw0 : 30 + ((k : Int) - 30) = (k : Int) := by omega
  have t32 : decide ((32 : Int) < (k : Int)) = false := by simp; omega
  have t33 : ((k : Int) == 33) = false := by simp; omega
  have t322 : decide ((32 : Int) ≤ (k : Int)) = true := by simp; omega
  have t1 : ((j : Int) == 1) = false := by simp; omega
  have t2 : ((j : Int) == 2) = true := by simp; omega
  have HUs := Lib.hid hUs
  have HSs := Lib.hid hSs
  have HJJ := Lib.hid hjj
  have HKK := Lib.hid hkk
  clear hr hj hk hkn hU hS hUs hSs hjj hkk
  go_enter Try.func4, Try.ntmps4
  go_wp2_with (first
    | (go_at_call 5; (with_reducible refine (awake8_any HP.out _ _ HR.out).mono ?_); rintro e w1 ⟨rfl, h1⟩)
    | (go_at_call 8; (with_reducible refine (pk8_as n 5 ((k : Int) - 30) HN n0 n1 (by decide) (by decide) _).mono ?_); rintro e w2 ⟨rfl, rfl⟩)
    | (go_at_call 8; (with_reducible refine (pk8_as kind 3 (j : Int) HJ k0 k1 (by decide) (by decide) _).mono ?_); rintro e w2 ⟨rfl, rfl⟩))
  obtain ⟨W1, hW1⟩ : ∃ W, (w1.alloc (.cells #[.string ⟨#[108, 101, 115, 115, 40]⟩, .string ⟨#[109, 105, 110, 40, 49, 46, 48, 48, 44, 32]⟩, .string ⟨#[105, 102, 40, 97, 98, 111, 118, 101, 40, 115, 101, 99, 111, 110, 100, 44, 32, 108, 111, 119, 101, 115, 116, 41, 44, 32, 50, 46, 48, 48, 44, 32]⟩] 9)).alloc (.cells #[.string ⟨#[44, 32, 49, 46, 48, 48, 41]⟩, .string ⟨#[41]⟩, .string ⟨#[41]⟩] 9) = W := ⟨_, rfl⟩
  have HR1 := Lib.hid (show Rel w W1 by rw [← hW1]; exact (h1.alloc _).alloc _)
  rw [hW1]
  clear hW1 hc1 hc2 hw1 hw0
  go_loop [11, 12] (fun tv iv => ∃ (i : Nat) (C : ByteArray), 1 ≤ i ∧ i ≤ k ∧ iv = .int .i64 (i : Int) ∧ tv = .string C ∧ Hid (C = B (rep (i - 1) (opL j)))) (fun _ iv => k - (RowKit.intOf iv).toNat)
  case atStart => exact ⟨1, ⟨#[]⟩, Nat.le_refl _, by omega, rfl, rfl, Lib.hid rfl⟩
  case round =>
    obtain ⟨i, C, hi1, hik, rfl, rfl, HC⟩ := hrel
    have hCs := Lib.hid (show C.size = (i - 1) * U.size by rw [HC.out, B_size, rep_len, HUs.out])
    have hC9 : C.size ≤ 1100 := by
      rw [hCs.out]
      exact Nat.le_trans (Nat.mul_le_mul (show i - 1 ≤ 33 by omega) hU32) (by decide)
    by_cases hlt : i < k
    · have s1 : ¬ (9223372036854775807 < C.size + U.size) := by omega
      have hw2 : IntKind.i64.wrap ((i : Int) + 1) = (i : Int) + 1 := IntWalk.i64_in _ (by omega)
      have HNx := Lib.hid (show C ++ U = B (rep (i + 1 - 1) (opL j)) by rw [HC.out, ← HU.out, B_append, ← rep_succ, show i - 1 + 1 = i + 1 - 1 by omega])
      go_wp2_with (fail)
      go_round
      case rel => exact ⟨i + 1, _, by omega, by omega, by go_num, rfl, HNx⟩
      case measure => simp [RowKit.intOf]; omega
    · obtain rfl : i = k := by omega
      have hUl : U.size = 32 := by rw [HUs.out, HJJ.out]; rfl
      have hCl : C.size = 992 := by rw [hCs.out, hUl, HKK.out]
      have s2 : ¬ (9223372036854775807 < C.size + (⟨#[108, 111, 119, 101, 115, 116]⟩ : ByteArray).size) := by have : (⟨#[108, 111, 119, 101, 115, 116]⟩ : ByteArray).size = 6 := rfl; omega
      go_wp2_with (first
        | (go_at_call 8; (with_reducible refine (pk8_as kind 3 (j : Int) HJ k0 k1 (by decide) (by decide) _).mono ?_); rintro e w2 ⟨rfl, rfl⟩))
      go_loop [11, 14] (fun tv iv => ∃ (m : Nat) (D : ByteArray), 1 ≤ m ∧ m ≤ i ∧ iv = .int .i64 (m : Int) ∧ tv = .string D ∧ Hid (D = (C ++ ⟨#[108, 111, 119, 101, 115, 116]⟩) ++ B (rep (m - 1) (shL j)))) (fun _ iv => i - (RowKit.intOf iv).toNat)
      case atStart => exact ⟨1, _, Nat.le_refl _, by omega, rfl, rfl, Lib.hid (by rw [show B (rep (1 - 1) (shL j)) = ByteArray.empty from rfl, ByteArray.append_empty])⟩
      case round =>
        obtain ⟨m, D, hm1, hmk, rfl, rfl, HD⟩ := hrel
        have hDs := Lib.hid (show D.size = C.size + 6 + (m - 1) * S.size by rw [HD.out, ByteArray.size_append, ByteArray.size_append, B_size, rep_len, HSs.out]; rfl)
        have hD9 : D.size ≤ 1400 := by
          rw [hDs.out]
          have := Nat.mul_le_mul (show m - 1 ≤ 33 by omega) hS7
          omega
        by_cases hlt2 : m < i
        · have s3 : ¬ (9223372036854775807 < D.size + S.size) := by omega
          have hw3 : IntKind.i64.wrap ((m : Int) + 1) = (m : Int) + 1 := IntWalk.i64_in _ (by omega)
          have HNx := Lib.hid (show D ++ S = (C ++ ⟨#[108, 111, 119, 101, 115, 116]⟩) ++ B (rep (m + 1 - 1) (shL j)) by rw [HD.out, ← HS.out, ByteArray.append_assoc, B_append, ← rep_succ, show m - 1 + 1 = m + 1 - 1 by omega])
          go_wp2_with (fail)
          go_round
          case rel => exact ⟨m + 1, _, by omega, by omega, by go_num, rfl, HNx⟩
          case measure => simp [RowKit.intOf]; omega
        · obtain rfl : m = i := by omega
          have HX := Lib.hid (show D = B (text (nest j (m - 1))) by rw [HD.out, HC.out, nest_bytes])
          have zD : D.size ≤ 9223372036854775807 := by omega
          have hpe : parseS (text (nest j (m - 1))) = .error (81, 969) := by
            have hkk := HKK.out
            have hjj := HJJ.out
            have := deep_parse j (m - 1) (by rw [if_pos (by omega)]; omega) (by omega)
            rw [this, HJJ.out]; rfl
          have hDl : decide ((969 : Int) < (D.size : Int)) = true := by have := hDs.out; simp only [decide_eq_true_eq]; omega
          have PX : Hid (parseS D.data.toList = .error (81, 969)) := Lib.hid (by rw [HX.out, B_list]; exact hpe)
          go_wp2_with (first
            | (go_at_call 10; (with_reducible refine (pparse_no HP.out D 81 969 PX zD _ _ HR1.out.self).mono ?_); rintro e w5 ⟨rfl, h5⟩; have AA := h5.self.alloc (.cells #[.int .i64 0, .int .i64 0, .string ⟨#[]⟩, .slice none 0 0] 30))
            | (go_at_call 8; (with_reducible refine (pk8_as kind 3 (j : Int) HJ k0 k1 (by decide) (by decide) _).mono ?_); rintro e w6 ⟨rfl, rfl⟩))
          go_ret
          exact ⟨rfl, (HR1.out.trans h5).trans AA⟩
end Go.Proofs.Ytoajbbcjmalngaa

namespace Go.Proofs.Ytoajbbcjmalngaa
open Go.RowKit Go.Lib
set_option linter.unusedVariables false
set_option linter.unusedSimpArgs false

set_option maxRecDepth 100000 in
set_option maxHeartbeats 8000000 in
theorem deep_way8 (HP : ParseOk) (n kind cut : Int) (n0 : -9223372036854775808 ≤ n) (n1 : n ≤ 9223372036854775807) (k0 : -9223372036854775808 ≤ kind) (k1 : kind ≤ 9223372036854775807) (c0 : -9223372036854775808 ≤ cut) (c1 : cut ≤ 9223372036854775807) (j k : Nat) (hj : pk kind 3 = (j : Int)) (hk : 30 + pk n 5 = (k : Int)) (hj3 : j < 3) (hjj : j = 2) (hkk : k = 33) (w : World) (hr : Rel w w) :
    Calls Try.prog 4 #[.int .i64 n, .int .i64 kind, .int .i64 cut] w fun e w' => e = .returned (.bool true) ∧ Rel w w' := by
  have HP := Lib.hid HP
  have HR := Lib.hid hr
  have HJ := Lib.hid hj
  have HN := Lib.hid (show pk n 5 = (k : Int) - 30 by omega)
  have hkn := pk_bd n 5 (by omega)
  have hk30 : 30 ≤ k := by omega
  have hk34 : k ≤ 34 := by omega
  have hj3' : (j : Int) < 3 := by omega
  obtain ⟨U, hU⟩ : ∃ U, B (opL j) = U := ⟨_, rfl⟩
  obtain ⟨S, hS⟩ : ∃ S, B (shL j) = S := ⟨_, rfl⟩
  have hc1 := fun w => op_cell w j hj3 U hU
  have hc2 : ∀ w : World, ((w.alloc (.cells #[.string ⟨#[108, 101, 115, 115, 40]⟩, .string ⟨#[109, 105, 110, 40, 49, 46, 48, 48, 44, 32]⟩, .string ⟨#[105, 102, 40, 97, 98, 111, 118, 101, 40, 115, 101, 99, 111, 110, 100, 44, 32, 108, 111, 119, 101, 115, 116, 41, 44, 32, 50, 46, 48, 48, 44, 32]⟩] 9)).alloc (.cells #[.string ⟨#[44, 32, 49, 46, 48, 48, 41]⟩, .string ⟨#[41]⟩, .string ⟨#[41]⟩] 9)).cell? ⟨w.heap.size + 1, j, none⟩ = some (.string S) := fun w => by have h := sh_cell (w.alloc (.cells #[.string ⟨#[108, 101, 115, 115, 40]⟩, .string ⟨#[109, 105, 110, 40, 49, 46, 48, 48, 44, 32]⟩, .string ⟨#[105, 102, 40, 97, 98, 111, 118, 101, 40, 115, 101, 99, 111, 110, 100, 44, 32, 108, 111, 119, 101, 115, 116, 41, 44, 32, 50, 46, 48, 48, 44, 32]⟩] 9)) j hj3 S hS; rw [World.size_alloc] at h; exact h
  have hUs : U.size = (opL j).length := by rw [← hU, B_size]
  have hSs : S.size = (shL j).length := by rw [← hS, B_size]
  have HU := Lib.hid hU
  have HS := Lib.hid hS
  have hU32 : U.size ≤ 32 := by rw [hUs]; exact (opL_len j).1
  have hS7 : S.size ≤ 7 := by rw [hSs]; exact (opL_len j).2
  have hw1 : IntKind.i64.wrap (30 + ((k : Int) - 30)) = (k : Int) := by rw [show 30 + ((k : Int) - 30) = (k : Int) by omega]; exact IntWalk.i64_in _ (by omega)
  have hw0 : 30 + ((k : Int) - 30) = (k : Int) := by omega
  have t32 : decide ((32 : Int) < (k : Int)) = true := by simp; omega
  have t33 : ((k : Int) == 33) = true := by simp; omega
  have t322 : decide ((32 : Int) ≤ (k : Int)) = true := by simp; omega
  have t1 : ((j : Int) == 1) = false := by simp; omega
  have t2 : ((j : Int) == 2) = true := by simp; omega
  have HUs := Lib.hid hUs
  have HSs := Lib.hid hSs
  have HJJ := Lib.hid hjj
  have HKK := Lib.hid hkk
  clear hr hj hk hkn hU hS hUs hSs hjj hkk
  go_enter Try.func4, Try.ntmps4
  go_wp2_with (first
    | (go_at_call 5; (with_reducible refine (awake8_any HP.out _ _ HR.out).mono ?_); rintro e w1 ⟨rfl, h1⟩)
    | (go_at_call 8; (with_reducible refine (pk8_as n 5 ((k : Int) - 30) HN n0 n1 (by decide) (by decide) _).mono ?_); rintro e w2 ⟨rfl, rfl⟩)
    | (go_at_call 8; (with_reducible refine (pk8_as kind 3 (j : Int) HJ k0 k1 (by decide) (by decide) _).mono ?_); rintro e w2 ⟨rfl, rfl⟩))
  obtain ⟨W1, hW1⟩ : ∃ W, (w1.alloc (.cells #[.string ⟨#[108, 101, 115, 115, 40]⟩, .string ⟨#[109, 105, 110, 40, 49, 46, 48, 48, 44, 32]⟩, .string ⟨#[105, 102, 40, 97, 98, 111, 118, 101, 40, 115, 101, 99, 111, 110, 100, 44, 32, 108, 111, 119, 101, 115, 116, 41, 44, 32, 50, 46, 48, 48, 44, 32]⟩] 9)).alloc (.cells #[.string ⟨#[44, 32, 49, 46, 48, 48, 41]⟩, .string ⟨#[41]⟩, .string ⟨#[41]⟩] 9) = W := ⟨_, rfl⟩
  have HR1 := Lib.hid (show Rel w W1 by rw [← hW1]; exact (h1.alloc _).alloc _)
  rw [hW1]
  clear hW1 hc1 hc2 hw1 hw0
  go_loop [11, 12] (fun tv iv => ∃ (i : Nat) (C : ByteArray), 1 ≤ i ∧ i ≤ k ∧ iv = .int .i64 (i : Int) ∧ tv = .string C ∧ Hid (C = B (rep (i - 1) (opL j)))) (fun _ iv => k - (RowKit.intOf iv).toNat)
  case atStart => exact ⟨1, ⟨#[]⟩, Nat.le_refl _, by omega, rfl, rfl, Lib.hid rfl⟩
  case round =>
    obtain ⟨i, C, hi1, hik, rfl, rfl, HC⟩ := hrel
    have hCs := Lib.hid (show C.size = (i - 1) * U.size by rw [HC.out, B_size, rep_len, HUs.out])
    have hC9 : C.size ≤ 1100 := by
      rw [hCs.out]
      exact Nat.le_trans (Nat.mul_le_mul (show i - 1 ≤ 33 by omega) hU32) (by decide)
    by_cases hlt : i < k
    · have s1 : ¬ (9223372036854775807 < C.size + U.size) := by omega
      have hw2 : IntKind.i64.wrap ((i : Int) + 1) = (i : Int) + 1 := IntWalk.i64_in _ (by omega)
      have HNx := Lib.hid (show C ++ U = B (rep (i + 1 - 1) (opL j)) by rw [HC.out, ← HU.out, B_append, ← rep_succ, show i - 1 + 1 = i + 1 - 1 by omega])
      go_wp2_with (fail)
      go_round
      case rel => exact ⟨i + 1, _, by omega, by omega, by go_num, rfl, HNx⟩
      case measure => simp [RowKit.intOf]; omega
    · obtain rfl : i = k := by omega
      have hUl : U.size = 32 := by rw [HUs.out, HJJ.out]; rfl
      have hCl : C.size = 1024 := by rw [hCs.out, hUl, HKK.out]
      have s2 : ¬ (9223372036854775807 < C.size + (⟨#[108, 111, 119, 101, 115, 116]⟩ : ByteArray).size) := by have : (⟨#[108, 111, 119, 101, 115, 116]⟩ : ByteArray).size = 6 := rfl; omega
      go_wp2_with (first
        | (go_at_call 8; (with_reducible refine (pk8_as kind 3 (j : Int) HJ k0 k1 (by decide) (by decide) _).mono ?_); rintro e w2 ⟨rfl, rfl⟩))
      go_loop [11, 14] (fun tv iv => ∃ (m : Nat) (D : ByteArray), 1 ≤ m ∧ m ≤ i ∧ iv = .int .i64 (m : Int) ∧ tv = .string D ∧ Hid (D = (C ++ ⟨#[108, 111, 119, 101, 115, 116]⟩) ++ B (rep (m - 1) (shL j)))) (fun _ iv => i - (RowKit.intOf iv).toNat)
      case atStart => exact ⟨1, _, Nat.le_refl _, by omega, rfl, rfl, Lib.hid (by rw [show B (rep (1 - 1) (shL j)) = ByteArray.empty from rfl, ByteArray.append_empty])⟩
      case round =>
        obtain ⟨m, D, hm1, hmk, rfl, rfl, HD⟩ := hrel
        have hDs := Lib.hid (show D.size = C.size + 6 + (m - 1) * S.size by rw [HD.out, ByteArray.size_append, ByteArray.size_append, B_size, rep_len, HSs.out]; rfl)
        have hD9 : D.size ≤ 1400 := by
          rw [hDs.out]
          have := Nat.mul_le_mul (show m - 1 ≤ 33 by omega) hS7
          omega
        by_cases hlt2 : m < i
        · have s3 : ¬ (9223372036854775807 < D.size + S.size) := by omega
          have hw3 : IntKind.i64.wrap ((m : Int) + 1) = (m : Int) + 1 := IntWalk.i64_in _ (by omega)
          have HNx := Lib.hid (show D ++ S = (C ++ ⟨#[108, 111, 119, 101, 115, 116]⟩) ++ B (rep (m + 1 - 1) (shL j)) by rw [HD.out, ← HS.out, ByteArray.append_assoc, B_append, ← rep_succ, show m - 1 + 1 = m + 1 - 1 by omega])
          go_wp2_with (fail)
          go_round
          case rel => exact ⟨m + 1, _, by omega, by omega, by go_num, rfl, HNx⟩
          case measure => simp [RowKit.intOf]; omega
        · obtain rfl : m = i := by omega
          have HX := Lib.hid (show D = B (text (nest j (m - 1))) by rw [HD.out, HC.out, nest_bytes])
          have zD : D.size ≤ 9223372036854775807 := by omega
          have hpe : parseS (text (nest j (m - 1))) = .error (81, 969) := by
            have hkk := HKK.out
            have hjj := HJJ.out
            have := deep_parse j (m - 1) (by rw [if_pos (by omega)]; omega) (by omega)
            rw [this, HJJ.out]; rfl
          have hDl : decide ((969 : Int) < (D.size : Int)) = true := by have := hDs.out; simp only [decide_eq_true_eq]; omega
          have PX : Hid (parseS D.data.toList = .error (81, 969)) := Lib.hid (by rw [HX.out, B_list]; exact hpe)
          go_wp2_with (first
            | (go_at_call 10; (with_reducible refine (pparse_no HP.out D 81 969 PX zD _ _ HR1.out.self).mono ?_); rintro e w5 ⟨rfl, h5⟩; have AA := h5.self.alloc (.cells #[.int .i64 0, .int .i64 0, .string ⟨#[]⟩, .slice none 0 0] 30))
            | (go_at_call 8; (with_reducible refine (pk8_as kind 3 (j : Int) HJ k0 k1 (by decide) (by decide) _).mono ?_); rintro e w6 ⟨rfl, rfl⟩))
          go_ret
          exact ⟨rfl, (HR1.out.trans h5).trans AA⟩
end Go.Proofs.Ytoajbbcjmalngaa

namespace Go.Proofs.Ytoajbbcjmalngaa
open Go.RowKit Go.Lib
set_option linter.unusedVariables false
set_option linter.unusedSimpArgs false

set_option maxRecDepth 100000 in
set_option maxHeartbeats 8000000 in
theorem deep_way9 (HP : ParseOk) (n kind cut : Int) (n0 : -9223372036854775808 ≤ n) (n1 : n ≤ 9223372036854775807) (k0 : -9223372036854775808 ≤ kind) (k1 : kind ≤ 9223372036854775807) (c0 : -9223372036854775808 ≤ cut) (c1 : cut ≤ 9223372036854775807) (j k : Nat) (hj : pk kind 3 = (j : Int)) (hk : 30 + pk n 5 = (k : Int)) (hj3 : j < 3) (hjj : j = 2) (hkk : k = 34) (w : World) (hr : Rel w w) :
    Calls Try.prog 4 #[.int .i64 n, .int .i64 kind, .int .i64 cut] w fun e w' => e = .returned (.bool true) ∧ Rel w w' := by
  have HP := Lib.hid HP
  have HR := Lib.hid hr
  have HJ := Lib.hid hj
  have HN := Lib.hid (show pk n 5 = (k : Int) - 30 by omega)
  have hkn := pk_bd n 5 (by omega)
  have hk30 : 30 ≤ k := by omega
  have hk34 : k ≤ 34 := by omega
  have hj3' : (j : Int) < 3 := by omega
  obtain ⟨U, hU⟩ : ∃ U, B (opL j) = U := ⟨_, rfl⟩
  obtain ⟨S, hS⟩ : ∃ S, B (shL j) = S := ⟨_, rfl⟩
  have hc1 := fun w => op_cell w j hj3 U hU
  have hc2 : ∀ w : World, ((w.alloc (.cells #[.string ⟨#[108, 101, 115, 115, 40]⟩, .string ⟨#[109, 105, 110, 40, 49, 46, 48, 48, 44, 32]⟩, .string ⟨#[105, 102, 40, 97, 98, 111, 118, 101, 40, 115, 101, 99, 111, 110, 100, 44, 32, 108, 111, 119, 101, 115, 116, 41, 44, 32, 50, 46, 48, 48, 44, 32]⟩] 9)).alloc (.cells #[.string ⟨#[44, 32, 49, 46, 48, 48, 41]⟩, .string ⟨#[41]⟩, .string ⟨#[41]⟩] 9)).cell? ⟨w.heap.size + 1, j, none⟩ = some (.string S) := fun w => by have h := sh_cell (w.alloc (.cells #[.string ⟨#[108, 101, 115, 115, 40]⟩, .string ⟨#[109, 105, 110, 40, 49, 46, 48, 48, 44, 32]⟩, .string ⟨#[105, 102, 40, 97, 98, 111, 118, 101, 40, 115, 101, 99, 111, 110, 100, 44, 32, 108, 111, 119, 101, 115, 116, 41, 44, 32, 50, 46, 48, 48, 44, 32]⟩] 9)) j hj3 S hS; rw [World.size_alloc] at h; exact h
  have hUs : U.size = (opL j).length := by rw [← hU, B_size]
  have hSs : S.size = (shL j).length := by rw [← hS, B_size]
  have HU := Lib.hid hU
  have HS := Lib.hid hS
  have hU32 : U.size ≤ 32 := by rw [hUs]; exact (opL_len j).1
  have hS7 : S.size ≤ 7 := by rw [hSs]; exact (opL_len j).2
  have hw1 : IntKind.i64.wrap (30 + ((k : Int) - 30)) = (k : Int) := by rw [show 30 + ((k : Int) - 30) = (k : Int) by omega]; exact IntWalk.i64_in _ (by omega)
  have hw0 : 30 + ((k : Int) - 30) = (k : Int) := by omega
  have t32 : decide ((32 : Int) < (k : Int)) = true := by simp; omega
  have t33 : ((k : Int) == 33) = false := by simp; omega
  have t322 : decide ((32 : Int) ≤ (k : Int)) = true := by simp; omega
  have t1 : ((j : Int) == 1) = false := by simp; omega
  have t2 : ((j : Int) == 2) = true := by simp; omega
  have HUs := Lib.hid hUs
  have HSs := Lib.hid hSs
  have HJJ := Lib.hid hjj
  have HKK := Lib.hid hkk
  clear hr hj hk hkn hU hS hUs hSs hjj hkk
  go_enter Try.func4, Try.ntmps4
  go_wp2_with (first
    | (go_at_call 5; (with_reducible refine (awake8_any HP.out _ _ HR.out).mono ?_); rintro e w1 ⟨rfl, h1⟩)
    | (go_at_call 8; (with_reducible refine (pk8_as n 5 ((k : Int) - 30) HN n0 n1 (by decide) (by decide) _).mono ?_); rintro e w2 ⟨rfl, rfl⟩)
    | (go_at_call 8; (with_reducible refine (pk8_as kind 3 (j : Int) HJ k0 k1 (by decide) (by decide) _).mono ?_); rintro e w2 ⟨rfl, rfl⟩))
  obtain ⟨W1, hW1⟩ : ∃ W, (w1.alloc (.cells #[.string ⟨#[108, 101, 115, 115, 40]⟩, .string ⟨#[109, 105, 110, 40, 49, 46, 48, 48, 44, 32]⟩, .string ⟨#[105, 102, 40, 97, 98, 111, 118, 101, 40, 115, 101, 99, 111, 110, 100, 44, 32, 108, 111, 119, 101, 115, 116, 41, 44, 32, 50, 46, 48, 48, 44, 32]⟩] 9)).alloc (.cells #[.string ⟨#[44, 32, 49, 46, 48, 48, 41]⟩, .string ⟨#[41]⟩, .string ⟨#[41]⟩] 9) = W := ⟨_, rfl⟩
  have HR1 := Lib.hid (show Rel w W1 by rw [← hW1]; exact (h1.alloc _).alloc _)
  rw [hW1]
  clear hW1 hc1 hc2 hw1 hw0
  go_loop [11, 12] (fun tv iv => ∃ (i : Nat) (C : ByteArray), 1 ≤ i ∧ i ≤ k ∧ iv = .int .i64 (i : Int) ∧ tv = .string C ∧ Hid (C = B (rep (i - 1) (opL j)))) (fun _ iv => k - (RowKit.intOf iv).toNat)
  case atStart => exact ⟨1, ⟨#[]⟩, Nat.le_refl _, by omega, rfl, rfl, Lib.hid rfl⟩
  case round =>
    obtain ⟨i, C, hi1, hik, rfl, rfl, HC⟩ := hrel
    have hCs := Lib.hid (show C.size = (i - 1) * U.size by rw [HC.out, B_size, rep_len, HUs.out])
    have hC9 : C.size ≤ 1100 := by
      rw [hCs.out]
      exact Nat.le_trans (Nat.mul_le_mul (show i - 1 ≤ 33 by omega) hU32) (by decide)
    by_cases hlt : i < k
    · have s1 : ¬ (9223372036854775807 < C.size + U.size) := by omega
      have hw2 : IntKind.i64.wrap ((i : Int) + 1) = (i : Int) + 1 := IntWalk.i64_in _ (by omega)
      have HNx := Lib.hid (show C ++ U = B (rep (i + 1 - 1) (opL j)) by rw [HC.out, ← HU.out, B_append, ← rep_succ, show i - 1 + 1 = i + 1 - 1 by omega])
      go_wp2_with (fail)
      go_round
      case rel => exact ⟨i + 1, _, by omega, by omega, by go_num, rfl, HNx⟩
      case measure => simp [RowKit.intOf]; omega
    · obtain rfl : i = k := by omega
      have hUl : U.size = 32 := by rw [HUs.out, HJJ.out]; rfl
      have hCl : C.size = 1056 := by rw [hCs.out, hUl, HKK.out]
      have s2 : ¬ (9223372036854775807 < C.size + (⟨#[108, 111, 119, 101, 115, 116]⟩ : ByteArray).size) := by have : (⟨#[108, 111, 119, 101, 115, 116]⟩ : ByteArray).size = 6 := rfl; omega
      go_wp2_with (first
        | (go_at_call 8; (with_reducible refine (pk8_as kind 3 (j : Int) HJ k0 k1 (by decide) (by decide) _).mono ?_); rintro e w2 ⟨rfl, rfl⟩))
      go_loop [11, 14] (fun tv iv => ∃ (m : Nat) (D : ByteArray), 1 ≤ m ∧ m ≤ i ∧ iv = .int .i64 (m : Int) ∧ tv = .string D ∧ Hid (D = (C ++ ⟨#[108, 111, 119, 101, 115, 116]⟩) ++ B (rep (m - 1) (shL j)))) (fun _ iv => i - (RowKit.intOf iv).toNat)
      case atStart => exact ⟨1, _, Nat.le_refl _, by omega, rfl, rfl, Lib.hid (by rw [show B (rep (1 - 1) (shL j)) = ByteArray.empty from rfl, ByteArray.append_empty])⟩
      case round =>
        obtain ⟨m, D, hm1, hmk, rfl, rfl, HD⟩ := hrel
        have hDs := Lib.hid (show D.size = C.size + 6 + (m - 1) * S.size by rw [HD.out, ByteArray.size_append, ByteArray.size_append, B_size, rep_len, HSs.out]; rfl)
        have hD9 : D.size ≤ 1400 := by
          rw [hDs.out]
          have := Nat.mul_le_mul (show m - 1 ≤ 33 by omega) hS7
          omega
        by_cases hlt2 : m < i
        · have s3 : ¬ (9223372036854775807 < D.size + S.size) := by omega
          have hw3 : IntKind.i64.wrap ((m : Int) + 1) = (m : Int) + 1 := IntWalk.i64_in _ (by omega)
          have HNx := Lib.hid (show D ++ S = (C ++ ⟨#[108, 111, 119, 101, 115, 116]⟩) ++ B (rep (m + 1 - 1) (shL j)) by rw [HD.out, ← HS.out, ByteArray.append_assoc, B_append, ← rep_succ, show m - 1 + 1 = m + 1 - 1 by omega])
          go_wp2_with (fail)
          go_round
          case rel => exact ⟨m + 1, _, by omega, by omega, by go_num, rfl, HNx⟩
          case measure => simp [RowKit.intOf]; omega
        · obtain rfl : m = i := by omega
          have HX := Lib.hid (show D = B (text (nest j (m - 1))) by rw [HD.out, HC.out, nest_bytes])
          have zD : D.size ≤ 9223372036854775807 := by omega
          have hpe : parseS (text (nest j (m - 1))) = .error (81, 969) := by
            have hkk := HKK.out
            have hjj := HJJ.out
            have := deep_parse j (m - 1) (by rw [if_pos (by omega)]; omega) (by omega)
            rw [this, HJJ.out]; rfl
          have hDl : decide ((969 : Int) < (D.size : Int)) = true := by have := hDs.out; simp only [decide_eq_true_eq]; omega
          have PX : Hid (parseS D.data.toList = .error (81, 969)) := Lib.hid (by rw [HX.out, B_list]; exact hpe)
          go_wp2_with (first
            | (go_at_call 10; (with_reducible refine (pparse_no HP.out D 81 969 PX zD _ _ HR1.out.self).mono ?_); rintro e w5 ⟨rfl, h5⟩; have AA := h5.self.alloc (.cells #[.int .i64 0, .int .i64 0, .string ⟨#[]⟩, .slice none 0 0] 30))
            | (go_at_call 8; (with_reducible refine (pk8_as kind 3 (j : Int) HJ k0 k1 (by decide) (by decide) _).mono ?_); rintro e w6 ⟨rfl, rfl⟩))
          go_ret
          exact ⟨rfl, (HR1.out.trans h5).trans AA⟩
end Go.Proofs.Ytoajbbcjmalngaa
