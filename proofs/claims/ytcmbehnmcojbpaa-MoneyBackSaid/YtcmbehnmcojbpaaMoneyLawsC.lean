/- The walks of layer 1's statements (sums, parts): each of them answers true, for all numbers. -/
import Derived.Test.YtcmbehnmcojbpaaMoneyLawsB
import Derived.Test.YtcmbehnmcojbpaaMoneyTimes
import Derived.OpenShut
namespace Go.Proofs.Ytcmbehnmcojbpaa
open Go.RowKit
set_option linter.unusedVariables false


theorem twoY {a b n : Int} (h1 : -1000000000000 ≤ a) (h2 : a ≤ 1000000000000) (h3 : -1000000000000 ≤ b) (h4 : b ≤ 1000000000000) (h5 : -1000000000000 ≤ n) (h6 : n ≤ 1000000000000) : two1 a b n = n ∧ two2 a b n = 0 :=
  ⟨two1_yes (rt_yes h1 h2) (rt_yes h3 h4) (rt_yes h5 h6), two2_yes (rt_yes h1 h2) (rt_yes h3 h4) (rt_yes h5 h6)⟩
theorem twoN {a b n : Int} (h : n < -1000000000000 ∨ 1000000000000 < n) : two1 a b n = 0 ∧ two2 a b n = 10 :=
  ⟨two1_no (.inr (.inr (rt_no h))), two2_no (.inr (.inr (rt_no h)))⟩
theorem prod_lt {a b A B : Int} (h1 : 0 ≤ a) (h2 : a ≤ A) (h3 : 0 ≤ b) (h4 : b ≤ B) : 0 ≤ a * b ∧ a * b ≤ A * B :=
  ⟨Int.mul_nonneg h1 h3, Int.mul_le_mul h2 h4 h3 (by omega)⟩

set_option maxHeartbeats 400000 in
theorem MoneyBack_walk (a0 : Int) (a1 : Int) (a2 : Int) (w : World) (w0 : (Lit.int .i64 a0).wf = true) (w1 : (Lit.int .i64 a1).wf = true) (w2 : (Lit.int .i64 a2).wf = true) :
    Calls Try.prog 4 #[.int .i64 a0, .int .i64 a1, .int .i64 a2] w fun e w' => e = .returned (.bool true) ∧ Below w.heap.size w w' := by
  obtain ⟨w0a, w0b⟩ := bd64 w0
  obtain ⟨w1a, w1b⟩ := bd64 w1
  obtain ⟨w2a, w2b⟩ := bd64 w2
  have mX := @pk_bd a0 (2000000000001) (by omega)
  obtain ⟨X, qX⟩ : ∃ x, pk a0 2000000000001 - 1000000000000 = x := ⟨_, rfl⟩
  have mX1 : -1000000000000 ≤ X := by omega
  have mX2 : X ≤ 1000000000000 := by omega
  have HX := Lib.hid qX; clear qX mX
  have mY := @pk_bd a1 (2000000000001) (by omega)
  obtain ⟨Y, qY⟩ : ∃ x, pk a1 2000000000001 - 1000000000000 = x := ⟨_, rfl⟩
  have mY1 : -1000000000000 ≤ Y := by omega
  have mY2 : Y ≤ 1000000000000 := by omega
  have HY := Lib.hid qY; clear qY mY
  have mK := @pk_bd a2 (50) (by omega)
  generalize qK : pk a2 (50) = K at mK
  have HK := Lib.hid qK; clear qK
  obtain ⟨mK1, mK2⟩ := mK
  have mZ := @pk_bd a0 (1000000000) (by omega)
  generalize qZ : pk a0 (1000000000) = Z at mZ
  have HZ := Lib.hid qZ; clear qZ
  obtain ⟨mZ1, mZ2⟩ := mZ
  obtain ⟨P, hp⟩ : ∃ p, Z * K = p := ⟨_, rfl⟩
  obtain ⟨p1, p2⟩ := @prod_lt Z K 1000000000 50 (by omega) (by omega) (by omega) (by omega)
  have hq : Z * (K + 1) = P + Z := by rw [Int.mul_add, hp, Int.mul_one]
  rw [hp] at p1 p2
  have hP := Lib.hid hp; have hQ := Lib.hid hq; clear hp hq
  by_cases s1 : -1000000000000 ≤ X + Y
  · by_cases s2 : X + Y ≤ 1000000000000
    · skip
      have r0 : two1 X Y (X + Y) = (X + Y) ∧ two2 X Y (X + Y) = 0 := twoY mX1 mX2 mY1 mY2 s1 s2
      obtain ⟨r0a, r0b⟩ := r0
      have R0 := Lib.hid r0a; have S0 := Lib.hid r0b; clear r0a r0b
      have r1 : two1 Y X (Y + X) = (X + Y) ∧ two2 Y X (Y + X) = 0 := by rw [Int.add_comm Y X]; exact twoY mY1 mY2 mX1 mX2 s1 s2
      obtain ⟨r1a, r1b⟩ := r1
      have R1 := Lib.hid r1a; have S1 := Lib.hid r1b; clear r1a r1b
      have r2 : two1 (X + Y) Y ((X + Y) - Y) = X ∧ two2 (X + Y) Y ((X + Y) - Y) = 0 := by rw [show X + Y - Y = X from by omega]; exact twoY s1 s2 mY1 mY2 mX1 mX2
      obtain ⟨r2a, r2b⟩ := r2
      have R2 := Lib.hid r2a; have S2 := Lib.hid r2b; clear r2a r2b
      have r3 : two1 Z K (Z * K) = P ∧ two2 Z K (Z * K) = 0 := by rw [hP.out]; exact twoY (by omega) (by omega) (by omega) (by omega) (by omega) (by omega)
      obtain ⟨r3a, r3b⟩ := r3
      have R3 := Lib.hid r3a; have S3 := Lib.hid r3b; clear r3a r3b
      have r4 : two1 Z (K + 1) (Z * (K + 1)) = (P + Z) ∧ two2 Z (K + 1) (Z * (K + 1)) = 0 := by rw [hQ.out]; exact twoY (by omega) (by omega) (by omega) (by omega) (by omega) (by omega)
      obtain ⟨r4a, r4b⟩ := r4
      have R4 := Lib.hid r4a; have S4 := Lib.hid r4b; clear r4a r4b
      have r5 : two1 P Z (P + Z) = (P + Z) ∧ two2 P Z (P + Z) = 0 := twoY (by omega) (by omega) (by omega) (by omega) (by omega) (by omega)
      obtain ⟨r5a, r5b⟩ := r5
      have R5 := Lib.hid r5a; have S5 := Lib.hid r5b; clear r5a r5b
      go_enter Try.func4, Try.ntmps4
      go_wp2_with (first | (go_at_call 10; refine (awake_any _).mono ?_; rintro e w' ⟨rfl, rfl⟩) | (go_at_call 11; (with_reducible refine (int_at X (amount_any a0 w0a w0b _) HX).mono ?_); rintro e w' ⟨rfl, rfl⟩) | (go_at_call 11; (with_reducible refine (int_at Y (amount_any a1 w1a w1b _) HY).mono ?_); rintro e w' ⟨rfl, rfl⟩) | (go_at_call 12; (with_reducible refine (int_at K (pick_any a2 (50) w2a w2b (by omega) (by omega) _) HK).mono ?_); rintro e w' ⟨rfl, rfl⟩) | (go_at_call 12; (with_reducible refine (int_at Z (pick_any a0 (1000000000) w0a w0b (by omega) (by omega) _) HZ).mono ?_); rintro e w' ⟨rfl, rfl⟩) | (go_at_call 13; (with_reducible refine (two_at (X + Y) 0 (add_any X Y _) R0 S0).mono ?_); rintro e w' ⟨rfl, rfl⟩) | (go_at_call 13; (with_reducible refine (two_at (X + Y) 0 (add_any Y X _) R1 S1).mono ?_); rintro e w' ⟨rfl, rfl⟩) | (go_at_call 17; (with_reducible refine (two_at X 0 (sub_any (X + Y) Y _) R2 S2).mono ?_); rintro e w' ⟨rfl, rfl⟩) | (go_at_call 19; (with_reducible refine (two_at P 0 (times_any Z K _) R3 S3).mono ?_); rintro e w' ⟨rfl, rfl⟩) | (go_at_call 19; (with_reducible refine (two_at (P + Z) 0 (times_any Z (K + 1) _) R4 S4).mono ?_); rintro e w' ⟨rfl, rfl⟩) | (go_at_call 13; (with_reducible refine (two_at (P + Z) 0 (add_any P Z _) R5 S5).mono ?_); rintro e w' ⟨rfl, rfl⟩))
      go_ret
      exact ⟨rfl, Below.refl _ _⟩
    · skip
      have r0 : two1 X Y (X + Y) = 0 ∧ two2 X Y (X + Y) = 10 := twoN (by omega)
      obtain ⟨r0a, r0b⟩ := r0
      have R0 := Lib.hid r0a; have S0 := Lib.hid r0b; clear r0a r0b
      have r1 : two1 Y X (Y + X) = 0 ∧ two2 Y X (Y + X) = 10 := twoN (by omega)
      obtain ⟨r1a, r1b⟩ := r1
      have R1 := Lib.hid r1a; have S1 := Lib.hid r1b; clear r1a r1b
      have r2 : two1 0 Y (0 - Y) = (0 - Y) ∧ two2 0 Y (0 - Y) = 0 := twoY (by omega) (by omega) mY1 mY2 (by omega) (by omega)
      obtain ⟨r2a, r2b⟩ := r2
      have R2 := Lib.hid r2a; have S2 := Lib.hid r2b; clear r2a r2b
      have r3 : two1 Z K (Z * K) = P ∧ two2 Z K (Z * K) = 0 := by rw [hP.out]; exact twoY (by omega) (by omega) (by omega) (by omega) (by omega) (by omega)
      obtain ⟨r3a, r3b⟩ := r3
      have R3 := Lib.hid r3a; have S3 := Lib.hid r3b; clear r3a r3b
      have r4 : two1 Z (K + 1) (Z * (K + 1)) = (P + Z) ∧ two2 Z (K + 1) (Z * (K + 1)) = 0 := by rw [hQ.out]; exact twoY (by omega) (by omega) (by omega) (by omega) (by omega) (by omega)
      obtain ⟨r4a, r4b⟩ := r4
      have R4 := Lib.hid r4a; have S4 := Lib.hid r4b; clear r4a r4b
      have r5 : two1 P Z (P + Z) = (P + Z) ∧ two2 P Z (P + Z) = 0 := twoY (by omega) (by omega) (by omega) (by omega) (by omega) (by omega)
      obtain ⟨r5a, r5b⟩ := r5
      have R5 := Lib.hid r5a; have S5 := Lib.hid r5b; clear r5a r5b
      go_enter Try.func4, Try.ntmps4
      go_wp2_with (first | (go_at_call 10; refine (awake_any _).mono ?_; rintro e w' ⟨rfl, rfl⟩) | (go_at_call 11; (with_reducible refine (int_at X (amount_any a0 w0a w0b _) HX).mono ?_); rintro e w' ⟨rfl, rfl⟩) | (go_at_call 11; (with_reducible refine (int_at Y (amount_any a1 w1a w1b _) HY).mono ?_); rintro e w' ⟨rfl, rfl⟩) | (go_at_call 12; (with_reducible refine (int_at K (pick_any a2 (50) w2a w2b (by omega) (by omega) _) HK).mono ?_); rintro e w' ⟨rfl, rfl⟩) | (go_at_call 12; (with_reducible refine (int_at Z (pick_any a0 (1000000000) w0a w0b (by omega) (by omega) _) HZ).mono ?_); rintro e w' ⟨rfl, rfl⟩) | (go_at_call 13; (with_reducible refine (two_at 0 10 (add_any X Y _) R0 S0).mono ?_); rintro e w' ⟨rfl, rfl⟩) | (go_at_call 13; (with_reducible refine (two_at 0 10 (add_any Y X _) R1 S1).mono ?_); rintro e w' ⟨rfl, rfl⟩) | (go_at_call 17; (with_reducible refine (two_at (0 - Y) 0 (sub_any 0 Y _) R2 S2).mono ?_); rintro e w' ⟨rfl, rfl⟩) | (go_at_call 19; (with_reducible refine (two_at P 0 (times_any Z K _) R3 S3).mono ?_); rintro e w' ⟨rfl, rfl⟩) | (go_at_call 19; (with_reducible refine (two_at (P + Z) 0 (times_any Z (K + 1) _) R4 S4).mono ?_); rintro e w' ⟨rfl, rfl⟩) | (go_at_call 13; (with_reducible refine (two_at (P + Z) 0 (add_any P Z _) R5 S5).mono ?_); rintro e w' ⟨rfl, rfl⟩))
      go_ret
      exact ⟨rfl, Below.refl _ _⟩
  · skip
    have r0 : two1 X Y (X + Y) = 0 ∧ two2 X Y (X + Y) = 10 := twoN (by omega)
    obtain ⟨r0a, r0b⟩ := r0
    have R0 := Lib.hid r0a; have S0 := Lib.hid r0b; clear r0a r0b
    have r1 : two1 Y X (Y + X) = 0 ∧ two2 Y X (Y + X) = 10 := twoN (by omega)
    obtain ⟨r1a, r1b⟩ := r1
    have R1 := Lib.hid r1a; have S1 := Lib.hid r1b; clear r1a r1b
    have r2 : two1 0 Y (0 - Y) = (0 - Y) ∧ two2 0 Y (0 - Y) = 0 := twoY (by omega) (by omega) mY1 mY2 (by omega) (by omega)
    obtain ⟨r2a, r2b⟩ := r2
    have R2 := Lib.hid r2a; have S2 := Lib.hid r2b; clear r2a r2b
    have r3 : two1 Z K (Z * K) = P ∧ two2 Z K (Z * K) = 0 := by rw [hP.out]; exact twoY (by omega) (by omega) (by omega) (by omega) (by omega) (by omega)
    obtain ⟨r3a, r3b⟩ := r3
    have R3 := Lib.hid r3a; have S3 := Lib.hid r3b; clear r3a r3b
    have r4 : two1 Z (K + 1) (Z * (K + 1)) = (P + Z) ∧ two2 Z (K + 1) (Z * (K + 1)) = 0 := by rw [hQ.out]; exact twoY (by omega) (by omega) (by omega) (by omega) (by omega) (by omega)
    obtain ⟨r4a, r4b⟩ := r4
    have R4 := Lib.hid r4a; have S4 := Lib.hid r4b; clear r4a r4b
    have r5 : two1 P Z (P + Z) = (P + Z) ∧ two2 P Z (P + Z) = 0 := twoY (by omega) (by omega) (by omega) (by omega) (by omega) (by omega)
    obtain ⟨r5a, r5b⟩ := r5
    have R5 := Lib.hid r5a; have S5 := Lib.hid r5b; clear r5a r5b
    go_enter Try.func4, Try.ntmps4
    go_wp2_with (first | (go_at_call 10; refine (awake_any _).mono ?_; rintro e w' ⟨rfl, rfl⟩) | (go_at_call 11; (with_reducible refine (int_at X (amount_any a0 w0a w0b _) HX).mono ?_); rintro e w' ⟨rfl, rfl⟩) | (go_at_call 11; (with_reducible refine (int_at Y (amount_any a1 w1a w1b _) HY).mono ?_); rintro e w' ⟨rfl, rfl⟩) | (go_at_call 12; (with_reducible refine (int_at K (pick_any a2 (50) w2a w2b (by omega) (by omega) _) HK).mono ?_); rintro e w' ⟨rfl, rfl⟩) | (go_at_call 12; (with_reducible refine (int_at Z (pick_any a0 (1000000000) w0a w0b (by omega) (by omega) _) HZ).mono ?_); rintro e w' ⟨rfl, rfl⟩) | (go_at_call 13; (with_reducible refine (two_at 0 10 (add_any X Y _) R0 S0).mono ?_); rintro e w' ⟨rfl, rfl⟩) | (go_at_call 13; (with_reducible refine (two_at 0 10 (add_any Y X _) R1 S1).mono ?_); rintro e w' ⟨rfl, rfl⟩) | (go_at_call 17; (with_reducible refine (two_at (0 - Y) 0 (sub_any 0 Y _) R2 S2).mono ?_); rintro e w' ⟨rfl, rfl⟩) | (go_at_call 19; (with_reducible refine (two_at P 0 (times_any Z K _) R3 S3).mono ?_); rintro e w' ⟨rfl, rfl⟩) | (go_at_call 19; (with_reducible refine (two_at (P + Z) 0 (times_any Z (K + 1) _) R4 S4).mono ?_); rintro e w' ⟨rfl, rfl⟩) | (go_at_call 13; (with_reducible refine (two_at (P + Z) 0 (add_any P Z _) R5 S5).mono ?_); rintro e w' ⟨rfl, rfl⟩))
    go_ret
    exact ⟨rfl, Below.refl _ _⟩

theorem partY {a b v : Int} {up : Bool} (h1 : -1000000000000 ≤ a) (h2 : a ≤ 1000000000000) (h3 : -100000 ≤ b) (h4 : b ≤ 100000) (hv : prt a b up = v) (h5 : -1000000000000 ≤ v) (h6 : v ≤ 1000000000000) : part1 a b up = v ∧ part2 a b up = 0 := by
  have e1 := rt_yes h1 h2
  have e2 : wit b (-100000) 100000 = true := decide_eq_true ⟨h3, h4⟩
  have e3 := rt_yes h5 h6
  unfold part1 part2 told1 told2; rw [hv]; simp [e1, e2, e3]
theorem prt_dn (a b : Int) : prt a b false = fl (a * b) := rfl
theorem prt_u (a b : Int) : prt a b true = -(fl (-(a * b))) := rfl

set_option maxHeartbeats 400000 in
theorem MoneyParts_walk (a0 : Int) (a1 : Int) (w : World) (w0 : (Lit.int .i64 a0).wf = true) (w1 : (Lit.int .i64 a1).wf = true) :
    Calls Try.prog 5 #[.int .i64 a0, .int .i64 a1] w fun e w' => e = .returned (.bool true) ∧ Below w.heap.size w w' := by
  obtain ⟨w0a, w0b⟩ := bd64 w0
  obtain ⟨w1a, w1b⟩ := bd64 w1
  have mXr := @pk_bd a0 (2000000001) (by omega)
  obtain ⟨Xr, qXr⟩ : ∃ x, pk a0 2000000001 = x := ⟨_, rfl⟩
  rw [qXr] at mXr
  have HXr := Lib.hid qXr; clear qXr
  obtain ⟨mXr1, mXr2⟩ := mXr
  have mB := @pk_bd a1 (10001) (by omega)
  generalize qB : pk a1 (10001) = B at mB
  have HB := Lib.hid qB; clear qB
  obtain ⟨mB1, mB2⟩ := mB
  obtain ⟨X, rfl⟩ : ∃ x, Xr = x + 1000000000 := ⟨Xr - 1000000000, by omega⟩
  have f1 := @fl_lt (X * B)
  have f2 := @fl_lt (-(X * B))
  have e3 : X * (10000 - B) = 10000 * X - X * B := by rw [Int.mul_sub, Int.mul_comm X 10000]
  have f3 := @fl_lt (-(X * (10000 - B)))
  obtain ⟨p1, p2⟩ : -(1000000000 * 10000) ≤ X * B ∧ X * B ≤ 1000000000 * 10000 := prod_bd (by omega) (by omega) (by omega) (by omega)
  rw [e3] at f3
  have hR : -(fl (-(X * (10000 - B)))) = X - fl (X * B) := by rw [e3]; omega
  clear f3 e3
  generalize hD : fl (X * B) = D at f1 hR
  obtain ⟨U, hU⟩ : ∃ u, -(fl (-(X * B))) = u := ⟨_, rfl⟩
  have u1 : D ≤ U := by omega
  have u2 : U ≤ D + 1 := by omega
  have d1 : -1000000000 ≤ D := by omega
  have d2 : D ≤ 1000000000 := by omega
  clear f1 f2 p1 p2
  have r0 : part1 X B false = D ∧ part2 X B false = 0 := partY (by omega) (by omega) (by omega) (by omega) ((prt_dn _ _).trans hD) (by omega) (by omega)
  obtain ⟨r0a, r0b⟩ := r0
  have R0 := Lib.hid r0a; have S0 := Lib.hid r0b; clear r0a r0b
  have r1 : part1 X B true = U ∧ part2 X B true = 0 := partY (by omega) (by omega) (by omega) (by omega) ((prt_u _ _).trans hU) (by omega) (by omega)
  obtain ⟨r1a, r1b⟩ := r1
  have R1 := Lib.hid r1a; have S1 := Lib.hid r1b; clear r1a r1b
  have r2 : part1 X (10000 - B) true = (X - D) ∧ part2 X (10000 - B) true = 0 := partY (by omega) (by omega) (by omega) (by omega) ((prt_u _ _).trans (by rw [hR])) (by omega) (by omega)
  obtain ⟨r2a, r2b⟩ := r2
  have R2 := Lib.hid r2a; have S2 := Lib.hid r2b; clear r2a r2b
  have r3 : part1 X 10000 false = X ∧ part2 X 10000 false = 0 := partY (by omega) (by omega) (by omega) (by omega) ((prt_dn _ _).trans (fl_eq (by omega) (by omega))) (by omega) (by omega)
  obtain ⟨r3a, r3b⟩ := r3
  have R3 := Lib.hid r3a; have S3 := Lib.hid r3b; clear r3a r3b
  have r4 : part1 X 0 true = 0 ∧ part2 X 0 true = 0 := partY (by omega) (by omega) (by omega) (by omega) ((prt_u _ _).trans (by rw [Int.mul_zero]; rfl)) (by omega) (by omega)
  obtain ⟨r4a, r4b⟩ := r4
  have R4 := Lib.hid r4a; have S4 := Lib.hid r4b; clear r4a r4b
  have r5 : part1 (-X) B true = (-D) ∧ part2 (-X) B true = 0 := partY (by omega) (by omega) (by omega) (by omega) ((prt_u _ _).trans (by rw [Int.neg_mul, Int.neg_neg, hD])) (by omega) (by omega)
  obtain ⟨r5a, r5b⟩ := r5
  have R5 := Lib.hid r5a; have S5 := Lib.hid r5b; clear r5a r5b
  
  clear hD hR hU
  by_cases hu : U = D
  · replace hu := hu.symm; subst hu
    go_enter Try.func5, Try.ntmps5
    go_wp2_with (first | (go_at_call 10; refine (awake_any _).mono ?_; rintro e w' ⟨rfl, rfl⟩) | (go_at_call 12; (with_reducible refine (int_at (X + 1000000000) (pick_any a0 (2000000001) w0a w0b (by omega) (by omega) _) HXr).mono ?_); rintro e w' ⟨rfl, rfl⟩) | (go_at_call 12; (with_reducible refine (int_at B (pick_any a1 (10001) w1a w1b (by omega) (by omega) _) HB).mono ?_); rintro e w' ⟨rfl, rfl⟩) | (go_at_call 21; (with_reducible refine (two_at D 0 (part_any X B false _) R0 S0).mono ?_); rintro e w' ⟨rfl, rfl⟩) | (go_at_call 21; (with_reducible refine (two_at D 0 (part_any X B true _) R1 S1).mono ?_); rintro e w' ⟨rfl, rfl⟩) | (go_at_call 21; (with_reducible refine (two_at (X - D) 0 (part_any X (10000 - B) true _) R2 S2).mono ?_); rintro e w' ⟨rfl, rfl⟩) | (go_at_call 21; (with_reducible refine (two_at X 0 (part_any X 10000 false _) R3 S3).mono ?_); rintro e w' ⟨rfl, rfl⟩) | (go_at_call 21; (with_reducible refine (two_at 0 0 (part_any X 0 true _) R4 S4).mono ?_); rintro e w' ⟨rfl, rfl⟩) | (go_at_call 21; (with_reducible refine (two_at (-D) 0 (part_any (-X) B true _) R5 S5).mono ?_); rintro e w' ⟨rfl, rfl⟩))
    go_ret
    exact ⟨rfl, Below.refl _ _⟩
  · obtain rfl : U = D + 1 := by omega
    go_enter Try.func5, Try.ntmps5
    go_wp2_with (first | (go_at_call 10; refine (awake_any _).mono ?_; rintro e w' ⟨rfl, rfl⟩) | (go_at_call 12; (with_reducible refine (int_at (X + 1000000000) (pick_any a0 (2000000001) w0a w0b (by omega) (by omega) _) HXr).mono ?_); rintro e w' ⟨rfl, rfl⟩) | (go_at_call 12; (with_reducible refine (int_at B (pick_any a1 (10001) w1a w1b (by omega) (by omega) _) HB).mono ?_); rintro e w' ⟨rfl, rfl⟩) | (go_at_call 21; (with_reducible refine (two_at D 0 (part_any X B false _) R0 S0).mono ?_); rintro e w' ⟨rfl, rfl⟩) | (go_at_call 21; (with_reducible refine (two_at (D + 1) 0 (part_any X B true _) R1 S1).mono ?_); rintro e w' ⟨rfl, rfl⟩) | (go_at_call 21; (with_reducible refine (two_at (X - D) 0 (part_any X (10000 - B) true _) R2 S2).mono ?_); rintro e w' ⟨rfl, rfl⟩) | (go_at_call 21; (with_reducible refine (two_at X 0 (part_any X 10000 false _) R3 S3).mono ?_); rintro e w' ⟨rfl, rfl⟩) | (go_at_call 21; (with_reducible refine (two_at 0 0 (part_any X 0 true _) R4 S4).mono ?_); rintro e w' ⟨rfl, rfl⟩) | (go_at_call 21; (with_reducible refine (two_at (-D) 0 (part_any (-X) B true _) R5 S5).mono ?_); rintro e w' ⟨rfl, rfl⟩))
    go_ret
    exact ⟨rfl, Below.refl _ _⟩

theorem two1_comm (a b n : Int) : two1 a b n = two1 b a n := by unfold two1; rw [Bool.and_comm]
theorem two2_comm (a b n : Int) : two2 a b n = two2 b a n := by unfold two2; rw [Bool.and_comm]
theorem two1_sub (a b : Int) : two1 b a (b - a) = -(two1 a b (a - b)) := by
  have h : b - a = -(a - b) := by omega
  rw [two1_comm, h]; unfold two1 told1; rw [rt_neg]; (repeat' split) <;> omega
theorem two2_sub (a b : Int) : two2 b a (b - a) = two2 a b (a - b) := by
  have h : b - a = -(a - b) := by omega
  rw [two2_comm, h]; unfold two2 told2; rw [rt_neg]

set_option maxHeartbeats 400000 in
theorem MoneyTurned_walk (a0 : Int) (a1 : Int) (w : World) (w0 : (Lit.int .i64 a0).wf = true) (w1 : (Lit.int .i64 a1).wf = true) :
    Calls Try.prog 8 #[.int .i64 a0, .int .i64 a1] w fun e w' => e = .returned (.bool true) ∧ Below w.heap.size w w' := by
  obtain ⟨w0a, w0b⟩ := bd64 w0
  obtain ⟨w1a, w1b⟩ := bd64 w1
  have mX := @pk_bd a0 (2000000000001) (by omega)
  obtain ⟨X, qX⟩ : ∃ x, pk a0 2000000000001 - 1000000000000 = x := ⟨_, rfl⟩
  have mX1 : -1000000000000 ≤ X := by omega
  have mX2 : X ≤ 1000000000000 := by omega
  have HX := Lib.hid qX; clear qX mX
  have mY := @pk_bd a1 (2000000000001) (by omega)
  obtain ⟨Y, qY⟩ : ∃ x, pk a1 2000000000001 - 1000000000000 = x := ⟨_, rfl⟩
  have mY1 : -1000000000000 ≤ Y := by omega
  have mY2 : Y ≤ 1000000000000 := by omega
  have HY := Lib.hid qY; clear qY mY
  obtain ⟨d1, d2⟩ := two1_bd X Y (X - Y)
  obtain ⟨p1, p2⟩ := two1_bd X Y (X * Y)
  have ra := two1_sub X Y
  have rb := two2_sub X Y
  have qa : two1 Y X (Y * X) = two1 X Y (X * Y) := by rw [Int.mul_comm, two1_comm]
  have qb : two2 Y X (Y * X) = two2 X Y (X * Y) := by rw [Int.mul_comm, two2_comm]
  have na : two1 (-X) Y (-X * Y) = -(two1 X Y (X * Y)) := by rw [Int.neg_mul, two1_neg]
  have nb : two2 (-X) Y (-X * Y) = two2 X Y (X * Y) := by rw [Int.neg_mul, two2_neg]
  have za := @twoY X 0 (X * 0) mX1 mX2 (by omega) (by omega) (by omega) (by omega)
  have oa := @twoY X 1 (X * 1) mX1 mX2 (by omega) (by omega) (by omega) (by omega)
  rw [Int.mul_zero] at za; rw [Int.mul_one] at oa
  generalize hD : two1 X Y (X - Y) = D at *
  generalize hE : two2 X Y (X - Y) = E at *
  generalize hP : two1 X Y (X * Y) = P at *
  generalize hG : two2 X Y (X * Y) = G at *
  have HD := Lib.hid hD; have HE := Lib.hid hE; have HP := Lib.hid hP; have HG := Lib.hid hG; clear hD hE hP hG
  have RA := Lib.hid ra; have RB := Lib.hid rb; have QA := Lib.hid qa; have QB := Lib.hid qb; have NA := Lib.hid na; have NB := Lib.hid nb; clear ra rb qa qb na nb
  have ZA : Hid (two1 X 0 (X * 0) = 0) := by rw [Int.mul_zero]; exact za.1
  have ZB : Hid (two2 X 0 (X * 0) = 0) := by rw [Int.mul_zero]; exact za.2
  have OA : Hid (two1 X 1 (X * 1) = X) := by rw [Int.mul_one]; exact oa.1
  have OB : Hid (two2 X 1 (X * 1) = 0) := by rw [Int.mul_one]; exact oa.2
  clear za oa
  go_enter Try.func8, Try.ntmps8
  go_wp2_with (first | (go_at_call 10; refine (awake_any _).mono ?_; rintro e w' ⟨rfl, rfl⟩) | (go_at_call 11; (with_reducible refine (int_at X (amount_any a0 w0a w0b _) HX).mono ?_); rintro e w' ⟨rfl, rfl⟩) | (go_at_call 11; (with_reducible refine (int_at Y (amount_any a1 w1a w1b _) HY).mono ?_); rintro e w' ⟨rfl, rfl⟩) | (go_at_call 17; (with_reducible refine (two_at D E (sub_any X Y _) HD HE).mono ?_); rintro e w' ⟨rfl, rfl⟩) | (go_at_call 17; (with_reducible refine (two_at (-D) E (sub_any Y X _) RA RB).mono ?_); rintro e w' ⟨rfl, rfl⟩) | (go_at_call 19; (with_reducible refine (two_at P G (times_any X Y _) HP HG).mono ?_); rintro e w' ⟨rfl, rfl⟩) | (go_at_call 19; (with_reducible refine (two_at P G (times_any Y X _) QA QB).mono ?_); rintro e w' ⟨rfl, rfl⟩) | (go_at_call 19; (with_reducible refine (two_at (-P) G (times_any (-X) Y _) NA NB).mono ?_); rintro e w' ⟨rfl, rfl⟩) | (go_at_call 19; (with_reducible refine (two_at 0 0 (times_any X 0 _) ZA ZB).mono ?_); rintro e w' ⟨rfl, rfl⟩) | (go_at_call 19; (with_reducible refine (two_at X 0 (times_any X 1 _) OA OB).mono ?_); rintro e w' ⟨rfl, rfl⟩))
  go_ret
  exact ⟨rfl, Below.refl _ _⟩

theorem fl_nn {p A : Int} (h : 0 ≤ p) (h' : p ≤ A * 10000) : 0 ≤ fl p ∧ fl p ≤ A := by
  have := @fl_lt p; omega
theorem fl_mono {p q : Int} (h : p ≤ q) : fl p ≤ fl q := by
  have := @fl_lt p; have := @fl_lt q; omega

set_option maxHeartbeats 400000 in
theorem MoneyGrows_walk (a0 : Int) (a1 : Int) (a2 : Int) (w : World) (w0 : (Lit.int .i64 a0).wf = true) (w1 : (Lit.int .i64 a1).wf = true) (w2 : (Lit.int .i64 a2).wf = true) :
    Calls Try.prog 9 #[.int .i64 a0, .int .i64 a1, .int .i64 a2] w fun e w' => e = .returned (.bool true) ∧ Below w.heap.size w w' := by
  obtain ⟨w0a, w0b⟩ := bd64 w0
  obtain ⟨w1a, w1b⟩ := bd64 w1
  obtain ⟨w2a, w2b⟩ := bd64 w2
  have mX := @pk_bd a0 (1000000000) (by omega)
  generalize qX : pk a0 (1000000000) = X at mX
  have HX := Lib.hid qX; clear qX
  obtain ⟨mX1, mX2⟩ := mX
  have mB := @pk_bd a1 (10001) (by omega)
  generalize qB : pk a1 (10001) = B at mB
  have HB := Lib.hid qB; clear qB
  obtain ⟨mB1, mB2⟩ := mB
  have mM := @pk_bd a2 (10001 - B) (by omega)
  generalize qM : pk a2 (10001 - B) = M at mM
  have HM := Lib.hid qM; clear qM
  obtain ⟨mM1, mM2⟩ := mM
  have b1 := fl_nn (A := X) (Int.mul_nonneg (a := X) (b := B) (by omega) (by omega)) (Int.mul_le_mul_of_nonneg_left (by omega) (by omega))
  obtain ⟨Q, hQ⟩ : ∃ q, B + M = q := ⟨_, rfl⟩
  have q1 : B ≤ Q := by omega
  have q2 : Q ≤ 10000 := by omega
  have b2 := fl_nn (A := X) (Int.mul_nonneg (a := X) (b := Q) (by omega) (by omega)) (Int.mul_le_mul_of_nonneg_left (by omega) (by omega))
  have c1 : fl (X * B) ≤ fl (X * Q) := fl_mono (Int.mul_le_mul_of_nonneg_left q1 (by omega))
  have e1 : (X + 1) * B = X * B + B := by rw [Int.add_mul, Int.one_mul]
  have c2 : fl (X * B) ≤ fl ((X + 1) * B) := fl_mono (by omega)
  have c3 : fl ((X + 1) * B) ≤ fl (X * B) + 1 := by
    rw [e1]; have := @fl_lt (X * B); have := @fl_lt (X * B + B); omega
  generalize hS : fl (X * B) = S at *
  generalize hT : fl (X * Q) = T at *
  generalize hU : fl ((X + 1) * B) = U at *
  have b3 := fl_nn (A := S) (Int.mul_nonneg (a := S) (b := Q) (by omega) (by omega)) (Int.mul_le_mul_of_nonneg_left (by omega) (by omega))
  have b4 := fl_nn (A := T) (Int.mul_nonneg (a := T) (b := B) (by omega) (by omega)) (Int.mul_le_mul_of_nonneg_left (by omega) (by omega))
  have c4 : fl (T * B) ≤ S := by rw [← hS]; exact fl_mono (Int.mul_le_mul_of_nonneg_right (by omega) (by omega))
  have c5 : fl (S * Q) ≤ T := by rw [← hT]; exact fl_mono (Int.mul_le_mul_of_nonneg_right (by omega) (by omega))
  generalize hV : fl (S * Q) = V at *
  generalize hW : fl (T * B) = W at *
  have r0 : part1 X B false = S ∧ part2 X B false = 0 := partY (by omega) (by omega) (by omega) (by omega) ((prt_dn _ _).trans hS) (by omega) (by omega)
  obtain ⟨r0a, r0b⟩ := r0
  have R0 := Lib.hid r0a; have S0 := Lib.hid r0b; clear r0a r0b
  have r1 : part1 X Q false = T ∧ part2 X Q false = 0 := partY (by omega) (by omega) (by omega) (by omega) ((prt_dn _ _).trans hT) (by omega) (by omega)
  obtain ⟨r1a, r1b⟩ := r1
  have R1 := Lib.hid r1a; have S1 := Lib.hid r1b; clear r1a r1b
  have r2 : part1 (X + 1) B false = U ∧ part2 (X + 1) B false = 0 := partY (by omega) (by omega) (by omega) (by omega) ((prt_dn _ _).trans hU) (by omega) (by omega)
  obtain ⟨r2a, r2b⟩ := r2
  have R2 := Lib.hid r2a; have S2 := Lib.hid r2b; clear r2a r2b
  have r3 : part1 S Q false = V ∧ part2 S Q false = 0 := partY (by omega) (by omega) (by omega) (by omega) ((prt_dn _ _).trans hV) (by omega) (by omega)
  obtain ⟨r3a, r3b⟩ := r3
  have R3 := Lib.hid r3a; have S3 := Lib.hid r3b; clear r3a r3b
  have r4 : part1 T B false = W ∧ part2 T B false = 0 := partY (by omega) (by omega) (by omega) (by omega) ((prt_dn _ _).trans hW) (by omega) (by omega)
  obtain ⟨r4a, r4b⟩ := r4
  have R4 := Lib.hid r4a; have S4 := Lib.hid r4b; clear r4a r4b
  
  clear hS hT hU hV hW e1
  obtain ⟨x1, x2⟩ := b1; obtain ⟨x3, x4⟩ := b2; obtain ⟨x5, x6⟩ := b3; obtain ⟨x7, x8⟩ := b4
  subst hQ
  go_enter Try.func9, Try.ntmps9
  go_wp2_with (first | (go_at_call 10; refine (awake_any _).mono ?_; rintro e w' ⟨rfl, rfl⟩) | (go_at_call 12; (with_reducible refine (int_at X (pick_any a0 (1000000000) w0a w0b (by omega) (by omega) _) HX).mono ?_); rintro e w' ⟨rfl, rfl⟩) | (go_at_call 12; (with_reducible refine (int_at B (pick_any a1 (10001) w1a w1b (by omega) (by omega) _) HB).mono ?_); rintro e w' ⟨rfl, rfl⟩) | (go_at_call 12; (with_reducible refine (int_at M (pick_any a2 (10001 - B) w2a w2b (by omega) (by omega) _) HM).mono ?_); rintro e w' ⟨rfl, rfl⟩) | (go_at_call 21; (with_reducible refine (two_at S 0 (part_any X B false _) R0 S0).mono ?_); rintro e w' ⟨rfl, rfl⟩) | (go_at_call 21; (with_reducible refine (two_at T 0 (part_any X (B + M) false _) R1 S1).mono ?_); rintro e w' ⟨rfl, rfl⟩) | (go_at_call 21; (with_reducible refine (two_at U 0 (part_any (X + 1) B false _) R2 S2).mono ?_); rintro e w' ⟨rfl, rfl⟩) | (go_at_call 21; (with_reducible refine (two_at V 0 (part_any S (B + M) false _) R3 S3).mono ?_); rintro e w' ⟨rfl, rfl⟩) | (go_at_call 21; (with_reducible refine (two_at W 0 (part_any T B false _) R4 S4).mono ?_); rintro e w' ⟨rfl, rfl⟩))
  go_ret
  exact ⟨rfl, Below.refl _ _⟩

end Go.Proofs.Ytcmbehnmcojbpaa
