/- The contracts of layer 1's larger functions (parts, products, ticks), of the program and of the document's own answers. -/
import Derived.Test.YtcmbehnmcojbpaaMoneyLeaf
namespace Go.Proofs.Ytcmbehnmcojbpaa
open Go.RowKit
set_option linter.unusedVariables false

theorem prt_up (p : Int) : -(fl (-p)) = if 0 < p.tmod 10000 then p.tdiv 10000 + 1 else p.tdiv 10000 := by
  have := tdt p 10000 (by omega)
  have h1 := @fl_lt (-p)
  generalize fl (-p) = q at *
  split <;> omega
theorem pk_bd {c n : Int} (hn : 0 < n) : 0 ≤ pk c n ∧ pk c n < n := by
  unfold pk; split
  · have := tdt (c + 1) n hn; omega
  · exact ⟨Int.emod_nonneg _ (by omega), Int.emod_lt_of_pos _ hn⟩
theorem tk_bd (a : Int) : 0 ≤ tk a ∧ tk a ≤ 1099511627776 := by unfold tk; (repeat' split) <;> omega

set_option maxHeartbeats 400000 in
theorem amount_any (c : Int) (hc : -9223372036854775808 ≤ c) (hc' : c ≤ 9223372036854775807) (w : World) :
    Calls Try.prog 11 #[.int .i64 c] w fun e w' => e = .returned (.int .i64 (pk c 2000000000001 - 1000000000000)) ∧ w = w' := by
  have hb := @pk_bd c 2000000000001 (by omega)
  obtain ⟨b1, b2⟩ := hb
  go_enter Try.func11, Try.ntmps11
  go_wp2_with (first | (go_at_call 12; refine (pick_any c 2000000000001 hc hc' (by omega) (by omega) w).mono ?_; rintro e w' ⟨rfl, rfl⟩))
  go_ret
  exact ⟨rfl, rfl⟩

set_option maxHeartbeats 400000 in
theorem later_any (a b : Int) (w : World) :
    Calls Try.prog 25 #[.int .i64 a, .int .i64 b] w fun e w' => e = .returned (.int .i64 (later a b)) ∧ w = w' := by
  obtain ⟨a1, a2⟩ := tk_bd a
  obtain ⟨b1, b2⟩ := tk_bd b
  go_enter Try.func25, Try.ntmps25
  go_wp2_with (first | (go_at_call 32; refine (astick_any _ _).mono ?_; rintro e w' ⟨rfl, rfl⟩))
  all_goals
    go_ret
    exact ⟨ret_int (by unfold later; generalize tk a = x at *; generalize tk b = y at *; unfold tk; (repeat' split) <;> omega), rfl⟩

set_option maxHeartbeats 400000 in
theorem rlater_any (a b : Int) (w : World) :
    Calls Try.prog 26 #[.int .i64 a, .int .i64 b] w fun e w' => e = .returned (.int .i64 (later a b)) ∧ w = w' := by
  obtain ⟨a1, a2⟩ := tk_bd a
  obtain ⟨b1, b2⟩ := tk_bd b
  go_enter Try.func26, Try.ntmps26
  go_wp2_with (first | (go_at_call 33; refine (rtick_any _ _).mono ?_; rintro e w' ⟨rfl, rfl⟩))
  go_ret
  exact ⟨rfl, rfl⟩

set_option maxHeartbeats 400000 in
theorem part_any (a b : Int) (up : Bool) (w : World) :
    Calls Try.prog 21 #[.int .i64 a, .int .i64 b, .bool up] w fun e w' => Two e (part1 a b up) (part2 a b up) ∧ w = w' := by
  cases ha : rt a
  · have r1 : part1 a b up = 0 := by simp [part1, ha]
    have r2 : part2 a b up = 10 := by simp [part2, ha]
    rw [r1, r2]; clear r1 r2
    go_enter Try.func21, Try.ntmps21
    go_wp2_with (first | (go_at_call 15; refine (right_any _ _).mono ?_; rintro e w' ⟨rfl, rfl⟩) | (go_at_call 29; refine (within_any _ _ _ _).mono ?_; rintro e w' ⟨rfl, rfl⟩))
    go_ret2
    exact ⟨rfl, rfl⟩
  · cases hb : wit b (-100000) 100000
    · have r1 : part1 a b up = 0 := by simp [part1, hb]
      have r2 : part2 a b up = 10 := by simp [part2, hb]
      rw [r1, r2]; clear r1 r2
      go_enter Try.func21, Try.ntmps21
      go_wp2_with (first | (go_at_call 15; refine (right_any _ _).mono ?_; rintro e w' ⟨rfl, rfl⟩) | (go_at_call 29; refine (within_any _ _ _ _).mono ?_; rintro e w' ⟨rfl, rfl⟩))
      go_ret2
      exact ⟨rfl, rfl⟩
    · obtain ⟨a1, a2⟩ := rt_iff.1 ha
      obtain ⟨b1, b2⟩ := of_decide_eq_true hb
      obtain ⟨p1, p2⟩ : -100000000000000000 ≤ a * b ∧ a * b ≤ 100000000000000000 := prod_bd a1 a2 b1 b2
      have f1 := @fl_lt (a * b)
      have f2 := @fl_lt (-(a * b))
      obtain ⟨g1, g2⟩ : -100000000000000 ≤ fl (-(a * b)) ∧ fl (-(a * b)) ≤ 100000000000000 := by omega
      clear f1 f2
      cases up
      · have r1 : part1 a b false = told1 (fl (a * b)) := by simp [part1, ha, hb, prt]
        have r2 : part2 a b false = told2 (fl (a * b)) := by simp [part2, ha, hb, prt]
        rw [r1, r2]; clear r1 r2
        go_enter Try.func21, Try.ntmps21
        go_wp2_with (first | (go_at_call 15; refine (right_any _ _).mono ?_; rintro e w' ⟨rfl, rfl⟩) | (go_at_call 29; refine (within_any _ _ _ _).mono ?_; rintro e w' ⟨rfl, rfl⟩) | (go_at_call 31; refine (floor_any (a * b) (by omega) (by omega) w).mono ?_; rintro e w' ⟨rfl, rfl⟩) | (go_at_call 27; refine (checked_any _ _).mono ?_; rintro e w' ⟨rfl, rfl⟩))
        go_ret2
        exact ⟨rfl, rfl⟩
      · have r1 : part1 a b true = told1 (-(fl (-(a * b)))) := by simp [part1, ha, hb, prt]
        have r2 : part2 a b true = told2 (-(fl (-(a * b)))) := by simp [part2, ha, hb, prt]
        rw [r1, r2]; clear r1 r2
        go_enter Try.func21, Try.ntmps21
        go_wp2_with (first | (go_at_call 15; refine (right_any _ _).mono ?_; rintro e w' ⟨rfl, rfl⟩) | (go_at_call 29; refine (within_any _ _ _ _).mono ?_; rintro e w' ⟨rfl, rfl⟩) | (go_at_call 31; refine (floor_any (-(a * b)) (by omega) (by omega) w).mono ?_; rintro e w' ⟨rfl, rfl⟩) | (go_at_call 27; refine (checked_any _ _).mono ?_; rintro e w' ⟨rfl, rfl⟩))
        go_ret2
        exact ⟨rfl, rfl⟩

set_option maxHeartbeats 400000 in
theorem rpart_any (a b : Int) (up : Bool) (w : World) :
    Calls Try.prog 22 #[.int .i64 a, .int .i64 b, .bool up] w fun e w' => Two e (part1 a b up) (part2 a b up) ∧ w = w' := by
  cases ha : rt a
  · have r1 : part1 a b up = 0 := by simp [part1, ha]
    have r2 : part2 a b up = 10 := by simp [part2, ha]
    rw [r1, r2]; clear r1 r2
    go_enter Try.func22, Try.ntmps22
    go_wp2_with (first | (go_at_call 16; refine (rright_any _ _).mono ?_; rintro e w' ⟨rfl, rfl⟩))
    go_ret2
    exact ⟨rfl, rfl⟩
  · by_cases b1 : -100000 ≤ b
    · by_cases b2 : b ≤ 100000
      · have hb : wit b (-100000) 100000 = true := decide_eq_true ⟨b1, b2⟩
        obtain ⟨a1, a2⟩ := rt_iff.1 ha
        obtain ⟨p1, p2⟩ : -100000000000000000 ≤ a * b ∧ a * b ≤ 100000000000000000 := prod_bd a1 a2 b1 b2
        have t := tdt (a * b) 10000 (by omega)
        obtain ⟨g1, g2⟩ : -100000000000000 ≤ (a * b).tdiv 10000 ∧ (a * b).tdiv 10000 ≤ 100000000000000 := by omega
        clear t
        cases up
        · have r1 : part1 a b false = told1 (fl (a * b)) := by simp [part1, ha, hb, prt]
          have r2 : part2 a b false = told2 (fl (a * b)) := by simp [part2, ha, hb, prt]
          rw [r1, r2]; clear r1 r2 hb
          by_cases h : (a * b).tmod 10000 < 0
          · have e : fl (a * b) = (a * b).tdiv 10000 - 1 := if_pos h
            rw [e]; clear e
            go_enter Try.func22, Try.ntmps22
            go_wp2_with (first | (go_at_call 16; refine (rright_any _ _).mono ?_; rintro e w' ⟨rfl, rfl⟩) | (go_at_call 28; refine (told_any _ _).mono ?_; rintro e w' ⟨rfl, rfl⟩))
            go_ret2
            exact ⟨rfl, rfl⟩
          · have e : fl (a * b) = (a * b).tdiv 10000 := if_neg h
            rw [e]; clear e
            go_enter Try.func22, Try.ntmps22
            go_wp2_with (first | (go_at_call 16; refine (rright_any _ _).mono ?_; rintro e w' ⟨rfl, rfl⟩) | (go_at_call 28; refine (told_any _ _).mono ?_; rintro e w' ⟨rfl, rfl⟩))
            all_goals
              go_ret2
              exact ⟨rfl, rfl⟩
        · have r1 : part1 a b true = told1 (-(fl (-(a * b)))) := by simp [part1, ha, hb, prt]
          have r2 : part2 a b true = told2 (-(fl (-(a * b)))) := by simp [part2, ha, hb, prt]
          rw [r1, r2, prt_up]; clear r1 r2 hb
          by_cases h : 0 < (a * b).tmod 10000
          · rw [if_pos h]
            go_enter Try.func22, Try.ntmps22
            go_wp2_with (first | (go_at_call 16; refine (rright_any _ _).mono ?_; rintro e w' ⟨rfl, rfl⟩) | (go_at_call 28; refine (told_any _ _).mono ?_; rintro e w' ⟨rfl, rfl⟩))
            all_goals
              go_ret2
              exact ⟨rfl, rfl⟩
          · rw [if_neg h]
            go_enter Try.func22, Try.ntmps22
            go_wp2_with (first | (go_at_call 16; refine (rright_any _ _).mono ?_; rintro e w' ⟨rfl, rfl⟩) | (go_at_call 28; refine (told_any _ _).mono ?_; rintro e w' ⟨rfl, rfl⟩))
            all_goals
              go_ret2
              exact ⟨rfl, rfl⟩
      · have hb : wit b (-100000) 100000 = false := decide_eq_false (by omega)
        have r1 : part1 a b up = 0 := by simp [part1, hb]
        have r2 : part2 a b up = 10 := by simp [part2, hb]
        rw [r1, r2]; clear r1 r2 hb
        go_enter Try.func22, Try.ntmps22
        go_wp2_with (first | (go_at_call 16; refine (rright_any _ _).mono ?_; rintro e w' ⟨rfl, rfl⟩))
        go_ret2
        exact ⟨rfl, rfl⟩
    · have hb : wit b (-100000) 100000 = false := decide_eq_false (by omega)
      have r1 : part1 a b up = 0 := by simp [part1, hb]
      have r2 : part2 a b up = 10 := by simp [part2, hb]
      rw [r1, r2]; clear r1 r2 hb
      go_enter Try.func22, Try.ntmps22
      go_wp2_with (first | (go_at_call 16; refine (rright_any _ _).mono ?_; rintro e w' ⟨rfl, rfl⟩))
      go_ret2
      exact ⟨rfl, rfl⟩

end Go.Proofs.Ytcmbehnmcojbpaa
