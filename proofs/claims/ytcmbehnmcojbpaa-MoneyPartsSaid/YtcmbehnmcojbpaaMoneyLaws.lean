/- The walks of layer 1's statements: each of them answers true, for all numbers. -/
import Derived.Test.YtcmbehnmcojbpaaMoneyPart
import Derived.Test.YtcmbehnmcojbpaaMoneyTimes
import Derived.Below
namespace Go.Proofs.Ytcmbehnmcojbpaa
open Go.RowKit
set_option linter.unusedVariables false


set_option maxHeartbeats 400000 in
theorem awake_any  (w : World) :
    Calls Try.prog 10 #[] w fun e w' => e = .returned (.bool true) ∧ w = w' := by
  go_enter Try.func10, Try.ntmps10
  go_wp2
  go_ret
  exact ⟨rfl, rfl⟩

theorem clamp_in {a l h : Int} (hl : l ≤ h) : l ≤ clamp a l h ∧ clamp a l h ≤ h := by unfold clamp; (repeat' split) <;> omega
theorem clamp_id {a l h : Int} (h1 : l ≤ a) (h2 : a ≤ h) : clamp a l h = a := by unfold clamp; (repeat' split) <;> omega
theorem clamp_lo {a l h : Int} (h1 : h < l) : clamp a l h = l := by unfold clamp; (repeat' split) <;> omega
theorem clamp_twice (a l h : Int) : clamp (clamp a l h) l h = clamp a l h := by unfold clamp; (repeat' split) <;> omega
theorem clamp_mono {a b l h : Int} (hab : a ≤ b) : clamp a l h ≤ clamp b l h := by unfold clamp; (repeat' split) <;> omega

set_option maxHeartbeats 400000 in
theorem MoneyClamps_walk (a0 : Int) (a1 : Int) (a2 : Int) (a3 : Int) (w : World) (w0 : (Lit.int .i64 a0).wf = true) (w1 : (Lit.int .i64 a1).wf = true) (w2 : (Lit.int .i64 a2).wf = true) (w3 : (Lit.int .i64 a3).wf = true) :
    Calls Try.prog 6 #[.int .i64 a0, .int .i64 a1, .int .i64 a2, .int .i64 a3] w fun e w' => e = .returned (.bool true) ∧ Below w.heap.size w w' := by
  have t : (clamp (clamp a0 a2 a3) a2 a3 == clamp a0 a2 a3) = true := by rw [clamp_twice]; exact beq_self_eq_true _
  by_cases hl : a2 ≤ a3
  · obtain ⟨x1, x2⟩ := @clamp_in a0 a2 a3 hl
    by_cases hi : a2 ≤ a0
    · by_cases hj : a0 ≤ a3
      · have i : (clamp a0 a2 a3 != a0) = false := by rw [clamp_id hi hj]; exact bne_self_eq_false _
        by_cases hab : a0 ≤ a1
        · have m := @clamp_mono a0 a1 a2 a3 hab
          skip
          go_enter Try.func6, Try.ntmps6
          go_wp2_with (first | (go_at_call 10; refine (awake_any _).mono ?_; rintro e w' ⟨rfl, rfl⟩) | (go_at_call 23; refine (clamp_any _ _ _ _).mono ?_; rintro e w' ⟨rfl, rfl⟩))
          go_ret
          exact ⟨rfl, Below.refl _ _⟩
        · skip
          skip
          go_enter Try.func6, Try.ntmps6
          go_wp2_with (first | (go_at_call 10; refine (awake_any _).mono ?_; rintro e w' ⟨rfl, rfl⟩) | (go_at_call 23; refine (clamp_any _ _ _ _).mono ?_; rintro e w' ⟨rfl, rfl⟩))
          go_ret
          exact ⟨rfl, Below.refl _ _⟩
      · by_cases hab : a0 ≤ a1
        · have m := @clamp_mono a0 a1 a2 a3 hab
          skip
          go_enter Try.func6, Try.ntmps6
          go_wp2_with (first | (go_at_call 10; refine (awake_any _).mono ?_; rintro e w' ⟨rfl, rfl⟩) | (go_at_call 23; refine (clamp_any _ _ _ _).mono ?_; rintro e w' ⟨rfl, rfl⟩))
          go_ret
          exact ⟨rfl, Below.refl _ _⟩
        · skip
          skip
          go_enter Try.func6, Try.ntmps6
          go_wp2_with (first | (go_at_call 10; refine (awake_any _).mono ?_; rintro e w' ⟨rfl, rfl⟩) | (go_at_call 23; refine (clamp_any _ _ _ _).mono ?_; rintro e w' ⟨rfl, rfl⟩))
          go_ret
          exact ⟨rfl, Below.refl _ _⟩
    · by_cases hab : a0 ≤ a1
      · have m := @clamp_mono a0 a1 a2 a3 hab
        skip
        go_enter Try.func6, Try.ntmps6
        go_wp2_with (first | (go_at_call 10; refine (awake_any _).mono ?_; rintro e w' ⟨rfl, rfl⟩) | (go_at_call 23; refine (clamp_any _ _ _ _).mono ?_; rintro e w' ⟨rfl, rfl⟩))
        go_ret
        exact ⟨rfl, Below.refl _ _⟩
      · skip
        skip
        go_enter Try.func6, Try.ntmps6
        go_wp2_with (first | (go_at_call 10; refine (awake_any _).mono ?_; rintro e w' ⟨rfl, rfl⟩) | (go_at_call 23; refine (clamp_any _ _ _ _).mono ?_; rintro e w' ⟨rfl, rfl⟩))
        go_ret
        exact ⟨rfl, Below.refl _ _⟩
  · have i : (clamp a0 a2 a3 != a2) = false := by rw [clamp_lo (by omega)]; exact bne_self_eq_false _
    by_cases hab : a0 ≤ a1
    · have m := @clamp_mono a0 a1 a2 a3 hab
      skip
      go_enter Try.func6, Try.ntmps6
      go_wp2_with (first | (go_at_call 10; refine (awake_any _).mono ?_; rintro e w' ⟨rfl, rfl⟩) | (go_at_call 23; refine (clamp_any _ _ _ _).mono ?_; rintro e w' ⟨rfl, rfl⟩))
      go_ret
      exact ⟨rfl, Below.refl _ _⟩
    · skip
      skip
      go_enter Try.func6, Try.ntmps6
      go_wp2_with (first | (go_at_call 10; refine (awake_any _).mono ?_; rintro e w' ⟨rfl, rfl⟩) | (go_at_call 23; refine (clamp_any _ _ _ _).mono ?_; rintro e w' ⟨rfl, rfl⟩))
      go_ret
      exact ⟨rfl, Below.refl _ _⟩

end Go.Proofs.Ytcmbehnmcojbpaa
