/- The walks of layer 1's statements (ticks, sums): each of them answers true, for all numbers. -/
import Derived.Test.YtcmbehnmcojbpaaMoneyLaws
import Derived.Test.YtcmbehnmcojbpaaMoneyTimes
import Derived.OpenShut
namespace Go.Proofs.Ytcmbehnmcojbpaa
open Go.RowKit
set_option linter.unusedVariables false


theorem bd64 {a : Int} (h : (Lit.int .i64 a).wf = true) : -9223372036854775808 ≤ a ∧ a ≤ 9223372036854775807 := by
  have := bounds_i64 h; omega
theorem later_val {t a : Int} (h1 : 0 ≤ t) (h2 : t ≤ 1099511627776) (h3 : 0 ≤ a) (h4 : a ≤ 1099511627776) : later t a = if 1099511627776 < t + a then 1099511627776 else t + a := by
  unfold later tk; (repeat' split) <;> omega

theorem later_swap {T A B : Int} (h1 : 0 ≤ T) (h2 : T ≤ 1099511627776) (h3 : 0 ≤ A) (h4 : A ≤ 1099511627776) (h5 : 0 ≤ B) (h6 : B ≤ 1099511627776) : later (later T A) B = later (later T B) A := by
  rw [later_val h1 h2 h3 h4, later_val h1 h2 h5 h6]
  split <;> split
  all_goals
    rw [later_val (by omega) (by omega) (by omega) (by omega), later_val (by omega) (by omega) (by omega) (by omega)]
    (repeat' split) <;> omega
theorem later_neg {T A : Int} (h1 : 0 ≤ T) (h2 : T ≤ 1099511627776) (h3 : A ≤ 0) : later T A = T := by
  unfold later tk; (repeat' split) <;> omega
theorem later_gen {T A : Int} (h1 : T ≤ 0) (h2 : 0 ≤ A) (h3 : A ≤ 1099511627776) : later T A = A := by
  unfold later tk; (repeat' split) <;> omega
theorem later_more {T A : Int} (h1 : 0 ≤ T) (h2 : T ≤ 1099511627776) (h3 : 0 ≤ A) (h4 : A ≤ 1099511627776) : T ≤ later T A ∧ later T A ≤ 1099511627776 := by
  rw [later_val h1 h2 h3 h4]; split <;> omega

set_option maxHeartbeats 400000 in
theorem MoneyLater_walk (a0 : Int) (a1 : Int) (a2 : Int) (w : World) (w0 : (Lit.int .i64 a0).wf = true) (w1 : (Lit.int .i64 a1).wf = true) (w2 : (Lit.int .i64 a2).wf = true) :
    Calls Try.prog 7 #[.int .i64 a0, .int .i64 a1, .int .i64 a2] w fun e w' => e = .returned (.bool true) ∧ Below w.heap.size w w' := by
  obtain ⟨w0a, w0b⟩ := bd64 w0
  obtain ⟨w1a, w1b⟩ := bd64 w1
  obtain ⟨w2a, w2b⟩ := bd64 w2
  have mT := @pk_bd a0 (1099511627777) (by omega)
  generalize qT : pk a0 (1099511627777) = T at mT
  have HT := Lib.hid qT; clear qT
  obtain ⟨mT1, mT2⟩ := mT
  have mA := @pk_bd a1 (1099511627777) (by omega)
  generalize qA : pk a1 (1099511627777) = A at mA
  have HA := Lib.hid qA; clear qA
  obtain ⟨mA1, mA2⟩ := mA
  have mB := @pk_bd a2 (1099511627777) (by omega)
  generalize qB : pk a2 (1099511627777) = B at mB
  have HB := Lib.hid qB; clear qB
  obtain ⟨mB1, mB2⟩ := mB
  have mK := @pk_bd a1 (99) (by omega)
  generalize qK : pk a1 (99) = K at mK
  have HK := Lib.hid qK; clear qK
  obtain ⟨mK1, mK2⟩ := mK
  have mL := @pk_bd a2 (99) (by omega)
  generalize qL : pk a2 (99) = L at mL
  have HL := Lib.hid qL; clear qL
  obtain ⟨mL1, mL2⟩ := mL
  have v1 := @later_val T A (by omega) (by omega) (by omega) (by omega)
  have sw := @later_swap T A B (by omega) (by omega) (by omega) (by omega) (by omega) (by omega)
  obtain ⟨x1, x2⟩ := @later_more T A (by omega) (by omega) (by omega) (by omega)
  have q0 : later T 0 = T := later_neg (by omega) (by omega) (by omega)
  have H0 := Lib.hid q0; clear q0
  have q1 : later T (-1 - K) = T := later_neg (by omega) (by omega) (by omega)
  have H1 := Lib.hid q1; clear q1
  have q2 : later (-1 - L) A = A := later_gen (by omega) (by omega) (by omega)
  have H2 := Lib.hid q2; clear q2
  generalize qX : later T A = X at v1 sw x1 x2
  generalize qY : later T B = Y at sw
  generalize qZ : later X B = Z at sw
  have HX := Lib.hid qX; have HY := Lib.hid qY; have HZ := Lib.hid qZ; have HW := Lib.hid sw.symm; clear qX qY qZ sw
  by_cases hx : 1099511627776 < T + A
  · rw [if_pos hx] at v1; subst v1
    have x7 : ((1099511627776 : Int) == T + A) = false := by rw [beq_eq_false_iff_ne]; omega
    go_enter Try.func7, Try.ntmps7
    go_wp2_with (first | (go_at_call 10; refine (awake_any _).mono ?_; rintro e w' ⟨rfl, rfl⟩) | (go_at_call 12; (with_reducible refine (int_at T (pick_any a0 (1099511627777) w0a w0b (by omega) (by omega) _) HT).mono ?_); rintro e w' ⟨rfl, rfl⟩) | (go_at_call 12; (with_reducible refine (int_at A (pick_any a1 (1099511627777) w1a w1b (by omega) (by omega) _) HA).mono ?_); rintro e w' ⟨rfl, rfl⟩) | (go_at_call 12; (with_reducible refine (int_at B (pick_any a2 (1099511627777) w2a w2b (by omega) (by omega) _) HB).mono ?_); rintro e w' ⟨rfl, rfl⟩) | (go_at_call 12; (with_reducible refine (int_at K (pick_any a1 (99) w1a w1b (by omega) (by omega) _) HK).mono ?_); rintro e w' ⟨rfl, rfl⟩) | (go_at_call 12; (with_reducible refine (int_at L (pick_any a2 (99) w2a w2b (by omega) (by omega) _) HL).mono ?_); rintro e w' ⟨rfl, rfl⟩) | (go_at_call 25; (with_reducible refine (int_at (1099511627776) (later_any T A _) HX).mono ?_); rintro e w' ⟨rfl, rfl⟩) | (go_at_call 25; (with_reducible refine (int_at (Y) (later_any T B _) HY).mono ?_); rintro e w' ⟨rfl, rfl⟩) | (go_at_call 25; (with_reducible refine (int_at (Z) (later_any 1099511627776 B _) HZ).mono ?_); rintro e w' ⟨rfl, rfl⟩) | (go_at_call 25; (with_reducible refine (int_at (Z) (later_any Y A _) HW).mono ?_); rintro e w' ⟨rfl, rfl⟩) | (go_at_call 25; (with_reducible refine (int_at (T) (later_any T 0 _) H0).mono ?_); rintro e w' ⟨rfl, rfl⟩) | (go_at_call 25; (with_reducible refine (int_at (T) (later_any T (-1 - K) _) H1).mono ?_); rintro e w' ⟨rfl, rfl⟩) | (go_at_call 25; (with_reducible refine (int_at (A) (later_any (-1 - L) A _) H2).mono ?_); rintro e w' ⟨rfl, rfl⟩))
    go_ret
    exact ⟨rfl, Below.refl _ _⟩
  · rw [if_neg hx] at v1; subst v1
    go_enter Try.func7, Try.ntmps7
    go_wp2_with (first | (go_at_call 10; refine (awake_any _).mono ?_; rintro e w' ⟨rfl, rfl⟩) | (go_at_call 12; (with_reducible refine (int_at T (pick_any a0 (1099511627777) w0a w0b (by omega) (by omega) _) HT).mono ?_); rintro e w' ⟨rfl, rfl⟩) | (go_at_call 12; (with_reducible refine (int_at A (pick_any a1 (1099511627777) w1a w1b (by omega) (by omega) _) HA).mono ?_); rintro e w' ⟨rfl, rfl⟩) | (go_at_call 12; (with_reducible refine (int_at B (pick_any a2 (1099511627777) w2a w2b (by omega) (by omega) _) HB).mono ?_); rintro e w' ⟨rfl, rfl⟩) | (go_at_call 12; (with_reducible refine (int_at K (pick_any a1 (99) w1a w1b (by omega) (by omega) _) HK).mono ?_); rintro e w' ⟨rfl, rfl⟩) | (go_at_call 12; (with_reducible refine (int_at L (pick_any a2 (99) w2a w2b (by omega) (by omega) _) HL).mono ?_); rintro e w' ⟨rfl, rfl⟩) | (go_at_call 25; (with_reducible refine (int_at (T + A) (later_any T A _) HX).mono ?_); rintro e w' ⟨rfl, rfl⟩) | (go_at_call 25; (with_reducible refine (int_at (Y) (later_any T B _) HY).mono ?_); rintro e w' ⟨rfl, rfl⟩) | (go_at_call 25; (with_reducible refine (int_at (Z) (later_any (T + A) B _) HZ).mono ?_); rintro e w' ⟨rfl, rfl⟩) | (go_at_call 25; (with_reducible refine (int_at (Z) (later_any Y A _) HW).mono ?_); rintro e w' ⟨rfl, rfl⟩) | (go_at_call 25; (with_reducible refine (int_at (T) (later_any T 0 _) H0).mono ?_); rintro e w' ⟨rfl, rfl⟩) | (go_at_call 25; (with_reducible refine (int_at (T) (later_any T (-1 - K) _) H1).mono ?_); rintro e w' ⟨rfl, rfl⟩) | (go_at_call 25; (with_reducible refine (int_at (A) (later_any (-1 - L) A _) H2).mono ?_); rintro e w' ⟨rfl, rfl⟩))
    go_ret
    exact ⟨rfl, Below.refl _ _⟩

end Go.Proofs.Ytcmbehnmcojbpaa
