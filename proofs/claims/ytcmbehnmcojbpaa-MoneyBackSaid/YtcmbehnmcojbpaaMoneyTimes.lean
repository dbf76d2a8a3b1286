/- The contracts of the two products: the program's, by the room that an amount leaves, and the document's own, by signs. -/
import Derived.Test.YtcmbehnmcojbpaaMoneyLeaf
import Derived.Lib.Hide
namespace Go.Proofs.Ytcmbehnmcojbpaa
open Go.RowKit
set_option linter.unusedVariables false

def sz (a : Int) : Int := if a < 0 then -a else a
theorem room_iff {s n M : Int} (hs : 0 < s) : n ≤ M / s ↔ n * s ≤ M := Int.le_ediv_iff_mul_le hs
theorem room_bd {s M : Int} (hs : 0 < s) (hM : 0 ≤ M) : 0 ≤ M / s ∧ M / s ≤ M := ⟨Int.ediv_nonneg hM (by omega), Int.ediv_le_self _ hM⟩
theorem two1_no {a b n : Int} (h : rt a = false ∨ rt b = false ∨ rt n = false) : two1 a b n = 0 := by
  unfold two1 told1; rcases h with h | h | h <;> simp [h]
theorem two2_no {a b n : Int} (h : rt a = false ∨ rt b = false ∨ rt n = false) : two2 a b n = 10 := by
  unfold two2 told2; rcases h with h | h | h <;> simp [h]
theorem two1_yes {a b n : Int} (h : rt a = true) (h' : rt b = true) (h'' : rt n = true) : two1 a b n = n := by simp [two1, told1, h, h', h'']
theorem two2_yes {a b n : Int} (h : rt a = true) (h' : rt b = true) (h'' : rt n = true) : two2 a b n = 0 := by simp [two2, told2, h, h', h'']
theorem rt_neg (a : Int) : rt (-a) = rt a := by unfold rt; by_cases h : -1000000000000 ≤ a ∧ a ≤ 1000000000000
                                                · rw [decide_eq_true h, decide_eq_true (by omega)]
                                                · rw [decide_eq_false h, decide_eq_false (by omega)]
theorem two1_neg (a b n : Int) : two1 (-a) b (-n) = -(two1 a b n) := by
  unfold two1 told1; rw [rt_neg, rt_neg]; (repeat' split) <;> omega
theorem two2_neg (a b n : Int) : two2 (-a) b (-n) = two2 a b n := by
  unfold two2 told2; rw [rt_neg, rt_neg]
theorem two1_neg' (a b n : Int) : two1 a (-b) (-n) = -(two1 a b n) := by
  unfold two1 told1; rw [rt_neg, rt_neg]; (repeat' split) <;> omega
theorem two2_neg' (a b n : Int) : two2 a (-b) (-n) = two2 a b n := by
  unfold two2 told2; rw [rt_neg, rt_neg]
theorem two1_bd (a b n : Int) : -1000000000000 ≤ two1 a b n ∧ two1 a b n ≤ 1000000000000 := by
  unfold two1 told1 rt; simp only [Bool.and_eq_true, decide_eq_true_eq]; (repeat' split) <;> omega

set_option maxHeartbeats 400000 in
theorem size_any (a : Int) (h1 : -1000000000000 ≤ a) (h2 : a ≤ 1000000000000) (w : World) :
    Calls Try.prog 30 #[.int .i64 a] w fun e w' => e = .returned (.int .i64 (sz a)) ∧ w = w' := by
  by_cases h : a < 0
  all_goals
    go_enter Try.func30, Try.ntmps30
    go_wp2
    all_goals
      go_ret
      exact ⟨ret_int (by unfold sz; split <;> omega), rfl⟩

set_option maxHeartbeats 400000 in
theorem times_any (a b : Int) (w : World) :
    Calls Try.prog 19 #[.int .i64 a, .int .i64 b] w fun e w' => Two e (two1 a b (a * b)) (two2 a b (a * b)) ∧ w = w' := by
  cases ha : rt a
  · rw [two1_no (.inl ha), two2_no (.inl ha)]
    go_enter Try.func19, Try.ntmps19
    go_wp2_with (first | (go_at_call 15; refine (right_any _ _).mono ?_; rintro e w' ⟨rfl, rfl⟩))
    go_ret2
    exact ⟨rfl, rfl⟩
  · cases hb : rt b
    · rw [two1_no (.inr (.inl hb)), two2_no (.inr (.inl hb))]
      go_enter Try.func19, Try.ntmps19
      go_wp2_with (first | (go_at_call 15; refine (right_any _ _).mono ?_; rintro e w' ⟨rfl, rfl⟩))
      go_ret2
      exact ⟨rfl, rfl⟩
    · obtain ⟨a1, a2⟩ := rt_iff.1 ha
      obtain ⟨b1, b2⟩ := rt_iff.1 hb
      by_cases hz : a = 0
      · subst hz
        rw [two1_yes ha hb (by rw [Int.zero_mul]; exact ha), two2_yes ha hb (by rw [Int.zero_mul]; exact ha)]
        go_enter Try.func19, Try.ntmps19
        go_wp2_with (first | (go_at_call 15; refine (right_any _ _).mono ?_; rintro e w' ⟨rfl, rfl⟩))
        go_ret2
        exact ⟨ret_two (by omega) rfl, rfl⟩
      · have hs : 0 < sz a := by unfold sz; split <;> omega
        obtain ⟨m1, m2⟩ := room_bd hs (M := 1000000000000) (by omega)
        have e1 := @room_iff (sz a) b 1000000000000 hs
        have e2 := @room_iff (sz a) (-b) 1000000000000 hs
        have e3 : b * sz a = a * b ∨ b * sz a = -(a * b) := by
          unfold sz; split
          · right; rw [Int.mul_neg, Int.mul_comm]
          · left; rw [Int.mul_comm]
        have hne : (a == 0) = false := by simp [hz]
        have hne' : (a != 0) = true := by simp [hz]
        cases hw : wit b (-(1000000000000 / sz a)) (1000000000000 / sz a)
        · have hr : rt (a * b) = false := by
            refine rt_no ?_
            have h := of_decide_eq_false hw
            have e4 : -b * sz a = -(b * sz a) := Int.neg_mul _ _
            have h5 : ¬ (b * sz a ≤ 1000000000000 ∧ -(b * sz a) ≤ 1000000000000) := fun ⟨x, y⟩ => h ⟨by have := e2.2 (by omega); omega, e1.2 x⟩
            omega
          rw [two1_no (.inr (.inr hr)), two2_no (.inr (.inr hr))]
          clear e1 e2 e3 hr
          go_enter Try.func19, Try.ntmps19
          go_wp2_with (first | (go_at_call 15; refine (right_any _ _).mono ?_; rintro e w' ⟨rfl, rfl⟩) | (go_at_call 30; refine (size_any _ a1 a2 _).mono ?_; rintro e w' ⟨rfl, rfl⟩) | (go_at_call 29; refine (within_any _ _ _ _).mono ?_; rintro e w' ⟨rfl, rfl⟩))
          go_ret2
          exact ⟨rfl, rfl⟩
        · have h := of_decide_eq_true hw
          have e4 : -b * sz a = -(b * sz a) := Int.neg_mul _ _
          have x := e1.1 h.2
          have y := e2.1 (by omega)
          obtain ⟨p1, p2⟩ : -1000000000000 ≤ a * b ∧ a * b ≤ 1000000000000 := by omega
          have hr : rt (a * b) = true := rt_yes p1 p2
          rw [two1_yes ha hb hr, two2_yes ha hb hr]
          clear e1 e2 e3 e4 x y h hr
          go_enter Try.func19, Try.ntmps19
          go_wp2_with (first | (go_at_call 15; refine (right_any _ _).mono ?_; rintro e w' ⟨rfl, rfl⟩) | (go_at_call 30; refine (size_any _ a1 a2 _).mono ?_; rintro e w' ⟨rfl, rfl⟩) | (go_at_call 29; refine (within_any _ _ _ _).mono ?_; rintro e w' ⟨rfl, rfl⟩))
          go_ret2
          exact ⟨rfl, rfl⟩

set_option maxHeartbeats 400000 in
theorem rtimes_pos (a b : Int) (ha0 : 0 ≤ a) (hb0 : 0 ≤ b) (w : World) :
    Calls Try.prog 20 #[.int .i64 a, .int .i64 b] w fun e w' => Two e (two1 a b (a * b)) (two2 a b (a * b)) ∧ w = w' := by
  cases ha : rt a
  · rw [two1_no (.inl ha), two2_no (.inl ha)]
    go_enter Try.func20, Try.ntmps20
    go_wp2_with (first | (go_at_call 16; refine (rright_any _ _).mono ?_; rintro e w' ⟨rfl, rfl⟩))
    go_ret2
    exact ⟨rfl, rfl⟩
  · cases hb : rt b
    · rw [two1_no (.inr (.inl hb)), two2_no (.inr (.inl hb))]
      go_enter Try.func20, Try.ntmps20
      go_wp2_with (first | (go_at_call 16; refine (rright_any _ _).mono ?_; rintro e w' ⟨rfl, rfl⟩))
      go_ret2
      exact ⟨rfl, rfl⟩
    · obtain ⟨a1, a2⟩ := rt_iff.1 ha
      obtain ⟨b1, b2⟩ := rt_iff.1 hb
      by_cases hz : a = 0
      · subst hz
        rw [two1_yes ha hb (by rw [Int.zero_mul]; exact ha), two2_yes ha hb (by rw [Int.zero_mul]; exact ha)]
        go_enter Try.func20, Try.ntmps20
        go_wp2_with (first | (go_at_call 16; refine (rright_any _ _).mono ?_; rintro e w' ⟨rfl, rfl⟩))
        go_ret2
        exact ⟨ret_two (by omega) rfl, rfl⟩
      · have hs : 0 < a := by omega
        obtain ⟨m1, m2⟩ := room_bd hs (M := 1000000000000) (by omega)
        have e1 := @room_iff a b 1000000000000 hs
        have e3 : b * a = a * b := Int.mul_comm _ _
        have p0 : 0 ≤ a * b := Int.mul_nonneg ha0 hb0
        by_cases hw : 1000000000000 / a < b
        · have hr : rt (a * b) = false := rt_no (by omega)
          rw [two1_no (.inr (.inr hr)), two2_no (.inr (.inr hr))]
          clear e1 e3 hr hz
          go_enter Try.func20, Try.ntmps20
          go_wp2_with (first | (go_at_call 16; refine (rright_any _ _).mono ?_; rintro e w' ⟨rfl, rfl⟩))
          go_ret2
          exact ⟨rfl, rfl⟩
        · have p2 : a * b ≤ 1000000000000 := by omega
          have hr : rt (a * b) = true := rt_yes (by omega) p2
          rw [two1_yes ha hb hr, two2_yes ha hb hr]
          clear e1 e3 hr hz
          go_enter Try.func20, Try.ntmps20
          go_wp2_with (first | (go_at_call 16; refine (rright_any _ _).mono ?_; rintro e w' ⟨rfl, rfl⟩))
          go_ret2
          exact ⟨rfl, rfl⟩

set_option maxHeartbeats 400000 in
theorem rtimes_neg (a b : Int) (ha0 : 0 ≤ a) (w : World) :
    Calls Try.prog 20 #[.int .i64 a, .int .i64 b] w fun e w' => Two e (two1 a b (a * b)) (two2 a b (a * b)) ∧ w = w' := by
  by_cases hb0 : 0 ≤ b
  · exact rtimes_pos a b ha0 hb0 w
  · cases ha : rt a
    · rw [two1_no (.inl ha), two2_no (.inl ha)]
      go_enter Try.func20, Try.ntmps20
      go_wp2_with (first | (go_at_call 16; refine (rright_any _ _).mono ?_; rintro e w' ⟨rfl, rfl⟩))
      go_ret2
      exact ⟨rfl, rfl⟩
    · cases hb : rt b
      · rw [two1_no (.inr (.inl hb)), two2_no (.inr (.inl hb))]
        go_enter Try.func20, Try.ntmps20
        go_wp2_with (first | (go_at_call 16; refine (rright_any _ _).mono ?_; rintro e w' ⟨rfl, rfl⟩))
        go_ret2
        exact ⟨rfl, rfl⟩
      · have e1 := two1_neg' a b (a * b)
        have e2 := two2_neg' a b (a * b)
        have e3 : a * -b = -(a * b) := Int.mul_neg _ _
        obtain ⟨m1, m2⟩ := two1_bd a (-b) (a * -b)
        rw [← e3] at e1 e2
        have e4 : two1 a b (a * b) = -(two1 a (-b) (a * -b)) := by omega
        rw [e4, ← e2]
        obtain ⟨b1, b2⟩ := rt_iff.1 hb
        clear e1 e2 e3 e4
        generalize hx : two1 a (-b) (a * -b) = x at *
        generalize hy : two2 a (-b) (a * -b) = y at *
        have HX := Lib.hid hx
        have HY := Lib.hid hy
        clear hx hy
        go_enter Try.func20, Try.ntmps20
        go_wp2_with (first | (go_at_call 16; refine (rright_any _ _).mono ?_; rintro e w' ⟨rfl, rfl⟩) | (go_at_call 20; refine (rtimes_pos a (-b) ha0 (by omega) w).mono ?_; rintro e w' ⟨he, rfl⟩; rw [HX.out, HY.out] at he; obtain rfl := he))
        go_ret2
        exact ⟨rfl, rfl⟩

set_option maxHeartbeats 400000 in
theorem rtimes_any (a b : Int) (w : World) :
    Calls Try.prog 20 #[.int .i64 a, .int .i64 b] w fun e w' => Two e (two1 a b (a * b)) (two2 a b (a * b)) ∧ w = w' := by
  by_cases ha0 : 0 ≤ a
  · exact rtimes_neg a b ha0 w
  · cases ha : rt a
    · rw [two1_no (.inl ha), two2_no (.inl ha)]
      go_enter Try.func20, Try.ntmps20
      go_wp2_with (first | (go_at_call 16; refine (rright_any _ _).mono ?_; rintro e w' ⟨rfl, rfl⟩))
      go_ret2
      exact ⟨rfl, rfl⟩
    · cases hb : rt b
      · rw [two1_no (.inr (.inl hb)), two2_no (.inr (.inl hb))]
        go_enter Try.func20, Try.ntmps20
        go_wp2_with (first | (go_at_call 16; refine (rright_any _ _).mono ?_; rintro e w' ⟨rfl, rfl⟩))
        go_ret2
        exact ⟨rfl, rfl⟩
      · have e1 := two1_neg a b (a * b)
        have e2 := two2_neg a b (a * b)
        have e3 : -a * b = -(a * b) := Int.neg_mul _ _
        obtain ⟨m1, m2⟩ := two1_bd (-a) b (-a * b)
        rw [← e3] at e1 e2
        have e4 : two1 a b (a * b) = -(two1 (-a) b (-a * b)) := by omega
        rw [e4, ← e2]
        obtain ⟨a1, a2⟩ := rt_iff.1 ha
        clear e1 e2 e3 e4
        generalize hx : two1 (-a) b (-a * b) = x at *
        generalize hy : two2 (-a) b (-a * b) = y at *
        have HX := Lib.hid hx
        have HY := Lib.hid hy
        clear hx hy
        go_enter Try.func20, Try.ntmps20
        go_wp2_with (first | (go_at_call 16; refine (rright_any _ _).mono ?_; rintro e w' ⟨rfl, rfl⟩) | (go_at_call 20; refine (rtimes_neg (-a) b (by omega) w).mono ?_; rintro e w' ⟨he, rfl⟩; rw [HX.out, HY.out] at he; obtain rfl := he))
        go_ret2
        exact ⟨rfl, rfl⟩

end Go.Proofs.Ytcmbehnmcojbpaa
