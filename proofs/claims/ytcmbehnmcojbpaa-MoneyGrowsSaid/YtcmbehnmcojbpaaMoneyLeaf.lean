/- The contracts of layer 1's functions, of the program and of the document's own answers: what each call gives back, for every number that fits 64 bits. -/
import Derived.Test.YtcmbehnmcojbpaaRows
import Derived.WalkKit
import Derived.WalkSpells
import Derived.WalkLawsBesides
import Derived.BigQuiet
import Derived.Deep.QuietTactic
import Derived.Lib.Hide
namespace Go.Proofs.Ytcmbehnmcojbpaa
open Go.RowKit
set_option linter.unusedVariables false

def pk (c n : Int) : Int := if c < 0 then -((c + 1).tmod n) else c % n
def wit (a l h : Int) : Bool := decide (l ≤ a ∧ a ≤ h)
def rt (a : Int) : Bool := decide (-1000000000000 ≤ a ∧ a ≤ 1000000000000)
def told1 (n : Int) : Int := if rt n then n else 0
def told2 (n : Int) : Int := if rt n then 0 else 10
def two1 (a b n : Int) : Int := if rt a && rt b then told1 n else 0
def two2 (a b n : Int) : Int := if rt a && rt b then told2 n else 10
def fl (p : Int) : Int := if p.tmod 10000 < 0 then p.tdiv 10000 - 1 else p.tdiv 10000
def prt (a bp : Int) (up : Bool) : Int := if up then -(fl (-(a * bp))) else fl (a * bp)
def part1 (a bp : Int) (up : Bool) : Int := if rt a && wit bp (-100000) 100000 then told1 (prt a bp up) else 0
def part2 (a bp : Int) (up : Bool) : Int := if rt a && wit bp (-100000) 100000 then told2 (prt a bp up) else 10
def tk (a : Int) : Int := if a < 0 then 0 else if 1099511627776 < a then 1099511627776 else a
def later (a b : Int) : Int := tk (tk a + tk b)
def clamp (a l h : Int) : Int := if h < a then (if h < l then l else h) else (if a < l then l else a)
/-- Behind a plain definition: what a call of two numbers gives back. -/
def Two (e : Ending) (x y : Int) : Prop := e = .returned (.tuple #[.int .i64 x, .int .i64 y])

theorem tdt (p n : Int) (hn : 0 < n) : n * p.tdiv n + p.tmod n = p ∧ (0 ≤ p → 0 ≤ p.tmod n) ∧ (p ≤ 0 → p.tmod n ≤ 0) ∧ p.tmod n < n ∧ -n < p.tmod n := by
  refine ⟨Int.mul_tdiv_add_tmod p n, fun h => Int.tmod_nonneg n h, fun h => ?_, Int.tmod_lt_of_pos p hn, ?_⟩
  · have := Int.tmod_nonneg n (a := -p) (by omega)
    rw [Int.neg_tmod] at this; omega
  · have := Int.tmod_lt_of_pos (-p) hn
    rw [Int.neg_tmod] at this; omega
theorem ret_int {k : IntKind} {a b : Int} (h : a = b) : Ending.returned (.int k a) = .returned (.int k b) := by rw [h]
theorem ret_bool {a b : Bool} (h : a = b) : Ending.returned (.bool a) = .returned (.bool b) := by rw [h]
theorem ret_two {a b c d : Int} (h : a = c) (h' : b = d) : Two (Ending.returned (.tuple #[.int .i64 a, .int .i64 b])) c d := by subst h; subst h'; rfl
theorem int_at {f : FuncId} {args : Array Value} {w : World} {x : Int} (y : Int) (c : Calls Try.prog f args w fun e w' => e = .returned (.int .i64 x) ∧ w = w') (h : Hid (x = y)) : Calls Try.prog f args w fun e w' => e = .returned (.int .i64 y) ∧ w = w' := by
  have e := h.out; subst e; exact c
theorem two_at {f : FuncId} {args : Array Value} {w : World} {x y : Int} (x' y' : Int) (c : Calls Try.prog f args w fun e w' => Two e x y ∧ w = w') (h : Hid (x = x')) (h' : Hid (y = y')) : Calls Try.prog f args w fun e w' => e = .returned (.tuple #[.int .i64 x', .int .i64 y']) ∧ w = w' := by
  have e := h.out; have e' := h'.out; subst e; subst e'; exact c
theorem rt_yes {a : Int} (h : -1000000000000 ≤ a) (h' : a ≤ 1000000000000) : rt a = true := by simp [rt, h, h']
theorem rt_no {a : Int} (h : a < -1000000000000 ∨ 1000000000000 < a) : rt a = false := by simp [rt]; omega
theorem rt_iff {a : Int} : rt a = true ↔ -1000000000000 ≤ a ∧ a ≤ 1000000000000 := by simp [rt]
theorem rt_iff' {a : Int} : rt a = false ↔ ¬ (-1000000000000 ≤ a ∧ a ≤ 1000000000000) := by simp [rt]

set_option maxHeartbeats 400000 in
theorem pick_any (c n : Int) (hc : -9223372036854775808 ≤ c) (hc' : c ≤ 9223372036854775807) (hn : 0 < n) (hn' : n ≤ 9223372036854775807) (w : World) :
    Calls Try.prog 12 #[.int .i64 c, .int .i64 n] w fun e w' => e = .returned (.int .i64 (pk c n)) ∧ w = w' := by
  by_cases h : c < 0
  all_goals
    go_enter Try.func12, Try.ntmps12
    go_wp2
    all_goals
      go_ret
      exact ⟨ret_int (by unfold pk; split <;> first | rfl | omega), rfl⟩

set_option maxHeartbeats 400000 in
theorem within_any (a l h : Int) (w : World) :
    Calls Try.prog 29 #[.int .i64 a, .int .i64 l, .int .i64 h] w fun e w' => e = .returned (.bool (wit a l h)) ∧ w = w' := by
  by_cases h1 : l ≤ a <;> by_cases h2 : a ≤ h
  all_goals
    go_enter Try.func29, Try.ntmps29
    go_wp2
    all_goals
      go_ret
      exact ⟨ret_bool (by unfold wit; rw [eq_comm]; first | exact decide_eq_true (by omega) | exact decide_eq_false (by omega)), rfl⟩

set_option maxHeartbeats 400000 in
theorem right_any (a : Int) (w : World) :
    Calls Try.prog 15 #[.int .i64 a] w fun e w' => e = .returned (.bool (rt a)) ∧ w = w' := by
  by_cases h1 : -1000000000000 ≤ a <;> by_cases h2 : a ≤ 1000000000000
  all_goals
    go_enter Try.func15, Try.ntmps15
    go_wp2
    all_goals
      go_ret
      exact ⟨ret_bool (by unfold rt; rw [eq_comm]; first | exact decide_eq_true (by omega) | exact decide_eq_false (by omega)), rfl⟩

set_option maxHeartbeats 400000 in
theorem rright_any (a : Int) (w : World) :
    Calls Try.prog 16 #[.int .i64 a] w fun e w' => e = .returned (.bool (rt a)) ∧ w = w' := by
  by_cases h1 : -1000000000000 ≤ a <;> by_cases h2 : a ≤ 1000000000000
  all_goals
    go_enter Try.func16, Try.ntmps16
    go_wp2
    all_goals
      go_ret
      exact ⟨ret_bool (by unfold rt; rw [eq_comm]; first | exact decide_eq_true (by omega) | exact decide_eq_false (by omega)), rfl⟩

set_option maxHeartbeats 400000 in
theorem checked_any (a : Int) (w : World) :
    Calls Try.prog 27 #[.int .i64 a] w fun e w' => Two e (told1 a) (told2 a) ∧ w = w' := by
  by_cases h1 : -1000000000000 ≤ a <;> by_cases h2 : a ≤ 1000000000000
  all_goals
    go_enter Try.func27, Try.ntmps27
    go_wp2
    go_ret2
    exact ⟨ret_two (by unfold told1 rt; simp only [decide_eq_true_eq]; split <;> omega) (by unfold told2 rt; simp only [decide_eq_true_eq]; split <;> omega), rfl⟩

set_option maxHeartbeats 400000 in
theorem told_any (a : Int) (w : World) :
    Calls Try.prog 28 #[.int .i64 a] w fun e w' => Two e (told1 a) (told2 a) ∧ w = w' := by
  by_cases h1 : -1000000000000 ≤ a <;> by_cases h2 : a ≤ 1000000000000
  all_goals
    go_enter Try.func28, Try.ntmps28
    go_wp2
    go_ret2
    exact ⟨ret_two (by unfold told1 rt; simp only [decide_eq_true_eq]; split <;> omega) (by unfold told2 rt; simp only [decide_eq_true_eq]; split <;> omega), rfl⟩

set_option maxHeartbeats 400000 in
theorem add_any (a b : Int) (w : World) :
    Calls Try.prog 13 #[.int .i64 a, .int .i64 b] w fun e w' => Two e (two1 a b (a + b)) (two2 a b (a + b)) ∧ w = w' := by
  by_cases h60 : -1000000000000 ≤ a
  · by_cases h50 : a ≤ 1000000000000
    · by_cases h40 : -1000000000000 ≤ b
      · by_cases h30 : b ≤ 1000000000000
        · by_cases h20 : -1000000000000 ≤ a + b
          · by_cases h10 : a + b ≤ 1000000000000
            · go_enter Try.func13, Try.ntmps13
              go_wp2
              go_ret2
              exact ⟨ret_two (by unfold two1 told1 rt; simp only [Bool.and_eq_true, decide_eq_true_eq]; (repeat' split) <;> omega) (by unfold two2 told2 rt; simp only [Bool.and_eq_true, decide_eq_true_eq]; (repeat' split) <;> omega), rfl⟩
            · go_enter Try.func13, Try.ntmps13
              go_wp2
              go_ret2
              exact ⟨ret_two (by unfold two1 told1 rt; simp only [Bool.and_eq_true, decide_eq_true_eq]; (repeat' split) <;> omega) (by unfold two2 told2 rt; simp only [Bool.and_eq_true, decide_eq_true_eq]; (repeat' split) <;> omega), rfl⟩
          · go_enter Try.func13, Try.ntmps13
            go_wp2
            go_ret2
            exact ⟨ret_two (by unfold two1 told1 rt; simp only [Bool.and_eq_true, decide_eq_true_eq]; (repeat' split) <;> omega) (by unfold two2 told2 rt; simp only [Bool.and_eq_true, decide_eq_true_eq]; (repeat' split) <;> omega), rfl⟩
        · go_enter Try.func13, Try.ntmps13
          go_wp2
          go_ret2
          exact ⟨ret_two (by unfold two1 told1 rt; simp only [Bool.and_eq_true, decide_eq_true_eq]; (repeat' split) <;> omega) (by unfold two2 told2 rt; simp only [Bool.and_eq_true, decide_eq_true_eq]; (repeat' split) <;> omega), rfl⟩
      · go_enter Try.func13, Try.ntmps13
        go_wp2
        go_ret2
        exact ⟨ret_two (by unfold two1 told1 rt; simp only [Bool.and_eq_true, decide_eq_true_eq]; (repeat' split) <;> omega) (by unfold two2 told2 rt; simp only [Bool.and_eq_true, decide_eq_true_eq]; (repeat' split) <;> omega), rfl⟩
    · go_enter Try.func13, Try.ntmps13
      go_wp2
      go_ret2
      exact ⟨ret_two (by unfold two1 told1 rt; simp only [Bool.and_eq_true, decide_eq_true_eq]; (repeat' split) <;> omega) (by unfold two2 told2 rt; simp only [Bool.and_eq_true, decide_eq_true_eq]; (repeat' split) <;> omega), rfl⟩
  · go_enter Try.func13, Try.ntmps13
    go_wp2
    go_ret2
    exact ⟨ret_two (by unfold two1 told1 rt; simp only [Bool.and_eq_true, decide_eq_true_eq]; (repeat' split) <;> omega) (by unfold two2 told2 rt; simp only [Bool.and_eq_true, decide_eq_true_eq]; (repeat' split) <;> omega), rfl⟩

set_option maxHeartbeats 400000 in
theorem radd_any (a b : Int) (w : World) :
    Calls Try.prog 14 #[.int .i64 a, .int .i64 b] w fun e w' => Two e (two1 a b (a + b)) (two2 a b (a + b)) ∧ w = w' := by
  by_cases h60 : -1000000000000 ≤ a
  · by_cases h50 : a ≤ 1000000000000
    · by_cases h40 : -1000000000000 ≤ b
      · by_cases h30 : b ≤ 1000000000000
        · by_cases h20 : -1000000000000 ≤ a + b
          · by_cases h10 : a + b ≤ 1000000000000
            · go_enter Try.func14, Try.ntmps14
              go_wp2
              go_ret2
              exact ⟨ret_two (by unfold two1 told1 rt; simp only [Bool.and_eq_true, decide_eq_true_eq]; (repeat' split) <;> omega) (by unfold two2 told2 rt; simp only [Bool.and_eq_true, decide_eq_true_eq]; (repeat' split) <;> omega), rfl⟩
            · go_enter Try.func14, Try.ntmps14
              go_wp2
              go_ret2
              exact ⟨ret_two (by unfold two1 told1 rt; simp only [Bool.and_eq_true, decide_eq_true_eq]; (repeat' split) <;> omega) (by unfold two2 told2 rt; simp only [Bool.and_eq_true, decide_eq_true_eq]; (repeat' split) <;> omega), rfl⟩
          · go_enter Try.func14, Try.ntmps14
            go_wp2
            go_ret2
            exact ⟨ret_two (by unfold two1 told1 rt; simp only [Bool.and_eq_true, decide_eq_true_eq]; (repeat' split) <;> omega) (by unfold two2 told2 rt; simp only [Bool.and_eq_true, decide_eq_true_eq]; (repeat' split) <;> omega), rfl⟩
        · go_enter Try.func14, Try.ntmps14
          go_wp2
          go_ret2
          exact ⟨ret_two (by unfold two1 told1 rt; simp only [Bool.and_eq_true, decide_eq_true_eq]; (repeat' split) <;> omega) (by unfold two2 told2 rt; simp only [Bool.and_eq_true, decide_eq_true_eq]; (repeat' split) <;> omega), rfl⟩
      · go_enter Try.func14, Try.ntmps14
        go_wp2
        go_ret2
        exact ⟨ret_two (by unfold two1 told1 rt; simp only [Bool.and_eq_true, decide_eq_true_eq]; (repeat' split) <;> omega) (by unfold two2 told2 rt; simp only [Bool.and_eq_true, decide_eq_true_eq]; (repeat' split) <;> omega), rfl⟩
    · go_enter Try.func14, Try.ntmps14
      go_wp2
      go_ret2
      exact ⟨ret_two (by unfold two1 told1 rt; simp only [Bool.and_eq_true, decide_eq_true_eq]; (repeat' split) <;> omega) (by unfold two2 told2 rt; simp only [Bool.and_eq_true, decide_eq_true_eq]; (repeat' split) <;> omega), rfl⟩
  · go_enter Try.func14, Try.ntmps14
    go_wp2
    go_ret2
    exact ⟨ret_two (by unfold two1 told1 rt; simp only [Bool.and_eq_true, decide_eq_true_eq]; (repeat' split) <;> omega) (by unfold two2 told2 rt; simp only [Bool.and_eq_true, decide_eq_true_eq]; (repeat' split) <;> omega), rfl⟩

set_option maxHeartbeats 400000 in
theorem sub_any (a b : Int) (w : World) :
    Calls Try.prog 17 #[.int .i64 a, .int .i64 b] w fun e w' => Two e (two1 a b (a - b)) (two2 a b (a - b)) ∧ w = w' := by
  by_cases h60 : -1000000000000 ≤ a
  · by_cases h50 : a ≤ 1000000000000
    · by_cases h40 : -1000000000000 ≤ b
      · by_cases h30 : b ≤ 1000000000000
        · by_cases h20 : -1000000000000 ≤ a - b
          · by_cases h10 : a - b ≤ 1000000000000
            · go_enter Try.func17, Try.ntmps17
              go_wp2
              go_ret2
              exact ⟨ret_two (by unfold two1 told1 rt; simp only [Bool.and_eq_true, decide_eq_true_eq]; (repeat' split) <;> omega) (by unfold two2 told2 rt; simp only [Bool.and_eq_true, decide_eq_true_eq]; (repeat' split) <;> omega), rfl⟩
            · go_enter Try.func17, Try.ntmps17
              go_wp2
              go_ret2
              exact ⟨ret_two (by unfold two1 told1 rt; simp only [Bool.and_eq_true, decide_eq_true_eq]; (repeat' split) <;> omega) (by unfold two2 told2 rt; simp only [Bool.and_eq_true, decide_eq_true_eq]; (repeat' split) <;> omega), rfl⟩
          · go_enter Try.func17, Try.ntmps17
            go_wp2
            go_ret2
            exact ⟨ret_two (by unfold two1 told1 rt; simp only [Bool.and_eq_true, decide_eq_true_eq]; (repeat' split) <;> omega) (by unfold two2 told2 rt; simp only [Bool.and_eq_true, decide_eq_true_eq]; (repeat' split) <;> omega), rfl⟩
        · go_enter Try.func17, Try.ntmps17
          go_wp2
          go_ret2
          exact ⟨ret_two (by unfold two1 told1 rt; simp only [Bool.and_eq_true, decide_eq_true_eq]; (repeat' split) <;> omega) (by unfold two2 told2 rt; simp only [Bool.and_eq_true, decide_eq_true_eq]; (repeat' split) <;> omega), rfl⟩
      · go_enter Try.func17, Try.ntmps17
        go_wp2
        go_ret2
        exact ⟨ret_two (by unfold two1 told1 rt; simp only [Bool.and_eq_true, decide_eq_true_eq]; (repeat' split) <;> omega) (by unfold two2 told2 rt; simp only [Bool.and_eq_true, decide_eq_true_eq]; (repeat' split) <;> omega), rfl⟩
    · go_enter Try.func17, Try.ntmps17
      go_wp2
      go_ret2
      exact ⟨ret_two (by unfold two1 told1 rt; simp only [Bool.and_eq_true, decide_eq_true_eq]; (repeat' split) <;> omega) (by unfold two2 told2 rt; simp only [Bool.and_eq_true, decide_eq_true_eq]; (repeat' split) <;> omega), rfl⟩
  · go_enter Try.func17, Try.ntmps17
    go_wp2
    go_ret2
    exact ⟨ret_two (by unfold two1 told1 rt; simp only [Bool.and_eq_true, decide_eq_true_eq]; (repeat' split) <;> omega) (by unfold two2 told2 rt; simp only [Bool.and_eq_true, decide_eq_true_eq]; (repeat' split) <;> omega), rfl⟩

set_option maxHeartbeats 400000 in
theorem rsub_any (a b : Int) (w : World) :
    Calls Try.prog 18 #[.int .i64 a, .int .i64 b] w fun e w' => Two e (two1 a b (a - b)) (two2 a b (a - b)) ∧ w = w' := by
  by_cases h60 : -1000000000000 ≤ a
  · by_cases h50 : a ≤ 1000000000000
    · by_cases h40 : -1000000000000 ≤ b
      · by_cases h30 : b ≤ 1000000000000
        · by_cases h20 : -1000000000000 ≤ a - b
          · by_cases h10 : a - b ≤ 1000000000000
            · go_enter Try.func18, Try.ntmps18
              go_wp2
              go_ret2
              exact ⟨ret_two (by unfold two1 told1 rt; simp only [Bool.and_eq_true, decide_eq_true_eq]; (repeat' split) <;> omega) (by unfold two2 told2 rt; simp only [Bool.and_eq_true, decide_eq_true_eq]; (repeat' split) <;> omega), rfl⟩
            · go_enter Try.func18, Try.ntmps18
              go_wp2
              go_ret2
              exact ⟨ret_two (by unfold two1 told1 rt; simp only [Bool.and_eq_true, decide_eq_true_eq]; (repeat' split) <;> omega) (by unfold two2 told2 rt; simp only [Bool.and_eq_true, decide_eq_true_eq]; (repeat' split) <;> omega), rfl⟩
          · go_enter Try.func18, Try.ntmps18
            go_wp2
            go_ret2
            exact ⟨ret_two (by unfold two1 told1 rt; simp only [Bool.and_eq_true, decide_eq_true_eq]; (repeat' split) <;> omega) (by unfold two2 told2 rt; simp only [Bool.and_eq_true, decide_eq_true_eq]; (repeat' split) <;> omega), rfl⟩
        · go_enter Try.func18, Try.ntmps18
          go_wp2
          go_ret2
          exact ⟨ret_two (by unfold two1 told1 rt; simp only [Bool.and_eq_true, decide_eq_true_eq]; (repeat' split) <;> omega) (by unfold two2 told2 rt; simp only [Bool.and_eq_true, decide_eq_true_eq]; (repeat' split) <;> omega), rfl⟩
      · go_enter Try.func18, Try.ntmps18
        go_wp2
        go_ret2
        exact ⟨ret_two (by unfold two1 told1 rt; simp only [Bool.and_eq_true, decide_eq_true_eq]; (repeat' split) <;> omega) (by unfold two2 told2 rt; simp only [Bool.and_eq_true, decide_eq_true_eq]; (repeat' split) <;> omega), rfl⟩
    · go_enter Try.func18, Try.ntmps18
      go_wp2
      go_ret2
      exact ⟨ret_two (by unfold two1 told1 rt; simp only [Bool.and_eq_true, decide_eq_true_eq]; (repeat' split) <;> omega) (by unfold two2 told2 rt; simp only [Bool.and_eq_true, decide_eq_true_eq]; (repeat' split) <;> omega), rfl⟩
  · go_enter Try.func18, Try.ntmps18
    go_wp2
    go_ret2
    exact ⟨ret_two (by unfold two1 told1 rt; simp only [Bool.and_eq_true, decide_eq_true_eq]; (repeat' split) <;> omega) (by unfold two2 told2 rt; simp only [Bool.and_eq_true, decide_eq_true_eq]; (repeat' split) <;> omega), rfl⟩

set_option maxHeartbeats 400000 in
theorem floor_any (p : Int) (hp : -9223372036854775808 ≤ p) (hp' : p ≤ 9223372036854775807) (w : World) :
    Calls Try.prog 31 #[.int .i64 p] w fun e w' => e = .returned (.int .i64 (fl p)) ∧ w = w' := by
  have b1 : -922337203685477 ≤ p.tdiv 10000 := by have := tdt p 10000 (by omega); omega
  have b2 : p.tdiv 10000 ≤ 922337203685477 := by have := tdt p 10000 (by omega); omega
  by_cases h : p.tmod 10000 < 0
  all_goals
    go_enter Try.func31, Try.ntmps31
    go_wp2
    all_goals
      go_ret
      exact ⟨ret_int (by unfold fl; split <;> first | rfl | omega), rfl⟩

set_option maxHeartbeats 400000 in
theorem astick_any (a : Int) (w : World) :
    Calls Try.prog 32 #[.int .i64 a] w fun e w' => e = .returned (.int .i64 (tk a)) ∧ w = w' := by
  by_cases h1 : a < 0 <;> by_cases h2 : 1099511627776 < a
  all_goals
    go_enter Try.func32, Try.ntmps32
    go_wp2
    all_goals
      go_ret
      exact ⟨ret_int (by unfold tk; (repeat' split) <;> omega), rfl⟩

set_option maxHeartbeats 400000 in
theorem rtick_any (a : Int) (w : World) :
    Calls Try.prog 33 #[.int .i64 a] w fun e w' => e = .returned (.int .i64 (tk a)) ∧ w = w' := by
  by_cases h1 : a < 0 <;> by_cases h2 : 1099511627776 < a
  all_goals
    go_enter Try.func33, Try.ntmps33
    go_wp2
    all_goals
      go_ret
      exact ⟨ret_int (by unfold tk; (repeat' split) <;> omega), rfl⟩

set_option maxHeartbeats 400000 in
theorem clamp_any (a l h : Int) (w : World) :
    Calls Try.prog 23 #[.int .i64 a, .int .i64 l, .int .i64 h] w fun e w' => e = .returned (.int .i64 (clamp a l h)) ∧ w = w' := by
  by_cases h1 : h < a <;> by_cases h2 : h < l <;> by_cases h3 : a < l
  all_goals
    go_enter Try.func23, Try.ntmps23
    go_wp2
    all_goals
      go_ret
      exact ⟨ret_int (by unfold clamp; (repeat' split) <;> omega), rfl⟩

set_option maxHeartbeats 400000 in
theorem rclamp_any (a l h : Int) (w : World) :
    Calls Try.prog 24 #[.int .i64 a, .int .i64 l, .int .i64 h] w fun e w' => e = .returned (.int .i64 (clamp a l h)) ∧ w = w' := by
  by_cases h1 : h < a <;> by_cases h2 : h < l <;> by_cases h3 : a < l
  all_goals
    go_enter Try.func24, Try.ntmps24
    go_wp2
    all_goals
      go_ret
      exact ⟨ret_int (by unfold clamp; (repeat' split) <;> omega), rfl⟩

theorem prod_bd {a b A B : Int} (h1 : -A ≤ a) (h2 : a ≤ A) (h3 : -B ≤ b) (h4 : b ≤ B) : -(A * B) ≤ a * b ∧ a * b ≤ A * B := by
  have h : a.natAbs * b.natAbs ≤ A.natAbs * B.natAbs := Nat.mul_le_mul (by omega) (by omega)
  have e : (a * b).natAbs = a.natAbs * b.natAbs := Int.natAbs_mul a b
  have e2 : (A * B).natAbs = A.natAbs * B.natAbs := Int.natAbs_mul A B
  have hp : 0 ≤ A * B := Int.mul_nonneg (by omega) (by omega)
  omega
theorem fl_bd {p A : Int} (h : -A ≤ p) (h' : p ≤ A) : -A - 1 ≤ fl p ∧ fl p ≤ A := by
  have := tdt p 10000 (by omega)
  unfold fl; split <;> omega
theorem fl_lt {p : Int} : fl p * 10000 ≤ p ∧ p < fl p * 10000 + 10000 := by
  have := tdt p 10000 (by omega)
  unfold fl; split <;> omega
theorem fl_eq {p q : Int} (h : q * 10000 ≤ p) (h' : p < q * 10000 + 10000) : fl p = q := by
  have := @fl_lt p; omega

end Go.Proofs.Ytcmbehnmcojbpaa
