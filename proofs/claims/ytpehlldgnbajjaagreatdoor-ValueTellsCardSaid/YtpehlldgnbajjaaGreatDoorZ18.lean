/- The program's answers of layer 1 that layer 9 asks for; The landed value code: an amount told, made sure, less, cut; DERIVED: THE SHELF's CONTRACTS AT THIS DUMP, IN PLAIN WORDS (tools/lay-plain.mjs out of 'TryzShelf.lean', which tools/lay-shelf.mjs wrote): THE SAME DECLARATIONS UNDER THE SAME NAMES: 'import', 'namespace', 'open', 'def', 'theorem' AND NOTHING ELSE: no command of the shelf's: FOR A HAND-IN. Each laying: the table of numbers ('.._ren') and one theorem, a field a fact of the dump's own or the kernel's comparison; each contract: ONE APPLICATION; Numbers in rising order: what the library's sort leaves in a row of one's own; The landed value code: a seller's price; the price at a place in rising order; The landed value code: the price at a place in rising order. -/
import Derived.Test.YtpehlldgnbajjaaGreatDoorZ08
import Derived.Test.YtpehlldgnbajjaaGreatDoorZ06
import Derived.Test.YtpehlldgnbajjaaGreatDoorZ10
import Derived.Shelf.Strings.Builder1
import Derived.Shelf.Small.Wraps
import Derived.Shelf.Strings.BuilderF
import Derived.Shelf.Strings.BuilderK
import Derived.Shelf.Strconv.Itoa0
import Derived.Shelf.Strconv.Itoa1
import Derived.Shelf.LaysM
import Derived.Shelf.Strconv.Itoa2
import Derived.Shelf.Strconv.Itoa3
import Derived.Shelf.Sort.Plain
import Derived.Shelf.Slices.In.SortNone
import Derived.Test.YtpehlldgnbajjaaGreatDoorProg
import Derived.Test.YtpehlldgnbajjaaGreatDoorZ14
namespace Go.Proofs.YtpehlldgnbajjaaGreatDoor
open Go.RowKit Go.Lib
set_option linter.unusedVariables false
set_option linter.unusedSimpArgs false

set_option maxHeartbeats 400000 in
theorem m9within_any (a l h : Int) (w : World) :
    Calls Tryz.prog 84 #[.int .i64 a, .int .i64 l, .int .i64 h] w fun e w' => e = .returned (.bool (wtM a l h)) ∧ w = w' := by
  by_cases h1 : l ≤ a <;> by_cases h2 : a ≤ h
  all_goals
    go_enter Tryz.func84, Tryz.ntmps84
    go_wp2
    all_goals
      go_ret
      exact ⟨ret_bool (by unfold wtM; rw [eq_comm]; first | exact decide_eq_true (by omega) | exact decide_eq_false (by omega)), rfl⟩
set_option maxHeartbeats 400000 in
theorem m9right_any (a : Int) (w : World) :
    Calls Tryz.prog 82 #[.int .i64 a] w fun e w' => e = .returned (.bool (rt a)) ∧ w = w' := by
  by_cases h1 : -1000000000000 ≤ a <;> by_cases h2 : a ≤ 1000000000000
  all_goals
    go_enter Tryz.func82, Tryz.ntmps82
    go_wp2
    all_goals
      go_ret
      exact ⟨ret_bool (by unfold rt; rw [eq_comm]; first | exact decide_eq_true (by omega) | exact decide_eq_false (by omega)), rfl⟩
set_option maxHeartbeats 400000 in
theorem m9checked_any (a : Int) (w : World) :
    Calls Tryz.prog 83 #[.int .i64 a] w fun e w' => Two e (told1 a) (told2 a) ∧ w = w' := by
  by_cases h1 : -1000000000000 ≤ a <;> by_cases h2 : a ≤ 1000000000000
  all_goals
    go_enter Tryz.func83, Tryz.ntmps83
    go_wp2
    go_ret2
    exact ⟨m9ret_two (by unfold told1 rt; simp only [decide_eq_true_eq]; split <;> omega) (by unfold told2 rt; simp only [decide_eq_true_eq]; split <;> omega), rfl⟩
set_option maxHeartbeats 400000 in
theorem m9sub_any (a b : Int) (w : World) :
    Calls Tryz.prog 69 #[.int .i64 a, .int .i64 b] w fun e w' => Two e (two1 a b (a - b)) (two2 a b (a - b)) ∧ w = w' := by
  by_cases h60 : -1000000000000 ≤ a
  · by_cases h50 : a ≤ 1000000000000
    · by_cases h40 : -1000000000000 ≤ b
      · by_cases h30 : b ≤ 1000000000000
        · by_cases h20 : -1000000000000 ≤ a - b
          · by_cases h10 : a - b ≤ 1000000000000
            · go_enter Tryz.func69, Tryz.ntmps69
              go_wp2
              go_ret2
              exact ⟨m9ret_two (by unfold two1 told1 rt; simp only [Bool.and_eq_true, decide_eq_true_eq]; (repeat' split) <;> omega) (by unfold two2 told2 rt; simp only [Bool.and_eq_true, decide_eq_true_eq]; (repeat' split) <;> omega), rfl⟩
            · go_enter Tryz.func69, Tryz.ntmps69
              go_wp2
              go_ret2
              exact ⟨m9ret_two (by unfold two1 told1 rt; simp only [Bool.and_eq_true, decide_eq_true_eq]; (repeat' split) <;> omega) (by unfold two2 told2 rt; simp only [Bool.and_eq_true, decide_eq_true_eq]; (repeat' split) <;> omega), rfl⟩
          · go_enter Tryz.func69, Tryz.ntmps69
            go_wp2
            go_ret2
            exact ⟨m9ret_two (by unfold two1 told1 rt; simp only [Bool.and_eq_true, decide_eq_true_eq]; (repeat' split) <;> omega) (by unfold two2 told2 rt; simp only [Bool.and_eq_true, decide_eq_true_eq]; (repeat' split) <;> omega), rfl⟩
        · go_enter Tryz.func69, Tryz.ntmps69
          go_wp2
          go_ret2
          exact ⟨m9ret_two (by unfold two1 told1 rt; simp only [Bool.and_eq_true, decide_eq_true_eq]; (repeat' split) <;> omega) (by unfold two2 told2 rt; simp only [Bool.and_eq_true, decide_eq_true_eq]; (repeat' split) <;> omega), rfl⟩
      · go_enter Tryz.func69, Tryz.ntmps69
        go_wp2
        go_ret2
        exact ⟨m9ret_two (by unfold two1 told1 rt; simp only [Bool.and_eq_true, decide_eq_true_eq]; (repeat' split) <;> omega) (by unfold two2 told2 rt; simp only [Bool.and_eq_true, decide_eq_true_eq]; (repeat' split) <;> omega), rfl⟩
    · go_enter Tryz.func69, Tryz.ntmps69
      go_wp2
      go_ret2
      exact ⟨m9ret_two (by unfold two1 told1 rt; simp only [Bool.and_eq_true, decide_eq_true_eq]; (repeat' split) <;> omega) (by unfold two2 told2 rt; simp only [Bool.and_eq_true, decide_eq_true_eq]; (repeat' split) <;> omega), rfl⟩
  · go_enter Tryz.func69, Tryz.ntmps69
    go_wp2
    go_ret2
    exact ⟨m9ret_two (by unfold two1 told1 rt; simp only [Bool.and_eq_true, decide_eq_true_eq]; (repeat' split) <;> omega) (by unfold two2 told2 rt; simp only [Bool.and_eq_true, decide_eq_true_eq]; (repeat' split) <;> omega), rfl⟩
set_option maxHeartbeats 400000 in
theorem m9floor_any (p : Int) (hp : -9223372036854775808 ≤ p) (hp' : p ≤ 9223372036854775807) (w : World) :
    Calls Tryz.prog 85 #[.int .i64 p] w fun e w' => e = .returned (.int .i64 (fl p)) ∧ w = w' := by
  have b1 : -922337203685477 ≤ p.tdiv 10000 := by have := tdt p 10000 (by omega); omega
  have b2 : p.tdiv 10000 ≤ 922337203685477 := by have := tdt p 10000 (by omega); omega
  by_cases h : p.tmod 10000 < 0
  all_goals
    go_enter Tryz.func85, Tryz.ntmps85
    go_wp2
    all_goals
      go_ret
      exact ⟨ret_int (by unfold fl; split <;> first | rfl | omega), rfl⟩
set_option maxHeartbeats 400000 in
theorem m9part_any (a b : Int) (up : Bool) (w : World) :
    Calls Tryz.prog 70 #[.int .i64 a, .int .i64 b, .bool up] w fun e w' => Two e (part1 a b up) (part2 a b up) ∧ w = w' := by
  cases ha : rt a
  · have r1 : part1 a b up = 0 := by simp [part1, ha]
    have r2 : part2 a b up = 10 := by simp [part2, ha]
    rw [r1, r2]; clear r1 r2
    go_enter Tryz.func70, Tryz.ntmps70
    go_wp2_with (first | (go_at_call 82; refine (m9right_any _ _).mono ?_; rintro e w' ⟨rfl, rfl⟩) | (go_at_call 84; refine (m9within_any _ _ _ _).mono ?_; rintro e w' ⟨rfl, rfl⟩))
    go_ret2
    exact ⟨rfl, rfl⟩
  · cases hb : wtM b (-100000) 100000
    · have r1 : part1 a b up = 0 := by simp [part1, hb]
      have r2 : part2 a b up = 10 := by simp [part2, hb]
      rw [r1, r2]; clear r1 r2
      go_enter Tryz.func70, Tryz.ntmps70
      go_wp2_with (first | (go_at_call 82; refine (m9right_any _ _).mono ?_; rintro e w' ⟨rfl, rfl⟩) | (go_at_call 84; refine (m9within_any _ _ _ _).mono ?_; rintro e w' ⟨rfl, rfl⟩))
      go_ret2
      exact ⟨rfl, rfl⟩
    · obtain ⟨a1, a2⟩ := m9rt_iff.1 ha
      obtain ⟨b1, b2⟩ := of_decide_eq_true hb
      obtain ⟨p1, p2⟩ : -100000000000000000 ≤ a * b ∧ a * b ≤ 100000000000000000 := m9prod_bd a1 a2 b1 b2
      have f1 := @m9fl_lt (a * b)
      have f2 := @m9fl_lt (-(a * b))
      obtain ⟨g1, g2⟩ : -100000000000000 ≤ fl (-(a * b)) ∧ fl (-(a * b)) ≤ 100000000000000 := by omega
      clear f1 f2
      cases up
      · have r1 : part1 a b false = told1 (fl (a * b)) := by simp [part1, ha, hb, prt]
        have r2 : part2 a b false = told2 (fl (a * b)) := by simp [part2, ha, hb, prt]
        rw [r1, r2]; clear r1 r2
        go_enter Tryz.func70, Tryz.ntmps70
        go_wp2_with (first | (go_at_call 82; refine (m9right_any _ _).mono ?_; rintro e w' ⟨rfl, rfl⟩) | (go_at_call 84; refine (m9within_any _ _ _ _).mono ?_; rintro e w' ⟨rfl, rfl⟩) | (go_at_call 85; refine (m9floor_any (a * b) (by omega) (by omega) w).mono ?_; rintro e w' ⟨rfl, rfl⟩) | (go_at_call 83; refine (m9checked_any _ _).mono ?_; rintro e w' ⟨rfl, rfl⟩))
        go_ret2
        exact ⟨rfl, rfl⟩
      · have r1 : part1 a b true = told1 (-(fl (-(a * b)))) := by simp [part1, ha, hb, prt]
        have r2 : part2 a b true = told2 (-(fl (-(a * b)))) := by simp [part2, ha, hb, prt]
        rw [r1, r2]; clear r1 r2
        go_enter Tryz.func70, Tryz.ntmps70
        go_wp2_with (first | (go_at_call 82; refine (m9right_any _ _).mono ?_; rintro e w' ⟨rfl, rfl⟩) | (go_at_call 84; refine (m9within_any _ _ _ _).mono ?_; rintro e w' ⟨rfl, rfl⟩) | (go_at_call 85; refine (m9floor_any (-(a * b)) (by omega) (by omega) w).mono ?_; rintro e w' ⟨rfl, rfl⟩) | (go_at_call 83; refine (m9checked_any _ _).mono ?_; rintro e w' ⟨rfl, rfl⟩))
        go_ret2
        exact ⟨rfl, rfl⟩
end Go.Proofs.YtpehlldgnbajjaaGreatDoor

namespace Go.Proofs.YtpehlldgnbajjaaGreatDoor
open Go.RowKit Go.Lib
set_option linter.unusedVariables false
set_option linter.unusedSimpArgs false

/-- What a reckoning tells; how one ends that meets an error. -/
abbrev TV (o : Option Int) : Value := .agg #[.int .i64 (o.getD 0), .bool o.isSome]
abbrev FLV : Ending := .panicked [{ v := .iface 34 (.int .i64 10), recovered := false }]
def TPost (w0 : World) (r : Rs) (e : Ending) (w' : World) : Prop := match r with
  | .ok o => e = .returned (TV o) ∧ Rel w0 w'
  | .error _ => e = FLV ∧ Rel w0 w'
theorem TPost.yes {w0 w' : World} {r : Rs} {e : Ending} {o : Option Int} (h : r = .ok o) (he : e = .returned (TV o)) (hr : Rel w0 w') : TPost w0 r e w' := by subst h; exact ⟨he, hr⟩
theorem TPost.no {w0 w' : World} {r : Rs} {e : Ending} {er : Int} (h : r = .error er) (he : e = FLV) (hr : Rel w0 w') : TPost w0 r e w' := by subst h; exact ⟨he, hr⟩
theorem two2_is (a b n : Int) : two2 a b n = 0 ∨ two2 a b n = 10 := by
  unfold two2 told2
  split
  · split
    · exact .inl rfl
    · exact .inr rfl
  · exact .inr rfl
theorem part2_is (a b : Int) (u : Bool) : part2 a b u = 0 ∨ part2 a b u = 10 := by
  unfold part2 told2
  split
  · split
    · exact .inl rfl
    · exact .inr rfl
  · exact .inr rfl
theorem Bk.two' {w : World} {g : Nat} {t : TypeId} {x0 x1 : Value} (h : Bk w g t #[x0, x1]) : (w.cell? ⟨g, 0, none⟩ = some x0 ∧ w.cell? ⟨g, 1, none⟩ = some x1) ∧ w.frozen? ⟨g, 0, none⟩ = false ∧ w.frozen? ⟨g, 1, none⟩ = false := h.two
theorem vamount_any (n : Int) (w0 w : World) (hr : Rel w0 w) :
    Calls Tryz.prog 38 #[.int .i64 n] w fun e w' => e = .returned (.agg #[.int .i64 n, .bool true]) ∧ Rel w0 w' := by
  have HR := Lib.hid hr
  have hz := hr.size
  clear hr
  go_enter Tryz.func38, Tryz.ntmps38
  go_wp2_with (fail)
  exact bodyPost_ret (v := TV (some n)) (by simp [results, Tryz.results38, go_sem]) rfl ⟨rfl, by first | exact HR.out.alloc _ | exact ((HR.out.alloc _).setCell hz _).setCell hz _⟩
theorem vsure_ok (n : Int) (w : World) :
    Calls Tryz.prog 68 #[.int .i64 n, .int .i64 0] w fun e w' => e = .returned (.int .i64 n) ∧ w = w' := by
  go_enter Tryz.func68, Tryz.ntmps68
  go_wp2_with (fail)
  go_ret
  exact ⟨rfl, rfl⟩
theorem vsure_no (n : Int) (w : World) :
    Calls Tryz.prog 68 #[.int .i64 n, .int .i64 10] w fun e w' => e = FLV ∧ w = w' := by
  go_enter Tryz.func68, Tryz.ntmps68
  go_wp2_with (fail)
  exact ⟨rfl, rfl, rfl⟩
set_option maxRecDepth 100000 in
set_option maxHeartbeats 1000000 in
theorem vless_none (v n : Int) (w0 w : World) (hr : Rel w0 w) :
    Calls Tryz.prog 51 #[.agg #[.int .i64 v, .bool false], .int .i64 n] w fun e w' => e = .returned (.agg #[.int .i64 0, .bool false]) ∧ Rel w0 w' := by
  have HR := Lib.hid hr
  have hz := hr.size
  have HB := Lib.hid ((Bk.new w 46 #[.int .i64 v, .bool false]).alloc (.cells #[.int .i64 0, .bool false] 46))
  have HT := Lib.hid (Bk.snd w #[.int .i64 v, .bool false] #[.int .i64 0, .bool false] 46 46)
  have HA := Lib.hid ((hr.self.alloc (.cells #[.int .i64 v, .bool false] 46)).alloc (.cells #[.int .i64 0, .bool false] 46))
  obtain ⟨W, hW⟩ : ∃ W, (w.alloc (.cells #[.int .i64 v, .bool false] 46)).alloc (.cells #[.int .i64 0, .bool false] 46) = W := ⟨_, rfl⟩
  rw [hW] at HB HT HA
  obtain ⟨⟨c0, c1⟩, _⟩ := HB.out.two
  obtain ⟨⟨d0, d1⟩, e0, e1⟩ := HT.out.two
  clear hr
  go_enter Tryz.func51, Tryz.ntmps51
  go_wp2_with (fail)
  exact bodyPost_ret (v := TV none) (by simp [results, Tryz.results51, go_sem, d0, d1]) rfl ⟨rfl, ((HR.out.trans HA.out).setCell (Nat.le_succ_of_le hz) _).setCell (Nat.le_succ_of_le hz) _⟩
set_option maxRecDepth 100000 in
set_option maxHeartbeats 1000000 in
theorem vless_some (v n : Int) (w0 w : World) (hr : Rel w0 w) :
    Calls Tryz.prog 51 #[.agg #[.int .i64 v, .bool true], .int .i64 n] w (TPost w0 (subR v n)) := by
  have HR := Lib.hid hr
  have hz := hr.size
  have HB := Lib.hid ((Bk.new w 46 #[.int .i64 v, .bool true]).alloc (.cells #[.int .i64 0, .bool false] 46))
  have HT := Lib.hid (Bk.snd w #[.int .i64 v, .bool true] #[.int .i64 0, .bool false] 46 46)
  have HA := Lib.hid ((hr.self.alloc (.cells #[.int .i64 v, .bool true] 46)).alloc (.cells #[.int .i64 0, .bool false] 46))
  obtain ⟨W, hW⟩ : ∃ W, (w.alloc (.cells #[.int .i64 v, .bool true] 46)).alloc (.cells #[.int .i64 0, .bool false] 46) = W := ⟨_, rfl⟩
  rw [hW] at HB HT HA
  obtain ⟨⟨c0, c1⟩, _⟩ := HB.out.two
  have HS := Lib.hid (fun w => m9sub_any v n w)
  clear hr
  rcases two2_is v n (v - n) with h | h
  · have HF := Lib.hid (show subR v n = .ok (some (two1 v n (v - n))) by unfold subR; rw [if_pos h])
    rw [h] at HS
    generalize two1 v n (v - n) = U at *
    unfold Two at HS
    clear h
    go_enter Tryz.func51, Tryz.ntmps51
    go_wp2_with (first
      | (go_at_call 69; (with_reducible refine (HS.out _).mono ?_); rintro e w1 ⟨rfl, rfl⟩)
      | (go_at_call 68; (with_reducible refine (vsure_ok U _).mono ?_); rintro e w2 ⟨rfl, rfl⟩)
      | (go_at_call 38; (with_reducible refine (vamount_any U _ _ HA.out.self).mono ?_); rintro e w3 ⟨rfl, h3⟩; have R3 := Lib.hid h3; obtain ⟨⟨d0, d1⟩, e0, e1⟩ := (HT.out.rel h3).two))
    exact bodyPost_ret (v := TV (some U)) (by simp [results, Tryz.results51, go_sem, d0, d1]) rfl (TPost.yes HF.out rfl ((((HR.out.trans HA.out).trans R3.out).setCell (Nat.le_succ_of_le hz) _).setCell (Nat.le_succ_of_le hz) _))
  · have HF := Lib.hid (show subR v n = .error 10 by unfold subR; rw [if_neg (by omega), h])
    rw [h] at HS
    generalize two1 v n (v - n) = U at *
    unfold Two at HS
    clear h
    go_enter Tryz.func51, Tryz.ntmps51
    go_wp2_with (first
      | (go_at_call 69; (with_reducible refine (HS.out _).mono ?_); rintro e w1 ⟨rfl, rfl⟩)
      | (go_at_call 68; (with_reducible refine (vsure_no U _).mono ?_); rintro e w2 ⟨rfl, rfl⟩))
    exact ⟨rfl, TPost.no HF.out rfl (HR.out.trans HA.out)⟩
end Go.Proofs.YtpehlldgnbajjaaGreatDoor

namespace Go.Proofs
open Go.Shelf
def Tryz.laysM171_ren : Go.Shelf.Ren := ⟨fun | 171 => 89 | 243 => 102 | 246 => 110 | 283 => 112 | 284 => 113 | 285 => 114 | 286 => 115 | 129 => 100 | 317 => 116 | 318 => 117 | 319 => 118 | 320 => 119 | 337 => 120 | 338 => 121 | n => n, fun | 3 => 3 | 9 => 9 | 2 => 2 | 4 => 4 | 171 => 128 | 0 => 0 | 53 => 115 | 37 => 80 | 5 => 5 | 173 => 130 | 212 => 133 | 51 => 113 | 20 => 20 | 213 => 134 | 46 => 97 | 232 => 135 | 233 => 136 | n => n, fun | 17 => 0 | 18 => 1 | 19 => 2 | n => n⟩
theorem Tryz.laysM171 : Go.Proofs.LaysM.n171 Tryz.prog Tryz.laysM171_ren := {
  mixed := by kernel_rfl
  f129 := Tryz.func100.trans (congrArg some (by kernel_rfl))
  f171 := Tryz.func89.trans (congrArg some (by kernel_rfl))
  f243 := Tryz.func102.trans (congrArg some (by kernel_rfl))
  f246 := Tryz.func110.trans (congrArg some (by kernel_rfl))
  f283 := Tryz.func112.trans (congrArg some (by kernel_rfl))
  f284 := Tryz.func113.trans (congrArg some (by kernel_rfl))
  f285 := Tryz.func114.trans (congrArg some (by kernel_rfl))
  f286 := Tryz.func115.trans (congrArg some (by kernel_rfl))
  f317 := Tryz.func116.trans (congrArg some (by kernel_rfl))
  f318 := Tryz.func117.trans (congrArg some (by kernel_rfl))
  f319 := Tryz.func118.trans (congrArg some (by kernel_rfl))
  f320 := Tryz.func119.trans (congrArg some (by kernel_rfl))
  f337 := Tryz.func120.trans (congrArg some (by kernel_rfl))
  f338 := Tryz.func121.trans (congrArg some (by kernel_rfl))
  t0 := Tryz.underlying0
  a0 := Tryz.isAgg0
  z0 := Tryz.sizeOf0
  v0 := Tryz.zeroValue0
  t2 := Tryz.underlying2
  a2 := Tryz.isAgg2
  z2 := Tryz.sizeOf2
  v2 := Tryz.zeroValue2
  t3 := Tryz.underlying3
  a3 := Tryz.isAgg3
  z3 := Tryz.sizeOf3
  v3 := Tryz.zeroValue3
  t4 := Tryz.underlying4
  a4 := Tryz.isAgg4
  z4 := Tryz.sizeOf4
  v4 := Tryz.zeroValue4
  t5 := Tryz.underlying5
  a5 := Tryz.isAgg5
  z5 := Tryz.sizeOf5
  v5 := Tryz.zeroValue5
  t9 := Tryz.underlying9
  a9 := Tryz.isAgg9
  z9 := Tryz.sizeOf9
  v9 := Tryz.zeroValue9
  t20 := Tryz.underlying20
  a20 := Tryz.isAgg20
  z20 := Tryz.sizeOf20
  v20 := Tryz.zeroValue20
  t37 := Tryz.underlying80
  a37 := Tryz.isAgg80
  z37 := Tryz.sizeOf80
  v37 := Tryz.zeroValue80
  t46 := Tryz.underlying97
  a46 := Tryz.isAgg97
  z46 := Tryz.sizeOf97
  v46 := Tryz.zeroValue97
  t51 := Tryz.underlying113
  a51 := Tryz.isAgg113
  z51 := Tryz.sizeOf113
  v51 := Tryz.zeroValue113
  t53 := Tryz.underlying115
  a53 := Tryz.isAgg115
  z53 := Tryz.sizeOf115
  v53 := Tryz.zeroValue115
  t171 := Tryz.underlying128
  a171 := Tryz.isAgg128
  z171 := Tryz.sizeOf128
  v171 := Tryz.zeroValue128
  t173 := Tryz.underlying130
  a173 := Tryz.isAgg130
  z173 := Tryz.sizeOf130
  v173 := Tryz.zeroValue130
  t212 := Tryz.underlying133
  a212 := Tryz.isAgg133
  z212 := Tryz.sizeOf133
  v212 := Tryz.zeroValue133
  t213 := Tryz.underlying134
  a213 := Tryz.isAgg134
  z213 := Tryz.sizeOf134
  t232 := Tryz.underlying135
  a232 := Tryz.isAgg135
  z232 := Tryz.sizeOf135
  v232 := Tryz.zeroValue135
  t233 := Tryz.underlying136
  a233 := Tryz.isAgg136
  z233 := Tryz.sizeOf136
  v233 := Tryz.zeroValue136
  g17 := by kernel_rfl
  g18 := by kernel_rfl
  g19 := by kernel_rfl
  i0 := by kernel_rfl
  i2 := by kernel_rfl
  i3 := by kernel_rfl
  i4 := by kernel_rfl
  i5 := by kernel_rfl
  i9 := by kernel_rfl
  i20 := by kernel_rfl
  i37 := by kernel_rfl
  i46 := by kernel_rfl
  i51 := by kernel_rfl
  i53 := by kernel_rfl
  i171 := by kernel_rfl
  i173 := by kernel_rfl
  i212 := by kernel_rfl
  i232 := by kernel_rfl
  i233 := by kernel_rfl
  m17 := by kernel_rfl
  m18 := by kernel_rfl
  m19 := by kernel_rfl }
open Go.RowKit Go.Sort Go.Lib in
/-- strconv.Itoa: "Itoa is equivalent to FormatInt(int64(i), 10).": i's DECIMAL NUMERAL ('Lib.itoa': a '-' where i is negative, then the digits), FOR EVERY int. The world behind the call: the world before it, new blocks behind the heap (the library's 'var a [24]byte'), draws. (LAID: no walk: one application.) -/
theorem Tryz.strconv_Itoa (n : Int) (h0 : -9223372036854775808 ≤ n) (h1 : n ≤ 9223372036854775807) (w : World) (htab : Lib.TabIs Tryz.prog w "internal/strconv.uint64pow10" .u64 Lib.pow10Tab) :
    Calls Tryz.prog 89 #[.int .i64 n] w fun e w' => e = .returned (.string ⟨(Lib.itoa n).toArray⟩) ∧ ∃ k os, w' = grow (w.drewN k) os := Any.strconv_Itoa Tryz.laysM171 n h0 h1 w htab
def Tryz.lays189_ren : Go.Shelf.Ren := ⟨fun | 189 => 67 | 125 => 81 | 257 => 80 | 128 => 99 | 129 => 100 | 294 => 90 | 295 => 91 | 296 => 92 | 297 => 93 | 298 => 94 | 299 => 95 | 216 => 96 | 300 => 97 | 301 => 98 | 328 => 103 | 329 => 104 | 330 => 105 | 331 => 106 | 332 => 107 | 215 => 108 | 343 => 111 | n => n, fun | 28 => 22 | 3 => 3 | 46 => 97 | 0 => 0 | 51 => 113 | 53 => 115 | 4 => 4 | 183 => 106 | 182 => 105 | 131 => 73 | 5 => 5 | 9 => 9 | 218 => 116 | 222 => 120 | 228 => 125 | 229 => 126 | n => n, fun | n => n⟩
theorem Tryz.lays189 : Go.Proofs.Lays.n189 Tryz.prog Tryz.lays189_ren := {
  mixed := by kernel_rfl
  f125 := Tryz.func81.trans (congrArg some (by kernel_rfl))
  f128 := Tryz.func99.trans (congrArg some (by kernel_rfl))
  f129 := Tryz.func100.trans (congrArg some (by kernel_rfl))
  f189 := Tryz.func67.trans (congrArg some (by kernel_rfl))
  f215 := Tryz.func108.trans (congrArg some (by kernel_rfl))
  f216 := Tryz.func96.trans (congrArg some (by kernel_rfl))
  f257 := Tryz.func80.trans (congrArg some (by kernel_rfl))
  f294 := Tryz.func90.trans (congrArg some (by kernel_rfl))
  f295 := Tryz.func91.trans (congrArg some (by kernel_rfl))
  f296 := Tryz.func92.trans (congrArg some (by kernel_rfl))
  f297 := Tryz.func93.trans (congrArg some (by kernel_rfl))
  f298 := Tryz.func94.trans (congrArg some (by kernel_rfl))
  f299 := Tryz.func95.trans (congrArg some (by kernel_rfl))
  f300 := Tryz.func97.trans (congrArg some (by kernel_rfl))
  f301 := Tryz.func98.trans (congrArg some (by kernel_rfl))
  f328 := Tryz.func103.trans (congrArg some (by kernel_rfl))
  f329 := Tryz.func104.trans (congrArg some (by kernel_rfl))
  f330 := Tryz.func105.trans (congrArg some (by kernel_rfl))
  f331 := Tryz.func106.trans (congrArg some (by kernel_rfl))
  f332 := Tryz.func107.trans (congrArg some (by kernel_rfl))
  f343 := Tryz.func111.trans (congrArg some (by kernel_rfl))
  t0 := Tryz.underlying0
  a0 := Tryz.isAgg0
  z0 := Tryz.sizeOf0
  v0 := Tryz.zeroValue0
  t3 := Tryz.underlying3
  a3 := Tryz.isAgg3
  z3 := Tryz.sizeOf3
  v3 := Tryz.zeroValue3
  t4 := Tryz.underlying4
  a4 := Tryz.isAgg4
  z4 := Tryz.sizeOf4
  v4 := Tryz.zeroValue4
  t5 := Tryz.underlying5
  a5 := Tryz.isAgg5
  z5 := Tryz.sizeOf5
  v5 := Tryz.zeroValue5
  t9 := Tryz.underlying9
  a9 := Tryz.isAgg9
  z9 := Tryz.sizeOf9
  v9 := Tryz.zeroValue9
  t28 := Tryz.underlying22
  a28 := Tryz.isAgg22
  z28 := Tryz.sizeOf22
  v28 := Tryz.zeroValue22
  t46 := Tryz.underlying97
  a46 := Tryz.isAgg97
  z46 := Tryz.sizeOf97
  v46 := Tryz.zeroValue97
  t51 := Tryz.underlying113
  a51 := Tryz.isAgg113
  z51 := Tryz.sizeOf113
  v51 := Tryz.zeroValue113
  t53 := Tryz.underlying115
  a53 := Tryz.isAgg115
  z53 := Tryz.sizeOf115
  v53 := Tryz.zeroValue115
  t131 := Tryz.underlying73
  a131 := Tryz.isAgg73
  z131 := Tryz.sizeOf73
  v131 := Tryz.zeroValue73
  t182 := Tryz.underlying105
  a182 := Tryz.isAgg105
  z182 := Tryz.sizeOf105
  v182 := Tryz.zeroValue105
  t183 := Tryz.underlying106
  a183 := Tryz.isAgg106
  z183 := Tryz.sizeOf106
  v183 := Tryz.zeroValue106
  t218 := Tryz.underlying116
  a218 := Tryz.isAgg116
  z218 := Tryz.sizeOf116
  v218 := Tryz.zeroValue116
  t222 := Tryz.underlying120
  a222 := Tryz.isAgg120
  z222 := Tryz.sizeOf120
  v222 := Tryz.zeroValue120
  t228 := Tryz.underlying125
  a228 := Tryz.isAgg125
  z228 := Tryz.sizeOf125
  v228 := Tryz.zeroValue125
  t229 := Tryz.underlying126
  a229 := Tryz.isAgg126
  z229 := Tryz.sizeOf126
  v229 := Tryz.zeroValue126 }
open Go.Sort Go.RowKit in
theorem Tryz.slices_Sort_int (blk off cap : Nat) (zs : List Int) (w : World) (hH : Holds (Value.int .i64) w blk off zs.toArray) (hblk : blk < w.heap.size) (hsz : zs.length < 4611686018427387904) :
    Calls Tryz.prog 67 #[.slice (some ⟨blk, off, none⟩) zs.length cap] w fun e w' =>
      e = .returned (.tuple #[]) ∧ ∃ n os, w' = grow (putRow (Value.int .i64) (Sort.ahead w n) blk off (zs.mergeSort fun x y => decide (x ≤ y)).toArray) os := Any.slices_Sort_int Tryz.lays189 blk off cap zs w hH hblk hsz
end Go.Proofs

namespace Go.Proofs.YtpehlldgnbajjaaGreatDoor
open Go.RowKit Go.Lib
set_option linter.unusedVariables false
set_option linter.unusedSimpArgs false

theorem up_pair {l : List Int} (h : l.Pairwise (fun a b => decide (a ≤ b) = true)) : Up l := by
  induction h with
  | nil => trivial
  | cons h _ ih => exact ⟨fun b hb => of_decide_eq_true (h b hb), ih⟩
theorem srt_self {l : List Int} (h : Up l) : srt l = l := by
  induction l with
  | nil => rfl
  | cons a t ih => rw [srt, ih h.2]; cases t with
    | nil => rfl
    | cons b t => unfold ins; rw [if_pos (h.1 b (List.mem_cons_self ..))]
theorem merge_srt (l : List Int) : (l.mergeSort fun x y => decide (x ≤ y)) = srt l := by
  have h1 : (l.mergeSort fun x y => decide (x ≤ y)).Perm l := List.mergeSort_perm ..
  have h2 : Up (l.mergeSort fun x y => decide (x ≤ y)) := up_pair (List.pairwise_mergeSort (by intro a b c h1 h2; simp only [decide_eq_true_eq] at *; omega) (by intro a b; simp only [Bool.or_eq_true, decide_eq_true_eq]; omega) l)
  rw [← srt_perm h1, srt_self h2]
/-- A row of numbers of the call's own. -/
def NumOwn (w : World) (base : Nat) (v : Value) (xs : List Int) : Prop := w.ownsRow base 3 1 v xs.length (xs.map (Value.int .i64))
theorem NumOwn.nil (w : World) (base : Nat) : NumOwn w base (.slice none 0 0) [] := World.ownsRow_nil _ _ _ _
theorem NumOwn.rel {w w' : World} {base : Nat} {v : Value} {xs : List Int} (h : NumOwn w base v xs) (hr : Rel w w') : NumOwn w' base v xs := own_rel h hr
theorem NumOwn.more {w1 : World} {base g cap : Nat} {xs : List Int} {n : Int}
    (h : w1.ownsRow base 3 1 (.slice (some ⟨g, 0, none⟩) (xs.length + 1) cap) (xs.length + 1) (xs.map (Value.int .i64) ++ [.int .i64 n])) : NumOwn w1 base (.slice (some ⟨g, 0, none⟩) (xs.length + 1) cap) (xs ++ [n]) := by
  unfold NumOwn
  rw [List.length_append, List.map_append]; exact h
theorem num_info : (Tryz.prog.info? 3).map (fun i => (i.zero, i.size, i.bytes)) = some (some (.int .i64 0), 1, 8) := by kernel_rfl
theorem num_one (n : Int) : ∀ u ∈ [Value.int .i64 n], u.oneCell' = true := by
  intro u hu
  simp only [List.mem_cons, List.not_mem_nil, or_false] at hu
  subst hu; rfl
/-- A row of one's own that is not empty. -/
theorem NumOwn.some9 {w : World} {base n c : Nat} {A : Option Addr} {xs : List Int} (h : NumOwn w base (.slice A n c) xs) (hn : n = xs.length) (h0 : xs ≠ []) : ∃ g, A = some ⟨g, 0, none⟩ ∧ base ≤ g ∧ g < w.heap.size ∧ Sort.Holds (Value.int .i64) w g 0 xs.toArray := by
  have h : w.ownsRow base 3 1 (.slice A n c) xs.length (xs.map (Value.int .i64)) := h
  rcases h.2 with ⟨_, h1⟩ | ⟨g, cap, cur, hv, hb, hh, _⟩
  · exact absurd (List.length_eq_zero_iff.1 h1) h0
  · have hA : A = some ⟨g, 0, none⟩ := by injection hv
    subst hA
    have hc := h.cells (g := g) rfl
    refine ⟨g, rfl, hb, Bk.lt (t := 3) hh, fun j hj => ⟨?_, Bk.frozen (t := 3) hh _⟩⟩
    have hj' : j < xs.length := by simpa using hj
    have := hc j (.int .i64 xs[j]) (by rw [List.getElem?_map, List.getElem?_eq_getElem hj']; rfl)
    rw [addr_at] at this
    rw [this]
    simp [hj']
/-- What the sort leaves. -/
theorem sorted_row {w0 w : World} {g n : Nat} {xs : List Int} (os : Array Obj) (hr : Rel w0 w) (hg : w0.heap.size ≤ g) (hgl : g < w.heap.size) (hh : Sort.Holds (Value.int .i64) w g 0 xs.toArray) :
    Rel w0 (Sort.grow (Sort.putRow (Value.int .i64) (Sort.ahead w n) g 0 (xs.mergeSort fun x y => decide (x ≤ y)).toArray) os) ∧
    ∀ j v, (srt xs)[j]? = some v → (Sort.grow (Sort.putRow (Value.int .i64) (Sort.ahead w n) g 0 (xs.mergeSort fun x y => decide (x ≤ y)).toArray) os).cell? ⟨g, j, none⟩ = some (.int .i64 v) := by
  rw [merge_srt]
  have hh' : Sort.Holds (Value.int .i64) (Sort.ahead w n) g 0 xs.toArray := hh
  have hs : (srt xs).toArray.size = xs.toArray.size := by simp [srt_len]
  have hp := Sort.holds_putRow _ _ _ _ _ (srt xs).toArray hh' hs
  have hz : (Sort.putRow (Value.int .i64) (Sort.ahead w n) g 0 (srt xs).toArray).heap.size = w.heap.size := Sort.size_putRow ..
  have hq := Sort.holds_grow (Value.int .i64) _ os g 0 _ (by rw [hz]; exact hgl) hp
  refine ⟨?_, fun j v hv => ?_⟩
  · have h1 : Rel w0 (Sort.putRow (Value.int .i64) (Sort.ahead w n) g 0 (srt xs).toArray) := by
      refine ⟨hr.1, ⟨hr.2.os, hr.2.tape, hr.2.output, by rw [hz]; exact hr.2.size, fun k hk => ?_⟩⟩
      have : k ≠ g := by omega
      refine Eq.trans ?_ (hr.2.block k hk)
      show (w.heap.modify g _)[k]? = w.heap[k]?
      rw [Array.getElem?_modify, if_neg (Ne.symm this)]
    exact h1.grow os
  · have hl : j < (srt xs).length := (List.getElem?_eq_some_iff.1 hv).1
    have := (hq j (by simpa using hl)).1
    rw [Nat.zero_add] at this
    rw [this]
    obtain ⟨_, e⟩ := List.getElem?_eq_some_iff.1 hv
    subst e
    simp [hl]
end Go.Proofs.YtpehlldgnbajjaaGreatDoor

namespace Go.Proofs.YtpehlldgnbajjaaGreatDoor
open Go.RowKit Go.Lib
set_option linter.unusedVariables false
set_option linter.unusedSimpArgs false

theorem off_box (w : World) (s : ByteArray) (p : Int) : Bk (w.alloc (.cells #[.string s, .int .i64 p] 44)) w.heap.size 44 #[.string s, .int .i64 p] := Bk.new w _ _
set_option maxRecDepth 100000 in
set_option maxHeartbeats 4000000 in
theorem vfrom_any (nm : List UInt8) (A : Option Addr) (c : Nat) (os : List Of) (w0 w : World) (hr : Rel w0 w) (ho : OffArg w A c os) :
    Calls Tryz.prog 17 #[.slice A os.length c, .string (B nm)] w fun e w' => e = .returned (TV (fromO os nm)) ∧ Rel w0 w' := by
  have HR := Lib.hid hr
  have hz := hr.size
  have HT := Lib.hid (Bk.new w 46 #[.int .i64 0, .bool false])
  have HA := Lib.hid (hr.self.alloc (.cells #[.int .i64 0, .bool false] 46))
  have HOf := Lib.hid ho.2.2.2
  have hl : os.length ≤ 9223372036854775807 := by have := ho.1; have := ho.2.1; unfold maxLen at this; omega
  obtain ⟨W, hW⟩ : ∃ W, w.alloc (.cells #[.int .i64 0, .bool false] 46) = W := ⟨_, rfl⟩
  rw [hW] at HT HA
  obtain ⟨X, hX⟩ : ∃ X, B nm = X := ⟨_, rfl⟩
  have HX := Lib.hid hX
  rw [hX]
  clear ho hX hr
  go_enter Tryz.func17, Tryz.ntmps17
  go_wp2_with (fail)
  go_loopw [9] (fun i wr => ∃ j : Nat, j ≤ os.length ∧ i = .int .i64 (j : Int) ∧ Hid (∀ k (hk : k < os.length), k < j → os[k].1 ≠ nm) ∧ Rel W wr) (fun i _ => os.length - (RowKit.intOf i).toNat)
  case atStart => exact ⟨0, by omega, rfl, Lib.hid (fun k _ hk => absurd hk (by omega)), HA.out.right2⟩
  case round =>
    obtain ⟨i, hi, rfl, HN, hRw⟩ := hrel
    have HRw := Lib.hid hRw
    by_cases hlt : i < os.length
    · obtain ⟨g, off, s, p, rfl, c0, c1, ho⟩ := offs_at HOf.out (HA.out.trans hRw) i hlt
      obtain ⟨Y, hY⟩ : ∃ Y, B s = Y := ⟨_, rfl⟩
      have HO := Lib.hid ho
      rw [hY] at c0
      have HY := Lib.hid hY
      have HBx := Lib.hid (off_box wr Y p)
      have HAx := Lib.hid (hRw.self.alloc (.cells #[.string Y, .int .i64 p] 44))
      obtain ⟨V, hV⟩ : ∃ V, wr.alloc (.cells #[.string Y, .int .i64 p] 44) = V := ⟨_, rfl⟩
      rw [hV] at HBx HAx
      obtain ⟨⟨x0, x1⟩, _⟩ := HBx.out.two
      clear ho hY hRw
      by_cases he : Y = X
      · have k1 := list_of.2 he
        have HV := Lib.hid (show fromO os nm = some p by
          have h1 : os[i].1 = nm := by rw [HO.out]; show s = nm; rw [← B_list s, ← B_list nm, HY.out, HX.out, he]
          rw [from_hit hlt h1 HN.out, HO.out])
        clear he
        go_wp2_with (go_at_call 38; (with_reducible refine (vamount_any p _ _ HAx.out.self).mono ?_); rintro e w3 ⟨rfl, h3⟩; have R3 := Lib.hid h3; obtain ⟨⟨d0, d1⟩, e0, e1⟩ := (HT.out.rel ((HRw.out.trans HAx.out).trans h3)).two)
        rw [HV.out]
        exact bodyPost_ret (v := TV (some p)) (by simp [results, Tryz.results17, go_sem, d0, d1]) rfl ⟨rfl, ((((HR.out.trans HA.out).trans (HRw.out.trans HAx.out)).trans R3.out).setCell hz _).setCell hz _⟩
      · have k1 := list_ne he
        have HN2 : Hid (∀ k (hk : k < os.length), k < i + 1 → os[k].1 ≠ nm) := Lib.hid (fun k hk hki => by
          by_cases e : k = i
          · subst e
            rw [HO.out]
            show s ≠ nm
            intro e; subst e; exact he (HY.out.symm.trans HX.out)
          · exact HN.out k hk (by omega))
        clear he
        go_wp2_with (fail)
        go_roundw
        case rel => exact ⟨i + 1, by omega, by go_num, HN2, HRw.out.trans HAx.out⟩
        case measure => simp [RowKit.intOf]; omega
    · obtain rfl : i = os.length := by omega
      have HV := Lib.hid (show fromO os nm = none from from_none fun k hk => HN.out k hk hk)
      obtain ⟨⟨d0, d1⟩, e0, e1⟩ := (HT.out.rel hRw).two
      go_wp2_with (fail)
      rw [HV.out]
      exact bodyPost_ret (v := TV none) (by simp [results, Tryz.results17, go_sem, d0, d1]) rfl ⟨rfl, (((HR.out.trans HA.out).trans HRw.out).setCell hz _).setCell hz _⟩
end Go.Proofs.YtpehlldgnbajjaaGreatDoor

namespace Go.Proofs.YtpehlldgnbajjaaGreatDoor
open Go.RowKit Go.Lib
set_option linter.unusedVariables false
set_option linter.unusedSimpArgs false

theorem num_new (w : World) (n : Int) : ∀ j u, [Value.int .i64 n][j]? = some u → (w.alloc (.cells #[.int .i64 n] 3)).cell? ((⟨w.heap.size, 0, none⟩ : Addr).add j) = some u := World.news_of_block (Bk.new w 3 #[.int .i64 n])
theorem NumOwn.slice {w : World} {base : Nat} {v : Value} {xs : List Int} (h : NumOwn w base v xs) : ∃ A c, v = .slice A xs.length c := by
  have h : w.ownsRow base 3 1 v xs.length (xs.map (Value.int .i64)) := h
  obtain ⟨A, c, e, _⟩ := own_slice h
  exact ⟨A, c, e⟩
theorem prices_take (os : List Of) (i : Nat) (h : i < os.length) : prices (os.take (i + 1)) = prices (os.take i) ++ [os[i].2] := by
  unfold prices
  rw [List.take_succ_eq_append_getElem h, List.map_append]; rfl
theorem prices_tlen (os : List Of) (i : Nat) (h : i ≤ os.length) : (prices (os.take i)).length = i := by
  unfold prices; rw [List.length_map, List.length_take]; omega
set_option maxRecDepth 100000 in
set_option maxHeartbeats 4000000 in
theorem vranked_any (n : Nat) (hn : n ≤ 100) (A : Option Addr) (c : Nat) (os : List Of) (h8 : os.length ≤ 8) (w0 w : World) (hr : Rel w0 w) (ho : OffArg w A c os) :
    Calls Tryz.prog 50 #[.slice A os.length c, .int .i64 (n : Int)] w fun e w' => e = .returned (TV (rk os n)) ∧ Rel w0 w' := by
  have HR := Lib.hid hr
  have hz := hr.size
  obtain ⟨i0, hi0, hz0, hz1, hz2⟩ := info_parts num_info
  have HT := Lib.hid (Bk.new w 46 #[.int .i64 0, .bool false])
  have HA := Lib.hid (hr.self.alloc (.cells #[.int .i64 0, .bool false] 46))
  have HOf := Lib.hid ho.2.2.2
  have hsz : w.heap.size ≤ (w.alloc (.cells #[.int .i64 0, .bool false] 46)).heap.size := by rw [World.size_alloc]; omega
  obtain ⟨W, hW⟩ : ∃ W, w.alloc (.cells #[.int .i64 0, .bool false] 46) = W := ⟨_, rfl⟩
  rw [hW] at HT HA hsz
  obtain ⟨⟨d0, d1⟩, e0, e1⟩ := HT.out.two
  clear ho hr
  by_cases hge : os.length ≤ n
  · have HV := Lib.hid (show rk os n = none by unfold rk; rw [List.getElem?_eq_none]; rw [srt_len, prices_len]; exact hge)
    have t1 : decide ((os.length : Int) ≤ (n : Int)) = true := decide_eq_true (by omega)
    go_enter Tryz.func50, Tryz.ntmps50
    rw [HV.out]
    go_wp2_with (fail)
    exact bodyPost_ret (v := TV none) (by simp [results, Tryz.results50, go_sem, d0, d1]) rfl ⟨rfl, ((HR.out.trans HA.out).setCell hz _).setCell hz _⟩
  · have t1 : decide ((os.length : Int) ≤ (n : Int)) = false := decide_eq_false (by omega)
    have hlt0 : n < os.length := by omega
    obtain ⟨v, hv⟩ : ∃ v, rk os n = some v := by
      have : n < (srt (prices os)).length := by rw [srt_len, prices_len]; exact hlt0
      exact ⟨_, List.getElem?_eq_getElem this⟩
    have HV := Lib.hid hv
    have hN : (n : Int) < (os.length : Int) := by omega
    clear hv d0 d1 e0 e1
    go_enter Tryz.func50, Tryz.ntmps50
    rw [HV.out]
    go_wp2_with (fail)
    go_loopw [5, 15] (fun ps i wr => ∃ j : Nat, j ≤ os.length ∧ i = .int .i64 (j : Int) ∧ NumOwn wr W.heap.size ps (prices (os.take j)) ∧ Rel W wr) (fun _ i _ => os.length - (RowKit.intOf i).toNat)
    case atStart => exact ⟨0, by omega, rfl, NumOwn.nil _ _, HA.out.right2⟩
    case round =>
      obtain ⟨i, hi, rfl, hown, hRw⟩ := hrel
      have HRw := Lib.hid hRw
      by_cases hlt : i < os.length
      · obtain ⟨A2, c2, rfl⟩ := hown.slice
        obtain ⟨g, off, s, p, rfl, c0, c1, ho⟩ := offs_at HOf.out (HA.out.trans hRw) i hlt
        obtain ⟨Y, hY⟩ : ∃ Y, B s = Y := ⟨_, rfl⟩
        rw [hY] at c0
        have HP := Lib.hid (show prices (os.take (i + 1)) = prices (os.take i) ++ [p] by rw [prices_take os i hlt, ho])
        have hpl := prices_tlen os i hi
        have HBx := Lib.hid (off_box wr Y p)
        have HAx := Lib.hid (hRw.self.alloc (.cells #[.string Y, .int .i64 p] 44))
        obtain ⟨V, hV⟩ : ∃ V, wr.alloc (.cells #[.string Y, .int .i64 p] 44) = V := ⟨_, rfl⟩
        rw [hV] at HBx HAx
        obtain ⟨⟨x0, x1⟩, _⟩ := HBx.out.two
        have HOV := Lib.hid (hown.rel HAx.out)
        generalize prices (os.take i) = ps at *
        have hb : W.heap.size ≤ V.heap.size := (hRw.trans HAx.out).size
        have HL := Lib.hid hpl
        have hps : ps.length ≤ 8 := by omega
        clear ho hY hRw hown hpl
        go_wp2_with (at_builtin; (refine wpList_append_lies _ rfl _ _ 22 rfl W.heap.size 3 i0 (.int .i64 0) 1 8 Tryz.underlying22 hi0 hz0 hz1 hz2 rfl (by decide) _ ps.length (ps.map (Value.int .i64)) rfl ((show V.ownsRow W.heap.size 3 1 (.slice A2 ps.length c2) ps.length (ps.map (Value.int .i64)) from HOV.out).alloc _) ⟨V.heap.size, 0, none⟩ 1 1 [.int .i64 p] rfl rfl (num_new V p) (num_one p) (by decide) (by unfold maxLen; omega) (by omega) (by simp; omega) _ rfl ?_); intro g1 cap w1 hown1 hgrow hat hlt1)
        have R1 : Rel W w1 := ((HRw.out.trans HAx.out).alloc _).grown hgrow (fun k hk => ((show V.ownsRow W.heap.size 3 1 (.slice A2 ps.length c2) ps.length (ps.map (Value.int .i64)) from HOV.out).lt k hk).1)
        have HO1 := Lib.hid (NumOwn.more hown1)
        have HL2 := Lib.hid (show ps.length + 1 = i + 1 by rw [HL.out])
        go_roundw
        case rel => exact ⟨i + 1, by omega, by go_num, by rw [HP.out]; exact HO1.out, R1⟩
        case measure => simp [RowKit.intOf]; omega
      · obtain rfl : i = os.length := by omega
        rw [List.take_length] at hown
        obtain ⟨A2, c2, rfl⟩ := hown.slice
        have HOwn := Lib.hid hown
        have hpl := prices_len os
        have hv2 := HV.out
        unfold rk at hv2
        have hne : prices os ≠ [] := fun e => by rw [e] at hpl; simp at hpl; omega
        obtain ⟨g, rfl, hb, hgl, hh⟩ := NumOwn.some9 HOwn.out rfl hne
        have HSt := Lib.hid (fun (os' : Array Obj) (m : Nat) => sorted_row (n := m) os' hRw hb hgl hh)
        have HSort := Lib.hid (Tryz.slices_Sort_int g 0 c2 (prices os) wr hh hgl (by rw [hpl]; omega))
        have HV2 := Lib.hid hv2
        have hN2 : n < (prices os).length := by omega
        have hN3 : (n : Int) < ((prices os).length : Int) := by omega
        clear hv2 hh hRw HOwn hown hpl hne
        go_wp2_with (first
          | (go_at_call 67; (with_reducible refine HSort.out.mono ?_); rintro e w1 ⟨rfl, m, os', rfl⟩; have R1 := Lib.hid (HSt.out os' m).1; have cv := (HSt.out os' m).2 n v HV2.out; obtain ⟨w1, hw1⟩ : ∃ w1, Sort.grow (Sort.putRow (Value.int .i64) (Sort.ahead wr m) g 0 ((prices os).mergeSort fun x y => decide (x ≤ y)).toArray) os' = w1 := ⟨_, rfl⟩; rw [hw1] at R1 cv ⊢; clear hw1)
          | (go_at_call 38; (with_reducible refine (vamount_any v _ _ R1.out.self).mono ?_); rintro e w3 ⟨rfl, h3⟩; have R3 := Lib.hid h3; obtain ⟨⟨d0, d1⟩, e0, e1⟩ := (HT.out.rel (R1.out.trans h3)).two))
        exact bodyPost_ret (v := TV (some v)) (by simp [results, Tryz.results50, go_sem, d0, d1]) rfl ⟨rfl, ((((HR.out.trans HA.out).trans R1.out).trans R3.out).setCell hz _).setCell hz _⟩
end Go.Proofs.YtpehlldgnbajjaaGreatDoor
