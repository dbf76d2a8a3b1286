/- The document's own Word, Name and token. -/
import Derived.Test.YtfplhpkolcgpiaaZL
import Derived.Test.YtfplhpkolcgpiaaZ00
namespace Go.Proofs.Ytfplhpkolcgpiaa
open Go.RowKit Go.Lib
set_option linter.unusedVariables false
set_option linter.unusedSimpArgs false
theorem rletter_any (c : UInt8) (w : World) : Calls Try.prog 54 #[.int .u8 (c.toNat : Int)] w fun e w' => e = .returned (.bool (isL c)) ∧ w = w' := by
  by_cases h1 : 97 ≤ c.toNat <;> by_cases h2 : c.toNat ≤ 122
  all_goals
    go_enter Try.func54, Try.ntmps54
    go_wp2
    all_goals
      go_ret
      exact ⟨ret_bool (Bool.eq_iff_iff.2 (by simp [isL]; omega)), rfl⟩
theorem rdigit_any (c : UInt8) (w : World) : Calls Try.prog 56 #[.int .u8 (c.toNat : Int)] w fun e w' => e = .returned (.bool (isD c)) ∧ w = w' := by
  by_cases h1 : 48 ≤ c.toNat <;> by_cases h2 : c.toNat ≤ 57
  all_goals
    go_enter Try.func56, Try.ntmps56
    go_wp2
    all_goals
      go_ret
      exact ⟨ret_bool (Bool.eq_iff_iff.2 (by simp [isD]; omega)), rfl⟩
def wordCells : Array Value := (theWords.map fun l => Value.string (B l)).toArray
theorem word_cell {w : World} {g : Nat} (h : Bk w g 9 wordCells) (j : Nat) (hj : j < 11) : w.cell? ⟨g, j, none⟩ = some (.string (B (theWords.getD j []))) := by
  have hl : theWords.length = 11 := rfl
  rw [h.cell]
  unfold wordCells
  rw [List.getElem?_toArray, List.getElem?_map, List.getElem?_eq_getElem (by omega), List.getD_eq_getElem?_getD, List.getElem?_eq_getElem (by omega)]
  rfl
set_option maxHeartbeats 1000000 in
theorem rword_any (s : ByteArray) (w0 w : World) (hr : Rel w0 w) :
    Calls Try.prog 55 #[.string s] w fun e w' => e = .returned (.bool (isWord s.data.toList)) ∧ Rel w0 w' := by
  have HB := Lib.hid (show Bk (w.alloc (.cells wordCells 9)) w.heap.size 9 wordCells from Bk.new w _ _)
  have HR := Lib.hid (hr.alloc (.cells wordCells 9))
  go_enter Try.func55, Try.ntmps55
  go_wp2_with (fail)
  go_loopw [4] (fun i wr => ∃ j : Nat, j ≤ 11 ∧ i = .int .i64 j ∧ Hid (∀ k < j, B (theWords.getD k []) ≠ s) ∧ Hid (wr = w.alloc (.cells wordCells 9))) (fun i _ => 11 - (RowKit.intOf i).toNat)
  case atStart => exact ⟨0, by omega, rfl, Lib.hid (fun k hk => absurd hk (by omega)), Lib.hid rfl⟩
  case round =>
    obtain ⟨j, hj, rfl, HN, HW⟩ := hrel
    have hc := HB.out
    rw [← HW.out] at hc
    by_cases hlt : j < 11
    · have c := word_cell hc j hlt
      obtain ⟨X, hX⟩ : ∃ X, B (theWords.getD j []) = X := ⟨_, rfl⟩
      rw [hX] at c
      have HX := Lib.hid hX
      clear hX
      by_cases he : X = s
      · have HY := Lib.hid (word_yes hlt (HX.out.trans he))
        have k1 := list_of.2 he
        clear he hc
        go_wp2_with (fail)
        go_ret
        exact ⟨ret_bool HY.out.symm, by rw [HW.out]; exact HR.out⟩
      · have k1 := list_ne he
        have HN2 : Hid (∀ k < j + 1, B (theWords.getD k []) ≠ s) := Lib.hid (fun k hk => by
          rcases Nat.lt_or_ge k j with h | h
          · exact HN.out k h
          · obtain rfl : k = j := by omega
            rw [HX.out]; exact he)
        clear he hc
        go_wp2_with (fail)
        go_roundw
        case rel => exact ⟨j + 1, by omega, by go_num, HN2, HW⟩
        case measure => simp [RowKit.intOf]; omega
    · obtain rfl : j = 11 := by omega
      have HY := Lib.hid (word_no HN.out)
      clear hc
      go_wp2_with (fail)
      go_ret
      exact ⟨ret_bool HY.out.symm, by rw [HW.out]; exact HR.out⟩
set_option maxHeartbeats 1000000 in
theorem rname_list (l : List UInt8) (hl : l.length ≤ 9223372036854775807) (w0 w : World) (hr : Rel w0 w) :
    Calls Try.prog 34 #[.string (B l)] w fun e w' => e = .returned (.bool (isName l)) ∧ Rel w0 w' := by
  cases l with
  | nil =>
    have HT := B_toList []
    go_enter Try.func34, Try.ntmps34
    go_wp2_with (fail)
    go_ret
    exact ⟨ret_bool rfl, hr⟩
  | cons c t =>
    have HT := B_toList (c :: t)
    have HB := B_cons_size c t
    have H0 := B_zero c t
    by_cases h12 : t.length + 1 ≤ 12
    · have z : ¬ (12 : Int) < (t.length : Int) + 1 := by omega
      cases hc : isL c
      · have HF := Lib.hid (show isName (c :: t) = false by rw [name_eq, hc]; simp)
        clear hl h12
        go_enter Try.func34, Try.ntmps34
        go_wp2_with (go_at_call 54; (with_reducible refine (bool_at false (rletter_any c _) (Lib.hid hc)).mono ?_); rintro e w' ⟨rfl, rfl⟩)
        go_ret
        exact ⟨ret_bool HF.out.symm, hr⟩
      · cases hw : isWord (c :: t)
        · have HC := Lib.hid hc
          have HWd := Lib.hid (show isWord (B (c :: t)).data.toList = false by rw [B_list]; exact hw)
          have HW0 := Lib.hid hw
          have HR := Lib.hid hr
          clear hw hc
          go_enter Try.func34, Try.ntmps34
          go_wp2_with (first
            | (go_at_call 54; (with_reducible refine (bool_at true (rletter_any c _) HC).mono ?_); rintro e w' ⟨rfl, rfl⟩)
            | (go_at_call 55; (with_reducible refine (bool_at false (rword_any _ _ _ hr.self) HWd).mono ?_); rintro e w1 ⟨rfl, h1⟩))
          go_loopw [3] (fun i wr => ∃ j : Nat, j ≤ t.length + 1 ∧ i = .int .i64 j ∧ Hid (((c :: t).take j).all LD = true) ∧ wr = w1) (fun i _ => t.length + 1 - (RowKit.intOf i).toNat)
          case atStart => exact ⟨0, by omega, rfl, Lib.hid rfl, rfl⟩
          case round =>
            obtain ⟨j, hj, rfl, HA, rfl⟩ := hrel
            by_cases hlt : j < t.length + 1
            · have hlt' : j < (c :: t).length := by simpa using hlt
              obtain ⟨x, hx⟩ : ∃ x, x = (c :: t)[j] := ⟨_, rfl⟩
              have hg : ∀ h, (B (c :: t))[j]'h = x := fun h => by rw [hx]; rfl
              have HX := Lib.hid hx
              clear hx
              cases hL : isL x <;> cases hD : isD x
              · have HF := Lib.hid (show isName (c :: t) = false by rw [name_eq, all_bad j hlt' (by rw [← HX.out]; simp [LD, hL, hD])]; simp)
                have HL := Lib.hid hL
                have HD := Lib.hid hD
                clear hL hD
                go_wp2_with (first
                  | (go_at_call 54; (with_reducible refine (bool_at false (rletter_any x _) HL).mono ?_); rintro e w' ⟨rfl, rfl⟩)
                  | (go_at_call 56; (with_reducible refine (bool_at false (rdigit_any x _) HD).mono ?_); rintro e w' ⟨rfl, rfl⟩))
                go_ret
                exact ⟨ret_bool HF.out.symm, HR.out.trans h1⟩
              all_goals
                have HM := Lib.hid (all_more j hlt' HA.out (by rw [← HX.out]; simp [LD, hL, hD]))
                have HL := Lib.hid hL
                have HD := Lib.hid hD
                clear hL hD
                go_wp2_with (first
                  | (go_at_call 54; (with_reducible refine (bool_at _ (rletter_any x _) HL).mono ?_); rintro e w' ⟨rfl, rfl⟩)
                  | (go_at_call 56; (with_reducible refine (bool_at _ (rdigit_any x _) HD).mono ?_); rintro e w' ⟨rfl, rfl⟩))
                go_roundw
                case rel => exact ⟨j + 1, by omega, by go_num, HM, trivial⟩
                case measure => simp [RowKit.intOf]; omega
            · obtain rfl : j = t.length + 1 := by omega
              have HY := Lib.hid (show isName (c :: t) = true by
                have ha := HA.out
                rw [List.take_of_length_le (by simp)] at ha
                rw [name_eq, ha, HC.out, HW0.out, decide_eq_true h12]; rfl)
              go_wp2_with (fail)
              go_ret
              exact ⟨ret_bool HY.out.symm, HR.out.trans h1⟩
        · have HC := Lib.hid hc
          have HWd := Lib.hid (show isWord (B (c :: t)).data.toList = true by rw [B_list]; exact hw)
          have HF := Lib.hid (show isName (c :: t) = false by rw [name_eq, hw]; simp)
          clear hw hc
          go_enter Try.func34, Try.ntmps34
          go_wp2_with (first
            | (go_at_call 54; (with_reducible refine (bool_at true (rletter_any c _) HC).mono ?_); rintro e w' ⟨rfl, rfl⟩)
            | (go_at_call 55; (with_reducible refine (bool_at true (rword_any _ _ _ hr.self) HWd).mono ?_); rintro e w1 ⟨rfl, h1⟩))
          go_ret
          exact ⟨ret_bool HF.out.symm, hr.trans h1⟩
    · have HF := Lib.hid (show isName (c :: t) = false by rw [name_eq, decide_eq_false h12]; simp)
      have z : (12 : Int) < (t.length : Int) + 1 := by omega
      clear h12
      go_enter Try.func34, Try.ntmps34
      go_wp2_with (fail)
      go_ret
      exact ⟨ret_bool HF.out.symm, hr⟩
end Go.Proofs.Ytfplhpkolcgpiaa
