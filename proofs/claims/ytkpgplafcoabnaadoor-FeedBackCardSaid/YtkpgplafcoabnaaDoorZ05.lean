/- What the landed package lex tells of bytes, words and names; What the landed package lex tells of pieces. -/
import Derived.Test.YtkpgplafcoabnaaDoorZL
import Derived.Test.YtkpgplafcoabnaaDoorZ00
import Derived.Test.YtkpgplafcoabnaaDoorZ01
import Derived.Test.YtkpgplafcoabnaaDoorZ02
import Derived.Test.YtkpgplafcoabnaaDoorZ03
namespace Go.Proofs.YtkpgplafcoabnaaDoor
open Go.RowKit Go.Lib
set_option linter.unusedVariables false
set_option linter.unusedSimpArgs false
theorem lletter_any (c : UInt8) (w : World) : Calls Tryd.prog 62 #[.int .u8 (c.toNat : Int)] w fun e w' => e = .returned (.bool (isL c)) ∧ w = w' := by
  by_cases h1 : 97 ≤ c.toNat <;> by_cases h2 : c.toNat ≤ 122
  all_goals
    go_enter Tryd.func62, Tryd.ntmps62
    go_wp2
    all_goals
      go_ret
      exact ⟨ret_bool (Bool.eq_iff_iff.2 (by simp [isL]; omega)), rfl⟩
theorem ldigit_any (c : UInt8) (w : World) : Calls Tryd.prog 64 #[.int .u8 (c.toNat : Int)] w fun e w' => e = .returned (.bool (isD c)) ∧ w = w' := by
  by_cases h1 : 48 ≤ c.toNat <;> by_cases h2 : c.toNat ≤ 57
  all_goals
    go_enter Tryd.func64, Tryd.ntmps64
    go_wp2
    all_goals
      go_ret
      exact ⟨ret_bool (Bool.eq_iff_iff.2 (by simp [isD]; omega)), rfl⟩
theorem lit_eq {s : ByteArray} {l : List UInt8} (h : B l = s) : (s.toList == l) = true := by have := list_of.2 h.symm; rwa [B_toList] at this
theorem lit_ne {s : ByteArray} {l : List UInt8} (h : ¬ B l = s) : (s.toList == l) = false := by have := list_ne (fun e => h e.symm); rwa [B_toList] at this
theorem word_ways (s : ByteArray) :
    ((s.toList == [108, 111, 119, 101, 115, 116]) = true ∧ isWord s.data.toList = true) ∨
    ((s.toList == [108, 111, 119, 101, 115, 116]) = false ∧ (s.toList == [115, 101, 99, 111, 110, 100]) = true ∧ isWord s.data.toList = true) ∨
    ((s.toList == [108, 111, 119, 101, 115, 116]) = false ∧ (s.toList == [115, 101, 99, 111, 110, 100]) = false ∧ (s.toList == [102, 114, 111, 109]) = true ∧ isWord s.data.toList = true) ∨
    ((s.toList == [108, 111, 119, 101, 115, 116]) = false ∧ (s.toList == [115, 101, 99, 111, 110, 100]) = false ∧ (s.toList == [102, 114, 111, 109]) = false ∧ (s.toList == [108, 101, 115, 115]) = true ∧ isWord s.data.toList = true) ∨
    ((s.toList == [108, 111, 119, 101, 115, 116]) = false ∧ (s.toList == [115, 101, 99, 111, 110, 100]) = false ∧ (s.toList == [102, 114, 111, 109]) = false ∧ (s.toList == [108, 101, 115, 115]) = false ∧ (s.toList == [99, 117, 116]) = true ∧ isWord s.data.toList = true) ∨
    ((s.toList == [108, 111, 119, 101, 115, 116]) = false ∧ (s.toList == [115, 101, 99, 111, 110, 100]) = false ∧ (s.toList == [102, 114, 111, 109]) = false ∧ (s.toList == [108, 101, 115, 115]) = false ∧ (s.toList == [99, 117, 116]) = false ∧ (s.toList == [109, 105, 110]) = true ∧ isWord s.data.toList = true) ∨
    ((s.toList == [108, 111, 119, 101, 115, 116]) = false ∧ (s.toList == [115, 101, 99, 111, 110, 100]) = false ∧ (s.toList == [102, 114, 111, 109]) = false ∧ (s.toList == [108, 101, 115, 115]) = false ∧ (s.toList == [99, 117, 116]) = false ∧ (s.toList == [109, 105, 110]) = false ∧ (s.toList == [109, 97, 120]) = true ∧ isWord s.data.toList = true) ∨
    ((s.toList == [108, 111, 119, 101, 115, 116]) = false ∧ (s.toList == [115, 101, 99, 111, 110, 100]) = false ∧ (s.toList == [102, 114, 111, 109]) = false ∧ (s.toList == [108, 101, 115, 115]) = false ∧ (s.toList == [99, 117, 116]) = false ∧ (s.toList == [109, 105, 110]) = false ∧ (s.toList == [109, 97, 120]) = false ∧ (s.toList == [101, 108, 115, 101]) = true ∧ isWord s.data.toList = true) ∨
    ((s.toList == [108, 111, 119, 101, 115, 116]) = false ∧ (s.toList == [115, 101, 99, 111, 110, 100]) = false ∧ (s.toList == [102, 114, 111, 109]) = false ∧ (s.toList == [108, 101, 115, 115]) = false ∧ (s.toList == [99, 117, 116]) = false ∧ (s.toList == [109, 105, 110]) = false ∧ (s.toList == [109, 97, 120]) = false ∧ (s.toList == [101, 108, 115, 101]) = false ∧ (s.toList == [105, 102]) = true ∧ isWord s.data.toList = true) ∨
    ((s.toList == [108, 111, 119, 101, 115, 116]) = false ∧ (s.toList == [115, 101, 99, 111, 110, 100]) = false ∧ (s.toList == [102, 114, 111, 109]) = false ∧ (s.toList == [108, 101, 115, 115]) = false ∧ (s.toList == [99, 117, 116]) = false ∧ (s.toList == [109, 105, 110]) = false ∧ (s.toList == [109, 97, 120]) = false ∧ (s.toList == [101, 108, 115, 101]) = false ∧ (s.toList == [105, 102]) = false ∧ (s.toList == [109, 111, 114, 101]) = true ∧ isWord s.data.toList = true) ∨
    ((s.toList == [108, 111, 119, 101, 115, 116]) = false ∧ (s.toList == [115, 101, 99, 111, 110, 100]) = false ∧ (s.toList == [102, 114, 111, 109]) = false ∧ (s.toList == [108, 101, 115, 115]) = false ∧ (s.toList == [99, 117, 116]) = false ∧ (s.toList == [109, 105, 110]) = false ∧ (s.toList == [109, 97, 120]) = false ∧ (s.toList == [101, 108, 115, 101]) = false ∧ (s.toList == [105, 102]) = false ∧ (s.toList == [109, 111, 114, 101]) = false ∧ (s.toList == [97, 98, 111, 118, 101]) = true ∧ isWord s.data.toList = true) ∨
    ((s.toList == [108, 111, 119, 101, 115, 116]) = false ∧ (s.toList == [115, 101, 99, 111, 110, 100]) = false ∧ (s.toList == [102, 114, 111, 109]) = false ∧ (s.toList == [108, 101, 115, 115]) = false ∧ (s.toList == [99, 117, 116]) = false ∧ (s.toList == [109, 105, 110]) = false ∧ (s.toList == [109, 97, 120]) = false ∧ (s.toList == [101, 108, 115, 101]) = false ∧ (s.toList == [105, 102]) = false ∧ (s.toList == [109, 111, 114, 101]) = false ∧ (s.toList == [97, 98, 111, 118, 101]) = false ∧ isWord s.data.toList = false) := by
  by_cases h0 : B [108, 111, 119, 101, 115, 116] = s
  · exact .inl ⟨lit_eq h0, word_yes (j := 0) (by omega) h0⟩
  by_cases h1 : B [115, 101, 99, 111, 110, 100] = s
  · exact .inr (.inl ⟨lit_ne h0, lit_eq h1, word_yes (j := 1) (by omega) h1⟩)
  by_cases h2 : B [102, 114, 111, 109] = s
  · exact .inr (.inr (.inl ⟨lit_ne h0, lit_ne h1, lit_eq h2, word_yes (j := 2) (by omega) h2⟩))
  by_cases h3 : B [108, 101, 115, 115] = s
  · exact .inr (.inr (.inr (.inl ⟨lit_ne h0, lit_ne h1, lit_ne h2, lit_eq h3, word_yes (j := 3) (by omega) h3⟩)))
  by_cases h4 : B [99, 117, 116] = s
  · exact .inr (.inr (.inr (.inr (.inl ⟨lit_ne h0, lit_ne h1, lit_ne h2, lit_ne h3, lit_eq h4, word_yes (j := 4) (by omega) h4⟩))))
  by_cases h5 : B [109, 105, 110] = s
  · exact .inr (.inr (.inr (.inr (.inr (.inl ⟨lit_ne h0, lit_ne h1, lit_ne h2, lit_ne h3, lit_ne h4, lit_eq h5, word_yes (j := 5) (by omega) h5⟩)))))
  by_cases h6 : B [109, 97, 120] = s
  · exact .inr (.inr (.inr (.inr (.inr (.inr (.inl ⟨lit_ne h0, lit_ne h1, lit_ne h2, lit_ne h3, lit_ne h4, lit_ne h5, lit_eq h6, word_yes (j := 6) (by omega) h6⟩))))))
  by_cases h7 : B [101, 108, 115, 101] = s
  · exact .inr (.inr (.inr (.inr (.inr (.inr (.inr (.inl ⟨lit_ne h0, lit_ne h1, lit_ne h2, lit_ne h3, lit_ne h4, lit_ne h5, lit_ne h6, lit_eq h7, word_yes (j := 7) (by omega) h7⟩)))))))
  by_cases h8 : B [105, 102] = s
  · exact .inr (.inr (.inr (.inr (.inr (.inr (.inr (.inr (.inl ⟨lit_ne h0, lit_ne h1, lit_ne h2, lit_ne h3, lit_ne h4, lit_ne h5, lit_ne h6, lit_ne h7, lit_eq h8, word_yes (j := 8) (by omega) h8⟩))))))))
  by_cases h9 : B [109, 111, 114, 101] = s
  · exact .inr (.inr (.inr (.inr (.inr (.inr (.inr (.inr (.inr (.inl ⟨lit_ne h0, lit_ne h1, lit_ne h2, lit_ne h3, lit_ne h4, lit_ne h5, lit_ne h6, lit_ne h7, lit_ne h8, lit_eq h9, word_yes (j := 9) (by omega) h9⟩)))))))))
  by_cases h10 : B [97, 98, 111, 118, 101] = s
  · exact .inr (.inr (.inr (.inr (.inr (.inr (.inr (.inr (.inr (.inr (.inl ⟨lit_ne h0, lit_ne h1, lit_ne h2, lit_ne h3, lit_ne h4, lit_ne h5, lit_ne h6, lit_ne h7, lit_ne h8, lit_ne h9, lit_eq h10, word_yes (j := 10) (by omega) h10⟩))))))))))
  exact .inr (.inr (.inr (.inr (.inr (.inr (.inr (.inr (.inr (.inr (.inr (⟨lit_ne h0, lit_ne h1, lit_ne h2, lit_ne h3, lit_ne h4, lit_ne h5, lit_ne h6, lit_ne h7, lit_ne h8, lit_ne h9, lit_ne h10, word_no (fun j hj => by
    rcases j with _|_|_|_|_|_|_|_|_|_|_|j
    · exact h0
    · exact h1
    · exact h2
    · exact h3
    · exact h4
    · exact h5
    · exact h6
    · exact h7
    · exact h8
    · exact h9
    · exact h10
    · omega)⟩)))))))))))
set_option maxHeartbeats 1000000 in
theorem lword_any (s : ByteArray) (w0 w : World) (hr : Rel w0 w) :
    Calls Tryd.prog 63 #[.string s] w fun e w' => e = .returned (.bool (isWord s.data.toList)) ∧ Rel w0 w' := by
  rcases word_ways s with ⟨k0, hw⟩ | ⟨k0, k1, hw⟩ | ⟨k0, k1, k2, hw⟩ | ⟨k0, k1, k2, k3, hw⟩ | ⟨k0, k1, k2, k3, k4, hw⟩ | ⟨k0, k1, k2, k3, k4, k5, hw⟩ | ⟨k0, k1, k2, k3, k4, k5, k6, hw⟩ | ⟨k0, k1, k2, k3, k4, k5, k6, k7, hw⟩ | ⟨k0, k1, k2, k3, k4, k5, k6, k7, k8, hw⟩ | ⟨k0, k1, k2, k3, k4, k5, k6, k7, k8, k9, hw⟩ | ⟨k0, k1, k2, k3, k4, k5, k6, k7, k8, k9, k10, hw⟩ | ⟨k0, k1, k2, k3, k4, k5, k6, k7, k8, k9, k10, hw⟩
  all_goals
    have HW := Lib.hid hw
    clear hw
    go_enter Tryd.func63, Tryd.ntmps63
    go_wp2_with (fail)
    go_ret
    exact ⟨ret_bool HW.out.symm, hr⟩
set_option maxHeartbeats 1000000 in
theorem lname_list (l : List UInt8) (hl : l.length ≤ 9223372036854775807) (w0 w : World) (hr : Rel w0 w) :
    Calls Tryd.prog 50 #[.string (B l)] w fun e w' => e = .returned (.bool (isName l)) ∧ Rel w0 w' := by
  cases l with
  | nil =>
    have HT := B_toList []
    go_enter Tryd.func50, Tryd.ntmps50
    go_wp2_with (fail)
    go_ret
    exact ⟨ret_bool rfl, hr⟩
  | cons c t =>
    have HT := B_toList (c :: t)
    have HB := B_cons_size c t
    have H0 := B_zero c t
    by_cases h12 : t.length + 1 ≤ 12
    · have z : ¬ (12 : Int) < (t.length : Int) + 1 := by omega
      cases hc : isL c
      · have HF := Lib.hid (show isName (c :: t) = false by rw [name_eq, hc]; simp)
        clear hl h12
        go_enter Tryd.func50, Tryd.ntmps50
        go_wp2_with (go_at_call 62; (with_reducible refine (bool_at false (lletter_any c _) (Lib.hid hc)).mono ?_); rintro e w' ⟨rfl, rfl⟩)
        go_ret
        exact ⟨ret_bool HF.out.symm, hr⟩
      · cases hw : isWord (c :: t)
        · have HC := Lib.hid hc
          have HWd := Lib.hid (show isWord (B (c :: t)).data.toList = false by rw [B_list]; exact hw)
          have HW0 := Lib.hid hw
          have HR := Lib.hid hr
          clear hw hc
          go_enter Tryd.func50, Tryd.ntmps50
          go_wp2_with (first
            | (go_at_call 62; (with_reducible refine (bool_at true (lletter_any c _) HC).mono ?_); rintro e w' ⟨rfl, rfl⟩)
            | (go_at_call 63; (with_reducible refine (bool_at false (lword_any _ _ _ hr.self) HWd).mono ?_); rintro e w1 ⟨rfl, h1⟩))
          go_loopw [3, 23] (fun _ i wr => ∃ j : Nat, j ≤ t.length + 1 ∧ i = .int .i64 j ∧ Hid (((c :: t).take j).all LD = true) ∧ wr = w1) (fun _ i _ => t.length + 1 - (RowKit.intOf i).toNat)
          case atStart => exact ⟨0, by omega, rfl, Lib.hid rfl, rfl⟩
          case round =>
            obtain ⟨j, hj, rfl, HA, rfl⟩ := hrel
            by_cases hlt : j < t.length + 1
            · have hlt' : j < (c :: t).length := by simpa using hlt
              obtain ⟨x, hx⟩ : ∃ x, x = (c :: t)[j] := ⟨_, rfl⟩
              have hg : ∀ h, (B (c :: t))[j]'h = x := fun h => by rw [hx]; rfl
              have HX := Lib.hid hx
              clear hx
              cases hL : isL x <;> cases hD : isD x
              · have HF := Lib.hid (show isName (c :: t) = false by rw [name_eq, all_bad j hlt' (by rw [← HX.out]; simp [LD, hL, hD])]; simp)
                have HL := Lib.hid hL
                have HD := Lib.hid hD
                clear hL hD
                go_wp2_with (first
                  | (go_at_call 62; (with_reducible refine (bool_at false (lletter_any x _) HL).mono ?_); rintro e w' ⟨rfl, rfl⟩)
                  | (go_at_call 64; (with_reducible refine (bool_at false (ldigit_any x _) HD).mono ?_); rintro e w' ⟨rfl, rfl⟩))
                go_ret
                exact ⟨ret_bool HF.out.symm, HR.out.trans h1⟩
              all_goals
                have HM := Lib.hid (all_more j hlt' HA.out (by rw [← HX.out]; simp [LD, hL, hD]))
                have HL := Lib.hid hL
                have HD := Lib.hid hD
                clear hL hD
                go_wp2_with (first
                  | (go_at_call 62; (with_reducible refine (bool_at _ (lletter_any x _) HL).mono ?_); rintro e w' ⟨rfl, rfl⟩)
                  | (go_at_call 64; (with_reducible refine (bool_at _ (ldigit_any x _) HD).mono ?_); rintro e w' ⟨rfl, rfl⟩))
                go_roundw
                case rel => exact ⟨j + 1, by omega, by go_num, HM, trivial⟩
                case measure => simp [RowKit.intOf]; omega
            · obtain rfl : j = t.length + 1 := by omega
              have HY := Lib.hid (show isName (c :: t) = true by
                have ha := HA.out
                rw [List.take_of_length_le (by simp)] at ha
                rw [name_eq, ha, HC.out, HW0.out, decide_eq_true h12]; rfl)
              go_wp2_with (fail)
              go_ret
              exact ⟨ret_bool HY.out.symm, HR.out.trans h1⟩
        · have HC := Lib.hid hc
          have HWd := Lib.hid (show isWord (B (c :: t)).data.toList = true by rw [B_list]; exact hw)
          have HF := Lib.hid (show isName (c :: t) = false by rw [name_eq, hw]; simp)
          clear hw hc
          go_enter Tryd.func50, Tryd.ntmps50
          go_wp2_with (first
            | (go_at_call 62; (with_reducible refine (bool_at true (lletter_any c _) HC).mono ?_); rintro e w' ⟨rfl, rfl⟩)
            | (go_at_call 63; (with_reducible refine (bool_at true (lword_any _ _ _ hr.self) HWd).mono ?_); rintro e w1 ⟨rfl, h1⟩))
          go_ret
          exact ⟨ret_bool HF.out.symm, hr.trans h1⟩
    · have HF := Lib.hid (show isName (c :: t) = false by rw [name_eq, decide_eq_false h12]; simp)
      have z : (12 : Int) < (t.length : Int) + 1 := by omega
      clear h12
      go_enter Tryd.func50, Tryd.ntmps50
      go_wp2_with (fail)
      go_ret
      exact ⟨ret_bool HF.out.symm, hr⟩
end Go.Proofs.YtkpgplafcoabnaaDoor

namespace Go.Proofs.YtkpgplafcoabnaaDoor
open Go.RowKit Go.Lib
set_option linter.unusedVariables false
set_option linter.unusedSimpArgs false
theorem lclone_any (s : ByteArray) (hs : s.size ≤ 1000000000) (w0 w : World) (hr : Rel w0 w) : Calls Tryd.prog 46 #[.string s] w fun e w' => e = .returned (.string s) ∧ Rel w0 w' := by
  have hc := fun w => Tryd.stringslite_Clone s w (by omega)
  go_enter Tryd.func46, Tryd.ntmps46
  go_wp2_with (go_at_call 60; refine (hc _).mono ?_; rintro e w' ⟨rfl, hw⟩)
  go_ret
  exact ⟨rfl, hr.step hw⟩
end Go.Proofs.YtkpgplafcoabnaaDoor
