/- What the landed package lex tells of bytes, words and names; The landed parser: the end, a number, a name; what begins; A load taken first, more: two operations that may come up; what stands behind all that waits for the load. -/
import Derived.Test.YtoajbbcjmalngaaZ12
import Derived.Test.YtoajbbcjmalngaaZ13
import Derived.Test.YtoajbbcjmalngaaZ09
import Derived.Test.YtoajbbcjmalngaaZ04
import Derived.RegionTactic
namespace Go.Proofs.Ytoajbbcjmalngaa
open Go.RowKit Go.Lib
set_option linter.unusedVariables false
set_option linter.unusedSimpArgs false

theorem lletter_any (c : UInt8) (w : World) : Calls Try.prog 71 #[.int .u8 (c.toNat : Int)] w fun e w' => e = .returned (.bool (isL c)) ∧ w = w' := by
  by_cases h1 : 97 ≤ c.toNat <;> by_cases h2 : c.toNat ≤ 122
  all_goals
    go_enter Try.func71, Try.ntmps71
    go_wp2
    all_goals
      go_ret
      exact ⟨ret_bool (Bool.eq_iff_iff.2 (by simp [isL]; omega)), rfl⟩
theorem ldigit_any (c : UInt8) (w : World) : Calls Try.prog 72 #[.int .u8 (c.toNat : Int)] w fun e w' => e = .returned (.bool (isD c)) ∧ w = w' := by
  by_cases h1 : 48 ≤ c.toNat <;> by_cases h2 : c.toNat ≤ 57
  all_goals
    go_enter Try.func72, Try.ntmps72
    go_wp2
    all_goals
      go_ret
      exact ⟨ret_bool (Bool.eq_iff_iff.2 (by simp [isD]; omega)), rfl⟩
theorem pt_bytes (c : UInt8) : isPt c = (isL c || isD c || ((c.toNat : Int) == 46)) := by
  rw [byte_eq (d := 46) 46 rfl]; rfl
theorem lpart_any (c : UInt8) (w : World) : Calls Try.prog 66 #[.int .u8 (c.toNat : Int)] w fun e w' => e = .returned (.bool (isPt c)) ∧ w = w' := by
  have hp := pt_bytes c
  cases hl : isL c <;> cases hd : isD c <;> cases h3 : ((c.toNat : Int) == 46)
  all_goals
    rw [hl, hd, h3] at hp
    have HP := Lib.hid hp
    have HL := Lib.hid hl
    have HD := Lib.hid hd
    clear hp hl hd
    go_enter Try.func66, Try.ntmps66
    go_wp2_with (first
      | (go_at_call 71; (with_reducible refine (bool_at _ (lletter_any c _) HL).mono ?_); rintro e w' ⟨rfl, rfl⟩)
      | (go_at_call 72; (with_reducible refine (bool_at _ (ldigit_any c _) HD).mono ?_); rintro e w' ⟨rfl, rfl⟩))
    go_ret
    exact ⟨ret_bool HP.out.symm, rfl⟩
theorem lsign_any (c : UInt8) (w : World) : Calls Try.prog 61 #[.int .u8 (c.toNat : Int)] w fun e w' => e = .returned (.bool (isSg c)) ∧ w = w' := by
  have hp := sg_bytes c
  cases h1 : ((c.toNat : Int) == 40) <;> cases h2 : ((c.toNat : Int) == 41) <;> cases h3 : ((c.toNat : Int) == 44)
  all_goals
    rw [h1, h2, h3] at hp
    have HP := Lib.hid hp
    clear hp
    go_enter Try.func61, Try.ntmps61
    go_wp2_with (fail)
    go_ret
    exact ⟨ret_bool HP.out.symm, rfl⟩
theorem lblank_any (c : UInt8) (w : World) : Calls Try.prog 46 #[.int .u8 (c.toNat : Int)] w fun e w' => e = .returned (.bool (isBl c)) ∧ w = w' := by
  have hp := bl_bytes c
  cases h1 : ((c.toNat : Int) == 32) <;> cases h2 : ((c.toNat : Int) == 10)
  all_goals
    rw [h1, h2] at hp
    have HP := Lib.hid hp
    clear hp
    go_enter Try.func46, Try.ntmps46
    go_wp2_with (fail)
    go_ret
    exact ⟨ret_bool HP.out.symm, rfl⟩
theorem lit_eq {s : ByteArray} {l : List UInt8} (h : B l = s) : (s.toList == l) = true := by have := list_of.2 h.symm; rwa [B_toList] at this
theorem lit_ne {s : ByteArray} {l : List UInt8} (h : ¬ B l = s) : (s.toList == l) = false := by have := list_ne (fun e => h e.symm); rwa [B_toList] at this
theorem word_ways (s : ByteArray) :
    ((s.toList == [108, 111, 119, 101, 115, 116]) = true ∧ isWord s.data.toList = true) ∨
    ((s.toList == [108, 111, 119, 101, 115, 116]) = false ∧ (s.toList == [115, 101, 99, 111, 110, 100]) = true ∧ isWord s.data.toList = true) ∨
    ((s.toList == [108, 111, 119, 101, 115, 116]) = false ∧ (s.toList == [115, 101, 99, 111, 110, 100]) = false ∧ (s.toList == [102, 114, 111, 109]) = true ∧ isWord s.data.toList = true) ∨
    ((s.toList == [108, 111, 119, 101, 115, 116]) = false ∧ (s.toList == [115, 101, 99, 111, 110, 100]) = false ∧ (s.toList == [102, 114, 111, 109]) = false ∧ (s.toList == [108, 101, 115, 115]) = true ∧ isWord s.data.toList = true) ∨
    ((s.toList == [108, 111, 119, 101, 115, 116]) = false ∧ (s.toList == [115, 101, 99, 111, 110, 100]) = false ∧ (s.toList == [102, 114, 111, 109]) = false ∧ (s.toList == [108, 101, 115, 115]) = false ∧ (s.toList == [99, 117, 116]) = true ∧ isWord s.data.toList = true) ∨
    ((s.toList == [108, 111, 119, 101, 115, 116]) = false ∧ (s.toList == [115, 101, 99, 111, 110, 100]) = false ∧ (s.toList == [102, 114, 111, 109]) = false ∧ (s.toList == [108, 101, 115, 115]) = false ∧ (s.toList == [99, 117, 116]) = false ∧ (s.toList == [109, 105, 110]) = true ∧ isWord s.data.toList = true) ∨
    ((s.toList == [108, 111, 119, 101, 115, 116]) = false ∧ (s.toList == [115, 101, 99, 111, 110, 100]) = false ∧ (s.toList == [102, 114, 111, 109]) = false ∧ (s.toList == [108, 101, 115, 115]) = false ∧ (s.toList == [99, 117, 116]) = false ∧ (s.toList == [109, 105, 110]) = false ∧ (s.toList == [109, 97, 120]) = true ∧ isWord s.data.toList = true) ∨
    ((s.toList == [108, 111, 119, 101, 115, 116]) = false ∧ (s.toList == [115, 101, 99, 111, 110, 100]) = false ∧ (s.toList == [102, 114, 111, 109]) = false ∧ (s.toList == [108, 101, 115, 115]) = false ∧ (s.toList == [99, 117, 116]) = false ∧ (s.toList == [109, 105, 110]) = false ∧ (s.toList == [109, 97, 120]) = false ∧ (s.toList == [101, 108, 115, 101]) = true ∧ isWord s.data.toList = true) ∨
    ((s.toList == [108, 111, 119, 101, 115, 116]) = false ∧ (s.toList == [115, 101, 99, 111, 110, 100]) = false ∧ (s.toList == [102, 114, 111, 109]) = false ∧ (s.toList == [108, 101, 115, 115]) = false ∧ (s.toList == [99, 117, 116]) = false ∧ (s.toList == [109, 105, 110]) = false ∧ (s.toList == [109, 97, 120]) = false ∧ (s.toList == [101, 108, 115, 101]) = false ∧ (s.toList == [105, 102]) = true ∧ isWord s.data.toList = true) ∨
    ((s.toList == [108, 111, 119, 101, 115, 116]) = false ∧ (s.toList == [115, 101, 99, 111, 110, 100]) = false ∧ (s.toList == [102, 114, 111, 109]) = false ∧ (s.toList == [108, 101, 115, 115]) = false ∧ (s.toList == [99, 117, 116]) = false ∧ (s.toList == [109, 105, 110]) = false ∧ (s.toList == [109, 97, 120]) = false ∧ (s.toList == [101, 108, 115, 101]) = false ∧ (s.toList == [105, 102]) = false ∧ (s.toList == [109, 111, 114, 101]) = true ∧ isWord s.data.toList = true) ∨
    ((s.toList == [108, 111, 119, 101, 115, 116]) = false ∧ (s.toList == [115, 101, 99, 111, 110, 100]) = false ∧ (s.toList == [102, 114, 111, 109]) = false ∧ (s.toList == [108, 101, 115, 115]) = false ∧ (s.toList == [99, 117, 116]) = false ∧ (s.toList == [109, 105, 110]) = false ∧ (s.toList == [109, 97, 120]) = false ∧ (s.toList == [101, 108, 115, 101]) = false ∧ (s.toList == [105, 102]) = false ∧ (s.toList == [109, 111, 114, 101]) = false ∧ (s.toList == [97, 98, 111, 118, 101]) = true ∧ isWord s.data.toList = true) ∨
    ((s.toList == [108, 111, 119, 101, 115, 116]) = false ∧ (s.toList == [115, 101, 99, 111, 110, 100]) = false ∧ (s.toList == [102, 114, 111, 109]) = false ∧ (s.toList == [108, 101, 115, 115]) = false ∧ (s.toList == [99, 117, 116]) = false ∧ (s.toList == [109, 105, 110]) = false ∧ (s.toList == [109, 97, 120]) = false ∧ (s.toList == [101, 108, 115, 101]) = false ∧ (s.toList == [105, 102]) = false ∧ (s.toList == [109, 111, 114, 101]) = false ∧ (s.toList == [97, 98, 111, 118, 101]) = false ∧ isWord s.data.toList = false) := by
  by_cases h0 : B [108, 111, 119, 101, 115, 116] = s
  · exact .inl ⟨lit_eq h0, word_yes (j := 0) (by omega) h0⟩
  by_cases h1 : B [115, 101, 99, 111, 110, 100] = s
  · exact .inr (.inl ⟨lit_ne h0, lit_eq h1, word_yes (j := 1) (by omega) h1⟩)
  by_cases h2 : B [102, 114, 111, 109] = s
  · exact .inr (.inr (.inl ⟨lit_ne h0, lit_ne h1, lit_eq h2, word_yes (j := 2) (by omega) h2⟩))
  by_cases h3 : B [108, 101, 115, 115] = s
  · exact .inr (.inr (.inr (.inl ⟨lit_ne h0, lit_ne h1, lit_ne h2, lit_eq h3, word_yes (j := 3) (by omega) h3⟩)))
  by_cases h4 : B [99, 117, 116] = s
  · exact .inr (.inr (.inr (.inr (.inl ⟨lit_ne h0, lit_ne h1, lit_ne h2, lit_ne h3, lit_eq h4, word_yes (j := 4) (by omega) h4⟩))))
  by_cases h5 : B [109, 105, 110] = s
  · exact .inr (.inr (.inr (.inr (.inr (.inl ⟨lit_ne h0, lit_ne h1, lit_ne h2, lit_ne h3, lit_ne h4, lit_eq h5, word_yes (j := 5) (by omega) h5⟩)))))
  by_cases h6 : B [109, 97, 120] = s
  · exact .inr (.inr (.inr (.inr (.inr (.inr (.inl ⟨lit_ne h0, lit_ne h1, lit_ne h2, lit_ne h3, lit_ne h4, lit_ne h5, lit_eq h6, word_yes (j := 6) (by omega) h6⟩))))))
  by_cases h7 : B [101, 108, 115, 101] = s
  · exact .inr (.inr (.inr (.inr (.inr (.inr (.inr (.inl ⟨lit_ne h0, lit_ne h1, lit_ne h2, lit_ne h3, lit_ne h4, lit_ne h5, lit_ne h6, lit_eq h7, word_yes (j := 7) (by omega) h7⟩)))))))
  by_cases h8 : B [105, 102] = s
  · exact .inr (.inr (.inr (.inr (.inr (.inr (.inr (.inr (.inl ⟨lit_ne h0, lit_ne h1, lit_ne h2, lit_ne h3, lit_ne h4, lit_ne h5, lit_ne h6, lit_ne h7, lit_eq h8, word_yes (j := 8) (by omega) h8⟩))))))))
  by_cases h9 : B [109, 111, 114, 101] = s
  · exact .inr (.inr (.inr (.inr (.inr (.inr (.inr (.inr (.inr (.inl ⟨lit_ne h0, lit_ne h1, lit_ne h2, lit_ne h3, lit_ne h4, lit_ne h5, lit_ne h6, lit_ne h7, lit_ne h8, lit_eq h9, word_yes (j := 9) (by omega) h9⟩)))))))))
  by_cases h10 : B [97, 98, 111, 118, 101] = s
  · exact .inr (.inr (.inr (.inr (.inr (.inr (.inr (.inr (.inr (.inr (.inl ⟨lit_ne h0, lit_ne h1, lit_ne h2, lit_ne h3, lit_ne h4, lit_ne h5, lit_ne h6, lit_ne h7, lit_ne h8, lit_ne h9, lit_eq h10, word_yes (j := 10) (by omega) h10⟩))))))))))
  exact .inr (.inr (.inr (.inr (.inr (.inr (.inr (.inr (.inr (.inr (.inr (⟨lit_ne h0, lit_ne h1, lit_ne h2, lit_ne h3, lit_ne h4, lit_ne h5, lit_ne h6, lit_ne h7, lit_ne h8, lit_ne h9, lit_ne h10, word_no (fun j hj => by
    rcases j with _|_|_|_|_|_|_|_|_|_|_|j
    · exact h0
    · exact h1
    · exact h2
    · exact h3
    · exact h4
    · exact h5
    · exact h6
    · exact h7
    · exact h8
    · exact h9
    · exact h10
    · omega)⟩)))))))))))
set_option maxHeartbeats 1000000 in
theorem lword_any (s : ByteArray) (w0 w : World) (hr : Rel w0 w) :
    Calls Try.prog 62 #[.string s] w fun e w' => e = .returned (.bool (isWord s.data.toList)) ∧ Rel w0 w' := by
  rcases word_ways s with ⟨k0, hw⟩ | ⟨k0, k1, hw⟩ | ⟨k0, k1, k2, hw⟩ | ⟨k0, k1, k2, k3, hw⟩ | ⟨k0, k1, k2, k3, k4, hw⟩ | ⟨k0, k1, k2, k3, k4, k5, hw⟩ | ⟨k0, k1, k2, k3, k4, k5, k6, hw⟩ | ⟨k0, k1, k2, k3, k4, k5, k6, k7, hw⟩ | ⟨k0, k1, k2, k3, k4, k5, k6, k7, k8, hw⟩ | ⟨k0, k1, k2, k3, k4, k5, k6, k7, k8, k9, hw⟩ | ⟨k0, k1, k2, k3, k4, k5, k6, k7, k8, k9, k10, hw⟩ | ⟨k0, k1, k2, k3, k4, k5, k6, k7, k8, k9, k10, hw⟩
  all_goals
    have HW := Lib.hid hw
    clear hw
    go_enter Try.func62, Try.ntmps62
    go_wp2_with (fail)
    go_ret
    exact ⟨ret_bool HW.out.symm, hr⟩
set_option maxHeartbeats 1000000 in
theorem lname_list (l : List UInt8) (hl : l.length ≤ 9223372036854775807) (w0 w : World) (hr : Rel w0 w) :
    Calls Try.prog 63 #[.string (B l)] w fun e w' => e = .returned (.bool (isName l)) ∧ Rel w0 w' := by
  cases l with
  | nil =>
    have HT := B_toList []
    go_enter Try.func63, Try.ntmps63
    go_wp2_with (fail)
    go_ret
    exact ⟨ret_bool rfl, hr⟩
  | cons c t =>
    have HT := B_toList (c :: t)
    have HB := B_cons_size c t
    have H0 := B_zero c t
    by_cases h12 : t.length + 1 ≤ 12
    · have z : ¬ (12 : Int) < (t.length : Int) + 1 := by omega
      cases hc : isL c
      · have HF := Lib.hid (show isName (c :: t) = false by rw [name_eq, hc]; simp)
        clear hl h12
        go_enter Try.func63, Try.ntmps63
        go_wp2_with (go_at_call 71; (with_reducible refine (bool_at false (lletter_any c _) (Lib.hid hc)).mono ?_); rintro e w' ⟨rfl, rfl⟩)
        go_ret
        exact ⟨ret_bool HF.out.symm, hr⟩
      · cases hw : isWord (c :: t)
        · have HC := Lib.hid hc
          have HWd := Lib.hid (show isWord (B (c :: t)).data.toList = false by rw [B_list]; exact hw)
          have HW0 := Lib.hid hw
          have HR := Lib.hid hr
          clear hw hc
          go_enter Try.func63, Try.ntmps63
          go_wp2_with (first
            | (go_at_call 71; (with_reducible refine (bool_at true (lletter_any c _) HC).mono ?_); rintro e w' ⟨rfl, rfl⟩)
            | (go_at_call 62; (with_reducible refine (bool_at false (lword_any _ _ _ hr.self) HWd).mono ?_); rintro e w1 ⟨rfl, h1⟩))
          go_loopw [3, 23] (fun _ i wr => ∃ j : Nat, j ≤ t.length + 1 ∧ i = .int .i64 j ∧ Hid (((c :: t).take j).all LD = true) ∧ wr = w1) (fun _ i _ => t.length + 1 - (RowKit.intOf i).toNat)
          case atStart => exact ⟨0, by omega, rfl, Lib.hid rfl, rfl⟩
          case round =>
            obtain ⟨j, hj, rfl, HA, rfl⟩ := hrel
            by_cases hlt : j < t.length + 1
            · have hlt' : j < (c :: t).length := by simpa using hlt
              obtain ⟨x, hx⟩ : ∃ x, x = (c :: t)[j] := ⟨_, rfl⟩
              have hg : ∀ h, (B (c :: t))[j]'h = x := fun h => by rw [hx]; rfl
              have HX := Lib.hid hx
              clear hx
              cases hL : isL x <;> cases hD : isD x
              · have HF := Lib.hid (show isName (c :: t) = false by rw [name_eq, all_bad j hlt' (by rw [← HX.out]; simp [LD, hL, hD])]; simp)
                have HL := Lib.hid hL
                have HD := Lib.hid hD
                clear hL hD
                go_wp2_with (first
                  | (go_at_call 71; (with_reducible refine (bool_at false (lletter_any x _) HL).mono ?_); rintro e w' ⟨rfl, rfl⟩)
                  | (go_at_call 72; (with_reducible refine (bool_at false (ldigit_any x _) HD).mono ?_); rintro e w' ⟨rfl, rfl⟩))
                go_ret
                exact ⟨ret_bool HF.out.symm, HR.out.trans h1⟩
              all_goals
                have HM := Lib.hid (all_more j hlt' HA.out (by rw [← HX.out]; simp [LD, hL, hD]))
                have HL := Lib.hid hL
                have HD := Lib.hid hD
                clear hL hD
                go_wp2_with (first
                  | (go_at_call 71; (with_reducible refine (bool_at _ (lletter_any x _) HL).mono ?_); rintro e w' ⟨rfl, rfl⟩)
                  | (go_at_call 72; (with_reducible refine (bool_at _ (ldigit_any x _) HD).mono ?_); rintro e w' ⟨rfl, rfl⟩))
                go_roundw
                case rel => exact ⟨j + 1, by omega, by go_num, HM, trivial⟩
                case measure => simp [RowKit.intOf]; omega
            · obtain rfl : j = t.length + 1 := by omega
              have HY := Lib.hid (show isName (c :: t) = true by
                have ha := HA.out
                rw [List.take_of_length_le (by simp)] at ha
                rw [name_eq, ha, HC.out, HW0.out, decide_eq_true h12]; rfl)
              go_wp2_with (fail)
              go_ret
              exact ⟨ret_bool HY.out.symm, HR.out.trans h1⟩
        · have HC := Lib.hid hc
          have HWd := Lib.hid (show isWord (B (c :: t)).data.toList = true by rw [B_list]; exact hw)
          have HF := Lib.hid (show isName (c :: t) = false by rw [name_eq, hw]; simp)
          clear hw hc
          go_enter Try.func63, Try.ntmps63
          go_wp2_with (first
            | (go_at_call 71; (with_reducible refine (bool_at true (lletter_any c _) HC).mono ?_); rintro e w' ⟨rfl, rfl⟩)
            | (go_at_call 62; (with_reducible refine (bool_at true (lword_any _ _ _ hr.self) HWd).mono ?_); rintro e w1 ⟨rfl, h1⟩))
          go_ret
          exact ⟨ret_bool HF.out.symm, hr.trans h1⟩
    · have HF := Lib.hid (show isName (c :: t) = false by rw [name_eq, decide_eq_false h12]; simp)
      have z : (12 : Int) < (t.length : Int) + 1 := by omega
      clear h12
      go_enter Try.func63, Try.ntmps63
      go_wp2_with (fail)
      go_ret
      exact ⟨ret_bool HF.out.symm, hr⟩
theorem lname_any (s : ByteArray) (hs : s.size ≤ 9223372036854775807) (w0 w : World) (hr : Rel w0 w) :
    Calls Try.prog 63 #[.string s] w fun e w' => e = .returned (.bool (isName s.data.toList)) ∧ Rel w0 w' := by
  have := lname_list s.data.toList (by simpa using hs) w0 w hr
  rwa [B_of] at this
end Go.Proofs.Ytoajbbcjmalngaa

namespace Go.Proofs.Ytoajbbcjmalngaa
open Go.RowKit Go.Lib
set_option linter.unusedVariables false
set_option linter.unusedSimpArgs false

set_option maxRecDepth 100000 in
set_option maxHeartbeats 2000000 in
theorem pend_yes (V : World) (g a : Nat) (ts : List Tok) (w : World) (h : StP V w g ts a) (hc : (hdT ts).1 = 5) :
    Calls Try.prog 35 #[.pointer (some ⟨g, 0, none⟩)] w fun e w' => e = .returned (.tuple #[]) ∧ w.grownBy w' (some g) := by
  have HN := Lib.hid (pnext_any V g a ts w h)
  have HV := Lib.hid h.V
  obtain ⟨⟨k, x, n, p⟩, ht⟩ : ∃ t, hdT ts = t := ⟨_, rfl⟩
  rw [ht] at HN hc
  obtain rfl : k = 5 := hc
  clear h ht
  go_enter Try.func35, Try.ntmps35
  go_wp2_with (go_at_call 57; (with_reducible refine HN.out.mono ?_); rintro e w2 ⟨rfl, s2, g2, _⟩; have G2 := Lib.hid g2; clear s2 g2)
  go_end0
  exact ⟨rfl, grown_trans G2.out (grown_rel (some g) ((HV.out.1.grown G2.out (fun k e => by cases e; exact HV.out.2)).self.alloc _))⟩
set_option maxRecDepth 100000 in
set_option maxHeartbeats 2000000 in
theorem pend_not (V : World) (g a : Nat) (ts : List Tok) (w : World) (h : StP V w g ts a) (hc : (hdT ts).1 ≠ 5) :
    Calls Try.prog 35 #[.pointer (some ⟨g, 0, none⟩)] w fun e w' => e = FLT 80 (atT ts) ∧ w.grownBy w' (some g) := by
  have HN := Lib.hid (pnext_any V g a ts w h)
  have HV := Lib.hid h.V
  obtain ⟨t, ht⟩ : ∃ t, hdT ts = t := ⟨_, rfl⟩
  have HA := Lib.hid (show atT ts = t.2.2.2 by unfold atT; rw [ht])
  rw [ht] at HN hc
  have hb : (t.1 == 5) = false := by simpa using hc
  have hb' : (t.1 != 5) = true := by simpa using hc
  clear h ht hc
  go_enter Try.func35, Try.ntmps35
  go_wp2_with (first
    | (go_at_call 57; (with_reducible refine HN.out.mono ?_); rintro e w2 ⟨rfl, s2, g2, _⟩; have G2 := Lib.hid g2; clear s2 g2)
    | (go_at_call 56; (with_reducible refine (pwrong_any t _).mono ?_); rintro e w3 ⟨rfl, rfl⟩))
  exact ⟨rfl, by rw [HA.out], fail_grown G2.out V (HV.out.1.grown G2.out (fun k e => by cases e; exact HV.out.2)) _ _ _⟩
set_option maxRecDepth 100000 in
set_option maxHeartbeats 2000000 in
theorem pnum_yes (V : World) (g a : Nat) (ts : List Tok) (k m n : Int) (w : World) (h : StP V w g ts a) (hk : k ≠ 5) (hn : numP k m ts = .ok (n, ts.tail)) :
    Calls Try.prog 69 #[.pointer (some ⟨g, 0, none⟩), .int .i64 k, .int .i64 m] w fun e w' => e = .returned (.int .i64 n) ∧ StP V w' g ts.tail a ∧ w.grownBy w' (some g) := by
  have HN := Lib.hid (pnext_any V g a ts w h)
  have hq : (hdT ts).1 = k ∧ (hdT ts).2.2.1 ≤ m ∧ (hdT ts).2.2.1 = n := by
    unfold numP at hn
    split at hn
    · rename_i hh; injection hn with hn; injection hn with e _; exact ⟨hh.1, hh.2, e⟩
    · cases hn
  have HT := Lib.hid (h.fine.last (.inl (by rw [hq.1]; exact hk)))
  obtain ⟨⟨k', x, n', p⟩, ht⟩ : ∃ t, hdT ts = t := ⟨_, rfl⟩
  rw [ht] at HN hq
  obtain ⟨q1, q2, q3⟩ := hq
  obtain rfl : k' = k := q1
  obtain rfl : n' = n := q3
  have hb : decide (m < n') = false := by simpa using q2
  clear h ht hn hk q2
  go_enter Try.func69, Try.ntmps69
  go_wp2_with (go_at_call 57; (with_reducible refine HN.out.mono ?_); rintro e w2 ⟨rfl, s2, g2, _⟩; have S2 := Lib.hid s2; have G2 := Lib.hid g2; clear s2 g2)
  go_ret
  have R := (S2.out HT.out).V.1.self.alloc (.cells #[.int .i64 k', .string (B x), .int .i64 n', .int .i64 p] 56)
  exact ⟨rfl, (S2.out HT.out).rel R, grown_trans G2.out (grown_rel (some g) R)⟩
set_option maxRecDepth 100000 in
set_option maxHeartbeats 2000000 in
theorem pnum_not (V : World) (g a : Nat) (ts : List Tok) (k m : Int) (w : World) (h : StP V w g ts a) (hn : numP k m ts = .error (80, atT ts)) :
    Calls Try.prog 69 #[.pointer (some ⟨g, 0, none⟩), .int .i64 k, .int .i64 m] w fun e w' => e = FLT 80 (atT ts) ∧ w.grownBy w' (some g) := by
  have HN := Lib.hid (pnext_any V g a ts w h)
  have HV := Lib.hid h.V
  have hq : (hdT ts).1 ≠ k ∨ ((hdT ts).1 = k ∧ m < (hdT ts).2.2.1) := by
    unfold numP at hn
    split at hn
    · cases hn
    · rename_i hh
      by_cases e : (hdT ts).1 = k
      · exact .inr ⟨e, by have := fun h' => hh ⟨e, h'⟩; omega⟩
      · exact .inl e
  obtain ⟨t, ht⟩ : ∃ t, hdT ts = t := ⟨_, rfl⟩
  have HA := Lib.hid (show atT ts = t.2.2.2 by unfold atT; rw [ht])
  rw [ht] at HN hq
  clear h ht hn
  rcases hq with hq | ⟨hq, hm⟩
  · have hb : (t.1 == k) = false := by simpa using hq
    have hb' : (t.1 != k) = true := by simpa using hq
    clear hq
    go_enter Try.func69, Try.ntmps69
    go_wp2_with (first
      | (go_at_call 57; (with_reducible refine HN.out.mono ?_); rintro e w2 ⟨rfl, s2, g2, _⟩; have G2 := Lib.hid g2; clear s2 g2)
      | (go_at_call 56; (with_reducible refine (pwrong_any t _).mono ?_); rintro e w3 ⟨rfl, rfl⟩))
    exact ⟨rfl, by rw [HA.out], fail_grown G2.out V (HV.out.1.grown G2.out (fun k e => by cases e; exact HV.out.2)) _ _ _⟩
  · obtain ⟨k', x, n', p⟩ := t
    obtain rfl : k' = k := hq
    have hb : decide (m < n') = true := by simpa using hm
    clear hm
    go_enter Try.func69, Try.ntmps69
    go_wp2_with (first
      | (go_at_call 57; (with_reducible refine HN.out.mono ?_); rintro e w2 ⟨rfl, s2, g2, _⟩; have G2 := Lib.hid g2; clear s2 g2)
      | (go_at_call 56; (with_reducible refine (pwrong_any (k', x, n', p) _).mono ?_); rintro e w3 ⟨rfl, rfl⟩))
    exact ⟨rfl, by rw [HA.out], fail_grown G2.out V (HV.out.1.grown G2.out (fun k e => by cases e; exact HV.out.2)) _ _ _⟩
set_option maxRecDepth 100000 in
set_option maxHeartbeats 2000000 in
/-- What an expression or a condition begins with, taken: there is room for it. -/
theorem pbegin_yes (V : World) (g a : Nat) (ts : List Tok) (w : World) (h : StP V w g ts a) (ha : a < 32) :
    Calls Try.prog 49 #[.pointer (some ⟨g, 0, none⟩)] w fun e w' => e = .returned (TK (hdT ts)) ∧ (ts.tail ≠ [] → StP V w' g ts.tail a) ∧ w.grownBy w' (some g) := by
  have hA := h.V.1.self.alloc (.cells #[.int .i64 0, .string ⟨#[]⟩, .int .i64 0, .int .i64 0] 56)
  have HN := Lib.hid (pnext_any V g a ts _ (h.rel hA))
  have HA := Lib.hid hA
  have HV := Lib.hid h.V
  have hgl := h.lt
  have HX := Lib.hid (Bk.new w 56 #[.int .i64 0, .string ⟨#[]⟩, .int .i64 0, .int .i64 0])
  obtain ⟨t, ht⟩ : ∃ t, hdT ts = t := ⟨_, rfl⟩
  rw [ht] at HN ⊢
  have hb : decide (32 ≤ (a : Int)) = false := by simp; omega
  clear h ht hA
  go_enter Try.func49, Try.ntmps49
  go_wp2_with (go_at_call 57; (with_reducible refine HN.out.mono ?_); rintro e w2 ⟨rfl, s2, g2, S, b2⟩; have S2 := Lib.hid s2; have G2 := Lib.hid g2; have X2 := HX.out.grown g2 (fun e => by injection e; omega); obtain ⟨⟨_, c1⟩, _⟩ := b2.two; obtain ⟨⟨d0, d1, d2, d3⟩, u0, u1, u2, u3⟩ := X2.four; have hz2 := g2.size; simp only [World.size_alloc] at hz2; have hgl2 : g < w2.heap.size := (by omega); have hgl3 : w.heap.size < w2.heap.size := (by omega); have HX2 := Lib.hid X2; clear s2 g2 X2)
  have gp := put4_grown w2 w.heap.size (.int .i64 t.1) (.string (B t.2.1)) (.int .i64 t.2.2.1) (.int .i64 t.2.2.2)
  have RV := (HV.out.1.trans HA.out).grown G2.out (fun k e => by cases e; exact HV.out.2)
  have RP := RV.grown gp (fun k e => by cases e; exact HV.out.1.size)
  have R := RP.self.alloc (.cells #[.int .i64 t.1, .string (B t.2.1), .int .i64 t.2.2.1, .int .i64 t.2.2.2] 56)
  obtain ⟨⟨y0, y1, y2, y3⟩, _⟩ := ((HX2.out.put4 (.int .i64 t.1) (.string (B t.2.1)) (.int .i64 t.2.2.1) (.int .i64 t.2.2.2)).rel R).four
  obtain ⟨W, hW⟩ : ∃ W, (((((w2.setCell ⟨w.heap.size, 0, none⟩ (.int .i64 t.1)).setCell ⟨w.heap.size, 1, none⟩ (.string (B t.2.1))).setCell ⟨w.heap.size, 2, none⟩ (.int .i64 t.2.2.1)).setCell ⟨w.heap.size, 3, none⟩ (.int .i64 t.2.2.2)).alloc (.cells #[.int .i64 t.1, .string (B t.2.1), .int .i64 t.2.2.1, .int .i64 t.2.2.2] 56)) = W := ⟨_, rfl⟩
  rw [hW] at y0 y1 y2 y3 R ⊢
  refine bodyPost_ret (v := TK t) (by simp [results, Try.results49, go_sem, y0, y1, y2, y3]) rfl ⟨rfl, fun hn => ?_, ?_⟩
  · exact ((S2.out hn).grown gp (fun e => by injection e; omega) (fun k e => by cases e; exact HV.out.1.size)).rel R
  · exact grown_of (grown_of (grown_trans (grown_rel (some g) HA.out) G2.out) gp (fun k e => by cases e; exact Nat.le_refl _)) (grown_rel none R) (fun k e => by cases e)
set_option maxRecDepth 100000 in
set_option maxHeartbeats 2000000 in
/-- There is none. -/
theorem pbegin_not (V : World) (g a : Nat) (ts : List Tok) (w : World) (h : StP V w g ts a) (ha : 32 ≤ a) :
    Calls Try.prog 49 #[.pointer (some ⟨g, 0, none⟩)] w fun e w' => e = FLT 81 (atT ts) ∧ w.grownBy w' (some g) := by
  have hA := h.V.1.self.alloc (.cells #[.int .i64 0, .string ⟨#[]⟩, .int .i64 0, .int .i64 0] 56)
  have HN := Lib.hid (pnext_any V g a ts _ (h.rel hA))
  have HA := Lib.hid hA
  have HV := Lib.hid h.V
  have hgl := h.lt
  obtain ⟨t, ht⟩ : ∃ t, hdT ts = t := ⟨_, rfl⟩
  have HAt := Lib.hid (show atT ts = t.2.2.2 by unfold atT; rw [ht])
  rw [ht] at HN
  have hb : decide (32 ≤ (a : Int)) = true := by simp; omega
  clear h ht hA
  go_enter Try.func49, Try.ntmps49
  go_wp2_with (go_at_call 57; (with_reducible refine HN.out.mono ?_); rintro e w2 ⟨rfl, s2, g2, S, b2⟩; have G2 := Lib.hid g2; obtain ⟨⟨_, c1⟩, _⟩ := b2.two; have hz2 := g2.size; simp only [World.size_alloc] at hz2; have hgl2 : g < w2.heap.size := (by omega); clear s2 g2)
  have RV := (HV.out.1.trans HA.out).grown G2.out (fun k e => by cases e; exact HV.out.2)
  exact ⟨rfl, by rw [HAt.out], grown_trans (grown_trans (grown_rel (some g) HA.out) G2.out) (grown_rel (some g) (RV.self.alloc _))⟩
end Go.Proofs.Ytoajbbcjmalngaa

namespace Go.Proofs.Ytoajbbcjmalngaa
open Go
set_option linter.unusedVariables false
set_option linter.unusedSimpArgs false
section
variable {P : Program} {ops : Array Oper} {Q : Exit → Act → World → Prop} {md : Region.Mode} {S : World → Prop}

/-- Two operations may come up: neither waits for i, so S is shown behind each. -/
theorem till_two {i j k : Nat} {o o' : Oper} {fuel : Nat} {listed : Array Bool} {a : Act} {w : World} (hr : Region.ready md ops listed = [j, k]) (ho : ops[j]? = some o) (ho' : ops[k]? = some o')
    (h : ∀ K' : Act → World → Prop, Shut (∀ a w, S w → wpTill P md ops Q S i fuel (listed.setIfInBounds j true) a w → K' a w) → if Region.wanted o (yielded ops a.tmps) = true then Oper.wp P o a w K' Q else K' (a.put o.dst undef) w)
    (h' : ∀ K' : Act → World → Prop, Shut (∀ a w, S w → wpTill P md ops Q S i fuel (listed.setIfInBounds k true) a w → K' a w) → if Region.wanted o' (yielded ops a.tmps) = true then Oper.wp P o' a w K' Q else K' (a.put o'.dst undef) w) : wpTill P md ops Q S i (fuel + 1) listed a w :=
  ⟨(fun h0 => by rw [hr] at h0; cases h0), fun q hq => by
    rw [hr] at hq
    rcases List.mem_cons.1 hq with rfl | hq
    · exact wpOp_step ho (fun K' hK => h K' (fun a w hS hW => hK a w ⟨fun _ => hS, hW⟩))
    · rw [List.mem_singleton] at hq; subst hq
      exact wpOp_step ho' (fun K' hK => h' K' (fun a w hS hW => hK a w ⟨fun _ => hS, hW⟩))⟩
/-- What asks nothing of the world, and waits for i, is taken first. -/
theorem till_quiet {q i : Nat} {oi : Oper} {v : Value} (hi : ops[q]? = some oi) (hsel : ∀ (j : Nat) (o : Oper) cs b, ops[j]? = some o → o.op ≠ .select cs b)
    (hQ : ∀ c a w, Q (.panic c) (a.put oi.dst v) w → Q (.panic c) a w) (hwq : waitsB md ops q i = true) :
    ∀ (fuel : Nat) (listed : Array Bool) (a : Act) (w : World),
      (∀ j oj, ops[j]? = some oj → j ≠ q → listed.getD j true = false → (∀ e ∈ oj.after, Region.binds md e = true → e.on ≠ q) → oi.apart ops oj = true) →
      q ∈ Region.ready md ops listed → YieldsIf P ops (fun _ => True) oi v a →
      wpTill P md ops Q S i fuel (listed.setIfInBounds q true) (a.put oi.dst v) w → wpTill P md ops Q S i (fuel + 1) listed a w := by
  intro fuel
  induction fuel with
  | zero =>
    intro listed a w hap hir hy h
    refine ⟨(fun e => by rw [e] at hir; cases hir), fun j hj => ?_⟩
    by_cases hji : j = q
    · subst hji; exact hy.wpOp hi trivial ⟨(fun e => by rw [hwq] at e; cases e), h⟩
    · have := ready_set hj hji
      rw [h.1] at this; cases this
  | succ f ih =>
    intro listed a w hap hir hy h
    refine ⟨(fun e => by rw [e] at hir; cases hir), fun j hj => ?_⟩
    by_cases hji : j = q
    · subst hji; exact hy.wpOp hi trivial ⟨(fun e => by rw [hwq] at e; cases e), h⟩
    · have hw := ready_waits hir hj
      obtain ⟨_, hjl, oj, hoj, hjw⟩ := ready_iff.1 hj
      have hnot : ∀ e ∈ oj.after, Region.binds md e = true → e.on ≠ q := by
        intro e he hb hc
        unfold waitsB at hw
        rw [hoj] at hw
        simp only [Option.map_some, Option.getD_some] at hw
        rw [Array.any_eq_false'] at hw
        exact hw e he (by simp [hb, hc])
      have h1 := wpOp_putIf hoj (hap j oj hoj hji hjl hnot) (fun cs b => hsel q oi cs b hi) (fun cs b => hsel j oj cs b hoj) hQ hy (h.2 j (ready_set hj hji))
      refine wpOp_mono (fun a' w' h' => ?_) h1
      obtain ⟨hy', hS', ht⟩ := h'
      refine ⟨hS', ih (listed.setIfInBounds j true) a' w' (fun p oq hq hqi hql hqe => hap p oq hq hqi ?_ hqe) (ready_set hir (Ne.symm hji)) hy' ?_⟩
      · by_cases e : p = j
        · subst e; exact hjl
        · rw [set_get e] at hql; exact hql
      · rw [Array.setIfInBounds_comm _ _ (Ne.symm hji)] at ht
        exact ht
theorem till_move {q i : Nat} {oi : Oper} {v : Value} (d : Option Tmp) {fuel : Nat} {listed : Array Bool} {a : Act} {w : World} (hi : ops[q]? = some oi) (hd : oi.dst = d) (hwq : waitsB md ops q i = true)
    (hs : Region.noSelect ops = true) (hf : Region.free md ops listed q = true) (hr : (Region.ready md ops listed).contains q = true)
    (hQ : ∀ c a w, Q (.panic c) (a.put d v) w → Q (.panic c) a w) (hy : Yields P ops oi v a)
    (h : wpTill P md ops Q S i fuel (listed.setIfInBounds q true) (a.put d v) w) : wpTill P md ops Q S i (fuel + 1) listed a w := by
  subst hd
  exact till_quiet hi (Region.noSelect_spec hs) hQ hwq fuel listed a w (Region.free_spec hi hf) (by simpa using hr) hy.yieldsIf h
/-- All that is left waits for i: it is walked as any region. -/
theorem till_any {i : Nat} : ∀ (fuel : Nat) (listed : Array Bool) (a : Act) (w : World), (∀ j ∈ List.range ops.size, listed.getD j true = false → waitsB md ops j i = true) → wpAny P md ops Q fuel listed a w → wpTill P md ops Q S i fuel listed a w
  | 0, _, _, _, _, h => h
  | fuel + 1, listed, a, w, hw, h => ⟨h.1, fun j hj => wpOp_mono (fun a' w' h' => by
      obtain ⟨h1, h2, _⟩ := ready_iff.1 hj
      refine ⟨fun e => ?_, till_any fuel _ a' w' (fun q hq hl => hw q hq ?_) h'⟩
      · rw [hw j (List.mem_range.2 h1) h2] at e
        cases e
      · by_cases e : q = j
        · subst e; exact h2
        · rw [set_get e] at hl; exact hl) (h.2 j hj)⟩
theorem till_rest {i fuel : Nat} {listed : Array Bool} {a : Act} {w : World} (hw : ((List.range ops.size).all fun j => listed.getD j true || waitsB md ops j i) = true) (h : wpAny P md ops Q fuel listed a w) : wpTill P md ops Q S i fuel listed a w :=
  till_any fuel listed a w (fun j hj hl => by
    have := List.all_eq_true.1 hw j hj
    rw [hl, Bool.false_or] at this
    exact this) h
theorem any_one {j : Nat} {o : Oper} {fuel : Nat} {listed : Array Bool} {a : Act} {w : World} (hr : Region.ready md ops listed = [j]) (ho : ops[j]? = some o)
    (h : ∀ K' : Act → World → Prop, Shut (∀ a w, wpAny P md ops Q fuel (listed.setIfInBounds j true) a w → K' a w) → if Region.wanted o (yielded ops a.tmps) = true then Oper.wp P o a w K' Q else K' (a.put o.dst undef) w) : wpAny P md ops Q (fuel + 1) listed a w :=
  ⟨(fun h0 => by rw [hr] at h0; cases h0), fun q hq => by rw [hr, List.mem_singleton] at hq; subst hq; exact wpOp_step ho (fun K' hK => h K' (fun a w hW => hK a w hW))⟩
theorem any_two {j k : Nat} {o o' : Oper} {fuel : Nat} {listed : Array Bool} {a : Act} {w : World} (hr : Region.ready md ops listed = [j, k]) (ho : ops[j]? = some o) (ho' : ops[k]? = some o')
    (h : ∀ K' : Act → World → Prop, Shut (∀ a w, wpAny P md ops Q fuel (listed.setIfInBounds j true) a w → K' a w) → if Region.wanted o (yielded ops a.tmps) = true then Oper.wp P o a w K' Q else K' (a.put o.dst undef) w)
    (h' : ∀ K' : Act → World → Prop, Shut (∀ a w, wpAny P md ops Q fuel (listed.setIfInBounds k true) a w → K' a w) → if Region.wanted o' (yielded ops a.tmps) = true then Oper.wp P o' a w K' Q else K' (a.put o'.dst undef) w) : wpAny P md ops Q (fuel + 1) listed a w :=
  ⟨(fun h0 => by rw [hr] at h0; cases h0), fun q hq => by
    rw [hr] at hq
    rcases List.mem_cons.1 hq with rfl | hq
    · exact wpOp_step ho (fun K' hK => h K' (fun a w hW => hK a w hW))
    · rw [List.mem_singleton] at hq; subst hq
      exact wpOp_step ho' (fun K' hK => h' K' (fun a w hW => hK a w hW))⟩
theorem any_done {listed : Array Bool} {a : Act} {w : World} (hr : Region.ready md ops listed = []) (h : Q .normal a w) : ∀ fuel, wpAny P md ops Q fuel listed a w
  | 0 => ⟨hr, h⟩
  | _ + 1 => ⟨fun _ => h, by rw [hr]; simp⟩
end
end Go.Proofs.Ytoajbbcjmalngaa
