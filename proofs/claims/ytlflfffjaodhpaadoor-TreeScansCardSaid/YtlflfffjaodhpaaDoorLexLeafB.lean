/- What the landed package lex tells of pieces. -/
import Derived.Test.YtlflfffjaodhpaaDoorLexLeafA
namespace Go.Proofs.YtlflfffjaodhpaaDoor
open Go.RowKit Go.Lib
set_option linter.unusedVariables false
set_option linter.unusedSimpArgs false

theorem lclone_any (s : ByteArray) (hs : s.size ≤ 1000000000) (w0 w : World) (hr : Rel w0 w) : Calls Tryd.prog 73 #[.string s] w fun e w' => e = .returned (.string s) ∧ Rel w0 w' := by
  have hc := fun w => Tryd.stringslite_Clone s w (by omega)
  go_enter Tryd.func73, Tryd.ntmps73
  go_wp2_with (go_at_call 83; refine (hc _).mono ?_; rintro e w' ⟨rfl, hw⟩)
  go_ret
  exact ⟨rfl, hr.step hw⟩
theorem lclone_of (s t : ByteArray) (h : Hid (s = t)) (hs : t.size ≤ 1000000000) (w0 w : World) (hr : Rel w0 w) : Calls Tryd.prog 73 #[.string s] w fun e w' => e = .returned (.string t) ∧ Rel w0 w' := by
  rw [h.out]; exact lclone_any t hs w0 w hr
theorem run_list (l : List UInt8) (m : Nat) (hm : (l.takeWhile isPt).length = m) : m ≤ l.length ∧ (∀ j (h : j < (B l).size), j < m → isPt ((B l)[j]'h) = true) ∧ (∀ h : m < (B l).size, isPt ((B l)[m]'h) = false) := by
  obtain ⟨m', h1, h2, h3, _, h5, _⟩ := run_at (B l) 0 (by omega)
  rw [B_list, List.drop_zero, hm] at h5
  subst h5
  rw [B_size] at h1
  refine ⟨by omega, fun j h hj => ?_, fun h => ?_⟩
  · have := h2 j (by omega) hj
    simpa using this
  · have := h3 (by omega)
    simpa using this
set_option maxHeartbeats 1000000 in
theorem lpiece_list (c : UInt8) (t : List UInt8) (hl : t.length + 1 ≤ 2000) (w0 w : World) (hr : Rel w0 w) :
    Calls Tryd.prog 55 #[.string (B (c :: t))] w fun e w' => e = .returned (.string (B (pcOf (c :: t)))) ∧ Rel w0 w' := by
  obtain ⟨m, hm⟩ : ∃ m, ((c :: t).takeWhile isPt).length = m := ⟨_, rfl⟩
  obtain ⟨hml, hin, hout⟩ := run_list (c :: t) m hm
  obtain ⟨X, hX⟩ : ∃ X, X = B (pcOf (c :: t)) := ⟨_, rfl⟩
  have hcut : (B (c :: t)).extract 0 (max m 1) = X := by
    rw [hX, (pc_max c t).1, hm, B_cut, B_list]; rfl
  have zX : X.size ≤ 1000000000 := by rw [hX, B_size]; have := pc_len_le (c :: t); simp only [List.length_cons] at this; omega
  have HB := B_cons_size c t
  have HX := Lib.hid hX
  have HIN := Lib.hid hin
  have HOUT := Lib.hid hout
  have HR := Lib.hid hr
  simp only [List.length_cons] at hml
  clear hm hin hout hX
  go_enter Tryd.func55, Tryd.ntmps55
  go_wp2_with (fail)
  go_loop [3] (fun k => ∃ q : Nat, q ≤ m ∧ k = .int .i64 (q : Int)) (fun k => m - (RowKit.intOf k).toNat)
  case atStart => exact ⟨0, by omega, rfl⟩
  case round =>
    obtain ⟨q, hq, rfl⟩ := hrel
    by_cases hqm : q < m
    · have hqs : q < (B (c :: t)).size := by omega
      have ht := HIN.out q hqs hqm
      obtain ⟨y, hy⟩ : ∃ y, y = (B (c :: t))[q]'hqs := ⟨_, rfl⟩
      rw [← hy] at ht
      have hg : ∀ h, (B (c :: t))[q]'h = y := fun h => hy.symm
      have HY := Lib.hid ht
      clear hy ht
      go_wp2_with (go_at_call 72; (with_reducible refine (bool_at true (lpart_any y _) HY).mono ?_); rintro e w' ⟨rfl, rfl⟩)
      go_round
      case rel => exact ⟨q + 1, by omega, by go_num⟩
      case measure => simp [RowKit.intOf]; omega
    · obtain rfl : q = m := by omega
      have hend : (∃ (hlt' : q < (B (c :: t)).size) (y : UInt8), (∀ h, (B (c :: t))[q]'h = y) ∧ Hid (isPt y = false)) ∨ q = t.length + 1 := by
        rcases Nat.lt_or_ge q (B (c :: t)).size with h | h
        · exact .inl ⟨h, _, fun _ => rfl, Lib.hid (HOUT.out h)⟩
        · exact .inr (by omega)
      rcases hend with ⟨hqs, y, hg, HY⟩ | hqs
      · rcases Nat.eq_zero_or_pos q with h0 | h0
        · subst h0
          have HE := Lib.hid (show (B (c :: t)).extract 0 (max (0 : Int) 1).toNat = X from hcut)
          clear hcut
          go_wp2_with (first
            | (go_at_call 72; (with_reducible refine (bool_at false (lpart_any y _) HY).mono ?_); rintro e w' ⟨rfl, rfl⟩)
            | (go_at_call 73; (with_reducible refine (lclone_of _ X HE zX _ _ HR.out).mono ?_); rintro e w1 ⟨rfl, h1⟩))
          go_ret
          exact ⟨ret_str HX.out, h1⟩
        · have HE := Lib.hid (show (B (c :: t)).extract 0 (max (q : Int) 1).toNat = X by rw [show (max (q : Int) 1).toNat = max q 1 by omega]; exact hcut)
          clear hcut
          go_wp2_with (first
            | (go_at_call 72; (with_reducible refine (bool_at false (lpart_any y _) HY).mono ?_); rintro e w' ⟨rfl, rfl⟩)
            | (go_at_call 73; (with_reducible refine (lclone_of _ X HE zX _ _ HR.out).mono ?_); rintro e w1 ⟨rfl, h1⟩))
          go_ret
          exact ⟨ret_str HX.out, h1⟩
      · have HE := Lib.hid (show (B (c :: t)).extract 0 (max ((t.length : Int) + 1) 1).toNat = X by rw [show (max ((t.length : Int) + 1) 1).toNat = max q 1 by omega]; exact hcut)
        clear hcut
        go_wp2_with (go_at_call 73; (with_reducible refine (lclone_of _ X HE zX _ _ HR.out).mono ?_); rintro e w1 ⟨rfl, h1⟩)
        go_ret
        exact ⟨ret_str HX.out, h1⟩
/-- What 'token' tells of a piece. -/
def TokEnd' (l : List UInt8) (e : Ending) : Prop :=
  (∃ k n, told l = some (k, n) ∧ e = .returned (.tuple #[TK (k, l, n, 0), .int .i64 0])) ∨ (told l = none ∧ e = .returned (.tuple #[TK (0, [], 0, 0), .int .i64 61]))
set_option maxHeartbeats 1000000 in
theorem ltoken_any (c : UInt8) (t : List UInt8) (hl : t.length + 1 ≤ 2000) (w0 w : World) (hr : Rel w0 w) :
    Calls Tryd.prog 54 #[.string (B (c :: t))] w fun e w' => TokEnd' (c :: t) e ∧ Rel w0 w' := by
  have H0 := B_zero c t
  have HBs := B_cons_size c t
  have z := hr.size
  have hr1 := hr.alloc (.cells #[.int .i64 0, .string ⟨#[]⟩, .int .i64 0, .int .i64 0] 65)
  have HB := Lib.hid (Bk.new w 65 #[.int .i64 0, .string ⟨#[]⟩, .int .i64 0, .int .i64 0])
  have HR := Lib.hid hr1
  cases hs : isSg c
  · have HS := Lib.hid hs
    have hT := told_not (t := t) hs
    obtain ⟨l, hL⟩ : ∃ l, l = c :: t := ⟨_, rfl⟩
    rw [← hL] at hT H0 HBs ⊢
    have hBL : (B l).data.toList = l := B_list l
    have hz : (B l).size ≤ 9223372036854775807 := by omega
    clear hL hs hr1
    cases hw : isWord l
    · cases hn : isName l
      · obtain ⟨n, hN⟩ : ∃ n, cnt l 100000 = n := ⟨_, rfl⟩
        have HWd := Lib.hid (show isWord (B l).data.toList = false by rw [hBL]; exact hw)
        have HNd := Lib.hid (show isName (B l).data.toList = false by rw [hBL]; exact hn)
        have HCd := Lib.hid (show cnt (B l).data.toList 100000 = n by rw [hBL]; exact hN)
        by_cases hc : 0 ≤ n
        · have HF := Lib.hid (hT.trans (tok_count hw hn (by rw [hN]; exact hc)))
          rw [hN] at HF
          clear hw hn hN hBL hT
          go_enter Tryd.func54, Tryd.ntmps54
          go_wp2_with (first
            | (go_at_call 67; (with_reducible refine (bool_at false (lsign_any c _) HS).mono ?_); rintro e w' ⟨rfl, rfl⟩)
            | (go_at_call 68; (with_reducible refine (bool_at false (lword_any _ _ _ HR.out.self) HWd).mono ?_); rintro e w1 ⟨rfl, h1⟩)
            | (go_at_call 69; (with_reducible refine (bool_at false (lname_any _ hz _ _ h1.self) HNd).mono ?_); rintro e w2 ⟨rfl, h2⟩)
            | (go_at_call 70; (with_reducible refine (int_at n (count_any _ _ hz _ _ h2.self) HCd).mono ?_); rintro e w3 ⟨rfl, h3⟩; obtain ⟨⟨c0, c1, c2, c3⟩, f0, f1, f2, f3⟩ := (((HB.out.rel h1).rel h2).rel h3).four))
          obtain ⟨⟨r0, r1, r2, r3⟩, _⟩ := ((((HB.out.rel h1).rel h2).rel h3).put4 (.int .i64 2) (.string (B l)) (.int .i64 n) (.int .i64 0)).four
          exact bodyPost_ret (v := .tuple #[TK (2, l, n, 0), .int .i64 0]) (by simp [results, Tryd.results54, go_sem, r0, r1, r2, r3]) rfl ⟨.inl ⟨2, n, HF.out, rfl⟩, (((HR.out.trans h1).trans h2).trans h3).put4 z _ _ _ _⟩
        · have hF := hT.trans (tok_money hw hn (by rw [hN]; exact hc))
          obtain ⟨m, hm⟩ : ∃ m, prs1 l = m := ⟨_, rfl⟩
          obtain ⟨e, he⟩ : ∃ m, prs2 l = m := ⟨_, rfl⟩
          have HM1 := Lib.hid (show prs1 (B l).data.toList = m by rw [hBL]; exact hm)
          have HM2 := Lib.hid (show prs2 (B l).data.toList = e by rw [hBL]; exact he)
          have hP : (told l = some (3, m) ∧ e = 0) ∨ (told l = none ∧ e ≠ 0) := by
            unfold prs1 at hm
            unfold prs2 at he
            cases h : prs l with
            | none => rw [h] at he hF; exact .inr ⟨hF, by simp at he; omega⟩
            | some a => rw [h] at he hm hF; exact .inl ⟨by rw [hF]; simp at hm; rw [← hm]; rfl, by simp at he; omega⟩
          clear hw hn hN hBL hT hm he hF
          rcases hP with ⟨hP, rfl⟩ | ⟨hP, he⟩
          · have HF := Lib.hid hP
            clear hP
            go_enter Tryd.func54, Tryd.ntmps54
            go_wp2_with (first
              | (go_at_call 67; (with_reducible refine (bool_at false (lsign_any c _) HS).mono ?_); rintro e w' ⟨rfl, rfl⟩)
              | (go_at_call 68; (with_reducible refine (bool_at false (lword_any _ _ _ HR.out.self) HWd).mono ?_); rintro e w1 ⟨rfl, h1⟩)
              | (go_at_call 69; (with_reducible refine (bool_at false (lname_any _ hz _ _ h1.self) HNd).mono ?_); rintro e w2 ⟨rfl, h2⟩)
              | (go_at_call 70; (with_reducible refine (int_at n (count_any _ _ hz _ _ h2.self) HCd).mono ?_); rintro e w3 ⟨rfl, h3⟩)
              | (go_at_call 71; (with_reducible refine (two_at m 0 (parse_any _ hz _ _ h3.self) HM1 HM2).mono ?_); rintro e w4 ⟨rfl, h4⟩; obtain ⟨⟨c0, c1, c2, c3⟩, f0, f1, f2, f3⟩ := ((((HB.out.rel h1).rel h2).rel h3).rel h4).four))
            obtain ⟨⟨r0, r1, r2, r3⟩, _⟩ := (((((HB.out.rel h1).rel h2).rel h3).rel h4).put4 (.int .i64 3) (.string (B l)) (.int .i64 m) (.int .i64 0)).four
            exact bodyPost_ret (v := .tuple #[TK (3, l, m, 0), .int .i64 0]) (by simp [results, Tryd.results54, go_sem, r0, r1, r2, r3]) rfl ⟨.inl ⟨3, m, HF.out, rfl⟩, ((((HR.out.trans h1).trans h2).trans h3).trans h4).put4 z _ _ _ _⟩
          · have HF := Lib.hid hP
            have he' : (e == 0) = false := by simpa using he
            clear hP he
            go_enter Tryd.func54, Tryd.ntmps54
            go_wp2_with (first
              | (go_at_call 67; (with_reducible refine (bool_at false (lsign_any c _) HS).mono ?_); rintro e w' ⟨rfl, rfl⟩)
              | (go_at_call 68; (with_reducible refine (bool_at false (lword_any _ _ _ HR.out.self) HWd).mono ?_); rintro e w1 ⟨rfl, h1⟩)
              | (go_at_call 69; (with_reducible refine (bool_at false (lname_any _ hz _ _ h1.self) HNd).mono ?_); rintro e w2 ⟨rfl, h2⟩)
              | (go_at_call 70; (with_reducible refine (int_at n (count_any _ _ hz _ _ h2.self) HCd).mono ?_); rintro e w3 ⟨rfl, h3⟩)
              | (go_at_call 71; (with_reducible refine (two_at m e (parse_any _ hz _ _ h3.self) HM1 HM2).mono ?_); rintro e w4 ⟨rfl, h4⟩; obtain ⟨⟨c0, c1, c2, c3⟩, f0, f1, f2, f3⟩ := ((((HB.out.rel h1).rel h2).rel h3).rel h4).four))
            obtain ⟨⟨r0, r1, r2, r3⟩, _⟩ := (((((HB.out.rel h1).rel h2).rel h3).rel h4).put4 (.int .i64 0) (.string ⟨#[]⟩) (.int .i64 0) (.int .i64 0)).four
            exact bodyPost_ret (v := .tuple #[.agg #[.int .i64 0, .string ⟨#[]⟩, .int .i64 0, .int .i64 0], .int .i64 61]) (by simp [results, Tryd.results54, go_sem, r0, r1, r2, r3]) rfl ⟨.inr ⟨HF.out, rfl⟩, ((((HR.out.trans h1).trans h2).trans h3).trans h4).put4 z _ _ _ _⟩
      · have HF := Lib.hid (hT.trans (tok_word (.inr hn)))
        have HWd := Lib.hid (show isWord (B l).data.toList = false by rw [hBL]; exact hw)
        have HNd := Lib.hid (show isName (B l).data.toList = true by rw [hBL]; exact hn)
        clear hw hn hBL hT
        go_enter Tryd.func54, Tryd.ntmps54
        go_wp2_with (first
          | (go_at_call 67; (with_reducible refine (bool_at false (lsign_any c _) HS).mono ?_); rintro e w' ⟨rfl, rfl⟩)
          | (go_at_call 68; (with_reducible refine (bool_at false (lword_any _ _ _ HR.out.self) HWd).mono ?_); rintro e w1 ⟨rfl, h1⟩)
          | (go_at_call 69; (with_reducible refine (bool_at true (lname_any _ hz _ _ h1.self) HNd).mono ?_); rintro e w2 ⟨rfl, h2⟩; obtain ⟨⟨c0, c1, c2, c3⟩, f0, f1, f2, f3⟩ := ((HB.out.rel h1).rel h2).four))
        obtain ⟨⟨r0, r1, r2, r3⟩, _⟩ := (((HB.out.rel h1).rel h2).put4 (.int .i64 1) (.string (B l)) (.int .i64 0) (.int .i64 0)).four
        exact bodyPost_ret (v := .tuple #[TK (1, l, 0, 0), .int .i64 0]) (by simp [results, Tryd.results54, go_sem, r0, r1, r2, r3]) rfl ⟨.inl ⟨1, 0, HF.out, rfl⟩, ((HR.out.trans h1).trans h2).put4 z _ _ _ _⟩
    · have HF := Lib.hid (hT.trans (tok_word (.inl hw)))
      have HWd := Lib.hid (show isWord (B l).data.toList = true by rw [hBL]; exact hw)
      clear hw hBL hT
      go_enter Tryd.func54, Tryd.ntmps54
      go_wp2_with (first
        | (go_at_call 67; (with_reducible refine (bool_at false (lsign_any c _) HS).mono ?_); rintro e w' ⟨rfl, rfl⟩)
        | (go_at_call 68; (with_reducible refine (bool_at true (lword_any _ _ _ HR.out.self) HWd).mono ?_); rintro e w1 ⟨rfl, h1⟩; obtain ⟨⟨c0, c1, c2, c3⟩, f0, f1, f2, f3⟩ := (HB.out.rel h1).four))
      obtain ⟨⟨r0, r1, r2, r3⟩, _⟩ := ((HB.out.rel h1).put4 (.int .i64 1) (.string (B l)) (.int .i64 0) (.int .i64 0)).four
      exact bodyPost_ret (v := .tuple #[TK (1, l, 0, 0), .int .i64 0]) (by simp [results, Tryd.results54, go_sem, r0, r1, r2, r3]) rfl ⟨.inl ⟨1, 0, HF.out, rfl⟩, (HR.out.trans h1).put4 z _ _ _ _⟩
  · have HS := Lib.hid hs
    have HF := Lib.hid (told_sign (t := t) hs)
    obtain ⟨l, hL⟩ : ∃ l, l = c :: t := ⟨_, rfl⟩
    rw [← hL] at HF H0 HBs ⊢
    obtain ⟨⟨c0, c1, c2, c3⟩, f0, f1, f2, f3⟩ := HB.out.four
    clear hL hs hr1
    go_enter Tryd.func54, Tryd.ntmps54
    go_wp2_with (go_at_call 67; (with_reducible refine (bool_at true (lsign_any c _) HS).mono ?_); rintro e w' ⟨rfl, rfl⟩)
    obtain ⟨⟨r0, r1, r2, r3⟩, _⟩ := (Bk.new w 65 #[.int .i64 4, .string (B l), .int .i64 0, .int .i64 0]).four
    exact bodyPost_ret (v := .tuple #[TK (4, l, 0, 0), .int .i64 0]) (by simp [results, Tryd.results54, go_sem, r0, r1, r2, r3]) rfl ⟨.inl ⟨4, 0, HF.out, rfl⟩, hr.alloc _⟩
end Go.Proofs.YtlflfffjaodhpaaDoor
