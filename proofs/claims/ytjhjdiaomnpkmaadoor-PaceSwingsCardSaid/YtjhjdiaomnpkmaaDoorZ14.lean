/- What the landed package lex tells of pieces; The iterator of the landed package lex: what it yields, one behind the other; What Lex keeps from round to round, and at its ends. -/
import Derived.Test.YtjhjdiaomnpkmaaDoorZL
import Derived.Test.YtjhjdiaomnpkmaaDoorZ00
import Derived.Test.YtjhjdiaomnpkmaaDoorZ01
import Derived.Test.YtjhjdiaomnpkmaaDoorZ03
import Derived.Test.YtjhjdiaomnpkmaaDoorZ04
import Derived.Test.YtjhjdiaomnpkmaaDoorZ05
import Derived.Test.YtjhjdiaomnpkmaaDoorZ07
import Derived.Test.YtjhjdiaomnpkmaaDoorZ13
namespace Go.Proofs.YtjhjdiaomnpkmaaDoor
open Go.RowKit Go.Lib
set_option linter.unusedVariables false
set_option linter.unusedSimpArgs false
theorem lclone_any (s : ByteArray) (hs : s.size ≤ 1000000000) (w0 w : World) (hr : Rel w0 w) : Calls Tryd.prog 59 #[.string s] w fun e w' => e = .returned (.string s) ∧ Rel w0 w' := by
  have hc := fun w => Tryd.stringslite_Clone s w (by omega)
  go_enter Tryd.func59, Tryd.ntmps59
  go_wp2_with (go_at_call 74; refine (hc _).mono ?_; rintro e w' ⟨rfl, hw⟩)
  go_ret
  exact ⟨rfl, hr.step hw⟩
theorem lclone_of (s t : ByteArray) (h : Hid (s = t)) (hs : t.size ≤ 1000000000) (w0 w : World) (hr : Rel w0 w) : Calls Tryd.prog 59 #[.string s] w fun e w' => e = .returned (.string t) ∧ Rel w0 w' := by
  rw [h.out]; exact lclone_any t hs w0 w hr
theorem run_list (l : List UInt8) (m : Nat) (hm : (l.takeWhile isPt).length = m) : m ≤ l.length ∧ (∀ j (h : j < (B l).size), j < m → isPt ((B l)[j]'h) = true) ∧ (∀ h : m < (B l).size, isPt ((B l)[m]'h) = false) := by
  obtain ⟨m', h1, h2, h3, _, h5, _⟩ := run_at (B l) 0 (by omega)
  rw [B_list, List.drop_zero, hm] at h5
  subst h5
  rw [B_size] at h1
  refine ⟨by omega, fun j h hj => ?_, fun h => ?_⟩
  · have := h2 j (by omega) hj
    simpa using this
  · have := h3 (by omega)
    simpa using this
set_option maxHeartbeats 1000000 in
theorem lpiece_list (c : UInt8) (t : List UInt8) (hl : t.length + 1 ≤ 2000) (w0 w : World) (hr : Rel w0 w) :
    Calls Tryd.prog 37 #[.string (B (c :: t))] w fun e w' => e = .returned (.string (B (pcOf (c :: t)))) ∧ Rel w0 w' := by
  obtain ⟨m, hm⟩ : ∃ m, ((c :: t).takeWhile isPt).length = m := ⟨_, rfl⟩
  obtain ⟨hml, hin, hout⟩ := run_list (c :: t) m hm
  obtain ⟨X, hX⟩ : ∃ X, X = B (pcOf (c :: t)) := ⟨_, rfl⟩
  have hcut : (B (c :: t)).extract 0 (max m 1) = X := by
    rw [hX, (pc_max c t).1, hm, B_cut, B_list]; rfl
  have zX : X.size ≤ 1000000000 := by rw [hX, B_size]; have := pc_len_le (c :: t); simp only [List.length_cons] at this; omega
  have HB := B_cons_size c t
  have HX := Lib.hid hX
  have HIN := Lib.hid hin
  have HOUT := Lib.hid hout
  have HR := Lib.hid hr
  simp only [List.length_cons] at hml
  clear hm hin hout hX
  go_enter Tryd.func37, Tryd.ntmps37
  go_wp2_with (fail)
  go_loop [3] (fun k => ∃ q : Nat, q ≤ m ∧ k = .int .i64 (q : Int)) (fun k => m - (RowKit.intOf k).toNat)
  case atStart => exact ⟨0, by omega, rfl⟩
  case round =>
    obtain ⟨q, hq, rfl⟩ := hrel
    by_cases hqm : q < m
    · have hqs : q < (B (c :: t)).size := by omega
      have ht := HIN.out q hqs hqm
      obtain ⟨y, hy⟩ : ∃ y, y = (B (c :: t))[q]'hqs := ⟨_, rfl⟩
      rw [← hy] at ht
      have hg : ∀ h, (B (c :: t))[q]'h = y := fun h => hy.symm
      have HY := Lib.hid ht
      clear hy ht
      go_wp2_with (go_at_call 58; (with_reducible refine (bool_at true (lpart_any y _) HY).mono ?_); rintro e w' ⟨rfl, rfl⟩)
      go_round
      case rel => exact ⟨q + 1, by omega, by go_num⟩
      case measure => simp [RowKit.intOf]; omega
    · obtain rfl : q = m := by omega
      have hend : (∃ (hlt' : q < (B (c :: t)).size) (y : UInt8), (∀ h, (B (c :: t))[q]'h = y) ∧ Hid (isPt y = false)) ∨ q = t.length + 1 := by
        rcases Nat.lt_or_ge q (B (c :: t)).size with h | h
        · exact .inl ⟨h, _, fun _ => rfl, Lib.hid (HOUT.out h)⟩
        · exact .inr (by omega)
      rcases hend with ⟨hqs, y, hg, HY⟩ | hqs
      · rcases Nat.eq_zero_or_pos q with h0 | h0
        · subst h0
          have HE := Lib.hid (show (B (c :: t)).extract 0 (max (0 : Int) 1).toNat = X from hcut)
          clear hcut
          go_wp2_with (first
            | (go_at_call 58; (with_reducible refine (bool_at false (lpart_any y _) HY).mono ?_); rintro e w' ⟨rfl, rfl⟩)
            | (go_at_call 59; (with_reducible refine (lclone_of _ X HE zX _ _ HR.out).mono ?_); rintro e w1 ⟨rfl, h1⟩))
          go_ret
          exact ⟨ret_str HX.out, h1⟩
        · have HE := Lib.hid (show (B (c :: t)).extract 0 (max (q : Int) 1).toNat = X by rw [show (max (q : Int) 1).toNat = max q 1 by omega]; exact hcut)
          clear hcut
          go_wp2_with (first
            | (go_at_call 58; (with_reducible refine (bool_at false (lpart_any y _) HY).mono ?_); rintro e w' ⟨rfl, rfl⟩)
            | (go_at_call 59; (with_reducible refine (lclone_of _ X HE zX _ _ HR.out).mono ?_); rintro e w1 ⟨rfl, h1⟩))
          go_ret
          exact ⟨ret_str HX.out, h1⟩
      · have HE := Lib.hid (show (B (c :: t)).extract 0 (max ((t.length : Int) + 1) 1).toNat = X by rw [show (max ((t.length : Int) + 1) 1).toNat = max q 1 by omega]; exact hcut)
        clear hcut
        go_wp2_with (go_at_call 59; (with_reducible refine (lclone_of _ X HE zX _ _ HR.out).mono ?_); rintro e w1 ⟨rfl, h1⟩)
        go_ret
        exact ⟨ret_str HX.out, h1⟩
/-- What 'token' tells of a piece. -/
def TokEnd' (l : List UInt8) (e : Ending) : Prop :=
  (∃ k n, told l = some (k, n) ∧ e = .returned (.tuple #[TK (k, l, n, 0), .int .i64 0])) ∨ (told l = none ∧ e = .returned (.tuple #[TK (0, [], 0, 0), .int .i64 61]))
set_option maxHeartbeats 1000000 in
theorem ltoken_any (c : UInt8) (t : List UInt8) (hl : t.length + 1 ≤ 2000) (w0 w : World) (hr : Rel w0 w) :
    Calls Tryd.prog 36 #[.string (B (c :: t))] w fun e w' => TokEnd' (c :: t) e ∧ Rel w0 w' := by
  have H0 := B_zero c t
  have HBs := B_cons_size c t
  have z := hr.size
  have hr1 := hr.alloc (.cells #[.int .i64 0, .string ⟨#[]⟩, .int .i64 0, .int .i64 0] 65)
  have HB := Lib.hid (Bk.new w 65 #[.int .i64 0, .string ⟨#[]⟩, .int .i64 0, .int .i64 0])
  have HR := Lib.hid hr1
  cases hs : isSg c
  · have HS := Lib.hid hs
    have hT := told_not (t := t) hs
    obtain ⟨l, hL⟩ : ∃ l, l = c :: t := ⟨_, rfl⟩
    rw [← hL] at hT H0 HBs ⊢
    have hBL : (B l).data.toList = l := B_list l
    have hz : (B l).size ≤ 9223372036854775807 := by omega
    clear hL hs hr1
    cases hw : isWord l
    · cases hn : isName l
      · obtain ⟨n, hN⟩ : ∃ n, cnt l 100000 = n := ⟨_, rfl⟩
        have HWd := Lib.hid (show isWord (B l).data.toList = false by rw [hBL]; exact hw)
        have HNd := Lib.hid (show isName (B l).data.toList = false by rw [hBL]; exact hn)
        have HCd := Lib.hid (show cnt (B l).data.toList 100000 = n by rw [hBL]; exact hN)
        by_cases hc : 0 ≤ n
        · have HF := Lib.hid (hT.trans (tok_count hw hn (by rw [hN]; exact hc)))
          rw [hN] at HF
          clear hw hn hN hBL hT
          go_enter Tryd.func36, Tryd.ntmps36
          go_wp2_with (first
            | (go_at_call 53; (with_reducible refine (bool_at false (lsign_any c _) HS).mono ?_); rintro e w' ⟨rfl, rfl⟩)
            | (go_at_call 54; (with_reducible refine (bool_at false (lword_any _ _ _ HR.out.self) HWd).mono ?_); rintro e w1 ⟨rfl, h1⟩)
            | (go_at_call 55; (with_reducible refine (bool_at false (lname_any _ hz _ _ h1.self) HNd).mono ?_); rintro e w2 ⟨rfl, h2⟩)
            | (go_at_call 56; (with_reducible refine (int_at n (count_any _ _ hz _ _ h2.self) HCd).mono ?_); rintro e w3 ⟨rfl, h3⟩; obtain ⟨⟨c0, c1, c2, c3⟩, f0, f1, f2, f3⟩ := (((HB.out.rel h1).rel h2).rel h3).four))
          obtain ⟨⟨r0, r1, r2, r3⟩, _⟩ := ((((HB.out.rel h1).rel h2).rel h3).put4 (.int .i64 2) (.string (B l)) (.int .i64 n) (.int .i64 0)).four
          exact bodyPost_ret (v := .tuple #[TK (2, l, n, 0), .int .i64 0]) (by simp [results, Tryd.results36, go_sem, r0, r1, r2, r3]) rfl ⟨.inl ⟨2, n, HF.out, rfl⟩, (((HR.out.trans h1).trans h2).trans h3).put4 z _ _ _ _⟩
        · have hF := hT.trans (tok_money hw hn (by rw [hN]; exact hc))
          obtain ⟨m, hm⟩ : ∃ m, prs1 l = m := ⟨_, rfl⟩
          obtain ⟨e, he⟩ : ∃ m, prs2 l = m := ⟨_, rfl⟩
          have HM1 := Lib.hid (show prs1 (B l).data.toList = m by rw [hBL]; exact hm)
          have HM2 := Lib.hid (show prs2 (B l).data.toList = e by rw [hBL]; exact he)
          have hP : (told l = some (3, m) ∧ e = 0) ∨ (told l = none ∧ e ≠ 0) := by
            unfold prs1 at hm
            unfold prs2 at he
            cases h : prs l with
            | none => rw [h] at he hF; exact .inr ⟨hF, by simp at he; omega⟩
            | some a => rw [h] at he hm hF; exact .inl ⟨by rw [hF]; simp at hm; rw [← hm]; rfl, by simp at he; omega⟩
          clear hw hn hN hBL hT hm he hF
          rcases hP with ⟨hP, rfl⟩ | ⟨hP, he⟩
          · have HF := Lib.hid hP
            clear hP
            go_enter Tryd.func36, Tryd.ntmps36
            go_wp2_with (first
              | (go_at_call 53; (with_reducible refine (bool_at false (lsign_any c _) HS).mono ?_); rintro e w' ⟨rfl, rfl⟩)
              | (go_at_call 54; (with_reducible refine (bool_at false (lword_any _ _ _ HR.out.self) HWd).mono ?_); rintro e w1 ⟨rfl, h1⟩)
              | (go_at_call 55; (with_reducible refine (bool_at false (lname_any _ hz _ _ h1.self) HNd).mono ?_); rintro e w2 ⟨rfl, h2⟩)
              | (go_at_call 56; (with_reducible refine (int_at n (count_any _ _ hz _ _ h2.self) HCd).mono ?_); rintro e w3 ⟨rfl, h3⟩)
              | (go_at_call 57; (with_reducible refine (two_at m 0 (parse_any _ hz _ _ h3.self) HM1 HM2).mono ?_); rintro e w4 ⟨rfl, h4⟩; obtain ⟨⟨c0, c1, c2, c3⟩, f0, f1, f2, f3⟩ := ((((HB.out.rel h1).rel h2).rel h3).rel h4).four))
            obtain ⟨⟨r0, r1, r2, r3⟩, _⟩ := (((((HB.out.rel h1).rel h2).rel h3).rel h4).put4 (.int .i64 3) (.string (B l)) (.int .i64 m) (.int .i64 0)).four
            exact bodyPost_ret (v := .tuple #[TK (3, l, m, 0), .int .i64 0]) (by simp [results, Tryd.results36, go_sem, r0, r1, r2, r3]) rfl ⟨.inl ⟨3, m, HF.out, rfl⟩, ((((HR.out.trans h1).trans h2).trans h3).trans h4).put4 z _ _ _ _⟩
          · have HF := Lib.hid hP
            have he' : (e == 0) = false := by simpa using he
            clear hP he
            go_enter Tryd.func36, Tryd.ntmps36
            go_wp2_with (first
              | (go_at_call 53; (with_reducible refine (bool_at false (lsign_any c _) HS).mono ?_); rintro e w' ⟨rfl, rfl⟩)
              | (go_at_call 54; (with_reducible refine (bool_at false (lword_any _ _ _ HR.out.self) HWd).mono ?_); rintro e w1 ⟨rfl, h1⟩)
              | (go_at_call 55; (with_reducible refine (bool_at false (lname_any _ hz _ _ h1.self) HNd).mono ?_); rintro e w2 ⟨rfl, h2⟩)
              | (go_at_call 56; (with_reducible refine (int_at n (count_any _ _ hz _ _ h2.self) HCd).mono ?_); rintro e w3 ⟨rfl, h3⟩)
              | (go_at_call 57; (with_reducible refine (two_at m e (parse_any _ hz _ _ h3.self) HM1 HM2).mono ?_); rintro e w4 ⟨rfl, h4⟩; obtain ⟨⟨c0, c1, c2, c3⟩, f0, f1, f2, f3⟩ := ((((HB.out.rel h1).rel h2).rel h3).rel h4).four))
            obtain ⟨⟨r0, r1, r2, r3⟩, _⟩ := (((((HB.out.rel h1).rel h2).rel h3).rel h4).put4 (.int .i64 0) (.string ⟨#[]⟩) (.int .i64 0) (.int .i64 0)).four
            exact bodyPost_ret (v := .tuple #[.agg #[.int .i64 0, .string ⟨#[]⟩, .int .i64 0, .int .i64 0], .int .i64 61]) (by simp [results, Tryd.results36, go_sem, r0, r1, r2, r3]) rfl ⟨.inr ⟨HF.out, rfl⟩, ((((HR.out.trans h1).trans h2).trans h3).trans h4).put4 z _ _ _ _⟩
      · have HF := Lib.hid (hT.trans (tok_word (.inr hn)))
        have HWd := Lib.hid (show isWord (B l).data.toList = false by rw [hBL]; exact hw)
        have HNd := Lib.hid (show isName (B l).data.toList = true by rw [hBL]; exact hn)
        clear hw hn hBL hT
        go_enter Tryd.func36, Tryd.ntmps36
        go_wp2_with (first
          | (go_at_call 53; (with_reducible refine (bool_at false (lsign_any c _) HS).mono ?_); rintro e w' ⟨rfl, rfl⟩)
          | (go_at_call 54; (with_reducible refine (bool_at false (lword_any _ _ _ HR.out.self) HWd).mono ?_); rintro e w1 ⟨rfl, h1⟩)
          | (go_at_call 55; (with_reducible refine (bool_at true (lname_any _ hz _ _ h1.self) HNd).mono ?_); rintro e w2 ⟨rfl, h2⟩; obtain ⟨⟨c0, c1, c2, c3⟩, f0, f1, f2, f3⟩ := ((HB.out.rel h1).rel h2).four))
        obtain ⟨⟨r0, r1, r2, r3⟩, _⟩ := (((HB.out.rel h1).rel h2).put4 (.int .i64 1) (.string (B l)) (.int .i64 0) (.int .i64 0)).four
        exact bodyPost_ret (v := .tuple #[TK (1, l, 0, 0), .int .i64 0]) (by simp [results, Tryd.results36, go_sem, r0, r1, r2, r3]) rfl ⟨.inl ⟨1, 0, HF.out, rfl⟩, ((HR.out.trans h1).trans h2).put4 z _ _ _ _⟩
    · have HF := Lib.hid (hT.trans (tok_word (.inl hw)))
      have HWd := Lib.hid (show isWord (B l).data.toList = true by rw [hBL]; exact hw)
      clear hw hBL hT
      go_enter Tryd.func36, Tryd.ntmps36
      go_wp2_with (first
        | (go_at_call 53; (with_reducible refine (bool_at false (lsign_any c _) HS).mono ?_); rintro e w' ⟨rfl, rfl⟩)
        | (go_at_call 54; (with_reducible refine (bool_at true (lword_any _ _ _ HR.out.self) HWd).mono ?_); rintro e w1 ⟨rfl, h1⟩; obtain ⟨⟨c0, c1, c2, c3⟩, f0, f1, f2, f3⟩ := (HB.out.rel h1).four))
      obtain ⟨⟨r0, r1, r2, r3⟩, _⟩ := ((HB.out.rel h1).put4 (.int .i64 1) (.string (B l)) (.int .i64 0) (.int .i64 0)).four
      exact bodyPost_ret (v := .tuple #[TK (1, l, 0, 0), .int .i64 0]) (by simp [results, Tryd.results36, go_sem, r0, r1, r2, r3]) rfl ⟨.inl ⟨1, 0, HF.out, rfl⟩, (HR.out.trans h1).put4 z _ _ _ _⟩
  · have HS := Lib.hid hs
    have HF := Lib.hid (told_sign (t := t) hs)
    obtain ⟨l, hL⟩ : ∃ l, l = c :: t := ⟨_, rfl⟩
    rw [← hL] at HF H0 HBs ⊢
    obtain ⟨⟨c0, c1, c2, c3⟩, f0, f1, f2, f3⟩ := HB.out.four
    clear hL hs hr1
    go_enter Tryd.func36, Tryd.ntmps36
    go_wp2_with (go_at_call 53; (with_reducible refine (bool_at true (lsign_any c _) HS).mono ?_); rintro e w' ⟨rfl, rfl⟩)
    obtain ⟨⟨r0, r1, r2, r3⟩, _⟩ := (Bk.new w 65 #[.int .i64 4, .string (B l), .int .i64 0, .int .i64 0]).four
    exact bodyPost_ret (v := .tuple #[TK (4, l, 0, 0), .int .i64 0]) (by simp [results, Tryd.results36, go_sem, r0, r1, r2, r3]) rfl ⟨.inl ⟨4, 0, HF.out, rfl⟩, hr.alloc _⟩
end Go.Proofs.YtjhjdiaomnpkmaaDoor

namespace Go.Proofs.YtjhjdiaomnpkmaaDoor
open Go.RowKit
open Go.Lib
set_option linter.unusedVariables false
set_option linter.unusedSimpArgs false
attribute [local go_sem] Oper.semAt_some
def Y (t : Tok) : Array Value := #[TK t, .int .i64 0]
def yields (l : List UInt8) : List (Array Value) := (lxP 0 l).1.map Y ++ (match (lxP 0 l).2 with | none => [] | some k => [#[TK (0, [], 0, (k : Int)), .int .i64 61]])
theorem piece_as (S : ByteArray) (c : UInt8) (t x : List UInt8) (hS : Hid (S = B (c :: t))) (hx : Hid (pcOf (c :: t) = x)) (hl : t.length + 1 ≤ 2000) (w0 w : World) (hr : Rel w0 w) : Calls Tryd.prog 37 #[.string S] w fun e w' => e = .returned (.string (B x)) ∧ Rel w0 w' := by
  rw [hS.out, ← hx.out]; exact lpiece_list c t hl w0 w hr
theorem token_yes (x : List UInt8) (k n : Int) (c : UInt8) (y : List UInt8) (hx : Hid (x = c :: y)) (h : Hid (told x = some (k, n))) (hl : x.length ≤ 2000) (w0 w : World) (hr : Rel w0 w) : Calls Tryd.prog 36 #[.string (B x)] w fun e w' => e = .returned (.tuple #[TK (k, x, n, 0), .int .i64 0]) ∧ Rel w0 w' := by
  have hx := hx.out
  subst hx
  refine (ltoken_any c y (by simpa using hl) w0 w hr).mono ?_
  rintro e w' ⟨⟨k', n', h', he⟩ | ⟨h', _⟩, hr'⟩
  · rw [h.out] at h'; injection h' with h'; injection h' with a b; subst a; subst b; exact ⟨he, hr'⟩
  · rw [h.out] at h'; cases h'
theorem token_no (x : List UInt8) (c : UInt8) (y : List UInt8) (hx : Hid (x = c :: y)) (h : Hid (told x = none)) (hl : x.length ≤ 2000) (w0 w : World) (hr : Rel w0 w) : Calls Tryd.prog 36 #[.string (B x)] w fun e w' => e = .returned (.tuple #[TK (0, [], 0, 0), .int .i64 61]) ∧ Rel w0 w' := by
  have hx := hx.out
  subst hx
  refine (ltoken_any c y (by simpa using hl) w0 w hr).mono ?_
  rintro e w' ⟨⟨k', n', h', he⟩ | ⟨h', he⟩, hr'⟩
  · rw [h.out] at h'; cases h'
  · exact ⟨he, hr'⟩
theorem yields_at {l : List UInt8} {ts r : List Tok} {t : Tok} (h : (lxP 0 l).1 = ts ++ t :: r) : ∃ rest, yields l = ts.map Y ++ Y t :: rest := by
  unfold yields
  obtain ⟨q, hq⟩ : ∃ q, (match (lxP 0 l).2 with | none => [] | some k => [#[TK (0, [], 0, (k : Int)), Value.int .i64 61]]) = q := ⟨_, rfl⟩
  rw [hq, h]
  exact ⟨r.map Y ++ q, by simp⟩
theorem yields_end {l : List UInt8} {ts : List Tok} {k : Nat} (h : lxP 0 l = (ts, some k)) : yields l = ts.map Y ++ [#[TK (0, [], 0, (k : Int)), .int .i64 61]] := by
  unfold yields; rw [h]
theorem yields_all {l : List UInt8} {ts : List Tok} (h : lxP 0 l = (ts, none)) : yields l = ts.map Y := by
  unfold yields; rw [h]; simp
set_option maxRecDepth 100000 in
set_option maxHeartbeats 4000000 in
theorem tokens_in (n : Nat) (hn : 2 ≤ n) (s : ByteArray) (hs : s.size ≤ 2000) (b : Nat) :
    IterOk n 34 #[.pointer (some ⟨b, 0, none⟩)] (yields s.data.toList) (fun W => Tab W ∧ Bk W b 9 #[.string s]) := by
  intro l' J Jx hJr hJw hY m0 W h0
  have hn1 : 1 ≤ n := by omega
  have HY := Lib.hid hY
  have HJr := Lib.hid hJr
  have HJw := Lib.hid hJw
  have H0 := Lib.hid h0
  clear hY hJr hJw h0
  refine callsIn_of_wp Tryd.func34 rfl trivial ?_ rfl
  simp only [Tryd.ntmps34, List.size_toArray, List.length_cons, List.length_nil, Nat.reduceAdd, Nat.reduceSub, Array.replicate_succ, Array.replicate_zero, List.push_toArray, List.append_toArray, List.nil_append, List.cons_append]
  gi_wp2
  have hsl : s.data.toList.length = s.size := by simp
  have HSL := Lib.hid hsl
  clear hsl
  gi_loopw [3] (fun at' wr => ∃ (p m : Nat) (ts : List Tok), p ≤ s.size ∧ at' = .int .i64 p ∧ Hid (AtP s.data.toList p ts) ∧ Hid (J (ts.map Y) m wr)) (fun at' _ => s.size - (RowKit.intOf at').toNat)
  case atStart => exact ⟨0, m0, [], by omega, rfl, Lib.hid (AtP.start _), H0⟩
  case round =>
    obtain ⟨p, m, ts, hp, rfl, HA, HJ⟩ := hrel
    have p1 := (HJw.out _ _ _ HJ.out).1.2.cell 0
    have hmw := (HJw.out _ _ _ HJ.out).2
    simp only [List.getElem?_toArray, List.getElem?_cons_zero] at p1
    by_cases hlt : p < s.size
    · have hgo : ∀ h, s[p]'h = s[p]'hlt := fun h => rfl
      obtain ⟨cc, hcc⟩ : ∃ cc, cc = s[p]'hlt := ⟨_, rfl⟩
      rw [← hcc] at hgo
      have hdp := drop_cons s p hlt
      rw [← hcc] at hdp
      obtain ⟨tl, htl⟩ : ∃ tl, tl = s.data.toList.drop (p + 1) := ⟨_, rfl⟩
      rw [← htl] at hdp
      have hll : tl.length + 1 + p = s.size := by rw [htl, List.length_drop, HSL.out]; omega
      have HD := Lib.hid hdp
      clear hcc hdp htl
      cases hb : isBl cc
      · have HBl := Lib.hid hb
        have hd1 : s.extract p s.size = B (cc :: tl) := by rw [B_cut, List.take_of_length_le (by rw [List.length_drop, HSL.out]; omega), HD.out]
        obtain ⟨x, hx⟩ : ∃ x, pcOf (cc :: tl) = x := ⟨_, rfl⟩
        obtain ⟨y, hy0⟩ := pc_head cc tl
        have hxl : x.length ≤ tl.length + 1 := by rw [← hx]; exact pc_len_le (cc :: tl)
        have hx1 : 1 ≤ x.length := by rw [← hx, hy0]; simp
        have hpc := HA.out.piece HD.out hb
        rw [hx] at hpc hy0
        have HXC := Lib.hid hy0
        have HPX := Lib.hid hx
        have hS9 := Rel.start (HJw.out _ _ _ HJ.out).1.1
        have ltl : tl.length + 1 ≤ 2000 := by omega
        have lx2 : x.length ≤ 2000 := by omega
        have bxs : (B x).size = x.length := B_size x
        clear hb hx hy0
        rcases hpc with ⟨k, n0, htd, hat, hrest⟩ | ⟨htd, hend⟩
        · have HTD := Lib.hid htd
          have HN := Lib.hid hat
          have HYr := Lib.hid hrest
          clear htd hat hrest
          gi_wp2_with (first
            | (refine ⟨trivial, ?_⟩; gi_at_call 35; refine (callsIn_wide.2 (bool_at false (lblank_any cc _) HBl)).mono ?_; rintro e w' ⟨rfl, rfl⟩)
            | (refine ⟨trivial, ?_⟩; gi_at_call 37; refine (callsIn_wide.2 (piece_as (B (cc :: tl)) cc tl x (Lib.hid rfl) HPX ltl _ _ hS9.self)).mono ?_; rintro e w3 ⟨rfl, h3⟩)
            | (refine ⟨trivial, ?_⟩; gi_at_call 36; refine (callsIn_wide.2 (token_yes x k n0 cc y HXC HTD lx2 _ _ h3.self)).mono ?_; rintro e w4 ⟨rfl, h4⟩; obtain ⟨fn, tmps, assign, body, hy, hR⟩ := HY.out (ts.map Y) m (Y (k, x, n0, (p : Int))) (w4.alloc (.cells #[.int .i64 k, .string (B x), .int .i64 n0, .int .i64 (p : Int)] 65)) (HJr.out _ _ _ _ HJ.out ((h3.trans h4).alloc _)) (by obtain ⟨r, hr⟩ := HYr.out; exact yields_at hr); change (Instr.yield l' #[.agg #[.int .i64 k, .string (B x), .int .i64 n0, .int .i64 (p : Int)], .int .i64 0]).run _ _ = _ at hy))
          refine hR.mono ?_
          rintro e W3 (⟨rfl, hJ3, hk3⟩ | ⟨rfl, hx3⟩)
          · have hgm : m ≤ w4.heap.size := by have := h3.size; have := h4.size; omega
            have c1 := (hk3.bk (Bk.new w4 65 #[.int .i64 k, .string (B x), .int .i64 n0, .int .i64 (p : Int)]) hgm).cell 1
            simp only [List.getElem?_toArray, List.getElem?_cons_succ, List.getElem?_cons_zero] at c1
            gi_wp2
            go_roundw
            case rel => exact ⟨p + x.length, _, ts ++ [(k, x, n0, (p : Int))], by omega, by go_num, HN, Lib.hid (by rw [List.map_append]; exact hJ3)⟩
            case measure => simp [RowKit.intOf]; omega
          · gi_wp2
            first | go_end0 | refine bodyPost_ret (results_none rfl _ _ _) rfl ?_
            exact ⟨⟨_, rfl⟩, .inr hx3⟩
        · have HTD := Lib.hid htd
          have HYE := Lib.hid (yields_end hend)
          clear htd hend
          gi_wp2_with (first
            | (refine ⟨trivial, ?_⟩; gi_at_call 35; refine (callsIn_wide.2 (bool_at false (lblank_any cc _) HBl)).mono ?_; rintro e w' ⟨rfl, rfl⟩)
            | (refine ⟨trivial, ?_⟩; gi_at_call 37; refine (callsIn_wide.2 (piece_as (B (cc :: tl)) cc tl x (Lib.hid rfl) HPX ltl _ _ hS9.self)).mono ?_; rintro e w3 ⟨rfl, h3⟩)
            | (refine ⟨trivial, ?_⟩; gi_at_call 36; refine (callsIn_wide.2 (token_no x cc y HXC HTD lx2 _ _ h3.self)).mono ?_; rintro e w4 ⟨rfl, h4⟩; obtain ⟨fn, tmps, assign, body, hy, hR⟩ := HY.out (ts.map Y) m #[TK (0, [], 0, (p : Int)), .int .i64 61] (w4.alloc (.cells #[.int .i64 0, .string (B []), .int .i64 0, .int .i64 (p : Int)] 65)) (HJr.out _ _ _ _ HJ.out ((h3.trans h4).alloc _)) (⟨[], HYE.out⟩); change (Instr.yield l' #[.agg #[.int .i64 0, .string (B []), .int .i64 0, .int .i64 (p : Int)], .int .i64 61]).run _ _ = _ at hy))
          refine hR.mono ?_
          rintro e W3 (⟨rfl, hJ3, _⟩ | ⟨rfl, hx3⟩)
          · gi_wp2
            first | go_end0 | refine bodyPost_ret (results_none rfl _ _ _) rfl ?_
            exact ⟨⟨_, rfl⟩, .inl ⟨_, by rw [HYE.out]; exact hJ3⟩⟩
          · gi_wp2
            first | go_end0 | refine bodyPost_ret (results_none rfl _ _ _) rfl ?_
            exact ⟨⟨_, rfl⟩, .inr hx3⟩
      · have HN := Lib.hid (HA.out.blank HD.out hb)
        have HBl := Lib.hid hb
        clear hb
        gi_wp2_with (refine ⟨trivial, ?_⟩; gi_at_call 35; refine (callsIn_wide.2 (bool_at true (lblank_any cc _) HBl)).mono ?_; rintro e w' ⟨rfl, rfl⟩)
        go_roundw
        case rel => exact ⟨p + 1, m, ts, by omega, by go_num, HN, HJ⟩
        case measure => simp [RowKit.intOf]; omega
    · obtain rfl : p = s.size := by omega
      have hA2 : AtP s.data.toList s.data.toList.length ts := by rw [HSL.out]; exact HA.out
      have HYE := Lib.hid (yields_all hA2.done)
      have HYF : Hid (yields s.data.toList = ts.map Y ++ [Y (5, [], 0, (s.size : Int))]) := Lib.hid (by rw [HYE.out, HSL.out]; simp)
      obtain ⟨fn, tmps, assign, body, hy, hR⟩ := HY.out (ts.map Y) m (Y (5, [], 0, (s.size : Int))) wr HJ.out ⟨[], HYF.out⟩
      change (Instr.yield l' #[.agg #[.int .i64 5, .string ⟨#[]⟩, .int .i64 0, .int .i64 (s.size : Int)], .int .i64 0]).run _ _ = _ at hy
      gi_wp2
      refine hR.mono ?_
      rintro e W3 (⟨rfl, hJ3, _⟩ | ⟨rfl, hx3⟩)
      · gi_wp2
        first | go_end0 | refine bodyPost_ret (results_none rfl _ _ _) rfl ?_
        exact ⟨⟨_, rfl⟩, .inl ⟨_, by rw [HYF.out]; exact hJ3⟩⟩
      · gi_wp2
        first | go_end0 | refine bodyPost_ret (results_none rfl _ _ _) rfl ?_
        exact ⟨⟨_, rfl⟩, .inr hx3⟩
end Go.Proofs.YtjhjdiaomnpkmaaDoor

namespace Go.Proofs.YtjhjdiaomnpkmaaDoor
open Go.RowKit
open Go.Lib
set_option linter.unusedVariables false
set_option linter.unusedSimpArgs false
attribute [local go_sem] Oper.semAt_some
theorem tokens_any (s : ByteArray) (w0 w : World) (hr : Rel w0 w) : Calls Tryd.prog 27 #[.string s] w fun e w' => e = .returned (.func (.func 34) #[] #[.pointer (some ⟨w.heap.size, 0, none⟩)]) ∧ w' = w.alloc (.cells #[.string s] 9) := by
  go_enter Tryd.func27, Tryd.ntmps27
  go_wp2
  go_ret
  exact ⟨rfl, rfl⟩
/-- What a round of Lex keeps: its boxes, and the list, whose row is older than m. -/
def LexI (w : World) (D : Nat) (s : ByteArray) (pre : List (Array Value)) (m : Nat) (W : World) : Prop :=
  Rel w W ∧ Bk W w.heap.size 55 #[.slice none 0 0] ∧ Bk W (w.heap.size + 1) 40 #[.int .i64 0] ∧ Bk W (w.heap.size + 2) 3 #[.int .i64 0] ∧ Bk W (w.heap.size + 4) 9 #[.string s] ∧
  ∃ (ts : List Tok) (A : Option Addr) (c : Nat), pre = ts.map Y ∧ Bk W (w.heap.size + 3) 55 #[.slice A ts.length c] ∧ TokOwn W (D + 2) (.slice A ts.length c) ts ∧ ∀ j, (Value.slice A ts.length c).ownBlock = some j → j < m
def LexX (w : World) (l : List UInt8) (W : World) : Prop :=
  Rel w W ∧ ∃ (k : Nat), (lxP 0 l).2 = some k ∧ Bk W w.heap.size 55 #[.slice none 0 0] ∧ Bk W (w.heap.size + 1) 40 #[.int .i64 61] ∧ Bk W (w.heap.size + 2) 3 #[.int .i64 (k : Int)]
theorem yields_form {l : List UInt8} {y : Array Value} (h : y ∈ yields l) : ∃ (t : Tok) (v : Int), y = #[TK t, .int .i64 v] ∧ (v = 0 ∨ (v = 61 ∧ ∃ k : Nat, (lxP 0 l).2 = some k ∧ t.2.2.2 = (k : Int))) := by
  unfold yields at h
  rcases List.mem_append.1 h with h | h
  · obtain ⟨t, _, rfl⟩ := List.mem_map.1 h
    exact ⟨t, 0, rfl, .inl rfl⟩
  · cases hk : (lxP 0 l).2 with
    | none => rw [hk] at h; cases h
    | some k => rw [hk] at h; rw [List.mem_singleton.1 h]; exact ⟨_, 61, rfl, .inr ⟨rfl, k, rfl, rfl⟩⟩
theorem row_put {W : World} {b k n : Nat} {v : Value} {xs : List Value} (h : W.ownsRow b 65 4 v n xs) (hk : k < b) (o : Obj) : (W.putObj k o).ownsRow b 65 4 v n xs :=
  h.kept (grownBy_putObj' W k o) (by
    cases hv : v.ownBlock with
    | none => exact .inl rfl
    | some j => exact .inr (fun e => by have := (h.lt j hv).1; injection e with e; omega))
theorem row_set {W : World} {b k n : Nat} {v : Value} {xs : List Value} (h : W.ownsRow b 65 4 v n xs) (hk : k < b) (u : Value) : (W.setCell ⟨k, 0, none⟩ u).ownsRow b 65 4 v n xs :=
  own_set h (fun e => by have := (h.lt _ e.symm).1; simp only at this; omega) u
def LexP (w : World) (s : ByteArray) (_ : List (Array Value)) (y : Array Value) (a' : Act) (W : World) : Prop :=
  ∃ (t : Tok) (v : Int) (g : Nat), y = #[TK t, .int .i64 v] ∧ w.heap.size + 6 < g ∧ TB W g t ∧ a' = { tmps := #[.string s, undef, .pointer (some ⟨w.heap.size, 0, none⟩), .pointer (some ⟨w.heap.size + 1, 0, none⟩), .pointer (some ⟨w.heap.size + 1 + 1, 0, none⟩), .pointer (some ⟨w.heap.size + 1 + 1 + 1, 0, none⟩), .pointer (some ⟨g, 0, none⟩), .int .i64 v,
    .string s, .int .i64 (s.size : Int), .bool false, .string s, .func (.func 34) #[] #[.pointer (some ⟨w.heap.size + 1 + 1 + 1 + 1, 0, none⟩)], TK t, .int .i64 v, undef, undef, undef, undef, undef, undef, undef, undef, undef, undef], defers := [] }
theorem lxP_few : ∀ (m : Nat) (l : List UInt8), l.length ≤ m → ∀ p : Nat, (lxP p l).1.length ≤ l.length + 1 := by
  intro m
  induction m with
  | zero =>
    intro s hs p
    obtain rfl : s = [] := List.length_eq_zero_iff.1 (by omega)
    rw [lxP_nil]; simp
  | succ m ih =>
    intro s hs p
    cases s with
    | nil => rw [lxP_nil]; simp
    | cons c t =>
      simp only [List.length_cons] at hs ⊢
      cases hb : isBl c
      · cases hg : isSg c
        · cases hn : tokOf ((c :: t).takeWhile isPt) with
          | none => rw [lxP_bad _ c t hb hg hn]; simp
          | some kn =>
            obtain ⟨k, j⟩ := kn
            have hx := tokOf_ne hn
            have h2 := run_len (c :: t)
            have h3 : 1 ≤ ((c :: t).takeWhile isPt).length := by
              rcases hx' : (c :: t).takeWhile isPt with _ | ⟨a, b⟩
              · exact absurd hx' hx
              · simp
            simp only [List.length_cons] at h2
            rw [lxP_tok _ c t k j hb hg hn]
            have := ih ((c :: t).dropWhile isPt) (by omega) (p + ((c :: t).takeWhile isPt).length)
            simp only [List.length_cons]; omega
        · rw [lxP_sign _ c t hb hg]
          have := ih t (by omega) (p + 1)
          simp only [List.length_cons]; omega
      · rw [lxP_blank _ c t hb]
        have := ih t (by omega) (p + 1)
        omega
theorem yields_few (l : List UInt8) : (yields l).length ≤ l.length + 2 := by
  have := lxP_few _ l (Nat.le_refl _) 0
  unfold yields
  rw [List.length_append, List.length_map]
  split
  · simp; omega
  · simp; omega
theorem Bk.set1 {w : World} {g : Nat} {t : TypeId} {x : Value} (h : Bk w g t #[x]) (v : Value) : Bk (w.setCell ⟨g, 0, none⟩ v) g t #[v] := h.set_ 0 v
theorem B_inj {a b : List UInt8} (h : B a = B b) : a = b := by rw [← B_list a, h, B_list]
theorem Y_inj {t t' : Tok} (h : Y t = Y t') : t = t' := by
  obtain ⟨k, x, n, p⟩ := t
  obtain ⟨k', x', n', p'⟩ := t'
  unfold Y at h
  simp at h
  obtain ⟨h1, h2, h3, h4⟩ := h
  rw [h1, B_inj h2, h3, h4]
theorem map_Y_inj : ∀ {a b : List Tok}, a.map Y = b.map Y → a = b
  | [], [], _ => rfl
  | [], _ :: _, h => by cases h
  | _ :: _, [], h => by cases h
  | x :: a, y :: b, h => by
    simp only [List.map_cons, List.cons.injEq] at h
    rw [Y_inj h.1, map_Y_inj h.2]
theorem yields_full {l : List UInt8} {ts : List Tok} (h : yields l = ts.map Y) : lxP 0 l = (ts, none) := by
  unfold yields at h
  cases hk : (lxP 0 l).2 with
  | none =>
    rw [hk, List.append_nil] at h
    exact Prod.ext (map_Y_inj h) hk
  | some k =>
    rw [hk] at h
    have hm : (#[TK (0, [], 0, (k : Int)), Value.int .i64 61] : Array Value) ∈ ts.map Y := by rw [← h]; simp
    obtain ⟨t, _, e⟩ := List.mem_map.1 hm
    unfold Y at e
    simp at e
theorem LexI.rel {w : World} {D m : Nat} {s : ByteArray} {pre : List (Array Value)} {W W' : World} (h : LexI w D s pre m W) (hr : Rel W W') : LexI w D s pre m W' := by
  obtain ⟨r0, x0, x1, x2, x4, ts, A, c, hp, x3, xo, xm⟩ := h
  exact ⟨r0.trans hr, x0.rel hr, x1.rel hr, x2.rel hr, x4.rel hr, ts, A, c, hp, x3.rel hr, xo.rel hr, xm⟩
theorem LexI.put {w : World} {m : Nat} {s : ByteArray} {pre : List (Array Value)} {W : World} (h : LexI w (w.heap.size + 5) s pre m W) (o : Obj) : LexI w (w.heap.size + 5) s pre m (W.putObj (w.heap.size + 6) o) := by
  obtain ⟨r0, x0, x1, x2, x4, ts, A, c, hp, x3, xo, xm⟩ := h
  exact ⟨rel_put r0 (by omega) o, (put_ne W _ _ o (by omega)).trans x0, (put_ne W _ _ o (by omega)).trans x1, (put_ne W _ _ o (by omega)).trans x2, (put_ne W _ _ o (by omega)).trans x4, ts, A, c, hp, (put_ne W _ _ o (by omega)).trans x3, row_put xo (by omega) o, xm⟩
theorem LexX.put {w : World} {l : List UInt8} {W : World} (h : LexX w l W) (o : Obj) : LexX w l (W.putObj (w.heap.size + 6) o) := by
  obtain ⟨r0, k, hk, x0, x1, x2⟩ := h
  exact ⟨rel_put r0 (by omega) o, k, hk, (put_ne W _ _ o (by omega)).trans x0, (put_ne W _ _ o (by omega)).trans x1, (put_ne W _ _ o (by omega)).trans x2⟩
theorem lex_end {W : World} {rb D : Nat} {V : Value} {x y : Int} {R : Ending → World → Prop} {a : Act} (h2 : a.tmps.getD 2 undef = .pointer (some ⟨rb, 0, none⟩)) (h3 : a.tmps.getD 3 undef = .pointer (some ⟨rb + 1, 0, none⟩)) (h4 : a.tmps.getD 4 undef = .pointer (some ⟨rb + 1 + 1, 0, none⟩))
    (hd : a.defers = [{ target := .collected D, args := #[] }]) (hD : rb + 2 < D) (hK : W.heap[D]? = some (.deferred (some []))) (hb : Bk W rb 55 #[V]) (hc : Bk W (rb + 1) 40 #[.int .i64 x]) (hc2 : Bk W (rb + 1 + 1) 3 #[.int .i64 y])
    (hR : R (.returned (.tuple #[V, .int .i64 x, .int .i64 y])) (W.putObj D (.deferred none))) : bodyPostM Fence.wide 6 Tryd.prog Tryd.f24 R .ret a W := by
  show LeavesInM Fence.wide 6 Tryd.prog Tryd.f24 a.tmps R a.defers .returning W
  rw [hd]
  refine ⟨by simp, .inl ⟨_, _, rfl, run_takeDeferred hK, ?_⟩⟩
  have c0 := Bk.cell (show Bk (W.putObj D (.deferred none)) rb 55 #[V] from (put_ne W D rb _ (by omega)).trans hb) 0
  have c1 := Bk.cell (show Bk (W.putObj D (.deferred none)) (rb + 1) 40 #[.int .i64 x] from (put_ne W D (rb + 1) _ (by omega)).trans hc) 0
  have c2 := Bk.cell (show Bk (W.putObj D (.deferred none)) (rb + 1 + 1) 3 #[.int .i64 y] from (put_ne W D (rb + 1 + 1) _ (by omega)).trans hc2) 0
  simp only [List.getElem?_toArray, List.getElem?_cons_zero] at c0 c1 c2
  have h2' : a.tmps[2]?.getD undef = .pointer (some ⟨rb, 0, none⟩) := by simpa using h2
  have h3' : a.tmps[3]?.getD undef = .pointer (some ⟨rb + 1, 0, none⟩) := by simpa using h3
  have h4' : a.tmps[4]?.getD undef = .pointer (some ⟨rb + 1 + 1, 0, none⟩) := by simpa using h4
  refine ⟨_, ?_, hR⟩
  simp [results, Tryd.f24, go_sem, h2', h3', h4', c0, c1, c2]
/-- Three boxes are written, one behind the other. -/
theorem three {W W' : World} {p1 p2 p3 : Nat} {t1 t2 t3 : TypeId} {u1 u2 u3 v1 v2 v3 : Value} (h1 : Bk W p1 t1 #[u1]) (h2 : Bk W p2 t2 #[u2]) (h3 : Bk W p3 t3 #[u3]) (n12 : p1 ≠ p2) (n13 : p1 ≠ p3) (n23 : p2 ≠ p3)
    (e : (((W.setCell ⟨p1, 0, none⟩ v1).setCell ⟨p2, 0, none⟩ v2).setCell ⟨p3, 0, none⟩ v3) = W') :
    Bk W' p1 t1 #[v1] ∧ Bk W' p2 t2 #[v2] ∧ Bk W' p3 t3 #[v3] ∧ (∀ k, k ≠ p1 → k ≠ p2 → k ≠ p3 → W'.heap[k]? = W.heap[k]?) ∧ (∀ w, Rel w W → w.heap.size ≤ p1 → w.heap.size ≤ p2 → w.heap.size ≤ p3 → Rel w W') := by
  subst e
  refine ⟨?_, ?_, ?_, ?_, ?_⟩
  · exact ((h1.set1 v1).far (p := ⟨p2, 0, none⟩) n12 _).far (p := ⟨p3, 0, none⟩) n13 _
  · exact ((h2.far (p := ⟨p1, 0, none⟩) (Ne.symm n12) _).set1 v2).far (p := ⟨p3, 0, none⟩) n23 _
  · exact ((h3.far (p := ⟨p1, 0, none⟩) (Ne.symm n13) _).far (p := ⟨p2, 0, none⟩) (Ne.symm n23) _).set1 v3
  · intro k k1 k2 k3
    exact (Below.heap_setCell _ ⟨p3, 0, none⟩ _ _ (by simpa using k3)).trans ((Below.heap_setCell _ ⟨p2, 0, none⟩ _ _ (by simpa using k2)).trans (Below.heap_setCell _ ⟨p1, 0, none⟩ _ _ (by simpa using k1)))
  · intro w hr a b c
    exact ((hr.setCell (p := ⟨p1, 0, none⟩) a _).setCell (p := ⟨p2, 0, none⟩) b _).setCell (p := ⟨p3, 0, none⟩) c _
/-- One more token: the list behind the append, and the box that holds it. -/
theorem lexi_next {w W w4 : World} {s : ByteArray} {m : Nat} {ts : List Tok} {A : Option Addr} {c : Nat} {t : Tok} {g' cap' : Nat} (r0 : Rel w W) (x0 : Bk W w.heap.size 55 #[.slice none 0 0]) (x1 : Bk W (w.heap.size + 1) 40 #[.int .i64 0]) (x2 : Bk W (w.heap.size + 2) 3 #[.int .i64 0])
    (x4 : Bk W (w.heap.size + 4) 9 #[.string s]) (x3 : Bk W (w.heap.size + 3) 55 #[.slice A ts.length c]) (xo : W.ownsRow (w.heap.size + 5 + 2) 65 4 (.slice A ts.length c) ts.length (cellsOf ts))
    (xm : ∀ j, (Value.slice A ts.length c).ownBlock = some j → j < m) (hm6 : w.heap.size + 6 < m) (hmW : m ≤ W.heap.size) (o : Obj) (hgrow : (W.alloc o).grownBy w4 (Value.slice A ts.length c).ownBlock)
    (hown' : w4.ownsRow (w.heap.size + 5 + 2) 65 4 (.slice (some ⟨g', 0, none⟩) (ts.length + 1) cap') (ts.length + 1) (cellsOf ts ++ cells4 t)) (W' : World)
    (e : w4.setCell ⟨w.heap.size + 1 + 1 + 1, 0, none⟩ (.slice (some ⟨g', 0, none⟩) (ts.length + 1) cap') = W') :
    (W'.heap[w.heap.size + 5]? = W.heap[w.heap.size + 5]? ∧ W'.heap[w.heap.size + 5 + 1]? = W.heap[w.heap.size + 5 + 1]?) ∧ LexI w (w.heap.size + 5) s ((ts ++ [t]).map Y) W'.heap.size W' ∧ Keep m W W' := by
  subst e
  have hlow : ∀ k, k < w.heap.size + 5 + 2 → k < W.heap.size → w4.heap[k]? = W.heap[k]? := fun k hk hl =>
    (hgrow.block k (by rw [World.size_alloc]; omega) (fun h => by have := (xo.lt k h.symm).1; omega)).trans (Below.heap_alloc W o k hl)
  have hkeep : Keep m W w4 := ⟨by have := hgrow.size; rw [World.size_alloc] at this; omega, fun k hk hl =>
    (hgrow.block k (by rw [World.size_alloc]; omega) (fun h => by have := xm k h.symm; omega)).trans (Below.heap_alloc W o k hl)⟩
  have hbk : ∀ {k : Nat} {t : TypeId} {cs : Array Value}, k < w.heap.size + 5 + 2 → Bk W k t cs → Bk w4 k t cs := fun hk hb => (hlow _ hk hb.lt).trans hb
  have hset : ∀ k, k ≠ w.heap.size + 3 → (w4.setCell ⟨w.heap.size + 1 + 1 + 1, 0, none⟩ (.slice (some ⟨g', 0, none⟩) (ts.length + 1) cap')).heap[k]? = w4.heap[k]? := fun k hk => Below.heap_setCell w4 ⟨w.heap.size + 1 + 1 + 1, 0, none⟩ _ _ (by simpa using hk)
  have z3 := x3.lt
  have z4 := x4.lt
  have hl : (ts ++ [t]).length = ts.length + 1 := by simp
  have hW : ∀ k, k < w.heap.size + 5 + 2 → k ≠ w.heap.size + 3 → (w4.setCell ⟨w.heap.size + 1 + 1 + 1, 0, none⟩ (.slice (some ⟨g', 0, none⟩) (ts.length + 1) cap')).heap[k]? = W.heap[k]? := fun k hk hn => by
    rw [hset k hn]
    exact hlow k hk (by omega)
  refine ⟨⟨hW _ (by omega) (by omega), hW _ (by omega) (by omega)⟩, ⟨?_, ?_, ?_, ?_, ?_, ts ++ [t], some ⟨g', 0, none⟩, cap', rfl, ?_, ?_, ?_⟩, ?_⟩
  · exact Rel.setCell (Rel.grown (r0.alloc o) hgrow (fun k h => by have := (xo.lt k h).1; omega)) (by simp only; omega) _
  · exact (hW _ (by omega) (by omega)).trans x0
  · exact (hW _ (by omega) (by omega)).trans x1
  · exact (hW _ (by omega) (by omega)).trans x2
  · exact (hW _ (by omega) (by omega)).trans x4
  · rw [hl]; exact (hbk (by omega) x3).set1 _
  · have q := TokOwn.more hown'
    rw [hl]
    exact row_set q (by omega) _
  · rw [hl]
    intro j hj
    rw [World.size_setCell]; exact (hown'.lt j hj).2
  · exact hkeep.trans (Keep.set w4 (by omega) 0 _)
end Go.Proofs.YtjhjdiaomnpkmaaDoor
