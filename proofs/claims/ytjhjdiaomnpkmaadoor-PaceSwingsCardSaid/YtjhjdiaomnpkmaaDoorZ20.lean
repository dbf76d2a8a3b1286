/- The landed near: whether a last price may stay; The landed ends: whether a ring may be. -/
import Derived.Test.YtjhjdiaomnpkmaaDoorZL
import Derived.Test.YtjhjdiaomnpkmaaDoorZ00
import Derived.Test.YtjhjdiaomnpkmaaDoorZ01
import Derived.Test.YtjhjdiaomnpkmaaDoorZ02
import Derived.Test.YtjhjdiaomnpkmaaDoorZ03
import Derived.Test.YtjhjdiaomnpkmaaDoorZ04
import Derived.Test.YtjhjdiaomnpkmaaDoorZ07
import Derived.Test.YtjhjdiaomnpkmaaDoorZ19
namespace Go.Proofs.YtjhjdiaomnpkmaaDoor
open Go.RowKit Go.Lib
set_option linter.unusedVariables false
set_option linter.unusedSimpArgs false
set_option maxRecDepth 100000 in
set_option maxHeartbeats 8000000 in
theorem lnear15_any (H : ConfOk3) (f c m o b la tg : Int) (t : List UInt8) (S : ByteArray) (hS : B t = S) (hf : CfFit (f, c, m, o, b, t)) (hla : 0 ≤ la ∧ la ≤ 1000000000000) (hb : 0 ≤ b ∧ b ≤ 1000000000000) (w : World) (hr : Rel w w) :
    Calls Tryd.prog 11 #[.agg #[.int .i64 f, .int .i64 c, .int .i64 m, .int .i64 o, .int .i64 b, .string S], .int .i64 la, .int .i64 tg] w fun e w' => e = .returned (.bool (decide (la - b ≤ tg ∧ tg ≤ la + b) && withinC (f, c, m, o, b, t) la)) ∧ Hid (Rel w w') := by
  obtain ⟨la0, la1⟩ := hla
  obtain ⟨b0, b1⟩ := hb
  obtain ⟨q, hq⟩ : ∃ q, withinC (f, c, m, o, b, t) la = q := ⟨_, rfl⟩
  have KW := Lib.hid (fun (w : World) (hr : Rel w w) => cwit15 H hS hf (p := la) ⟨by omega, by omega⟩ hq w hr)
  rw [hq]
  have HLH := Lib.hid (show la - b ≤ la + b by omega)
  obtain ⟨gx, hgx, W, hW, HX, R1⟩ := conf_box hr f c m o b S
  clear H hS hf hq hr
  by_cases hn : la - b ≤ tg ∧ tg ≤ la + b
  · have HQ := Lib.hid (decide_eq_true hn)
    rw [decide_eq_true hn, Bool.true_and]
    clear hn
    go_enter Tryd.func11, Tryd.ntmps11
    go_upto_region 1 with (fail)
    try rw [hW]
    try rw [hgx]
    clear hW hgx
    obtain ⟨⟨x0, x1, x2, x3, x4, x5⟩, _⟩ := six_of HX.out
    go_wp2_with (first
      | (go_at_call 9; (with_reducible refine (pwithin15_as tg (la - b) (la + b) true HLH HQ _).mono ?_); rintro e w' ⟨rfl, rfl⟩)
      | (go_at_call 10; (with_reducible refine (KW.out _ R1.out.self).mono ?_); rintro e w2 ⟨rfl, r2⟩; have R2 := Lib.hid (R1.out.trans r2.out); clear r2))
    go_ret
    exact ⟨rfl, R2⟩
  · have HQ := Lib.hid (decide_eq_false hn)
    rw [decide_eq_false hn, Bool.false_and]
    clear hn
    go_enter Tryd.func11, Tryd.ntmps11
    go_upto_region 1 with (fail)
    try rw [hW]
    try rw [hgx]
    clear hW hgx
    obtain ⟨⟨x0, x1, x2, x3, x4, x5⟩, _⟩ := six_of HX.out
    go_wp2_with (go_at_call 9; (with_reducible refine (pwithin15_as tg (la - b) (la + b) false HLH HQ _).mono ?_); rintro e w' ⟨rfl, rfl⟩)
    go_ret
    exact ⟨rfl, R1⟩
end Go.Proofs.YtjhjdiaomnpkmaaDoor

namespace Go.Proofs.YtjhjdiaomnpkmaaDoor
open Go.RowKit Go.Lib
set_option linter.unusedVariables false
set_option linter.unusedSimpArgs false
theorem ends_long {L : List Int} {la : Int} (h : 3 < L.length) : endsP L la = false := by
  unfold endsP; rw [decide_eq_false (by omega)]; rfl
theorem ends_last {L : List Int} {la : Int} (h : L.getLast? ≠ some la) : endsP L la = false := by
  unfold endsP; rw [decide_eq_false h, Bool.and_false]; rfl
theorem ends_ring {L : List Int} {la : Int} (h : L.length ≤ 3) (h2 : L.getLast? = some la) : endsP L la = ringOk L := by
  unfold endsP; rw [decide_eq_true h, decide_eq_true h2]; rfl
theorem ring_not {L : List Int} {j : Nat} (hj : j < L.length) (h : ¬ (1 ≤ L[j] ∧ L[j] ≤ 1000000000000)) : ringOk L = false := by
  cases hr : ringOk L with
  | false => rfl
  | true => exact absurd (ringOk_mem.1 hr _ (List.getElem_mem hj)) h
theorem ring_take {L : List Int} {j : Nat} (hj : j < L.length) (h : ringOk (L.take j) = true) (hx : 1 ≤ L[j] ∧ L[j] ≤ 1000000000000) : ringOk (L.take (j + 1)) = true := by
  rw [List.take_succ_eq_append_getElem hj]
  refine ringOk_mem.2 fun x hx2 => ?_
  rcases List.mem_append.1 hx2 with hx2 | hx2
  · exact ringOk_mem.1 h x hx2
  · rw [List.mem_singleton] at hx2; subst hx2; exact hx
set_option maxRecDepth 100000 in
set_option maxHeartbeats 8000000 in
theorem lends15_any (L : List Int) (A : Option Addr) (n k : Nat) (la : Int) (hn : L.length = n) (h1 : 1 ≤ n) (w : World) (hi : IntsIn w A k L) :
    Calls Tryd.prog 16 #[.slice A n k, .int .i64 la] w fun e w' => e = .returned (.bool (endsP L la)) ∧ w = w' := by
  have hk : n ≤ k ∧ k ≤ maxLen := ⟨by rw [← hn]; exact hi.1, hi.2.1⟩
  obtain ⟨hk0, hk1⟩ := hk
  unfold maxLen at hk1
  obtain ⟨g, off, rfl, hc⟩ := ints_row hi (by omega)
  have HN := Lib.hid hn
  have HC := Lib.hid hc
  by_cases h3 : 3 < n
  · have HE := Lib.hid (ends_long (la := la) (L := L) (by omega))
    clear hn hc hi
    have d3 : decide ((3 : Int) < (n : Int)) = true := decide_eq_true (by omega)
    go_enter Tryd.func16, Tryd.ntmps16
    go_wp2_with (fail)
    go_ret
    exact ⟨ret_bool HE.out.symm, rfl⟩
  · have d3 : decide ((3 : Int) < (n : Int)) = false := decide_eq_false (by omega)
    obtain ⟨e, hen⟩ : ∃ e, n = e + 1 := ⟨n - 1, by omega⟩
    have hel : e < L.length := by omega
    obtain ⟨x, hx⟩ : ∃ x, L[e] = x := ⟨_, rfl⟩
    have px := hc e hel
    rw [hx] at px
    have hlast : L.getLast? = some x := by
      rw [List.getLast?_eq_getElem?, show L.length - 1 = e by omega, List.getElem?_eq_getElem hel, hx]
    have i1 : ((n : Nat) : Int) - 1 = (e : Int) := by omega
    have i2 : (0 : Int) ≤ (e : Int) := by omega
    have i3 : (e : Int) < ((n : Nat) : Int) := by omega
    by_cases hxl : x = la
    · subst hxl
      have b0 : (x != x) = false := by simp
      have HE := Lib.hid (ends_ring (L := L) (la := x) (by omega) hlast)
      rw [HE.out]
      have HL3 := Lib.hid (show n ≤ 3 by omega)
      clear hn hc hi hx hlast hel h3 HE hen
      go_enter Tryd.func16, Tryd.ntmps16
      go_wp2_with (fail)
      go_loopw [22] (fun i wr => ∃ j : Nat, i = .int .i64 (j : Int) ∧ j ≤ n ∧ Hid (ringOk (L.take j) = true) ∧ Hid (wr = w)) (fun i _ => n - (RowKit.intOf i).toNat)
      case atStart => exact ⟨0, rfl, by omega, Lib.hid rfl, Lib.hid rfl⟩
      case round =>
        obtain ⟨j, rfl, hj, HT, HW⟩ := hrel
        obtain rfl := HW.out
        by_cases hlt : j < n
        · have hjL : j < L.length := by rw [HN.out]; exact hlt
          obtain ⟨y, hy⟩ : ∃ y, L[j] = y := ⟨_, rfl⟩
          have py := HC.out j hjL
          rw [hy] at py
          have j0 : (0 : Int) ≤ (j : Int) := by omega
          have j1 : (j : Int) < ((n : Nat) : Int) := by omega
          have HLH := Lib.hid (show (1 : Int) ≤ 1000000000000 by decide)
          by_cases hy2 : 1 ≤ y ∧ y ≤ 1000000000000
          · have HQ := Lib.hid (decide_eq_true hy2)
            have HT2 := Lib.hid (ring_take hjL HT.out (by rw [hy]; exact hy2))
            clear hy2 hy HT
            go_wp2_with (go_at_call 9; (with_reducible refine (pwithin15_as y 1 1000000000000 true HLH HQ _).mono ?_); rintro e w' ⟨rfl, rfl⟩)
            go_roundw
            case rel => exact ⟨j + 1, by go_num, by omega, HT2, by first | exact Lib.hid rfl | exact Lib.hid trivial⟩
            case measure => simp [RowKit.intOf]; omega
          · have HQ := Lib.hid (decide_eq_false hy2)
            have HF := Lib.hid (ring_not hjL (by rw [hy]; exact hy2))
            clear hy2 hy HT
            go_wp2_with (go_at_call 9; (with_reducible refine (pwithin15_as y 1 1000000000000 false HLH HQ _).mono ?_); rintro e w' ⟨rfl, rfl⟩)
            go_ret
            exact ⟨ret_bool HF.out.symm, rfl⟩
        · obtain rfl : j = n := by omega
          have HR := Lib.hid (show ringOk L = true by have := HT.out; rwa [List.take_of_length_le (by rw [HN.out]; omega)] at this)
          clear HT
          go_wp2_with (fail)
          go_ret
          exact ⟨ret_bool HR.out.symm, rfl⟩
    · have b0 : (x != la) = true := by simpa using hxl
      have HE := Lib.hid (ends_last (L := L) (la := la) (by rw [hlast]; intro h; injection h with h; exact hxl h))
      clear hn hc hi hx hlast hel h3 hxl hen
      go_enter Tryd.func16, Tryd.ntmps16
      go_wp2_with (fail)
      go_ret
      exact ⟨ret_bool HE.out.symm, rfl⟩
theorem lends15_as (L : List Int) (A : Option Addr) (n k : Nat) (la : Int) (q : Bool) (hn : L.length = n) (h1 : 1 ≤ n) (hq : endsP L la = q) (w : World) (hi : IntsIn w A k L) :
    Calls Tryd.prog 16 #[.slice A n k, .int .i64 la] w fun e w' => e = .returned (.bool q) ∧ w = w' := by
  rw [← hq]; exact lends15_any L A n k la hn h1 w hi
end Go.Proofs.YtjhjdiaomnpkmaaDoor
