/- The document's own answers of layer 13: are books the same?. -/
import Derived.Test.YtfplhpkolcgpiaaZL
import Derived.Test.YtfplhpkolcgpiaaZ00
import Derived.Test.YtfplhpkolcgpiaaZ11
namespace Go.Proofs.Ytfplhpkolcgpiaa
open Go.RowKit Go.Lib
set_option linter.unusedVariables false
set_option linter.unusedSimpArgs false
set_option maxRecDepth 100000 in
set_option maxHeartbeats 4000000 in
theorem rsame13_any (a b : List Sl) (A A' : Option Addr) (c c' : Nat) (w : World) (hr : Rel w w) (ha : RowAt cl3 3 w A a) (hb : RowAt cl3 3 w A' b) (la : a.length ≤ 9223372036854775807) (lb : b.length ≤ 9223372036854775807) :
    Calls Try.prog 16 #[.slice A a.length c, .slice A' b.length c'] w fun e w' => e = .returned (.bool (decide (a = b))) ∧ Rel w w' := by
  have HA := Lib.hid ha
  have HB := Lib.hid hb
  have HR := Lib.hid hr
  clear ha hb hr
  by_cases hl : a.length = b.length
  rotate_left 1
  · have hn : decide (a = b) = false := decide_eq_false fun e => hl (by rw [e])
    have h1 : ((a.length : Int) != (b.length : Int)) = true := by simp; omega
    rw [hn]
    clear hn hl
    go_enter Try.func16, Try.ntmps16
    go_wp2_with (fail)
    go_ret
    exact ⟨rfl, HR.out⟩
  obtain ⟨n, hn⟩ : ∃ n, b.length = n := ⟨_, rfl⟩
  have HNb := Lib.hid hn
  have HNa := Lib.hid (show a.length = n from hl.trans hn)
  rw [hl.trans hn, hn]
  rw [hn] at lb
  clear hn hl la
  go_enter Try.func16, Try.ntmps16
  go_wp2_with (fail)
  go_loopw [5] (fun i wr => ∃ j : Nat, j ≤ n ∧ i = .int .i64 (j : Int) ∧ Hid (∀ k (h1 : k < a.length) (h2 : k < b.length), k < j → a[k] = b[k]) ∧ Hid (Rel w wr)) (fun i _ => n - (RowKit.intOf i).toNat)
  case atStart => exact ⟨0, by omega, rfl, Lib.hid (fun k _ _ h => absurd h (by omega)), HR⟩
  case round =>
    obtain ⟨j, hj, rfl, HJ, HRw⟩ := hrel
    by_cases hlt : j < n
    · have hla : j < a.length := by rw [HNa.out]; exact hlt
      have hlb : j < b.length := by rw [HNb.out]; exact hlt
      obtain ⟨g, off, x, rfl, _, hx, k0, k1, k2⟩ := slot_at HA.out HRw.out j hla
      obtain ⟨g', off', y, rfl, _, hy, q0, q1, q2⟩ := slot_at HB.out HRw.out j hlb
      have HX := Lib.hid hx
      have HY := Lib.hid hy
      obtain ⟨xs, hxs⟩ : ∃ s, B x.1 = s := ⟨_, rfl⟩
      obtain ⟨xp, hxp⟩ : ∃ s, x.2.1 = s := ⟨_, rfl⟩
      obtain ⟨xt, hxt⟩ : ∃ s, x.2.2 = s := ⟨_, rfl⟩
      obtain ⟨ys, hys⟩ : ∃ s, B y.1 = s := ⟨_, rfl⟩
      obtain ⟨yp, hyp⟩ : ∃ s, y.2.1 = s := ⟨_, rfl⟩
      obtain ⟨yt, hyt⟩ : ∃ s, y.2.2 = s := ⟨_, rfl⟩
      have HEQ := Lib.hid (fun W => slot_is x y xs ys xp xt yp yt ⟨hxs, hxp, hxt⟩ ⟨hys, hyp, hyt⟩ W)
      rw [hxs] at k0
      rw [hxp] at k1
      rw [hxt] at k2
      rw [hys] at q0
      rw [hyp] at q1
      rw [hyt] at q2
      have hi : (j : Int) < (n : Int) := by omega
      clear hx hy hxs hxp hxt hys hyp hyt
      obtain ⟨d, hd⟩ : ∃ d, decide (x = y) = d := ⟨_, rfl⟩
      rw [hd] at HEQ
      have HD := Lib.hid hd
      have EQ := HEQ.out
      clear hd
      cases d with
      | true =>
        go_upto_region 6 with (fail)
        go_quiet (fail)
        all_goals
          go_wp2_with (fail)
          go_roundw
          case rel => exact ⟨j + 1, by omega, by go_num, Lib.hid (same_step (by rw [HNa.out]; exact hlt) (by rw [HNb.out]; exact hlt) HJ.out (by rw [HX.out, HY.out]; exact of_decide_eq_true HD.out)), Lib.hid (HRw.out.drewN _)⟩
          case measure => simp [RowKit.intOf]; omega
      | false =>
        go_upto_region 6 with (fail)
        go_quiet (fail)
        all_goals
          go_wp2_with (fail)
          go_ret
          refine ⟨ret_bool (decide_eq_false fun e => ?_).symm, HRw.out.drewN _⟩
          have h1 := HX.out
          have h2 := HY.out
          subst e
          exact of_decide_eq_false HD.out (h1.symm.trans h2)
    · obtain rfl : j = n := by omega
      go_wp2_with (fail)
      go_ret
      refine ⟨ret_bool (decide_eq_true ?_).symm, HRw.out⟩
      exact List.ext_getElem (by rw [HNa.out, HNb.out]) fun k h1 h2 => HJ.out k h1 h2 (by rw [← HNb.out]; exact h2)
end Go.Proofs.Ytfplhpkolcgpiaa
