/- Layer 16, the landed code: where a key's item is; the most urgent one of an item and those behind it. -/
import Derived.Test.YtndmnlgancnbkaaZL
import Derived.Test.YtndmnlgancnbkaaZ00
import Derived.Test.YtndmnlgancnbkaaZ01
import Derived.Test.YtndmnlgancnbkaaZ02
import Derived.Test.YtndmnlgancnbkaaZ03
import Derived.Test.YtndmnlgancnbkaaZ08
namespace Go.Proofs.Ytndmnlgancnbkaa
open Go.RowKit Go.Lib
set_option linter.unusedVariables false
set_option linter.unusedSimpArgs false
set_option maxRecDepth 100000 in
set_option maxHeartbeats 4000000 in
theorem place_any {w : World} {g b : Nat} {m : Int} {v : Value} {l : List It} (h : Hb w g b m v l) (hr : Rel w w) (k : Int) (hk : (Lit.int .i64 k).wf = true) :
    Calls Try.prog 43 #[.pointer (some ⟨g, 0, none⟩), .int .i64 k] w fun e w' => e = .returned (.tuple #[.int .i64 ((posf l k).getD 0), .bool (posf l k).isSome]) ∧ Rel w w' := by
  obtain ⟨⟨k0, k1, k2⟩, f0, f1, f2⟩ := h.box.three
  have hl := h.pl.look hk
  have hl2 := h.pl.drew.look hk
  generalize (posf l k).getD 0 = x at hl hl2 ⊢
  generalize (posf l k).isSome = y at hl hl2 ⊢
  have HR := Lib.hid hr
  clear h hr
  go_enter Try.func43, Try.ntmps43
  go_wp2_with (fail)
  first
    | go_ret2
    | go_ret
  exact ⟨rfl, by first | exact HR.out | exact HR.out.drew⟩
set_option maxRecDepth 100000 in
set_option maxHeartbeats 4000000 in
theorem place_nil (w : World) (hr : Rel w w) (k : Int) :
    Calls Try.prog 43 #[.pointer none, .int .i64 k] w fun e w' => e = .returned (.tuple #[.int .i64 0, .bool false]) ∧ Rel w w' := by
  have HR := Lib.hid hr
  clear hr
  go_enter Try.func43, Try.ntmps43
  go_wp2_with (fail)
  first
    | go_ret2
    | go_ret
  exact ⟨rfl, HR.out⟩
theorem ahead_at (a p c q : Int) (u : Bool) (hu : urgB (a, p) (c, q) = u) (w : World) (hr : Rel w w) :
    Calls Try.prog 67 #[.agg #[.int .i64 a, .int .i64 p], .agg #[.int .i64 c, .int .i64 q]] w fun e w' => e = .returned (.bool u) ∧ Rel w w' := by
  subst hu; exact ahead_any (a, p) (c, q) w hr
theorem firstN_lt (l : List It) (i k : Nat) (hi : i < l.length) (hk : k ≤ kidsN l i) : firstN l i k < l.length := by
  unfold kidsN at hk
  rcases (first_is l i k (by omega)).1 with e | ⟨e1, e2, e3, _⟩
  · omega
  · unfold parN at e1; omega
set_option maxRecDepth 100000 in
set_option maxHeartbeats 4000000 in
theorem first_any {w : World} {g b : Nat} {m : Int} {v : Value} {l : List It} (h : Hb w g b m v l) (hr : Rel w w) {i : Nat} (hi : i < l.length) :
    Calls Try.prog 68 #[.pointer (some ⟨g, 0, none⟩), .int .i64 (i : Int)] w fun e w' => e = .returned (.int .i64 (firstF l i : Int)) ∧ Rel w w' := by
  rcases h.hm.form with ⟨_, e⟩ | ⟨q, c, rfl, hlc, hc, hq, hat, hf⟩
  · subst e; simp at hi
  obtain ⟨n, hn⟩ : ∃ n, l.length = n := ⟨_, rfl⟩
  have hle : n ≤ 1000 := by rw [← hn]; exact h.cap
  have HI := Lib.hid hi
  rw [hn] at h hlc hi
  have HN := Lib.hid hn
  have HH := Lib.hid h
  have HR := Lib.hid hr
  have HK := Lib.hid (show kidsN l i = min 2 (n - (2 * i + 1)) by unfold kidsN; rw [hn])
  clear h hr hat hf hn hq
  go_enter Try.func68, Try.ntmps68
  go_wp2_with (fail)
  go_loopw [5, 6] (fun bb nn wr => ∃ k nx B : Nat, bb = .int .i64 (B : Int) ∧ nn = .int .i64 (nx : Int) ∧ Hid (firstN l i k = B) ∧ Hid (nx = 2 * i + 1 + k) ∧ Hid (k ≤ kidsN l i) ∧ Hid (Rel w wr)) (fun _ nn _ => 2 * i + 3 - (RowKit.intOf nn).toNat)
  case atStart => exact ⟨0, 2 * i + 1, i, rfl, by first | go_num | (congr 1; omega), Lib.hid rfl, Lib.hid rfl, Lib.hid (Nat.zero_le _), HR⟩
  case round =>
    obtain ⟨k, nx, B, rfl, rfl, HB, HX, HKk, HW⟩ := hrel
    have hm := HH.out.hm.rel HW.out
    obtain ⟨⟨k0, k1, k2⟩, f0, f1, f2⟩ := hm.box.three
    have hnx : nx = 2 * i + 1 + k := HX.out
    have hkk := HKk.out
    rw [HK.out] at hkk
    have hBn : B < n := by rw [← HB.out, ← HN.out]; exact firstN_lt l i k HI.out HKk.out
    by_cases h1 : k < 2
    · have hc1 : (nx : Int) ≤ 2 * (i : Int) + 2 := by omega
      by_cases h2 : nx < n
      · have hc2 : (nx : Int) < (n : Int) := by omega
        have hBn' : (B : Int) < (n : Int) := by omega
        obtain ⟨⟨xk, xp⟩, hx⟩ : ∃ x, atI l nx = x := ⟨_, rfl⟩
        obtain ⟨⟨bk, bp⟩, hb⟩ : ∃ x, atI l B = x := ⟨_, rfl⟩
        obtain ⟨x0, x1, _, _⟩ := hm.at (by rw [HN.out]; exact h2) hx
        obtain ⟨b0, b1, _, _⟩ := hm.at (by rw [HN.out]; exact hBn) hb
        have HF := Lib.hid (show firstN l i (k + 1) = if urgB (xk, xp) (bk, bp) then nx else B by
          show (if urgB (atI l (2 * i + 1 + k)) (atI l (firstN l i k)) then 2 * i + 1 + k else firstN l i k) = _
          rw [HB.out, ← hnx, hx, hb])
        have HKk2 := Lib.hid (show k + 1 ≤ kidsN l i by rw [HK.out]; omega)
        have HX2 := Lib.hid (show nx + 1 = 2 * i + 1 + (k + 1) by omega)
        have hm3 : nx < 2 * i + 3 := by omega
        obtain ⟨u, hu⟩ : ∃ u, urgB (xk, xp) (bk, bp) = u := ⟨_, rfl⟩
        rw [hu] at HF
        have HU := Lib.hid hu
        have hk3 : k < 3 := by omega
        clear hm hnx hkk h1 hx hb hu HB HX HKk HK
        go_upto_region 5 with (fail)
        go_still_tail 14, (by kernel_rfl)
        cases u with
        | true =>
          go_wp2_with (go_at_call 67; (with_reducible refine (ahead_at xk xp bk bp _ HU.out _ HW.out.drew.self).mono ?_); rintro e w1 ⟨rfl, r1⟩; have R1 := Lib.hid r1; clear r1)
          go_roundw
          case rel => exact ⟨k + 1, nx + 1, nx, rfl, by go_num, Lib.hid (by have := HF.out; simpa using this), HX2, HKk2, Lib.hid (HW.out.drew.trans R1.out)⟩
          case measure => simp [RowKit.intOf]; omega
        | false =>
          go_wp2_with (go_at_call 67; (with_reducible refine (ahead_at xk xp bk bp _ HU.out _ HW.out.drew.self).mono ?_); rintro e w1 ⟨rfl, r1⟩; have R1 := Lib.hid r1; clear r1)
          go_roundw
          case rel => exact ⟨k + 1, nx + 1, B, rfl, by go_num, Lib.hid (by have := HF.out; simpa using this), HX2, HKk2, Lib.hid (HW.out.drew.trans R1.out)⟩
          case measure => simp [RowKit.intOf]; omega
      · have hc2 : ¬ (nx : Int) < (n : Int) := by omega
        have HE := Lib.hid (show firstF l i = B by rw [← HB.out]; unfold firstF; rw [show kidsN l i = k by rw [HK.out]; omega])
        clear hm hnx hkk h1 h2 HB HX HKk HK
        go_wp2_with (fail)
        go_ret
        exact ⟨by rw [HE.out]; rfl, HW.out⟩
    · have hc1 : ¬ (nx : Int) ≤ 2 * (i : Int) + 2 := by omega
      have HE := Lib.hid (show firstF l i = B by rw [← HB.out]; unfold firstF; rw [show kidsN l i = k by rw [HK.out]; omega])
      clear hm hnx hkk h1 HB HX HKk HK
      go_wp2_with (fail)
      go_ret
      exact ⟨by rw [HE.out]; rfl, HW.out⟩
end Go.Proofs.Ytndmnlgancnbkaa
