/- The document's own Right and Print. -/
import Derived.Test.YtlflfffjaodhpaaDoorTreeFineC
namespace Go.Proofs.YtlflfffjaodhpaaDoor
open Go.RowKit Go.Lib
set_option linter.unusedVariables false
set_option linter.unusedSimpArgs false

theorem rfine32 (x : Ex) (S : Nat → Prop) (e : El) (w0 w : World) (hr : Rel w0 w) (h : ExAt S w e x) (hz : size x ≤ 1000000) :
    Calls Tryd.prog 32 #[EV e, .int .i64 32] w fun r w' => r = .returned (.bool (fine 32 x)) ∧ Rel w0 w' := rfine_any 32 (by omega) x S e w0 w hr h hz
set_option maxRecDepth 100000 in
set_option maxHeartbeats 4000000 in
theorem rright_any (x : Ex) (S : Nat → Prop) (e : El) (w0 w : World) (hr : Rel w0 w) (h : ExAt S w e x) (hz : size x ≤ 1000000) :
    Calls Tryd.prog 15 #[EV e] w fun r w' => r = .returned (.bool (rightX x)) ∧ Rel w0 w' := by
  have HE := Lib.hid h
  have HR := Lib.hid hr
  obtain ⟨k, n, nm, A, m, c⟩ := e
  have hke : x.k = k := h.kind
  have HB := Lib.hid (Bk.new w 26 #[.int .i64 k, .int .i64 n, .string (B nm), .slice A m c])
  have HA := Lib.hid (hr.self.alloc (.cells #[.int .i64 k, .int .i64 n, .string (B nm), .slice A m c] 26))
  have HFi := Lib.hid (fun (w' : World) (h' : Rel w w') => rfine32 x S (k, n, nm, A, m, c) w' w' (hr.trans h').self (h.rel h') hz)
  have HSi := Lib.hid (fun (w' : World) (h' : Rel w w') => rsize_any x S (k, n, nm, A, m, c) w' w' (hr.trans h').self (h.rel h') hz)
  have hRX : rightX x = (fine 32 x && !isCond k && decide (size x ≤ 2000) && decide ((text x).length ≤ 2000)) := by unfold rightX; rw [hke]
  obtain ⟨b, hb⟩ : ∃ b, fine 32 x = b := ⟨_, rfl⟩
  have HTx := Lib.hid (fun (hf : fine 32 x = true) (hs : size x ≤ 2000) (w' : World) (h' : Rel w w') => rtext7_any x 32 S (k, n, nm, A, m, c) w' w' hf (hr.trans h').self (h.rel h') hs)
  have HFT := Lib.hid hb
  have HTL := Lib.hid (fun (hf : fine 32 x = true) => text_len x 32 hf)
  rw [hb] at HFi hRX
  clear h hb
  cases b with
  | false =>
    have HX := Lib.hid (show rightX x = false by rw [hRX]; simp)
    clear hRX
    go_enter Tryd.func15, Tryd.ntmps15
    go_wp2_with (go_at_call 32; (with_reducible refine (HFi.out _ HA.out).mono ?_); rintro e w1 ⟨rfl, h1⟩; obtain ⟨⟨c0, c1, c2, c3⟩, _⟩ := (HB.out.rel h1).four)
    go_ret
    exact ⟨ret_bool HX.out.symm, (HR.out.trans HA.out).trans h1⟩
  | true =>
    obtain ⟨q, hq⟩ : ∃ q, isCond k = q := ⟨_, rfl⟩
    have HQ := Lib.hid hq
    rw [hq] at hRX
    clear hq
    cases q with
    | true =>
      have HX := Lib.hid (show rightX x = false by rw [hRX]; simp)
      clear hRX
      go_enter Tryd.func15, Tryd.ntmps15
      go_wp2_with (first
        | (go_at_call 32; (with_reducible refine (HFi.out _ HA.out).mono ?_); rintro e w1 ⟨rfl, h1⟩; obtain ⟨⟨c0, c1, c2, c3⟩, _⟩ := (HB.out.rel h1).four)
        | (go_at_call 33; (with_reducible refine (cond_as k _ HQ _).mono ?_); rintro e w' ⟨rfl, rfl⟩))
      go_ret
      exact ⟨ret_bool HX.out.symm, (HR.out.trans HA.out).trans h1⟩
    | false =>
      obtain ⟨sz, hsz⟩ : ∃ s, size x = s := ⟨_, rfl⟩
      have HSZ := Lib.hid hsz
      rw [hsz] at hRX HSi hz
      clear hsz
      by_cases h2 : sz ≤ 2000
      · obtain ⟨T, hT⟩ : ∃ T, B (text x) = T := ⟨_, rfl⟩
        have hTs : T.size = (text x).length := by rw [← hT, B_size]
        have hTl : T.size ≤ 120000 := by rw [hTs]; have := HTL.out HFT.out; have := HSZ.out; omega
        have HTT := Lib.hid (HTx.out HFT.out (by rw [HSZ.out]; exact h2))
        rw [hT] at HTT
        have HX := Lib.hid (show rightX x = decide (T.size ≤ 2000) by rw [hRX, hTs]; simp [h2])
        have i2 : (sz : Int) ≤ 2000 := by omega
        clear hRX hT hTs
        by_cases h3 : T.size ≤ 2000
        · have i3 : (T.size : Int) ≤ 2000 := by omega
          go_enter Tryd.func15, Tryd.ntmps15
          go_wp2_with (first
            | (go_at_call 32; (with_reducible refine (HFi.out _ HA.out).mono ?_); rintro e w1 ⟨rfl, h1⟩; obtain ⟨⟨c0, c1, c2, c3⟩, _⟩ := (HB.out.rel h1).four)
            | (go_at_call 33; (with_reducible refine (cond_as k _ HQ _).mono ?_); rintro e w' ⟨rfl, rfl⟩)
            | (go_at_call 17; (with_reducible refine (HSi.out _ (HA.out.trans h1)).mono ?_); rintro e w2 ⟨rfl, h2'⟩; obtain ⟨⟨d0, d1, d2, d3⟩, _⟩ := ((HB.out.rel h1).rel h2').four)
            | (go_at_call 31; (with_reducible refine (HTT.out _ ((HA.out.trans h1).trans h2')).mono ?_); rintro e w3 ⟨rfl, h3'⟩))
          go_ret
          exact ⟨ret_bool (by rw [HX.out]; simp [h3]), (((HR.out.trans HA.out).trans h1).trans h2').trans h3'⟩
        · have i3 : ¬ (T.size : Int) ≤ 2000 := by omega
          go_enter Tryd.func15, Tryd.ntmps15
          go_wp2_with (first
            | (go_at_call 32; (with_reducible refine (HFi.out _ HA.out).mono ?_); rintro e w1 ⟨rfl, h1⟩; obtain ⟨⟨c0, c1, c2, c3⟩, _⟩ := (HB.out.rel h1).four)
            | (go_at_call 33; (with_reducible refine (cond_as k _ HQ _).mono ?_); rintro e w' ⟨rfl, rfl⟩)
            | (go_at_call 17; (with_reducible refine (HSi.out _ (HA.out.trans h1)).mono ?_); rintro e w2 ⟨rfl, h2'⟩; obtain ⟨⟨d0, d1, d2, d3⟩, _⟩ := ((HB.out.rel h1).rel h2').four)
            | (go_at_call 31; (with_reducible refine (HTT.out _ ((HA.out.trans h1).trans h2')).mono ?_); rintro e w3 ⟨rfl, h3'⟩))
          go_ret
          exact ⟨ret_bool (by rw [HX.out]; simp [h3]; omega), (((HR.out.trans HA.out).trans h1).trans h2').trans h3'⟩
      · have HX := Lib.hid (show rightX x = false by rw [hRX]; simp [h2])
        have i2 : ¬ (sz : Int) ≤ 2000 := by omega
        clear hRX
        go_enter Tryd.func15, Tryd.ntmps15
        go_wp2_with (first
          | (go_at_call 32; (with_reducible refine (HFi.out _ HA.out).mono ?_); rintro e w1 ⟨rfl, h1⟩; obtain ⟨⟨c0, c1, c2, c3⟩, _⟩ := (HB.out.rel h1).four)
          | (go_at_call 33; (with_reducible refine (cond_as k _ HQ _).mono ?_); rintro e w' ⟨rfl, rfl⟩)
          | (go_at_call 17; (with_reducible refine (HSi.out _ (HA.out.trans h1)).mono ?_); rintro e w2 ⟨rfl, h2'⟩))
        go_ret
        exact ⟨ret_bool (by rw [HX.out]), ((HR.out.trans HA.out).trans h1).trans h2'⟩
/-- What Print tells: its text, or none. -/
def prT (x : Ex) : List UInt8 := if rightX x then text x else []
def prE (x : Ex) : Int := if rightX x then 0 else 1
set_option maxRecDepth 100000 in
set_option maxHeartbeats 4000000 in
theorem rprint_any (x : Ex) (S : Nat → Prop) (e : El) (w0 w : World) (hr : Rel w0 w) (h : ExAt S w e x) (hz : size x ≤ 1000000) :
    Calls Tryd.prog 13 #[EV e] w fun r w' => r = .returned (.tuple #[.string (B (prT x)), .int .i64 (prE x)]) ∧ Rel w0 w' := by
  have HR := Lib.hid hr
  obtain ⟨k, n, nm, A, m, c⟩ := e
  have HB := Lib.hid (Bk.new w 26 #[.int .i64 k, .int .i64 n, .string (B nm), .slice A m c])
  have HA := Lib.hid (hr.self.alloc (.cells #[.int .i64 k, .int .i64 n, .string (B nm), .slice A m c] 26))
  have HRi := Lib.hid (fun (w' : World) (h' : Rel w w') => rright_any x S (k, n, nm, A, m, c) w' w' (hr.trans h').self (h.rel h') hz)
  have HTx := Lib.hid (fun (hf : fine 32 x = true) (hs : size x ≤ 2000) (w' : World) (h' : Rel w w') => rtext7_any x 32 S (k, n, nm, A, m, c) w' w' hf (hr.trans h').self (h.rel h') hs)
  cases hx : rightX x
  · have HX := Lib.hid (show prT x = [] ∧ prE x = 1 by unfold prT prE; rw [hx]; exact ⟨rfl, rfl⟩)
    rw [hx] at HRi
    clear h hx
    go_enter Tryd.func13, Tryd.ntmps13
    go_wp2_with (go_at_call 15; (with_reducible refine (HRi.out _ HA.out).mono ?_); rintro e w1 ⟨rfl, h1⟩; obtain ⟨⟨c0, c1, c2, c3⟩, _⟩ := (HB.out.rel h1).four)
    go_ret2
    exact ⟨by rw [HX.out.1, HX.out.2]; rfl, (HR.out.trans HA.out).trans h1⟩
  · have HX := Lib.hid (show prT x = text x ∧ prE x = 0 by unfold prT prE; rw [hx]; exact ⟨rfl, rfl⟩)
    have hparts : fine 32 x = true ∧ size x ≤ 2000 := by
      simp only [rightX, Bool.and_eq_true, decide_eq_true_eq] at hx
      exact ⟨hx.1.1.1, hx.1.2⟩
    rw [hx] at HRi
    have HTT := Lib.hid (HTx.out hparts.1 hparts.2)
    clear h hx hparts
    go_enter Tryd.func13, Tryd.ntmps13
    go_wp2_with (first
      | (go_at_call 15; (with_reducible refine (HRi.out _ HA.out).mono ?_); rintro e w1 ⟨rfl, h1⟩; obtain ⟨⟨c0, c1, c2, c3⟩, _⟩ := (HB.out.rel h1).four)
      | (go_at_call 31; (with_reducible refine (HTT.out _ (HA.out.trans h1)).mono ?_); rintro e w2 ⟨rfl, h2⟩))
    go_ret2
    exact ⟨by rw [HX.out.1, HX.out.2]; rfl, ((HR.out.trans HA.out).trans h1).trans h2⟩
end Go.Proofs.YtlflfffjaodhpaaDoor
