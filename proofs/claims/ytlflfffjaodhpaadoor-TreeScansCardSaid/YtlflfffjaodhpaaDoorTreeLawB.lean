/- TreeScans, over what the program is asked. -/
import Derived.Test.YtlflfffjaodhpaaDoorTreeLawA
import Derived.Test.YtlflfffjaodhpaaDoorLexScan
namespace Go.Proofs.YtlflfffjaodhpaaDoor
open Go.RowKit Go.Lib
set_option linter.unusedVariables false
set_option linter.unusedSimpArgs false

def LexOk : Prop := ∀ (s : ByteArray), s.size ≤ 9223372036854775807 → ∀ w0 w, Rel w0 w → Calls Tryd.prog 22 #[.string s] w (LexPost s.data.toList w0)
def LexIs (ts : List Tok) (err place : Int) (w0 : World) (e : Ending) (w' : World) : Prop :=
  ∃ (A : Option Addr) (c : Nat), e = .returned (.tuple #[.slice A ts.length c, .int .i64 err, .int .i64 place]) ∧ Rel w0 w' ∧ ToksAt w' A ts
theorem LexPost.is {l : List UInt8} {w0 w' : World} {e : Ending} {ts : List Tok} {err place : Int} (h : LexPost l w0 e w') (hO : Out l ts err place) : LexIs ts err place w0 e w' := by
  obtain ⟨ts', A, c, err', place', rfl, hr, hT, hO'⟩ := h
  obtain ⟨rfl, rfl, rfl⟩ := hO'.det hO
  exact ⟨A, c, rfl, hr, hT⟩
theorem lex_is (H : LexOk) (s : ByteArray) (ts : List Tok) (err place : Int) (hO : Hid (Out s.data.toList ts err place)) (hs : s.size ≤ 9223372036854775807) (w0 w : World) (hr : Rel w0 w) :
    Calls Tryd.prog 22 #[.string s] w (LexIs ts err place w0) := (H s hs w0 w hr).mono fun e w' h => h.is hO.out
theorem rlex_is (s : ByteArray) (ts : List Tok) (err place : Int) (hO : Hid (Out s.data.toList ts err place)) (hs : s.size ≤ 9223372036854775807) (w0 w : World) (hr : Rel w0 w) :
    Calls Tryd.prog 23 #[.string s] w (LexIs ts err place w0) := (rlex_any s hs w0 w hr).mono fun e w' h => h.is hO.out
theorem print_out (x : Ex) : ∃ ts, Out (prT x) ts 0 0 ∧ (rightX x = true → size x < ts.length) ∧ ts.length ≤ 2001 := by
  cases h : rightX x
  · rw [(pr_of h).1]
    exact ⟨[(5, [], 0, 0)], .inr (.inl ⟨by simp, lx_nil 0, rfl, rfl⟩), (fun h => by cases h), by decide⟩
  · rw [(pr_of h).1]
    obtain ⟨ts, e, hl⟩ := right_scans h
    have hlen : (text x).length ≤ 2000 := by
      simp only [rightX, Bool.and_eq_true, decide_eq_true_eq] at h
      exact h.2
    obtain ⟨us, hu, _, _, hle⟩ := lx_out _ (text x) (Nat.le_refl _) 0 ts e
    exact ⟨ts, .inr (.inl ⟨hlen, e, rfl, rfl⟩), fun _ => hl, by rw [hu, List.length_append]; simp; omega⟩
set_option maxRecDepth 100000 in
set_option maxHeartbeats 8000000 in
theorem TreeScans_at (H : TreeOk) (HLx : LexOk) (A : Option Addr) (c : Nat) (L : List Int) (w : World) (hr : Rel w w) (hi : IntsIn w A c L) :
    Calls Tryd.prog 5 #[.slice A L.length c] w fun e w' => e = .returned (.bool true) ∧ Rel w w' := by
  have H := Lib.hid H
  have HLx := Lib.hid HLx
  have HR := Lib.hid hr
  have HI := Lib.hid hi
  obtain ⟨x, hx⟩ : ∃ x, strat L = x := ⟨_, rfl⟩
  have HSx := Lib.hid (fun (w0 w1 : World) (hr : Rel w0 w1) (h : IntsIn w1 A c L) => strat_any A c L w0 w1 hr h)
  have zx : size x ≤ 100000 := by have := strat_size L; rw [hx] at this; omega
  rw [hx] at HSx
  clear hx hi
  obtain ⟨bx, hbx⟩ : ∃ b, rightX x = b := ⟨_, rfl⟩
  have HBx := Lib.hid hbx
  have px := pr_of hbx
  obtain ⟨ts, hO, hsz, hts⟩ := print_out x
  obtain ⟨T, hT⟩ : ∃ T, B (prT x) = T := ⟨_, rfl⟩
  have HO : Hid (Out T.data.toList ts 0 0) := Lib.hid (by rw [← hT, B_list]; exact hO)
  have zT : T.size ≤ 9223372036854775807 := by
    rw [← hT, B_size, px.1]
    cases bx with
    | false => simp
    | true =>
      have : (text x).length ≤ 2000 := by
        simp only [rightX, Bool.and_eq_true, decide_eq_true_eq] at hbx
        exact hbx.2
      simp; omega
  have P1 := Lib.hid (And.intro hT px.2)
  obtain ⟨sz, hsz'⟩ : ∃ s, size x = s := ⟨_, rfl⟩
  have HSz : Hid ((size x : Int) = (sz : Int)) := Lib.hid (by rw [hsz'])
  rw [hsz'] at hsz
  clear hT px hO hsz'
  cases bx with
  | false =>
    clear hsz hbx
    go_enter Tryd.func5, Tryd.ntmps5
    go_wp2_with (first
      | (go_at_call 9; (with_reducible refine (awake7_any H.out _ _ HR.out).mono ?_); rintro e w1 ⟨rfl, h1⟩)
      | (go_at_call 10; (with_reducible refine (HSx.out _ _ h1.self (HI.out.rel h1)).mono ?_); rintro e w2 ⟨vx, rfl, ex, h2⟩; have AX := h2.self.alloc (.cells #[.int .i64 vx.1, .int .i64 vx.2.1, .string (B vx.2.2.1), .slice vx.2.2.2.1 vx.2.2.2.2.1 vx.2.2.2.2.2] 26); have R2 := (h1.trans h2).trans AX; have BX := Bk.new w2 26 #[.int .i64 vx.1, .int .i64 vx.2.1, .string (B vx.2.2.1), .slice vx.2.2.2.1 vx.2.2.2.2.1 vx.2.2.2.2.2]; have EX := ex.rel AX; obtain ⟨⟨c0, c1, c2, c3⟩, _⟩ := BX.four)
      | (go_at_call 12; (with_reducible refine (print_as H.out x T _ P1 _ vx _ _ AX.self EX zx).mono ?_); rintro e w3 ⟨rfl, h3⟩)
      | (go_at_call 22; (with_reducible refine (lex_is HLx.out T ts 0 0 HO zT _ _ h3.self).mono ?_); rintro e w4 ⟨A1, c1', rfl, h4, hT1⟩)
      | (go_at_call 23; (with_reducible refine (rlex_is T ts 0 0 HO zT _ _ h4.self).mono ?_); rintro e w5 ⟨A2, c2', rfl, h5, hT2⟩; have R5 := (h3.trans h4).trans h5; obtain ⟨⟨c0, c1, c2, c3⟩, _⟩ := (BX.rel R5).four)
      | (go_at_call 14; (with_reducible refine (right_as H.out x _ HBx _ vx _ _ h5.self (EX.rel R5) zx).mono ?_); rintro e w6 ⟨rfl, h6⟩; have R6 := R5.trans h6))
    all_goals
      go_ret
      exact ⟨rfl, R2.trans R6⟩
  | true =>
    have hlt := hsz hbx
    have hlt2 : (sz : Int) < (ts.length : Int) := by omega
    clear hsz hbx
    go_enter Tryd.func5, Tryd.ntmps5
    go_wp2_with (first
      | (go_at_call 9; (with_reducible refine (awake7_any H.out _ _ HR.out).mono ?_); rintro e w1 ⟨rfl, h1⟩)
      | (go_at_call 10; (with_reducible refine (HSx.out _ _ h1.self (HI.out.rel h1)).mono ?_); rintro e w2 ⟨vx, rfl, ex, h2⟩; have AX := h2.self.alloc (.cells #[.int .i64 vx.1, .int .i64 vx.2.1, .string (B vx.2.2.1), .slice vx.2.2.2.1 vx.2.2.2.2.1 vx.2.2.2.2.2] 26); have R2 := (h1.trans h2).trans AX; have BX := Bk.new w2 26 #[.int .i64 vx.1, .int .i64 vx.2.1, .string (B vx.2.2.1), .slice vx.2.2.2.1 vx.2.2.2.2.1 vx.2.2.2.2.2]; have EX := ex.rel AX; obtain ⟨⟨c0, c1, c2, c3⟩, _⟩ := BX.four)
      | (go_at_call 12; (with_reducible refine (print_as H.out x T _ P1 _ vx _ _ AX.self EX zx).mono ?_); rintro e w3 ⟨rfl, h3⟩)
      | (go_at_call 22; (with_reducible refine (lex_is HLx.out T ts 0 0 HO zT _ _ h3.self).mono ?_); rintro e w4 ⟨A1, c1', rfl, h4, hT1⟩)
      | (go_at_call 23; (with_reducible refine (rlex_is T ts 0 0 HO zT _ _ h4.self).mono ?_); rintro e w5 ⟨A2, c2', rfl, h5, hT2⟩; have R5 := (h3.trans h4).trans h5; obtain ⟨⟨c0, c1, c2, c3⟩, _⟩ := (BX.rel R5).four)
      | (go_at_call 16; (with_reducible refine (size_as H.out x (sz : Int) HSz _ vx _ _ h5.self (EX.rel R5) zx).mono ?_); rintro e w6' ⟨rfl, h6'⟩)
      | (go_at_call 24; (with_reducible refine (same_any A1 A2 _ _ ts (by omega) _ _ h6'.self (Lib.hid ((hT1.rel h5).rel h6')) (Lib.hid (hT2.rel h6'))).mono ?_); rintro e w6 ⟨rfl, h6⟩; have R6 := (R5.trans h6').trans h6))
    all_goals
      go_ret
      exact ⟨rfl, R2.trans R6⟩
end Go.Proofs.YtlflfffjaodhpaaDoor
