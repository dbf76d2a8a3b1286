/- TreeUnlike, over what the program is asked. -/
import Derived.Test.YtlflfffjaodhpaaDoorTreeAwake
namespace Go.Proofs.YtlflfffjaodhpaaDoor
open Go.RowKit Go.Lib
set_option linter.unusedVariables false
set_option linter.unusedSimpArgs false

theorem pr_of {x : Ex} {b : Bool} (h : rightX x = b) : prT x = (if b then text x else []) ∧ prE x = (if b then 0 else 1) := by
  unfold prT prE; rw [h]; exact ⟨rfl, rfl⟩
theorem right_inj {x y : Ex} (hx : rightX x = true) (hy : rightX y = true) : text x = text y ↔ x = y := by
  simp only [rightX, Bool.and_eq_true] at hx hy
  constructor
  · intro h
    exact (text_inj x y 32 32 hx.1.1.1 hy.1.1.1 [] [] rfl rfl (by rw [h])).1
  · intro h; rw [h]
theorem B_eq (a b : List UInt8) : ((B a).toList == (B b).toList) = decide (a = b) := by
  rw [B_toList, B_toList]
  by_cases h : a = b <;> simp [h]
set_option maxRecDepth 100000 in
set_option maxHeartbeats 8000000 in
theorem TreeUnlike_at (H : TreeOk) (A : Option Addr) (c : Nat) (L : List Int) (A' : Option Addr) (c' : Nat) (L' : List Int) (w : World) (hr : Rel w w) (hi : IntsIn w A c L) (hi' : IntsIn w A' c' L') :
    Calls Tryd.prog 4 #[.slice A L.length c, .slice A' L'.length c'] w fun e w' => e = .returned (.bool true) ∧ Rel w w' := by
  have H := Lib.hid H
  have HR := Lib.hid hr
  have HI := Lib.hid hi
  have HI' := Lib.hid hi'
  obtain ⟨x, hx⟩ : ∃ x, strat L = x := ⟨_, rfl⟩
  obtain ⟨y, hy⟩ : ∃ y, strat L' = y := ⟨_, rfl⟩
  have HSx := Lib.hid (fun (w0 w1 : World) (hr : Rel w0 w1) (h : IntsIn w1 A c L) => strat_any A c L w0 w1 hr h)
  have HSy := Lib.hid (fun (w0 w1 : World) (hr : Rel w0 w1) (h : IntsIn w1 A' c' L') => strat_any A' c' L' w0 w1 hr h)
  have zx : size x ≤ 100000 := by have := strat_size L; rw [hx] at this; omega
  have zy : size y ≤ 100000 := by have := strat_size L'; rw [hy] at this; omega
  rw [hx] at HSx
  rw [hy] at HSy
  clear hx hy hi hi'
  obtain ⟨bx, hbx⟩ : ∃ b, rightX x = b := ⟨_, rfl⟩
  obtain ⟨b2, hb2⟩ : ∃ b, rightX y = b := ⟨_, rfl⟩
  have HBx := Lib.hid hbx
  have HBy := Lib.hid hb2
  have px := pr_of hbx
  have py := pr_of hb2
  obtain ⟨T, hT⟩ : ∃ T, B (prT x) = T := ⟨_, rfl⟩
  obtain ⟨U, hU⟩ : ∃ T, B (prT y) = T := ⟨_, rfl⟩
  have P1 := Lib.hid (And.intro hT px.2)
  have P2 := Lib.hid (And.intro hU py.2)
  have HTx := Lib.hid (And.intro hT px.1)
  have HTy := Lib.hid (And.intro hU py.1)
  clear hT hU px py hbx hb2
  cases bx with
  | false =>
    go_enter Tryd.func4, Tryd.ntmps4
    go_wp2_with (first
      | (go_at_call 9; (with_reducible refine (awake7_any H.out _ _ HR.out).mono ?_); rintro e w1 ⟨rfl, h1⟩)
      | (go_at_call 10; (with_reducible refine (HSx.out _ _ h1.self (HI.out.rel h1)).mono ?_); rintro e w2 ⟨vx, rfl, ex, h2⟩; have AX := h2.self.alloc (.cells #[.int .i64 vx.1, .int .i64 vx.2.1, .string (B vx.2.2.1), .slice vx.2.2.2.1 vx.2.2.2.2.1 vx.2.2.2.2.2] 26); have R2 := (h1.trans h2).trans AX)
      | (go_at_call 10; (with_reducible refine (HSy.out _ _ AX.self (HI'.out.rel R2)).mono ?_); rintro e w3 ⟨vy, rfl, ey, h3⟩; have AY := h3.self.alloc (.cells #[.int .i64 vy.1, .int .i64 vy.2.1, .string (B vy.2.2.1), .slice vy.2.2.2.1 vy.2.2.2.2.1 vy.2.2.2.2.2] 26); have R3 := (R2.trans h3).trans AY; have BX := ((Bk.new w2 26 #[.int .i64 vx.1, .int .i64 vx.2.1, .string (B vx.2.2.1), .slice vx.2.2.2.1 vx.2.2.2.2.1 vx.2.2.2.2.2]).rel h3).alloc (.cells #[.int .i64 vy.1, .int .i64 vy.2.1, .string (B vy.2.2.1), .slice vy.2.2.2.1 vy.2.2.2.2.1 vy.2.2.2.2.2] 26); have BY := Bk.new w3 26 #[.int .i64 vy.1, .int .i64 vy.2.1, .string (B vy.2.2.1), .slice vy.2.2.2.1 vy.2.2.2.2.1 vy.2.2.2.2.2]; have EX := ex.rel (AX.trans (h3.trans AY)); have EY := ey.rel AY; obtain ⟨⟨c0, c1, c2, c3⟩, _⟩ := BX.four)
      | (go_at_call 12; (with_reducible refine (print_as H.out x T _ P1 _ vx _ _ AY.self EX zx).mono ?_); rintro e w4 ⟨rfl, h4⟩; obtain ⟨⟨d0, d1, d2, d3⟩, _⟩ := (BY.rel h4).four)
      | (go_at_call 12; (with_reducible refine (print_as H.out y U _ P2 _ vy _ _ h4.self (EY.rel h4) zy).mono ?_); rintro e w5 ⟨rfl, h5⟩; have R5 := h4.trans h5; obtain ⟨⟨c0, c1, c2, c3⟩, _⟩ := (BX.rel R5).four)
      | (go_at_call 14; (with_reducible refine (right_as H.out x _ HBx _ vx _ _ h5.self (EX.rel R5) zx).mono ?_); rintro e w6 ⟨rfl, h6⟩; have R6 := R5.trans h6; obtain ⟨⟨c0, c1, c2, c3⟩, _⟩ := (BX.rel R6).four; obtain ⟨⟨d0, d1, d2, d3⟩, _⟩ := (BY.rel R6).four)
      | (go_at_call 14; (with_reducible refine (right_as H.out x _ HBx _ vx _ _ h6.self (EX.rel R6) zx).mono ?_); rintro e w8 ⟨rfl, h8⟩; have R8 := R6.trans h8))
    all_goals
      go_ret
      exact ⟨rfl, R3.trans R8⟩
  | true =>
    cases b2 with
    | false =>
      go_enter Tryd.func4, Tryd.ntmps4
      go_wp2_with (first
      | (go_at_call 9; (with_reducible refine (awake7_any H.out _ _ HR.out).mono ?_); rintro e w1 ⟨rfl, h1⟩)
      | (go_at_call 10; (with_reducible refine (HSx.out _ _ h1.self (HI.out.rel h1)).mono ?_); rintro e w2 ⟨vx, rfl, ex, h2⟩; have AX := h2.self.alloc (.cells #[.int .i64 vx.1, .int .i64 vx.2.1, .string (B vx.2.2.1), .slice vx.2.2.2.1 vx.2.2.2.2.1 vx.2.2.2.2.2] 26); have R2 := (h1.trans h2).trans AX)
      | (go_at_call 10; (with_reducible refine (HSy.out _ _ AX.self (HI'.out.rel R2)).mono ?_); rintro e w3 ⟨vy, rfl, ey, h3⟩; have AY := h3.self.alloc (.cells #[.int .i64 vy.1, .int .i64 vy.2.1, .string (B vy.2.2.1), .slice vy.2.2.2.1 vy.2.2.2.2.1 vy.2.2.2.2.2] 26); have R3 := (R2.trans h3).trans AY; have BX := ((Bk.new w2 26 #[.int .i64 vx.1, .int .i64 vx.2.1, .string (B vx.2.2.1), .slice vx.2.2.2.1 vx.2.2.2.2.1 vx.2.2.2.2.2]).rel h3).alloc (.cells #[.int .i64 vy.1, .int .i64 vy.2.1, .string (B vy.2.2.1), .slice vy.2.2.2.1 vy.2.2.2.2.1 vy.2.2.2.2.2] 26); have BY := Bk.new w3 26 #[.int .i64 vy.1, .int .i64 vy.2.1, .string (B vy.2.2.1), .slice vy.2.2.2.1 vy.2.2.2.2.1 vy.2.2.2.2.2]; have EX := ex.rel (AX.trans (h3.trans AY)); have EY := ey.rel AY; obtain ⟨⟨c0, c1, c2, c3⟩, _⟩ := BX.four)
      | (go_at_call 12; (with_reducible refine (print_as H.out x T _ P1 _ vx _ _ AY.self EX zx).mono ?_); rintro e w4 ⟨rfl, h4⟩; obtain ⟨⟨d0, d1, d2, d3⟩, _⟩ := (BY.rel h4).four)
      | (go_at_call 12; (with_reducible refine (print_as H.out y U _ P2 _ vy _ _ h4.self (EY.rel h4) zy).mono ?_); rintro e w5 ⟨rfl, h5⟩; have R5 := h4.trans h5; obtain ⟨⟨c0, c1, c2, c3⟩, _⟩ := (BX.rel R5).four)
      | (go_at_call 14; (with_reducible refine (right_as H.out x _ HBx _ vx _ _ h5.self (EX.rel R5) zx).mono ?_); rintro e w6 ⟨rfl, h6⟩; have R6 := R5.trans h6; obtain ⟨⟨c0, c1, c2, c3⟩, _⟩ := (BX.rel R6).four; obtain ⟨⟨d0, d1, d2, d3⟩, _⟩ := (BY.rel R6).four)
      | (go_at_call 14; (with_reducible refine (right_as H.out y _ HBy _ vy _ _ h6.self (EY.rel R6) zy).mono ?_); rintro e w7 ⟨rfl, h7⟩; have R7 := R6.trans h7; obtain ⟨⟨c0, c1, c2, c3⟩, _⟩ := (BX.rel R7).four; obtain ⟨⟨d0, d1, d2, d3⟩, _⟩ := (BY.rel R7).four)
      | (go_at_call 14; (with_reducible refine (right_as H.out x _ HBx _ vx _ _ h7.self (EX.rel R7) zx).mono ?_); rintro e w8 ⟨rfl, h8⟩; have R8 := R7.trans h8))
      all_goals
        go_ret
        exact ⟨rfl, R3.trans R8⟩
    | true =>
      obtain ⟨bs, hbs⟩ : ∃ b : Bool, b = decide (text x = text y) := ⟨_, rfl⟩
      have HBS : Hid (bs = true ↔ x = y) := Lib.hid (by rw [hbs, decide_eq_true_eq]; exact right_inj HBx.out HBy.out)
      have hTU : (T.toList == U.toList) = bs := by
        rw [← HTx.out.1, ← HTy.out.1, HTx.out.2, HTy.out.2, hbs]; exact B_eq _ _
      clear hbs
      go_enter Tryd.func4, Tryd.ntmps4
      go_wp2_with (first
      | (go_at_call 9; (with_reducible refine (awake7_any H.out _ _ HR.out).mono ?_); rintro e w1 ⟨rfl, h1⟩)
      | (go_at_call 10; (with_reducible refine (HSx.out _ _ h1.self (HI.out.rel h1)).mono ?_); rintro e w2 ⟨vx, rfl, ex, h2⟩; have AX := h2.self.alloc (.cells #[.int .i64 vx.1, .int .i64 vx.2.1, .string (B vx.2.2.1), .slice vx.2.2.2.1 vx.2.2.2.2.1 vx.2.2.2.2.2] 26); have R2 := (h1.trans h2).trans AX)
      | (go_at_call 10; (with_reducible refine (HSy.out _ _ AX.self (HI'.out.rel R2)).mono ?_); rintro e w3 ⟨vy, rfl, ey, h3⟩; have AY := h3.self.alloc (.cells #[.int .i64 vy.1, .int .i64 vy.2.1, .string (B vy.2.2.1), .slice vy.2.2.2.1 vy.2.2.2.2.1 vy.2.2.2.2.2] 26); have R3 := (R2.trans h3).trans AY; have BX := ((Bk.new w2 26 #[.int .i64 vx.1, .int .i64 vx.2.1, .string (B vx.2.2.1), .slice vx.2.2.2.1 vx.2.2.2.2.1 vx.2.2.2.2.2]).rel h3).alloc (.cells #[.int .i64 vy.1, .int .i64 vy.2.1, .string (B vy.2.2.1), .slice vy.2.2.2.1 vy.2.2.2.2.1 vy.2.2.2.2.2] 26); have BY := Bk.new w3 26 #[.int .i64 vy.1, .int .i64 vy.2.1, .string (B vy.2.2.1), .slice vy.2.2.2.1 vy.2.2.2.2.1 vy.2.2.2.2.2]; have EX := ex.rel (AX.trans (h3.trans AY)); have EY := ey.rel AY; obtain ⟨⟨c0, c1, c2, c3⟩, _⟩ := BX.four)
      | (go_at_call 12; (with_reducible refine (print_as H.out x T _ P1 _ vx _ _ AY.self EX zx).mono ?_); rintro e w4 ⟨rfl, h4⟩; obtain ⟨⟨d0, d1, d2, d3⟩, _⟩ := (BY.rel h4).four)
      | (go_at_call 12; (with_reducible refine (print_as H.out y U _ P2 _ vy _ _ h4.self (EY.rel h4) zy).mono ?_); rintro e w5 ⟨rfl, h5⟩; have R5 := h4.trans h5; obtain ⟨⟨c0, c1, c2, c3⟩, _⟩ := (BX.rel R5).four)
      | (go_at_call 14; (with_reducible refine (right_as H.out x _ HBx _ vx _ _ h5.self (EX.rel R5) zx).mono ?_); rintro e w6 ⟨rfl, h6⟩; have R6 := R5.trans h6; obtain ⟨⟨c0, c1, c2, c3⟩, _⟩ := (BX.rel R6).four; obtain ⟨⟨d0, d1, d2, d3⟩, _⟩ := (BY.rel R6).four)
      | (go_at_call 14; (with_reducible refine (right_as H.out y _ HBy _ vy _ _ h6.self (EY.rel R6) zy).mono ?_); rintro e w7 ⟨rfl, h7⟩; have R7 := R6.trans h7; obtain ⟨⟨c0, c1, c2, c3⟩, _⟩ := (BX.rel R7).four; obtain ⟨⟨d0, d1, d2, d3⟩, _⟩ := (BY.rel R7).four)
      | (go_at_call 21; (with_reducible refine (rsame_any x y _ _ vx vy bs _ _ h7.self (EX.rel R7) (EY.rel R7) (by omega) (by omega) HBS).mono ?_); rintro e w8 ⟨rfl, h8⟩; have R8 := R7.trans h8))
      all_goals
        go_ret
        first | exact ⟨rfl, R3.trans R8⟩ | exact ⟨ret_bool (by simp), R3.trans R8⟩
end Go.Proofs.YtlflfffjaodhpaaDoor
