/- ValueRules, over what the program is asked. -/
import Derived.Test.YtpehlldgnbajjaaGreatDoorZ16
namespace Go.Proofs.YtpehlldgnbajjaaGreatDoor
open Go.RowKit Go.Lib
set_option linter.unusedVariables false
set_option linter.unusedSimpArgs false

theorem tri_of (os : List Of) (x : Ex) (hok : offsOk os = true) (hx : rightX x = true) : ∃ (a : Int) (t : Bool) (e : Int), RV (evalS os x) = .tuple #[.int .i64 a, .bool t, .int .i64 e] ∧
    ((evalS os x = .error 10 ∧ a = 0 ∧ t = false ∧ e = 10) ∨ (evalS os x = .ok none ∧ a = 0 ∧ t = false ∧ e = 0) ∨ (evalS os x = .ok (some a) ∧ t = true ∧ e = 0 ∧ Mon a)) := by
  cases h : evalS os x with
  | error e =>
    have : e = 10 := by rw [eval_yes hok hx] at h; exact told_err _ _ _ _ h
    subst this
    exact ⟨0, false, 10, rfl, .inl ⟨rfl, rfl, rfl, rfl⟩⟩
  | ok o =>
    cases o with
    | none => exact ⟨0, false, 0, rfl, .inr (.inl ⟨rfl, rfl, rfl, rfl⟩)⟩
    | some a => exact ⟨a, true, 0, rfl, .inr (.inr ⟨rfl, rfl, rfl, eval_mon h⟩)⟩
def RulesWay (a : Int) (t : Bool) (e b : Int) (u : Bool) (f p : Int) (low : Bool) (g q : Int) (high : Bool) (h : Int) : Prop :=
  (e = 10 ∧ a = 0 ∧ t = false ∧ p = 0 ∧ low = false ∧ g = 10 ∧ q = 0 ∧ high = false ∧ h = 10 ∧ ((b = 0 ∧ u = false ∧ f = 10) ∨ (b = 0 ∧ u = false ∧ f = 0) ∨ (u = true ∧ f = 0))) ∨
  (f = 10 ∧ b = 0 ∧ u = false ∧ p = 0 ∧ low = false ∧ g = 10 ∧ q = 0 ∧ high = false ∧ h = 10 ∧ ((a = 0 ∧ t = false ∧ e = 0) ∨ (t = true ∧ e = 0))) ∨
  (e = 0 ∧ f = 0 ∧ p = 0 ∧ low = false ∧ g = 0 ∧ q = 0 ∧ high = false ∧ h = 0 ∧ ((a = 0 ∧ t = false ∧ b = 0 ∧ u = false) ∨ (a = 0 ∧ t = false ∧ u = true) ∨ (t = true ∧ b = 0 ∧ u = false))) ∨
  (e = 0 ∧ f = 0 ∧ g = 0 ∧ h = 0 ∧ t = true ∧ u = true ∧ low = true ∧ high = true ∧ Mon a ∧ Mon b ∧ ((a ≤ b ∧ p = a ∧ q = b) ∨ (b < a ∧ p = b ∧ q = a)))
theorem rules_tell {os : List Of} {x y : Ex} {K : Int} (hok : offsOk os = true) (r1 : rightX (both2 7 x y) = true) (r2 : rightX (both2 8 x y) = true) (r3 : rightX (both2 9 x x) = true) (r4 : rightX (.mk 10 0 [] [more K, x, y]) = true) (cx : isCond x.k = false) (cy : isCond y.k = false) :
    ∃ (a : Int) (t : Bool) (e b : Int) (u : Bool) (f p : Int) (low : Bool) (g q : Int) (high : Bool) (h : Int),
      RV (evalS os x) = .tuple #[.int .i64 a, .bool t, .int .i64 e] ∧ RV (evalS os y) = .tuple #[.int .i64 b, .bool u, .int .i64 f] ∧ RV (evalS os (both2 7 x y)) = .tuple #[.int .i64 p, .bool low, .int .i64 g] ∧
      RV (evalS os (both2 8 x y)) = .tuple #[.int .i64 q, .bool high, .int .i64 h] ∧ RV (evalS os (both2 9 x x)) = .tuple #[.int .i64 a, .bool t, .int .i64 e] ∧
      RV (evalS os (.mk 10 0 [] [more K, x, y])) = (if K < (os.length : Int) then .tuple #[.int .i64 a, .bool t, .int .i64 e] else .tuple #[.int .i64 b, .bool u, .int .i64 f]) ∧ RulesWay a t e b u f p low g q high h := by
  obtain ⟨hx, fx⟩ := right_part r1 (i := 0) (by simp) cx
  obtain ⟨hy, fy⟩ := right_part r1 (i := 1) (by simp) cy
  have hx : rightX x = true := hx
  have hy : rightX y = true := hy
  have fx : fine 31 x = true := fx
  have fy : fine 31 y = true := fy
  have e7 := eval_both (.inl rfl) hok r1 hx hy fx fy
  have e8 := eval_both (.inr rfl) hok r2 hx hy fx fy
  have e9 := eval_else hok r3 hx fx
  have e10 := eval_if hok r4 hx hy fx fy
  obtain ⟨a, t, e, ra, wa⟩ := tri_of os x hok hx
  obtain ⟨b, u, f, rb, wb⟩ := tri_of os y hok hy
  have q10 : RV (evalS os (.mk 10 0 [] [more K, x, y])) = (if K < (os.length : Int) then .tuple #[.int .i64 a, .bool t, .int .i64 e] else .tuple #[.int .i64 b, .bool u, .int .i64 f]) := by
    rw [e10]; split
    · exact ra
    · exact rb
  have q9 : RV (evalS os (both2 9 x x)) = .tuple #[.int .i64 a, .bool t, .int .i64 e] := by rw [e9]; exact ra
  rcases wa with ⟨ha, rfl, rfl, rfl⟩ | ⟨ha, rfl, rfl, rfl⟩ | ⟨ha, rfl, rfl, hma⟩
  · rw [ha] at e7 e8
    refine ⟨0, false, 10, b, u, f, 0, false, 10, 0, false, 10, ra, rb, by rw [e7]; rfl, by rw [e8]; rfl, q9, q10, .inl ⟨rfl, rfl, rfl, rfl, rfl, rfl, rfl, rfl, rfl, ?_⟩⟩
    rcases wb with ⟨_, rfl, rfl, rfl⟩ | ⟨_, rfl, rfl, rfl⟩ | ⟨_, rfl, rfl, _⟩
    · exact .inl ⟨rfl, rfl, rfl⟩
    · exact .inr (.inl ⟨rfl, rfl, rfl⟩)
    · exact .inr (.inr ⟨rfl, rfl⟩)
  · rw [ha] at e7 e8
    rcases wb with ⟨hb, rfl, rfl, rfl⟩ | ⟨hb, rfl, rfl, rfl⟩ | ⟨hb, rfl, rfl, _⟩
    · rw [hb] at e7 e8
      exact ⟨0, false, 0, 0, false, 10, 0, false, 10, 0, false, 10, ra, rb, by rw [e7]; rfl, by rw [e8]; rfl, q9, q10, .inr (.inl ⟨rfl, rfl, rfl, rfl, rfl, rfl, rfl, rfl, rfl, .inl ⟨rfl, rfl, rfl⟩⟩)⟩
    · rw [hb] at e7 e8
      exact ⟨0, false, 0, 0, false, 0, 0, false, 0, 0, false, 0, ra, rb, by rw [e7]; rfl, by rw [e8]; rfl, q9, q10, .inr (.inr (.inl ⟨rfl, rfl, rfl, rfl, rfl, rfl, rfl, rfl, .inl ⟨rfl, rfl, rfl, rfl⟩⟩))⟩
    · rw [hb] at e7 e8
      exact ⟨0, false, 0, b, true, 0, 0, false, 0, 0, false, 0, ra, rb, by rw [e7]; rfl, by rw [e8]; rfl, q9, q10, .inr (.inr (.inl ⟨rfl, rfl, rfl, rfl, rfl, rfl, rfl, rfl, .inr (.inl ⟨rfl, rfl, rfl⟩)⟩))⟩
  · rw [ha] at e7 e8
    rcases wb with ⟨hb, rfl, rfl, rfl⟩ | ⟨hb, rfl, rfl, rfl⟩ | ⟨hb, rfl, rfl, hmb⟩
    · rw [hb] at e7 e8
      exact ⟨a, true, 0, 0, false, 10, 0, false, 10, 0, false, 10, ra, rb, by rw [e7]; rfl, by rw [e8]; rfl, q9, q10, .inr (.inl ⟨rfl, rfl, rfl, rfl, rfl, rfl, rfl, rfl, rfl, .inr ⟨rfl, rfl⟩⟩)⟩
    · rw [hb] at e7 e8
      exact ⟨a, true, 0, 0, false, 0, 0, false, 0, 0, false, 0, ra, rb, by rw [e7]; rfl, by rw [e8]; rfl, q9, q10, .inr (.inr (.inl ⟨rfl, rfl, rfl, rfl, rfl, rfl, rfl, rfl, .inr (.inr ⟨rfl, rfl, rfl⟩)⟩))⟩
    · rw [hb] at e7 e8
      refine ⟨a, true, 0, b, true, 0, min a b, true, 0, max a b, true, 0, ra, rb, by rw [e7]; rfl, by rw [e8]; rfl, q9, q10, .inr (.inr (.inr ⟨rfl, rfl, rfl, rfl, rfl, rfl, rfl, rfl, hma, hmb, ?_⟩))⟩
      by_cases hab : a ≤ b
      · exact .inl ⟨hab, by omega, by omega⟩
      · exact .inr ⟨by omega, by omega, by omega⟩
/-- An expression of two, and its box, in memory. -/
theorem node2 (k : Int) (hk : i64 k) {w0 w : World} (hr : Rel w0 w) {vx vy : El} {x y : Ex} {S S' : Nat → Prop} (ex : ExAt S w vx x) (ey : ExAt S' w vy y) :
    Rel w ((w.alloc (.cells #[.int .i64 vx.1, .int .i64 vx.2.1, .string (B vx.2.2.1), .slice vx.2.2.2.1 vx.2.2.2.2.1 vx.2.2.2.2.2, .int .i64 vy.1, .int .i64 vy.2.1, .string (B vy.2.2.1), .slice vy.2.2.2.1 vy.2.2.2.2.1 vy.2.2.2.2.2] 31)).alloc (.cells #[.int .i64 k, .int .i64 0, .string ⟨#[]⟩, .slice (some ⟨w.heap.size, 0, none⟩) 2 2] 31)) ∧
    Bk ((w.alloc (.cells #[.int .i64 vx.1, .int .i64 vx.2.1, .string (B vx.2.2.1), .slice vx.2.2.2.1 vx.2.2.2.2.1 vx.2.2.2.2.2, .int .i64 vy.1, .int .i64 vy.2.1, .string (B vy.2.2.1), .slice vy.2.2.2.1 vy.2.2.2.2.1 vy.2.2.2.2.2] 31)).alloc (.cells #[.int .i64 k, .int .i64 0, .string ⟨#[]⟩, .slice (some ⟨w.heap.size, 0, none⟩) 2 2] 31)) (w.heap.size + 1) 31 #[.int .i64 k, .int .i64 0, .string ⟨#[]⟩, .slice (some ⟨w.heap.size, 0, none⟩) 2 2] ∧
    ExAt (fun _ => True) ((w.alloc (.cells #[.int .i64 vx.1, .int .i64 vx.2.1, .string (B vx.2.2.1), .slice vx.2.2.2.1 vx.2.2.2.2.1 vx.2.2.2.2.2, .int .i64 vy.1, .int .i64 vy.2.1, .string (B vy.2.2.1), .slice vy.2.2.2.1 vy.2.2.2.2.1 vy.2.2.2.2.2] 31)).alloc (.cells #[.int .i64 k, .int .i64 0, .string ⟨#[]⟩, .slice (some ⟨w.heap.size, 0, none⟩) 2 2] 31)) (k, 0, [], some ⟨w.heap.size, 0, none⟩, 2, 2) (both2 k x y) := by
  have R := (hr.self.alloc (.cells #[.int .i64 vx.1, .int .i64 vx.2.1, .string (B vx.2.2.1), .slice vx.2.2.2.1 vx.2.2.2.2.1 vx.2.2.2.2.2, .int .i64 vy.1, .int .i64 vy.2.1, .string (B vy.2.2.1), .slice vy.2.2.2.1 vy.2.2.2.2.1 vy.2.2.2.2.2] 31)).alloc (.cells #[.int .i64 k, .int .i64 0, .string ⟨#[]⟩, .slice (some ⟨w.heap.size, 0, none⟩) 2 2] 31)
  exact ⟨R, Bk.snd w _ _ _ _, ExAt.two (a := vx) (b := vy) hk ⟨by decide, by decide⟩ (Nat.zero_le _) ((Bk.new w _ _).alloc _) trivial ((ex.rel R).weak (fun _ _ => trivial)) ((ey.rel R).weak (fun _ _ => trivial))⟩
theorem strat_nc (L : List Int) : isCond (strat L).k = false := by
  have := strat_fine L
  exact this.2
set_option maxRecDepth 100000 in
set_option maxHeartbeats 16000000 in
theorem ValueRules_at (H : ValueOk) (A1 : Option Addr) (c1 : Nat) (L1 : List Int) (A2 : Option Addr) (c2 : Nat) (L2 : List Int) (A : Option Addr) (c : Nat) (zs : List (Int × Int)) (n : Int) (hn : i64 n) (w : World) (hr : Rel w w) (hi1 : IntsIn w A1 c1 L1) (hi2 : IntsIn w A2 c2 L2) (hz : PairsIn w A zs.length zs) :
    Calls Tryz.prog 4 #[.slice A1 L1.length c1, .slice A2 L2.length c2, .slice A zs.length c, .int .i64 n] w fun e w' => e = .returned (.bool true) ∧ Rel w w' := by
  have H := Lib.hid H
  have HR := Lib.hid hr
  have HZ := Lib.hid hz
  have HI1 := Lib.hid hi1
  have HI2 := Lib.hid hi2
  obtain ⟨os, hos⟩ : ∃ os, offS zs = os := ⟨_, rfl⟩
  have hOf := fun (w0 w : World) (hr : Rel w0 w) (hz : PairsIn w A zs.length zs) => offers_any A c zs w0 w hr hz
  rw [hos] at hOf
  have HOf := Lib.hid hOf
  have hok : offsOk os = true := by rw [← hos]; exact offS_ok zs
  have HOk := Lib.hid hok
  have h8 := offs_len hok
  have HFit := Lib.hid (offs_fit hok)
  have hnb := pk_bd n 9 (by omega)
  obtain ⟨K, hK⟩ : ∃ K, pk n 9 = K := ⟨_, rfl⟩
  rw [hK] at hnb
  have HK := Lib.hid hK
  obtain ⟨x, hx⟩ : ∃ x, strat L1 = x := ⟨_, rfl⟩
  obtain ⟨y, hy⟩ : ∃ y, strat L2 = y := ⟨_, rfl⟩
  have hS1 := fun (w0 w : World) (hr : Rel w0 w) (h : IntsIn w A1 c1 L1) => strat_any A1 c1 L1 w0 w hr h
  have hS2 := fun (w0 w : World) (hr : Rel w0 w) (h : IntsIn w A2 c2 L2) => strat_any A2 c2 L2 w0 w hr h
  have zx : size x ≤ 20000 := by have := strat_size L1; rw [hx] at this; omega
  have zy : size y ≤ 20000 := by have := strat_size L2; rw [hy] at this; omega
  have ncx := strat_nc L1
  have ncy := strat_nc L2
  rw [hx] at hS1 ncx
  rw [hy] at hS2 ncy
  have HS1 := Lib.hid hS1
  have HS2 := Lib.hid hS2
  have HNC := Lib.hid (And.intro ncx ncy)
  obtain ⟨n0, n1⟩ := hn
  obtain ⟨K0, K1⟩ := hnb
  have HKi : Hid (i64 K) := Lib.hid ⟨by omega, by omega⟩
  clear hos hr hz hOf hok hi1 hi2 hK hx hy hS1 hS2 ncx ncy
  go_enter Tryz.func4, Tryz.ntmps4
  go_upto_region 3 with (first
    | (go_at_call 5; (with_reducible refine (awake9_any H.out _ _ HR.out).mono ?_); rintro e w1 ⟨rfl, h1⟩; have R1 := Lib.hid h1)
    | (go_at_call 9; (with_reducible refine (HS1.out _ _ R1.out (HI1.out.rel R1.out)).mono ?_); rintro e w2 ⟨vx, rfl, ex, h2⟩; have R2 := Lib.hid h2))
  have RX := Lib.hid (R2.out.alloc (.cells #[.int .i64 vx.1, .int .i64 vx.2.1, .string (B vx.2.2.1), .slice vx.2.2.2.1 vx.2.2.2.2.1 vx.2.2.2.2.2] 31))
  have BX := Lib.hid (Bk.new w2 31 #[.int .i64 vx.1, .int .i64 vx.2.1, .string (B vx.2.2.1), .slice vx.2.2.2.1 vx.2.2.2.2.1 vx.2.2.2.2.2])
  have EX := Lib.hid ((ex.rel (R2.out.self.alloc (.cells #[.int .i64 vx.1, .int .i64 vx.2.1, .string (B vx.2.2.1), .slice vx.2.2.2.1 vx.2.2.2.2.1 vx.2.2.2.2.2] 31))).weak (S' := fun _ => True) (fun _ _ => trivial))
  obtain ⟨W2, hW⟩ : ∃ W, w2.alloc (.cells #[.int .i64 vx.1, .int .i64 vx.2.1, .string (B vx.2.2.1), .slice vx.2.2.2.1 vx.2.2.2.2.1 vx.2.2.2.2.2] 31) = W := ⟨_, rfl⟩
  rw [hW] at RX BX EX ⊢
  clear hW ex h1 h2
  go_upto_region 4 with (go_at_call 9; (with_reducible refine (HS2.out _ _ RX.out.self (HI2.out.rel RX.out)).mono ?_); rintro e w3 ⟨vy, rfl, ey, h3⟩; have R3 := Lib.hid h3)
  have CY := Lib.hid (R3.out.alloc (.cells #[.int .i64 vy.1, .int .i64 vy.2.1, .string (B vy.2.2.1), .slice vy.2.2.2.1 vy.2.2.2.2.1 vy.2.2.2.2.2] 31))
  have BY := Lib.hid (Bk.new w3 31 #[.int .i64 vy.1, .int .i64 vy.2.1, .string (B vy.2.2.1), .slice vy.2.2.2.1 vy.2.2.2.2.1 vy.2.2.2.2.2])
  have EY := Lib.hid ((ey.rel (R3.out.self.alloc (.cells #[.int .i64 vy.1, .int .i64 vy.2.1, .string (B vy.2.2.1), .slice vy.2.2.2.1 vy.2.2.2.2.1 vy.2.2.2.2.2] 31))).weak (S' := fun _ => True) (fun _ _ => trivial))
  obtain ⟨W3, hW⟩ : ∃ W, w3.alloc (.cells #[.int .i64 vy.1, .int .i64 vy.2.1, .string (B vy.2.2.1), .slice vy.2.2.2.1 vy.2.2.2.2.1 vy.2.2.2.2.2] 31) = W := ⟨_, rfl⟩
  rw [hW] at CY BY EY ⊢
  clear hW ey h3
  go_upto_region 5 with (go_at_call 8; (with_reducible refine (HOf.out _ _ CY.out.self (HZ.out.rel9 (RX.out.trans CY.out))).mono ?_); rintro e w4 ⟨AO, cO, rfl, hO, h4⟩; have R4 := Lib.hid h4; have HO := Lib.hid (hO.arg HFit.out))
  have RW := Lib.hid ((RX.out.trans CY.out).trans R4.out)
  have BX4 := Lib.hid (BX.out.rel (CY.out.trans R4.out))
  have BY4 := Lib.hid (BY.out.rel R4.out)
  have EX4 := Lib.hid (EX.out.rel (CY.out.trans R4.out))
  have EY4 := Lib.hid (EY.out.rel R4.out)
  clear hO h4 BX BY EX EY R1 R2 R3 R4 CY RX
  obtain ⟨⟨x0, x1, x2, x3⟩, _⟩ := BX4.out.four
  obtain ⟨⟨y0, y1, y2, y3⟩, _⟩ := BY4.out.four
  go_upto_region 6 with (fail)
  obtain ⟨r7, b7, e7⟩ := node2 7 ⟨by decide, by decide⟩ RW.out.self EX4.out EY4.out
  have Bmn := Lib.hid b7
  have Emn := Lib.hid e7
  have RW := Lib.hid (RW.out.trans r7)
  have BX4 := Lib.hid (BX4.out.rel r7)
  have BY4 := Lib.hid (BY4.out.rel r7)
  have EX4 := Lib.hid (EX4.out.rel r7)
  have EY4 := Lib.hid (EY4.out.rel r7)
  have HO := Lib.hid (HO.out.rel r7)
  obtain ⟨W5, hW⟩ : ∃ W, (w4.alloc (.cells #[.int .i64 vx.1, .int .i64 vx.2.1, .string (B vx.2.2.1), .slice vx.2.2.2.1 vx.2.2.2.2.1 vx.2.2.2.2.2, .int .i64 vy.1, .int .i64 vy.2.1, .string (B vy.2.2.1), .slice vy.2.2.2.1 vy.2.2.2.2.1 vy.2.2.2.2.2] 31)).alloc (.cells #[.int .i64 7, .int .i64 0, .string ⟨#[]⟩, .slice (some ⟨w4.heap.size, 0, none⟩) 2 2] 31) = W := ⟨_, rfl⟩
  rw [hW] at RW BX4 BY4 EX4 EY4 HO Bmn Emn ⊢
  clear hW
  clear r7 b7 e7
  obtain ⟨⟨p0, p1, p2, p3⟩, _⟩ := BX4.out.four
  obtain ⟨⟨q0, q1, q2, q3⟩, _⟩ := BY4.out.four
  go_upto_region 7 with (fail)
  obtain ⟨r8, b8, e8⟩ := node2 8 ⟨by decide, by decide⟩ RW.out.self EX4.out EY4.out
  have Bmx := Lib.hid b8
  have Emx := Lib.hid e8
  have RW := Lib.hid (RW.out.trans r8)
  have BX4 := Lib.hid (BX4.out.rel r8)
  have BY4 := Lib.hid (BY4.out.rel r8)
  have EX4 := Lib.hid (EX4.out.rel r8)
  have EY4 := Lib.hid (EY4.out.rel r8)
  have HO := Lib.hid (HO.out.rel r8)
  have Bmn := Lib.hid (Bmn.out.rel r8)
  have Emn := Lib.hid (Emn.out.rel r8)
  obtain ⟨W6, hW⟩ : ∃ W, (W5.alloc (.cells #[.int .i64 vx.1, .int .i64 vx.2.1, .string (B vx.2.2.1), .slice vx.2.2.2.1 vx.2.2.2.2.1 vx.2.2.2.2.2, .int .i64 vy.1, .int .i64 vy.2.1, .string (B vy.2.2.1), .slice vy.2.2.2.1 vy.2.2.2.2.1 vy.2.2.2.2.2] 31)).alloc (.cells #[.int .i64 8, .int .i64 0, .string ⟨#[]⟩, .slice (some ⟨W5.heap.size, 0, none⟩) 2 2] 31) = W := ⟨_, rfl⟩
  rw [hW] at RW BX4 BY4 EX4 EY4 HO Bmn Emn Bmx Emx ⊢
  clear hW
  clear r8 b8 e8
  clear p0 p1 p2 p3 q0 q1 q2 q3
  obtain ⟨⟨p0, p1, p2, p3⟩, _⟩ := BX4.out.four
  go_upto_region 8 with (fail)
  obtain ⟨r9, b9, e9⟩ := node2 9 ⟨by decide, by decide⟩ RW.out.self EX4.out EX4.out
  have Bel := Lib.hid b9
  have Eel := Lib.hid e9
  have RW := Lib.hid (RW.out.trans r9)
  have BX4 := Lib.hid (BX4.out.rel r9)
  have BY4 := Lib.hid (BY4.out.rel r9)
  have EX4 := Lib.hid (EX4.out.rel r9)
  have EY4 := Lib.hid (EY4.out.rel r9)
  have HO := Lib.hid (HO.out.rel r9)
  have Bmn := Lib.hid (Bmn.out.rel r9)
  have Emn := Lib.hid (Emn.out.rel r9)
  have Bmx := Lib.hid (Bmx.out.rel r9)
  have Emx := Lib.hid (Emx.out.rel r9)
  obtain ⟨W7, hW⟩ : ∃ W, (W6.alloc (.cells #[.int .i64 vx.1, .int .i64 vx.2.1, .string (B vx.2.2.1), .slice vx.2.2.2.1 vx.2.2.2.2.1 vx.2.2.2.2.2, .int .i64 vx.1, .int .i64 vx.2.1, .string (B vx.2.2.1), .slice vx.2.2.2.1 vx.2.2.2.2.1 vx.2.2.2.2.2] 31)).alloc (.cells #[.int .i64 9, .int .i64 0, .string ⟨#[]⟩, .slice (some ⟨W6.heap.size, 0, none⟩) 2 2] 31) = W := ⟨_, rfl⟩
  rw [hW] at RW BX4 BY4 EX4 EY4 HO Bmn Emn Bmx Emx Bel Eel ⊢
  clear hW
  clear r9 b9 e9
  go_upto_region 9 with (go_at_call 15; (with_reducible refine (pk9_as n 9 K HK n0 n1 (by omega) (by omega) _).mono ?_); rintro e w' ⟨rfl, rfl⟩)
  have Bmo := Lib.hid (Bk.new W7 31 #[.int .i64 11, .int .i64 K, .string ⟨#[]⟩, .slice none 0 0])
  have rmo := RW.out.self.alloc (.cells #[.int .i64 11, .int .i64 K, .string ⟨#[]⟩, .slice none 0 0] 31)
  have RW := Lib.hid (RW.out.trans rmo)
  have BX4 := Lib.hid (BX4.out.rel rmo)
  have BY4 := Lib.hid (BY4.out.rel rmo)
  have EX4 := Lib.hid (EX4.out.rel rmo)
  have EY4 := Lib.hid (EY4.out.rel rmo)
  have HO := Lib.hid (HO.out.rel rmo)
  have Bmn := Lib.hid (Bmn.out.rel rmo)
  have Emn := Lib.hid (Emn.out.rel rmo)
  have Bmx := Lib.hid (Bmx.out.rel rmo)
  have Emx := Lib.hid (Emx.out.rel rmo)
  have Bel := Lib.hid (Bel.out.rel rmo)
  have Eel := Lib.hid (Eel.out.rel rmo)
  obtain ⟨W8, hW⟩ : ∃ W, W7.alloc (.cells #[.int .i64 11, .int .i64 K, .string ⟨#[]⟩, .slice none 0 0] 31) = W := ⟨_, rfl⟩
  rw [hW] at RW BX4 BY4 EX4 EY4 HO Bmn Emn Bmx Emx Bel Eel Bmo ⊢
  clear hW
  clear rmo
  clear p0 p1 p2 p3
  obtain ⟨⟨p0, p1, p2, p3⟩, _⟩ := BX4.out.four
  obtain ⟨⟨q0, q1, q2, q3⟩, _⟩ := BY4.out.four
  obtain ⟨⟨m0, m1, m2, m3⟩, _⟩ := Bmo.out.four
  go_upto_region 10 with (fail)
  have rif := (RW.out.self.alloc (.cells #[.int .i64 11, .int .i64 K, .string ⟨#[]⟩, .slice none 0 0, .int .i64 vx.1, .int .i64 vx.2.1, .string (B vx.2.2.1), .slice vx.2.2.2.1 vx.2.2.2.2.1 vx.2.2.2.2.2, .int .i64 vy.1, .int .i64 vy.2.1, .string (B vy.2.2.1), .slice vy.2.2.2.1 vy.2.2.2.2.1 vy.2.2.2.2.2] 31)).alloc (.cells #[.int .i64 10, .int .i64 0, .string ⟨#[]⟩, .slice (some ⟨W8.heap.size, 0, none⟩) 3 3] 31)
  have Bif := Lib.hid (Bk.snd W8 #[.int .i64 11, .int .i64 K, .string ⟨#[]⟩, .slice none 0 0, .int .i64 vx.1, .int .i64 vx.2.1, .string (B vx.2.2.1), .slice vx.2.2.2.1 vx.2.2.2.2.1 vx.2.2.2.2.2, .int .i64 vy.1, .int .i64 vy.2.1, .string (B vy.2.2.1), .slice vy.2.2.2.1 vy.2.2.2.2.1 vy.2.2.2.2.2] #[.int .i64 10, .int .i64 0, .string ⟨#[]⟩, .slice (some ⟨W8.heap.size, 0, none⟩) 3 3] 31 31)
  have Eif := Lib.hid (ExAt.three (a := (11, K, [], none, 0, 0)) (b := vx) (d := vy) (k := 10) (n := 0) (nm := []) (c := 3) (S := fun _ => True) (ok64 (by decide) (by decide)) (ok64 (by decide) (by decide)) (Nat.zero_le _) ((Bk.new W8 31 #[.int .i64 11, .int .i64 K, .string ⟨#[]⟩, .slice none 0 0, .int .i64 vx.1, .int .i64 vx.2.1, .string (B vx.2.2.1), .slice vx.2.2.2.1 vx.2.2.2.2.1 vx.2.2.2.2.2, .int .i64 vy.1, .int .i64 vy.2.1, .string (B vy.2.2.1), .slice vy.2.2.2.1 vy.2.2.2.2.1 vy.2.2.2.2.2]).alloc (.cells #[.int .i64 10, .int .i64 0, .string ⟨#[]⟩, .slice (some ⟨W8.heap.size, 0, none⟩) 3 3] 31)) trivial (ExAt.leaf _ _ 11 K [] none 0 ⟨by decide, by decide⟩ HKi.out (Nat.zero_le _)) (EX4.out.rel rif) (EY4.out.rel rif))
  have RW := Lib.hid (RW.out.trans rif)
  have BX4 := Lib.hid (BX4.out.rel rif)
  have BY4 := Lib.hid (BY4.out.rel rif)
  have EX4 := Lib.hid (EX4.out.rel rif)
  have EY4 := Lib.hid (EY4.out.rel rif)
  have HO := Lib.hid (HO.out.rel rif)
  have Bmn := Lib.hid (Bmn.out.rel rif)
  have Emn := Lib.hid (Emn.out.rel rif)
  have Bmx := Lib.hid (Bmx.out.rel rif)
  have Emx := Lib.hid (Emx.out.rel rif)
  have Bel := Lib.hid (Bel.out.rel rif)
  have Eel := Lib.hid (Eel.out.rel rif)
  have Bmo := Lib.hid (Bmo.out.rel rif)
  obtain ⟨W9, hW⟩ : ∃ W, (W8.alloc (.cells #[.int .i64 11, .int .i64 K, .string ⟨#[]⟩, .slice none 0 0, .int .i64 vx.1, .int .i64 vx.2.1, .string (B vx.2.2.1), .slice vx.2.2.2.1 vx.2.2.2.2.1 vx.2.2.2.2.2, .int .i64 vy.1, .int .i64 vy.2.1, .string (B vy.2.2.1), .slice vy.2.2.2.1 vy.2.2.2.2.1 vy.2.2.2.2.2] 31)).alloc (.cells #[.int .i64 10, .int .i64 0, .string ⟨#[]⟩, .slice (some ⟨W8.heap.size, 0, none⟩) 3 3] 31) = W := ⟨_, rfl⟩
  rw [hW] at RW BX4 BY4 EX4 EY4 HO Bmn Emn Bmx Emx Bel Eel Bmo Bif Eif ⊢
  clear hW
  clear rif p0 p1 p2 p3 q0 q1 q2 q3 m0 m1 m2 m3
  have VN : Hid (∀ (k : Int) (g m : Nat), EV (k, 0, [], some ⟨g, 0, none⟩, m, m) = .agg #[.int .i64 k, .int .i64 0, .string ⟨#[]⟩, .slice (some ⟨g, 0, none⟩) m m]) := Lib.hid (fun _ _ _ => rfl)
  have VL : Hid (EV (11, K, [], none, 0, 0) = .agg #[.int .i64 11, .int .i64 K, .string ⟨#[]⟩, .slice none 0 0]) := Lib.hid rfl
  have ELf : Hid (∀ w1 : World, ExAt (fun _ => True) w1 (11, K, [], none, 0, 0) (more K)) := Lib.hid (fun w1 => ExAt.leaf _ _ 11 K [] none 0 ⟨by decide, by decide⟩ HKi.out (Nat.zero_le _))
  have z7 : size (both2 7 x y) ≤ 90000 := by unfold both2; rw [size_mk, sizes_cons, sizes_cons, sizes_nil]; omega
  have z8 : size (both2 8 x y) ≤ 90000 := by unfold both2; rw [size_mk, sizes_cons, sizes_cons, sizes_nil]; omega
  have z9 : size (both2 9 x x) ≤ 90000 := by unfold both2; rw [size_mk, sizes_cons, sizes_cons, sizes_nil]; omega
  have z11 : size (more K) ≤ 90000 := by unfold more; rw [size_mk, sizes_nil]; omega
  have z10 : size (.mk 10 0 [] [more K, x, y]) ≤ 90000 := by unfold more; rw [size_mk, sizes_cons, sizes_cons, sizes_cons, sizes_nil, size_mk, sizes_nil]; omega
  have zx9 : size x ≤ 90000 := by omega
  have zy9 : size y ≤ 90000 := by omega
  obtain ⟨b7, hb7⟩ : ∃ b, rightX (both2 7 x y) = b := ⟨_, rfl⟩
  have HC7 := Lib.hid (fun (w' : World) (h : Rel W9 w') => arg1 (Lib.hid (VN.out 7 _ _)) (rright_any (both2 7 x y) _ (7, 0, [], some ⟨w4.heap.size, 0, none⟩, 2, 2) w' w' h.self (Emn.out.rel h) (by omega)))
  rw [hb7] at HC7
  have HB7 := Lib.hid hb7
  clear hb7
  obtain ⟨b8, hb8⟩ : ∃ b, rightX (both2 8 x y) = b := ⟨_, rfl⟩
  have HC8 := Lib.hid (fun (w' : World) (h : Rel W9 w') => arg1 (Lib.hid (VN.out 8 _ _)) (rright_any (both2 8 x y) _ (8, 0, [], some ⟨W5.heap.size, 0, none⟩, 2, 2) w' w' h.self (Emx.out.rel h) (by omega)))
  rw [hb8] at HC8
  have HB8 := Lib.hid hb8
  clear hb8
  obtain ⟨b9, hb9⟩ : ∃ b, rightX (both2 9 x x) = b := ⟨_, rfl⟩
  have HC9 := Lib.hid (fun (w' : World) (h : Rel W9 w') => arg1 (Lib.hid (VN.out 9 _ _)) (rright_any (both2 9 x x) _ (9, 0, [], some ⟨W6.heap.size, 0, none⟩, 2, 2) w' w' h.self (Eel.out.rel h) (by omega)))
  rw [hb9] at HC9
  have HB9 := Lib.hid hb9
  clear hb9
  obtain ⟨b10, hb10⟩ : ∃ b, rightX (.mk 10 0 [] [more K, x, y]) = b := ⟨_, rfl⟩
  have HC10 := Lib.hid (fun (w' : World) (h : Rel W9 w') => arg1 (Lib.hid (VN.out 10 _ _)) (rright_any (.mk 10 0 [] [more K, x, y]) _ (10, 0, [], some ⟨W8.heap.size, 0, none⟩, 3, 3) w' w' h.self (Eif.out.rel h) (by omega)))
  rw [hb10] at HC10
  have HB10 := Lib.hid hb10
  clear hb10
  obtain ⟨⟨p0, p1, p2, p3⟩, _⟩ := Bmn.out.four
  cases b7 with
  | false =>
    go_wp2_with (first
      | (go_at_call 16; (with_reducible refine (HC7.out _ RW.out.right3).mono ?_); rintro e u1 ⟨rfl, k1⟩; have K1 := Lib.hid (k1); obtain ⟨⟨q0, q1, q2, q3⟩, _⟩ := (Bmx.out.rel K1.out).four)
      | (go_at_call 16; (with_reducible refine (HC8.out _ K1.out).mono ?_); rintro e u2 ⟨rfl, k2⟩; have K2 := Lib.hid (K1.out.trans k2); obtain ⟨⟨r0, r1, r2, r3⟩, _⟩ := (Bel.out.rel K2.out).four)
      | (go_at_call 16; (with_reducible refine (HC9.out _ K2.out).mono ?_); rintro e u3 ⟨rfl, k3⟩; have K3 := Lib.hid (K2.out.trans k3); obtain ⟨⟨s0, s1, s2, s3⟩, _⟩ := (Bif.out.rel K3.out).four)
      | (go_at_call 16; (with_reducible refine (HC10.out _ K3.out).mono ?_); rintro e u4 ⟨rfl, k4⟩; have K4 := Lib.hid (K3.out.trans k4)))
    go_ret
    exact ⟨rfl, RW.out.trans K1.out⟩
  | true =>
    cases b8 with
    | false =>
      go_wp2_with (first
        | (go_at_call 16; (with_reducible refine (HC7.out _ RW.out.right3).mono ?_); rintro e u1 ⟨rfl, k1⟩; have K1 := Lib.hid (k1); obtain ⟨⟨q0, q1, q2, q3⟩, _⟩ := (Bmx.out.rel K1.out).four)
        | (go_at_call 16; (with_reducible refine (HC8.out _ K1.out).mono ?_); rintro e u2 ⟨rfl, k2⟩; have K2 := Lib.hid (K1.out.trans k2); obtain ⟨⟨r0, r1, r2, r3⟩, _⟩ := (Bel.out.rel K2.out).four)
        | (go_at_call 16; (with_reducible refine (HC9.out _ K2.out).mono ?_); rintro e u3 ⟨rfl, k3⟩; have K3 := Lib.hid (K2.out.trans k3); obtain ⟨⟨s0, s1, s2, s3⟩, _⟩ := (Bif.out.rel K3.out).four)
        | (go_at_call 16; (with_reducible refine (HC10.out _ K3.out).mono ?_); rintro e u4 ⟨rfl, k4⟩; have K4 := Lib.hid (K3.out.trans k4)))
      go_ret
      exact ⟨rfl, RW.out.trans K2.out⟩
    | true =>
      cases b9 with
      | false =>
        go_wp2_with (first
          | (go_at_call 16; (with_reducible refine (HC7.out _ RW.out.right3).mono ?_); rintro e u1 ⟨rfl, k1⟩; have K1 := Lib.hid (k1); obtain ⟨⟨q0, q1, q2, q3⟩, _⟩ := (Bmx.out.rel K1.out).four)
          | (go_at_call 16; (with_reducible refine (HC8.out _ K1.out).mono ?_); rintro e u2 ⟨rfl, k2⟩; have K2 := Lib.hid (K1.out.trans k2); obtain ⟨⟨r0, r1, r2, r3⟩, _⟩ := (Bel.out.rel K2.out).four)
          | (go_at_call 16; (with_reducible refine (HC9.out _ K2.out).mono ?_); rintro e u3 ⟨rfl, k3⟩; have K3 := Lib.hid (K2.out.trans k3); obtain ⟨⟨s0, s1, s2, s3⟩, _⟩ := (Bif.out.rel K3.out).four)
          | (go_at_call 16; (with_reducible refine (HC10.out _ K3.out).mono ?_); rintro e u4 ⟨rfl, k4⟩; have K4 := Lib.hid (K3.out.trans k4)))
        go_ret
        exact ⟨rfl, RW.out.trans K3.out⟩
      | true =>
        cases b10 with
        | false =>
          go_wp2_with (first
            | (go_at_call 16; (with_reducible refine (HC7.out _ RW.out.right3).mono ?_); rintro e u1 ⟨rfl, k1⟩; have K1 := Lib.hid (k1); obtain ⟨⟨q0, q1, q2, q3⟩, _⟩ := (Bmx.out.rel K1.out).four)
            | (go_at_call 16; (with_reducible refine (HC8.out _ K1.out).mono ?_); rintro e u2 ⟨rfl, k2⟩; have K2 := Lib.hid (K1.out.trans k2); obtain ⟨⟨r0, r1, r2, r3⟩, _⟩ := (Bel.out.rel K2.out).four)
            | (go_at_call 16; (with_reducible refine (HC9.out _ K2.out).mono ?_); rintro e u3 ⟨rfl, k3⟩; have K3 := Lib.hid (K2.out.trans k3); obtain ⟨⟨s0, s1, s2, s3⟩, _⟩ := (Bif.out.rel K3.out).four)
            | (go_at_call 16; (with_reducible refine (HC10.out _ K3.out).mono ?_); rintro e u4 ⟨rfl, k4⟩; have K4 := Lib.hid (K3.out.trans k4)))
          go_ret
          exact ⟨rfl, RW.out.trans K4.out⟩
        | true =>
          go_upto_region 12 with (first
            | (go_at_call 16; (with_reducible refine (HC7.out _ RW.out.right3).mono ?_); rintro e u1 ⟨rfl, k1⟩; have K1 := Lib.hid (k1); obtain ⟨⟨q0, q1, q2, q3⟩, _⟩ := (Bmx.out.rel K1.out).four)
            | (go_at_call 16; (with_reducible refine (HC8.out _ K1.out).mono ?_); rintro e u2 ⟨rfl, k2⟩; have K2 := Lib.hid (K1.out.trans k2); obtain ⟨⟨r0, r1, r2, r3⟩, _⟩ := (Bel.out.rel K2.out).four)
            | (go_at_call 16; (with_reducible refine (HC9.out _ K2.out).mono ?_); rintro e u3 ⟨rfl, k3⟩; have K3 := Lib.hid (K2.out.trans k3); obtain ⟨⟨s0, s1, s2, s3⟩, _⟩ := (Bif.out.rel K3.out).four)
            | (go_at_call 16; (with_reducible refine (HC10.out _ K3.out).mono ?_); rintro e u4 ⟨rfl, k4⟩; have K4 := Lib.hid (K3.out.trans k4)))
          obtain ⟨a, t, e, b, u, f, p, low, g, q, high, h, q1, q2, q3, q4, q5, q6, hway⟩ := rules_tell (K := K) HOk.out HB7.out HB8.out HB9.out HB10.out HNC.out.1 HNC.out.2
          obtain ⟨sv, sb, se, q7, hs⟩ : ∃ (sv : Int) (sb : Bool) (se : Int), RV (evalS os (.mk 10 0 [] [more K, x, y])) = .tuple #[.int .i64 sv, .bool sb, .int .i64 se] ∧ ((K < (os.length : Int) ∧ sv = a ∧ sb = t ∧ se = e) ∨ (¬ K < (os.length : Int) ∧ sv = b ∧ sb = u ∧ se = f)) := by
            by_cases hk : K < (os.length : Int)
            · rw [if_pos hk] at q6
              exact ⟨a, t, e, q6, .inl ⟨hk, rfl, rfl, rfl⟩⟩
            · rw [if_neg hk] at q6
              exact ⟨b, u, f, q6, .inr ⟨hk, rfl, rfl, rfl⟩⟩
          obtain ⟨cc, hcc⟩ : ∃ cc, decide (K < (os.length : Int)) = cc := ⟨_, rfl⟩
          have Q8 : Hid (CV (condS os (more K)) = .tuple #[.bool cc, .int .i64 0]) := Lib.hid (by rw [cond_ok HOk.out K0 (by omega), hcc]; rfl)
          have Q1 := Lib.hid q1
          have Q2 := Lib.hid q2
          have Q3 := Lib.hid q3
          have Q4 := Lib.hid q4
          have Q5 := Lib.hid q5
          have Q7 := Lib.hid q7
          have HS := Lib.hid hs
          have HWay := Lib.hid hway
          have HCC := Lib.hid hcc
          clear q1 q2 q3 q4 q5 q6 q7 hs hway hcc k1 k2 k3 k4
          obtain ⟨⟨x0, x1, x2, x3⟩, _⟩ := (BX4.out.rel K4.out).four
          go_upto_region 19 with (first
            | (go_at_call 11; (with_reducible refine (eval_as H.out x os a t e Q1 _ vx AO cO _ _ K4.out.self (EX4.out.rel K4.out) zx9 (HO.out.rel K4.out) _ _ (Lib.hid rfl) (Lib.hid rfl)).mono ?_); rintro e u5 ⟨rfl, k5⟩; have K5 := Lib.hid (K4.out.trans k5); obtain ⟨⟨n50, n51, n52, n53⟩, _⟩ := (BY4.out.rel K5.out).four)
            | (go_at_call 11; (with_reducible refine (eval_as H.out y os b u f Q2 _ vy AO cO _ _ K5.out.self (EY4.out.rel K5.out) zy9 (HO.out.rel K5.out) _ _ (Lib.hid rfl) (Lib.hid rfl)).mono ?_); rintro e u6 ⟨rfl, k6⟩; have K6 := Lib.hid (K5.out.trans k6); obtain ⟨⟨n60, n61, n62, n63⟩, _⟩ := (Bmn.out.rel K6.out).four)
            | (go_at_call 11; (with_reducible refine (eval_as H.out (both2 7 x y) os p low g Q3 _ (7, 0, [], some ⟨w4.heap.size, 0, none⟩, 2, 2) AO cO _ _ K6.out.self (Emn.out.rel K6.out) z7 (HO.out.rel K6.out) _ _ (Lib.hid (VN.out _ _ _)) (Lib.hid rfl)).mono ?_); rintro e u7 ⟨rfl, k7⟩; have K7 := Lib.hid (K6.out.trans k7); obtain ⟨⟨n70, n71, n72, n73⟩, _⟩ := (Bmx.out.rel K7.out).four)
            | (go_at_call 11; (with_reducible refine (eval_as H.out (both2 8 x y) os q high h Q4 _ (8, 0, [], some ⟨W5.heap.size, 0, none⟩, 2, 2) AO cO _ _ K7.out.self (Emx.out.rel K7.out) z8 (HO.out.rel K7.out) _ _ (Lib.hid (VN.out _ _ _)) (Lib.hid rfl)).mono ?_); rintro e u8 ⟨rfl, k8⟩; have K8 := Lib.hid (K7.out.trans k8); obtain ⟨⟨n80, n81, n82, n83⟩, _⟩ := (Bel.out.rel K8.out).four)
            | (go_at_call 11; (with_reducible refine (eval_as H.out (both2 9 x x) os a t e Q5 _ (9, 0, [], some ⟨W6.heap.size, 0, none⟩, 2, 2) AO cO _ _ K8.out.self (Eel.out.rel K8.out) z9 (HO.out.rel K8.out) _ _ (Lib.hid (VN.out _ _ _)) (Lib.hid rfl)).mono ?_); rintro e u9 ⟨rfl, k9⟩; have K9 := Lib.hid (K8.out.trans k9); obtain ⟨⟨n90, n91, n92, n93⟩, _⟩ := (Bif.out.rel K9.out).four)
            | (go_at_call 11; (with_reducible refine (eval_as H.out (.mk 10 0 [] [more K, x, y]) os sv sb se Q7 _ (10, 0, [], some ⟨W8.heap.size, 0, none⟩, 3, 3) AO cO _ _ K9.out.self (Eif.out.rel K9.out) z10 (HO.out.rel K9.out) _ _ (Lib.hid (VN.out _ _ _)) (Lib.hid rfl)).mono ?_); rintro e u10 ⟨rfl, k10⟩; have K10 := Lib.hid (K9.out.trans k10); obtain ⟨⟨n100, n101, n102, n103⟩, _⟩ := (Bmo.out.rel K10.out).four)
            | (go_at_call 13; (with_reducible refine (cond9_as H.out (more K) os cc 0 Q8 _ (11, K, [], none, 0, 0) AO cO _ _ K10.out.self (ELf.out _) z11 (HO.out.rel K10.out) _ _ VL (Lib.hid rfl)).mono ?_); rintro e u11 ⟨rfl, k11⟩; have K11 := Lib.hid (K10.out.trans k11)))
          have PK : Hid (∀ w : World, Calls Tryz.prog 15 #[.int .i64 n, .int .i64 9] w fun e w' => e = .returned (.int .i64 K) ∧ w = w') := Lib.hid (fun w => pk9_as n 9 K HK n0 n1 (by omega) (by omega) w)
          clear Q1 Q2 Q3 Q4 Q5 Q7 Q8 HC7 HC8 HC9 HC10 z7 z8 z9 z10 z11 zx9 zy9 zx zy k5 k6 k7 k8 k9 k10 k11
          rcases HS.out with ⟨hk, rfl, rfl, rfl⟩ | ⟨hk, rfl, rfl, rfl⟩
          all_goals
            have hcc := HCC.out
            first | rw [decide_eq_true hk] at hcc | rw [decide_eq_false (by omega)] at hcc
            subst hcc
            have hkd : decide (K < (os.length : Int)) = _ := HCC.out
            have RZ := Lib.hid (RW.out.trans K11.out)
            clear HS HCC
            rcases HWay.out with ⟨rfl, rfl, rfl, rfl, rfl, rfl, rfl, rfl, rfl, ⟨rfl, rfl, rfl⟩ | ⟨rfl, rfl, rfl⟩ | ⟨rfl, rfl⟩⟩ | ⟨rfl, rfl, rfl, rfl, rfl, rfl, rfl, rfl, rfl, ⟨rfl, rfl, rfl⟩ | ⟨rfl, rfl⟩⟩ | ⟨rfl, rfl, rfl, rfl, rfl, rfl, rfl, rfl, ⟨rfl, rfl, rfl, rfl⟩ | ⟨rfl, rfl, rfl⟩ | ⟨rfl, rfl, rfl⟩⟩ | ⟨rfl, rfl, rfl, rfl, rfl, rfl, rfl, rfl, ⟨ha0, ha1⟩, ⟨hb0, hb1⟩, ⟨hab, rfl, rfl⟩ | ⟨hab, rfl, rfl⟩⟩
            all_goals
              clear HWay
              try have hw1 : ∀ z1 z2 : Int, (-1000000000000 ≤ z1 ∧ z1 ≤ 1000000000000) → (-1000000000000 ≤ z2 ∧ z2 ≤ 1000000000000) → IntKind.i64.wrap (z1 + z2) = z1 + z2 := fun z1 z2 h1 h2 => IntWalk.i64_in _ (by omega)
              go_wp2_with (go_at_call 15; (with_reducible refine (PK.out _).mono ?_); rintro e w' ⟨rfl, rfl⟩)
              go_ret
              exact ⟨ret_bool (by first | rfl | (simp; done) | (simp; omega) | omega), RZ.out⟩
end Go.Proofs.YtpehlldgnbajjaaGreatDoor
