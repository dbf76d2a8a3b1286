/- Names as the law of layer 6 makes them; What the law makes of raw numbers: its expressions, in memory; A load that may be taken first, although the region writes the cell behind it: what is held of the world is asked behind those operations alone that do not wait for the load. -/
import Derived.Test.YtoajbbcjmalngaaGreatDoorZ00
import Derived.Test.YtoajbbcjmalngaaGreatDoorZ01
import Derived.Test.YtoajbbcjmalngaaGreatDoorZ02
import Derived.Test.YtoajbbcjmalngaaGreatDoorProg
import Derived.OrdersHeld
import Derived.Deep.RegionHeld
namespace Go.Proofs.YtoajbbcjmalngaaGreatDoor
open Go.RowKit Go.Lib
set_option linter.unusedVariables false
set_option linter.unusedSimpArgs false

theorem pick_as (c n y : Int) (h : Hid (pk c n = y)) (hc : -9223372036854775808 ≤ c) (hc' : c ≤ 9223372036854775807) (hn : 0 < n) (hn' : n ≤ 9223372036854775807) (w : World) :
    Calls Tryz.prog 32 #[.int .i64 c, .int .i64 n] w fun e w' => e = .returned (.int .i64 y) ∧ w = w' := by
  rw [← h.out]; exact pick_any c n hc hc' hn hn' w
theorem decimal_as (n : Int) (S : ByteArray) (h : Hid (B (decDigits n.toNat) = S)) (h0 : 0 ≤ n) (h1 : n ≤ 9223372036854775807) (w0 w : World) (hr : Rel w0 w) :
    Calls Tryz.prog 33 #[.int .i64 n] w fun e w' => e = .returned (.string S) ∧ Rel w0 w' := by
  rw [← h.out]; exact decimal_any n h0 h1 w0 w hr
def strCells (ls : List (List UInt8)) : Array Value := (ls.map fun l => Value.string (B l)).toArray
theorem str_cell {w : World} {g : Nat} {ls : List (List UInt8)} (h : Bk w g 9 (strCells ls)) (j : Nat) (hj : j < ls.length) : w.cell? ⟨g, j, none⟩ = some (.string (B (ls.getD j []))) := by
  rw [h.cell]
  unfold strCells
  rw [List.getElem?_toArray, List.getElem?_map, List.getElem?_eq_getElem hj, List.getD_eq_getElem?_getD, List.getElem?_eq_getElem hj]
  rfl
theorem nam_cell (w : World) (j : Nat) (hj : j < 6) : (w.alloc (.cells #[.string ⟨#[97]⟩, .string ⟨#[98, 111, 98]⟩, .string ⟨#[108, 111, 119, 101, 115]⟩, .string ⟨#[97, 99, 109, 101, 57]⟩, .string ⟨#[120, 49]⟩, .string ⟨#[101, 108, 115, 101, 101]⟩] 9)).cell? ⟨w.heap.size, j, none⟩ = some (.string (B (theNames.getD j []))) :=
  str_cell (ls := theNames) (Bk.new w 9 (strCells theNames)) j hj
theorem nam_after {w w' : World} (hr : Rel (w.alloc (.cells #[.string ⟨#[97]⟩, .string ⟨#[98, 111, 98]⟩, .string ⟨#[108, 111, 119, 101, 115]⟩, .string ⟨#[97, 99, 109, 101, 57]⟩, .string ⟨#[120, 49]⟩, .string ⟨#[101, 108, 115, 101, 101]⟩] 9)).drew w') (j : Nat) (hj : j < 6) (X : ByteArray) (hX : B (theNames.getD j []) = X) : w'.cell? ⟨w.heap.size, j, none⟩ = some (.string X) := by
  rw [← hX]
  exact str_cell (ls := theNames) (Bk.rel (w := (w.alloc (.cells (strCells theNames) 9)).drew) (Bk.new w 9 (strCells theNames)) hr) j hj
set_option maxHeartbeats 1000000 in
theorem seller_any (n : Int) (h0 : -9223372036854775808 ≤ n) (h1 : n ≤ 9223372036854775807) (w0 w : World) (hr : Rel w0 w) :
    Calls Tryz.prog 34 #[.int .i64 n] w fun e w' => e = .returned (.string (B (sellerL (pk n 60)))) ∧ Rel w0 w' := by
  have hb := pk_bd n 60 (by omega)
  obtain ⟨u, hu⟩ : ∃ u, pk n 60 = u := ⟨_, rfl⟩
  rw [hu] at hb ⊢
  have HU := Lib.hid hu
  obtain ⟨u0, u1⟩ := hb
  have t6 := tdt u 6 (by omega)
  obtain ⟨a, ha⟩ : ∃ a : Nat, u.tmod 6 = (a : Int) := ⟨(u.tmod 6).toNat, by omega⟩
  obtain ⟨b, hq'⟩ : ∃ b : Nat, u.tdiv 6 = (b : Int) := ⟨(u.tdiv 6).toNat, by omega⟩
  have hq : IntKind.i64.wrap (u.tdiv 6) = (b : Int) := by rw [hq']; exact IntWalk.i64_in _ (by omega)
  have a6 : a < 6 := by omega
  have a6' : (a : Int) < 6 := by omega
  have b9 : (b : Int) ≤ 10 := by omega
  obtain ⟨X, hX⟩ : ∃ X, B (theNames.getD a []) = X := ⟨_, rfl⟩
  have hc := fun w => nam_cell w a a6
  obtain ⟨D, hD⟩ : ∃ D, B (decDigits ((b : Int)).toNat) = D := ⟨_, rfl⟩
  have HD := Lib.hid hD
  have z1 : X.size ≤ 5 := by rw [← hX, B_size]; exact names_len ⟨a, a6⟩
  have z2 : D.size ≤ 19 := by rw [← hD]; exact dd_size _ (by omega)
  have z3 : ¬ 9223372036854775807 < X.size + D.size := by omega
  have HF := Lib.hid (show X ++ D = B (sellerL u) by
    unfold sellerL
    rw [← hX, ← hD, B_append, show u % 6 = (a : Int) by omega, show u / 6 = (b : Int) by omega]; rfl)
  have HX := Lib.hid hX
  rw [hX] at hc
  have HR := Lib.hid hr
  clear hu hX hD t6 hq'
  go_enter Tryz.func34, Tryz.ntmps34
  go_wp2_with (go_at_call 32; (with_reducible refine (pick_as n 60 u HU h0 h1 (by omega) (by omega) _).mono ?_); rintro e w' ⟨rfl, rfl⟩)
  have HS := Lib.hid hr.self
  go_region_law (rw [if_pos (by rfl)]; go_simp; go_at_call 33; (with_reducible refine (decimal_as (b : Int) D HD (by omega) (by omega) _ _ (by first | exact HS.out.drew.self | exact (HS.out.drew.alloc _).self | exact ((HS.out.alloc _).drew).self)).mono ?_); rintro e w' ⟨rfl, hr'⟩; try (have cx := nam_after hr' a a6 X HX.out))
  all_goals
    go_wp2_with (fail)
    go_ret
    refine ⟨ret_str HF.out, ?_⟩
    first
      | exact (HR.out.alloc _).drew.trans hr'
      | exact (HR.out.drew.trans hr').alloc _
end Go.Proofs.YtoajbbcjmalngaaGreatDoor

namespace Go.Proofs.YtoajbbcjmalngaaGreatDoor
open Go.RowKit Go.Lib
set_option linter.unusedVariables false
set_option linter.unusedSimpArgs false

theorem kinds (k : Int) : (k = 1 ∨ k = 2 ∨ k = 3 ∨ k = 4 ∨ k = 5 ∨ k = 6 ∨ k = 7 ∨ k = 8 ∨ k = 9 ∨ k = 10 ∨ k = 11 ∨ k = 12) ∨
    ((k == 1) = false ∧ (k == 2) = false ∧ (k == 3) = false ∧ (k == 4) = false ∧ (k == 5) = false ∧ (k == 6) = false ∧ (k == 7) = false ∧ (k == 8) = false ∧ (k == 9) = false ∧ (k == 10) = false ∧ (k == 11) = false ∧ (k == 12) = false ∧ argsN k = -1 ∧ mostN k = 0 ∧ isCond k = false) := by
  by_cases h : k = 1 ∨ k = 2 ∨ k = 3 ∨ k = 4 ∨ k = 5 ∨ k = 6 ∨ k = 7 ∨ k = 8 ∨ k = 9 ∨ k = 10 ∨ k = 11 ∨ k = 12
  · exact .inl h
  · refine .inr ⟨?_, ?_, ?_, ?_, ?_, ?_, ?_, ?_, ?_, ?_, ?_, ?_, ?_, ?_, ?_⟩
    iterate 12 (· simp; omega)
    · unfold argsN; rw [if_neg (by omega), if_neg (by omega), if_neg (by omega), if_neg (by omega)]
    · unfold mostN; rw [if_neg (by omega), if_neg (by omega), if_neg (by omega)]
    · unfold isCond; simp; omega
set_option maxHeartbeats 1000000 in
theorem rargs_any (k : Int) (w : World) : Calls Tryz.prog 36 #[.int .i64 k] w fun e w' => e = .returned (.int .i64 (argsN k)) ∧ w = w' := by
  rcases kinds k with h | ⟨k1, k2, k3, k4, k5, k6, k7, k8, k9, k10, k11, k12, ha, _⟩
  · rcases h with rfl | rfl | rfl | rfl | rfl | rfl | rfl | rfl | rfl | rfl | rfl | rfl
    all_goals
      go_enter Tryz.func36, Tryz.ntmps36
      go_wp2_with (fail)
      go_ret
      exact ⟨rfl, rfl⟩
  · have HA := Lib.hid ha
    clear ha
    go_enter Tryz.func36, Tryz.ntmps36
    go_wp2_with (fail)
    go_ret
    exact ⟨ret_int HA.out.symm, rfl⟩
theorem args_as (k m : Int) (h : Hid (argsN k = m)) (w : World) : Calls Tryz.prog 36 #[.int .i64 k] w fun e w' => e = .returned (.int .i64 m) ∧ w = w' := by rw [← h.out]; exact rargs_any k w
theorem next_as (g : Nat) (L : List Int) (n v : Int) (L' : List Int) (hv : Hid ((nx n L) = (v, L'))) (hn : 0 < n) (hn' : n ≤ 9223372036854775807) (w : World) (h : SrcAt w g L) :
    Calls Tryz.prog 35 #[.pointer (some ⟨g, 0, none⟩), .int .i64 n] w fun e w' => e = .returned (.int .i64 v) ∧ SrcAt w' g L' ∧ w.grownBy w' (some g) ∧ w'.heap.size = w.heap.size := by
  have := next_any g L n hn hn' w h
  rw [hv.out] at this
  exact this
/-- What 'expr' tells, for expressions so deep. -/
def ExprAt (d : Nat) : Prop := ∀ (c : Bool) (L : List Int) (g : Nat) (w0 w : World), Rel w0 w → w0.heap.size ≤ g → SrcAt w g L → Calls Tryz.prog 20 #[.pointer (some ⟨g, 0, none⟩), .int .i64 ((d : Int) + 1), .bool c] w fun e w' =>
  ∃ v : El, e = .returned (EV v) ∧ ExAt (fun k => w.heap.size ≤ k) w' v (gen (d + 1) c L).1 ∧ SrcAt w' g (gen (d + 1) c L).2 ∧ w.grownBy w' (some g)
theorem expr_as {d : Nat} (E : ExprAt d) (c : Bool) (L : List Int) (x : Ex) (L' : List Int) (hx : Hid (gen (d + 1) c L = (x, L'))) (g : Nat) (w0 w : World) (hr : Rel w0 w) (hg : w0.heap.size ≤ g) (hs : SrcAt w g L) :
    Calls Tryz.prog 20 #[.pointer (some ⟨g, 0, none⟩), .int .i64 ((d : Int) + 1), .bool c] w fun e w' => ∃ v : El, e = .returned (EV v) ∧ ExAt (fun k => w.heap.size ≤ k) w' v x ∧ SrcAt w' g L' ∧ w.grownBy w' (some g) := by
  have := E c L g w0 w hr hg hs
  rw [hx.out] at this
  exact this
set_option maxHeartbeats 2000000 in
theorem expr_cond (d : Nat) (hd : d ≤ 10) (H : ∀ d', d = d' + 1 → ExprAt d') (L : List Int) (g : Nat) (w0 w : World) (hr : Rel w0 w) (hg0 : w0.heap.size ≤ g) (hs : SrcAt w g L) :
    Calls Tryz.prog 20 #[.pointer (some ⟨g, 0, none⟩), .int .i64 ((d : Int) + 1), .bool true] w fun e w' =>
      ∃ v : El, e = .returned (EV v) ∧ ExAt (fun k => w.heap.size ≤ k) w' v (gen (d + 1) true L).1 ∧ SrcAt w' g (gen (d + 1) true L).2 ∧ w.grownBy w' (some g) := by
  have hgl := hs.lt
  have hA := hr.self.alloc (.cells #[.int .i64 0, .int .i64 0, .string ⟨#[]⟩, .slice none 0 0] 26)
  have hS := Lib.hid (hs.rel hA)
  have HB := Lib.hid (Bk.new w 26 #[.int .i64 0, .int .i64 0, .string ⟨#[]⟩, .slice none 0 0])
  have HG := Lib.hid (grown_rel (some g) hA)
  have HR := Lib.hid (hr.alloc (.cells #[.int .i64 0, .int .i64 0, .string ⟨#[]⟩, .slice none 0 0] 26))
  clear hA
  cases d with
  | zero =>
    obtain ⟨⟨v, L'⟩, hv⟩ : ∃ p, nx 7 L = p := ⟨_, rfl⟩
    have HV := Lib.hid hv
    have hb := nx_bd 7 (by omega) L
    rw [hv] at hb
    have HF := Lib.hid (show gen 1 true L = (.mk 11 v [] [], L') by simp [gen, hv])
    clear hv hs
    go_enter Tryz.func20, Tryz.ntmps20
    go_wp2_with (go_at_call 35; (with_reducible refine (next_as g L 7 v L' HV (by decide) (by decide) _ hS.out).mono ?_); rintro e w1 ⟨rfl, s1, g1, z1⟩; obtain ⟨⟨c0, c1, c2, c3⟩, f0, f1, f2, f3⟩ := (HB.out.grown g1 (fun e => by injection e; omega)).four)
    obtain ⟨⟨r0, r1, r2, r3⟩, _⟩ := ((HB.out.grown g1 (fun e => by injection e; omega)).put4 (.int .i64 11) (.int .i64 v) (.string ⟨#[]⟩) (.slice none 0 0)).four
    refine bodyPost_ret (v := EV (11, v, [], none, 0, 0)) (by simp [results, Tryz.results20, go_sem, r0, r1, r2, r3]; rfl) rfl ⟨_, rfl, ?_, ?_, ?_⟩
    · rw [HF.out]; exact ExAt.leaf _ _ 11 v [] none 0 ⟨by decide, by decide⟩ ⟨by omega, by omega⟩ (by simp)
    · rw [HF.out]; exact s1.grown (put4_grown w1 w.heap.size _ _ _ _) (fun k e => by cases e; exact hgl)
    · exact grown_of (grown_trans HG.out g1) (put4_grown w1 w.heap.size _ _ _ _) (fun k e => by cases e; exact Nat.le_refl _)
  | succ d =>
    have E := H d rfl
    obtain ⟨⟨v2, L2⟩, hv2⟩ : ∃ p, nx 2 L = p := ⟨_, rfl⟩
    have HV2 := Lib.hid hv2
    have hb2 := nx_bd 2 (by omega) L
    rw [hv2] at hb2
    have hdd : ¬ ((d : Int) + 1 + 1 < 2) := by omega
    by_cases h0 : v2 = 0
    · obtain ⟨⟨v, L'⟩, hv⟩ : ∃ p, nx 7 L2 = p := ⟨_, rfl⟩
      have HV := Lib.hid hv
      have hb := nx_bd 7 (by omega) L2
      rw [hv] at hb
      have HF := Lib.hid (show gen (d + 2) true L = (.mk 11 v [] [], L') by simp [gen, hv2, hv, h0])
      have h0' : (v2 == 0) = true := by simpa using h0
      clear hv hv2 hs h0
      go_enter Tryz.func20, Tryz.ntmps20
      go_wp2_with (first
        | (go_at_call 35; (with_reducible refine (next_as g L 2 v2 L2 HV2 (by decide) (by decide) _ hS.out).mono ?_); rintro e w1 ⟨rfl, s1, g1, z1⟩)
        | (go_at_call 35; (with_reducible refine (next_as g L2 7 v L' HV (by decide) (by decide) _ s1).mono ?_); rintro e w2 ⟨rfl, s2, g2, z2⟩; obtain ⟨⟨c0, c1, c2, c3⟩, f0, f1, f2, f3⟩ := (HB.out.grown (grown_trans g1 g2) (fun e => by injection e; omega)).four))
      obtain ⟨⟨r0, r1, r2, r3⟩, _⟩ := ((HB.out.grown (grown_trans g1 g2) (fun e => by injection e; omega)).put4 (.int .i64 11) (.int .i64 v) (.string ⟨#[]⟩) (.slice none 0 0)).four
      refine bodyPost_ret (v := EV (11, v, [], none, 0, 0)) (by simp [results, Tryz.results20, go_sem, r0, r1, r2, r3]; rfl) rfl ⟨_, rfl, ?_, ?_, ?_⟩
      · rw [HF.out]; exact ExAt.leaf _ _ 11 v [] none 0 ⟨by decide, by decide⟩ ⟨by omega, by omega⟩ (by simp)
      · rw [HF.out]; exact s2.grown (put4_grown w2 w.heap.size _ _ _ _) (fun k e => by cases e; exact hgl)
      · exact grown_of (grown_trans (grown_trans HG.out g1) g2) (put4_grown w2 w.heap.size _ _ _ _) (fun k e => by cases e; exact Nat.le_refl _)
    · obtain ⟨⟨x, L3⟩, hx⟩ : ∃ p, gen (d + 1) false L2 = p := ⟨_, rfl⟩
      obtain ⟨⟨y, L4⟩, hy⟩ : ∃ p, gen (d + 1) false L3 = p := ⟨_, rfl⟩
      have HF := Lib.hid (show gen (d + 2) true L = (.mk 12 0 [] [x, y], L4) by rw [gen, if_neg (by omega), hv2, if_neg h0, hx, hy])
      have h0' : (v2 == 0) = false := by simpa using h0
      have HX := Lib.hid hx
      have HY := Lib.hid hy
      have hw1 : IntKind.i64.wrap ((d : Int) + 1 + 1 - 1) = (d : Int) + 1 := by rw [IntKind.wrap_i64]; omega
      clear hv2 hs h0 hx hy
      go_enter Tryz.func20, Tryz.ntmps20
      go_wp2_with (first
        | (go_at_call 35; (with_reducible refine (next_as g L 2 v2 L2 HV2 (by decide) (by decide) _ hS.out).mono ?_); rintro e w1 ⟨rfl, s1, g1, z1⟩)
        | (go_at_call 20; (with_reducible refine (expr_as E false L2 x L3 HX g _ _ (HR.out.grown g1 (fun k e => by cases e; exact hg0)) hg0 s1).mono ?_); rintro e w2 ⟨vx, rfl, ex, s2, g2⟩)
        | (go_at_call 20; (with_reducible refine (expr_as E false L3 y L4 HY g _ _ ((HR.out.grown g1 (fun k e => by cases e; exact hg0)).grown g2 (fun k e => by cases e; exact hg0)) hg0 s2).mono ?_); rintro e w3 ⟨vy, rfl, ey, s3, g3⟩; obtain ⟨⟨c0, c1, c2, c3⟩, f0, f1, f2, f3⟩ := ((HB.out.grown (grown_trans (grown_trans g1 g2) g3) (fun e => by injection e; omega)).alloc (.cells #[.int .i64 vx.1, .int .i64 vx.2.1, .string (B vx.2.2.1), .slice vx.2.2.2.1 vx.2.2.2.2.1 vx.2.2.2.2.2, .int .i64 vy.1, .int .i64 vy.2.1, .string (B vy.2.2.1), .slice vy.2.2.2.1 vy.2.2.2.2.1 vy.2.2.2.2.2] 26)).four))
      have R2 := (HR.out.grown g1 (fun k e => by cases e; exact hg0)).grown g2 (fun k e => by cases e; exact hg0)
      have R3 := R2.grown g3 (fun k e => by cases e; exact hg0)
      have ga := grown_rel none (R3.self.alloc (.cells #[.int .i64 vx.1, .int .i64 vx.2.1, .string (B vx.2.2.1), .slice vx.2.2.2.1 vx.2.2.2.2.1 vx.2.2.2.2.2, .int .i64 vy.1, .int .i64 vy.2.1, .string (B vy.2.2.1), .slice vy.2.2.2.1 vy.2.2.2.2.1 vy.2.2.2.2.2] 26))
      have z0 : (w.alloc (.cells #[.int .i64 0, .int .i64 0, .string ⟨#[]⟩, .slice none 0 0] 26)).heap.size = w.heap.size + 1 := World.size_alloc ..
      have zz1 := g1.size
      have zz2 := g2.size
      have zz3 := g3.size
      obtain ⟨gp, hgp⟩ : ∃ gp, gp = put4_grown (w3.alloc (.cells #[.int .i64 vx.1, .int .i64 vx.2.1, .string (B vx.2.2.1), .slice vx.2.2.2.1 vx.2.2.2.2.1 vx.2.2.2.2.2, .int .i64 vy.1, .int .i64 vy.2.1, .string (B vy.2.2.1), .slice vy.2.2.2.1 vy.2.2.2.2.1 vy.2.2.2.2.2] 26)) w.heap.size (.int .i64 12) (.int .i64 0) (.string ⟨#[]⟩) (.slice (some ⟨w3.heap.size, 0, none⟩) 2 2) := ⟨_, rfl⟩
      clear hgp
      obtain ⟨⟨r0, r1, r2, r3⟩, _⟩ := (((HB.out.grown (grown_trans (grown_trans g1 g2) g3) (fun e => by injection e; omega)).alloc (.cells #[.int .i64 vx.1, .int .i64 vx.2.1, .string (B vx.2.2.1), .slice vx.2.2.2.1 vx.2.2.2.2.1 vx.2.2.2.2.2, .int .i64 vy.1, .int .i64 vy.2.1, .string (B vy.2.2.1), .slice vy.2.2.2.1 vy.2.2.2.2.1 vy.2.2.2.2.2] 26)).put4 (.int .i64 12) (.int .i64 0) (.string ⟨#[]⟩) (.slice (some ⟨w3.heap.size, 0, none⟩) 2 2)).four
      refine bodyPost_ret (v := EV (12, 0, [], some ⟨w3.heap.size, 0, none⟩, 2, 2)) (by simp [results, Tryz.results20, go_sem, r0, r1, r2, r3]; rfl) rfl ⟨_, rfl, ?_, ?_, ?_⟩
      · rw [HF.out]
        refine ExAt.two ⟨by decide, by decide⟩ ⟨by decide, by decide⟩ (Nat.zero_le _) ((Bk.new w3 26 (cellsEs [vx, vy]).toArray).grown gp (fun e => by injection e; omega)) (show w.heap.size ≤ w3.heap.size by omega) ?_ ?_
        · exact (((ex.grown (S' := fun k => w1.heap.size ≤ k) g3 (fun k hk => ⟨hk, fun e => by injection e; omega⟩)).grown (S' := fun k => w1.heap.size ≤ k) ga (fun k hk => ⟨hk, fun e => by cases e⟩)).grown gp (fun k hk => ⟨by omega, fun e => by injection e; omega⟩))
        · exact ((ey.grown (S' := fun k => w2.heap.size ≤ k) ga (fun k hk => ⟨hk, fun e => by cases e⟩)).grown gp (fun k hk => ⟨by omega, fun e => by injection e; omega⟩))
      · rw [HF.out]; exact (s3.grown ga (fun k e => by cases e)).grown gp (fun k e => by cases e; exact hgl)
      · exact grown_of (grown_of (grown_trans (grown_trans (grown_trans HG.out g1) g2) g3) ga (fun k e => by cases e)) gp (fun k e => by cases e; exact Nat.le_refl _)
end Go.Proofs.YtoajbbcjmalngaaGreatDoor

namespace Go.Proofs.YtoajbbcjmalngaaGreatDoor
open Go
set_option linter.unusedVariables false
set_option linter.unusedSimpArgs false
section
variable {P : Program} {ops : Array Oper} {Q : Exit → Act → World → Prop} {md : Region.Mode} {S : World → Prop}

/-- Does operation j wait for i itself? -/
def waitsB (md : Region.Mode) (ops : Array Oper) (j i : Nat) : Bool := ((ops[j]?).map fun o => o.after.any fun e => Region.binds md e && (e.on == i)).getD false
/-- Whatever order is picked from here on; behind what does not wait for i, S holds. -/
def wpTill (P : Program) (md : Region.Mode) (ops : Array Oper) (Q : Exit → Act → World → Prop) (S : World → Prop) (i : Nat) : Nat → Array Bool → Act → World → Prop
  | 0, listed, a, w => Region.ready md ops listed = [] ∧ Q .normal a w
  | fuel + 1, listed, a, w =>
    (Region.ready md ops listed = [] → Q .normal a w) ∧
    ∀ j ∈ Region.ready md ops listed, wpOp P ops Q j (fun a' w' => (waitsB md ops j i = false → S w') ∧ wpTill P md ops Q S i fuel (listed.setIfInBounds j true) a' w') a w
theorem any_of_till {i : Nat} : ∀ (fuel : Nat) (listed : Array Bool) (a : Act) (w : World), wpTill P md ops Q S i fuel listed a w → wpAny P md ops Q fuel listed a w
  | 0, _, _, _, h => h
  | fuel + 1, _, _, _, h => ⟨h.1, fun j hj => wpOp_mono (fun a' w' h' => any_of_till fuel _ a' w' h'.2) (h.2 j hj)⟩
theorem ready_iff {listed : Array Bool} {j : Nat} : j ∈ Region.ready md ops listed ↔ j < ops.size ∧ listed.getD j true = false ∧ ∃ o, ops[j]? = some o ∧ ∀ e ∈ o.after, Region.binds md e = true → listed.getD e.on false = true := by
  unfold Region.ready
  rw [List.mem_filter, List.mem_range]
  constructor
  · rintro ⟨h1, h2⟩
    rw [Array.getElem?_eq_getElem h1] at h2 ⊢
    simp only [Option.map_some, Option.getD_some, Bool.and_eq_true, Bool.not_eq_true', Array.all_eq_true_iff_forall_mem, Bool.or_eq_true] at h2
    refine ⟨h1, h2.1, _, rfl, fun e he hb => ?_⟩
    rcases h2.2 e he with h | h
    · rw [hb] at h; cases h
    · exact h
  · rintro ⟨h1, h2, o, ho, h3⟩
    refine ⟨h1, ?_⟩
    rw [ho]
    simp only [Option.map_some, Option.getD_some, Bool.and_eq_true, Bool.not_eq_true', Array.all_eq_true_iff_forall_mem, Bool.or_eq_true]
    refine ⟨h2, fun e he => ?_⟩
    cases hb : Region.binds md e
    · exact .inl rfl
    · exact .inr (h3 e he hb)
theorem set_get {listed : Array Bool} {i j : Nat} {d : Bool} (h : j ≠ i) : (listed.setIfInBounds i true).getD j d = listed.getD j d := by
  simp [Array.getD_eq_getD_getElem?, Array.getElem?_setIfInBounds, Ne.symm h]
theorem set_mono {listed : Array Bool} {i j : Nat} (h : listed.getD j false = true) : (listed.setIfInBounds i true).getD j false = true := by
  by_cases e : j = i
  · subst e
    have hl : j < listed.size := by
      rcases Nat.lt_or_ge j listed.size with h' | h'
      · exact h'
      · simp [Array.getD_eq_getD_getElem?, Array.getElem?_eq_none h'] at h
    simp [Array.getD_eq_getD_getElem?, Array.getElem?_setIfInBounds, hl]
  · rw [set_get e]; exact h
theorem ready_set {listed : Array Bool} {i j : Nat} (hj : j ∈ Region.ready md ops listed) (h : j ≠ i) : j ∈ Region.ready md ops (listed.setIfInBounds i true) := by
  obtain ⟨h1, h2, o, ho, h3⟩ := ready_iff.1 hj
  exact ready_iff.2 ⟨h1, by rw [set_get h]; exact h2, o, ho, fun e he hb => set_mono (h3 e he hb)⟩
theorem ready_waits {listed : Array Bool} {i j : Nat} (hi : i ∈ Region.ready md ops listed) (hj : j ∈ Region.ready md ops listed) : waitsB md ops j i = false := by
  obtain ⟨_, h2, _⟩ := ready_iff.1 hi
  obtain ⟨_, _, o, ho, h3⟩ := ready_iff.1 hj
  unfold waitsB
  rw [ho]
  simp only [Option.map_some, Option.getD_some]
  rw [Array.any_eq_false']
  intro e he hc
  simp only [Bool.and_eq_true, beq_iff_eq] at hc
  have := h3 e he hc.1
  rw [hc.2] at this
  rcases Nat.lt_or_ge i listed.size with h' | h'
  · simp [Array.getD_eq_getD_getElem?, Array.getElem?_eq_getElem h'] at this h2
    rw [this] at h2; cases h2
  · simp [Array.getD_eq_getD_getElem?, Array.getElem?_eq_none h'] at this
/-- Taken first, with S held till it comes up. -/
theorem till_first {i : Nat} {oi : Oper} {v : Value} (hi : ops[i]? = some oi) (hsel : ∀ (j : Nat) (o : Oper) cs b, ops[j]? = some o → o.op ≠ .select cs b)
    (hQ : ∀ c a w, Q (.panic c) (a.put oi.dst v) w → Q (.panic c) a w) :
    ∀ (fuel : Nat) (listed : Array Bool) (a : Act) (w : World),
      (∀ j oj, ops[j]? = some oj → j ≠ i → listed.getD j true = false → (∀ e ∈ oj.after, Region.binds md e = true → e.on ≠ i) → oi.apart ops oj = true) →
      i ∈ Region.ready md ops listed → YieldsIf P ops S oi v a → S w →
      wpTill P md ops Q S i fuel (listed.setIfInBounds i true) (a.put oi.dst v) w → wpAny P md ops Q (fuel + 1) listed a w := by
  intro fuel
  induction fuel with
  | zero =>
    intro listed a w hap hir hy hS h
    refine ⟨(fun e => by rw [e] at hir; cases hir), fun j hj => ?_⟩
    by_cases hji : j = i
    · subst hji; exact hy.wpOp hi hS (any_of_till 0 _ _ _ h)
    · have := ready_set hj hji
      rw [h.1] at this; cases this
  | succ f ih =>
    intro listed a w hap hir hy hS h
    refine ⟨(fun e => by rw [e] at hir; cases hir), fun j hj => ?_⟩
    by_cases hji : j = i
    · subst hji; exact hy.wpOp hi hS (any_of_till (f + 1) _ _ _ h)
    · have hw := ready_waits hir hj
      obtain ⟨_, hjl, oj, hoj, hjw⟩ := ready_iff.1 hj
      have hnot : ∀ e ∈ oj.after, Region.binds md e = true → e.on ≠ i := by
        intro e he hb hc
        unfold waitsB at hw
        rw [hoj] at hw
        simp only [Option.map_some, Option.getD_some] at hw
        rw [Array.any_eq_false'] at hw
        exact hw e he (by simp [hb, hc])
      have h1 := wpOp_putIf hoj (hap j oj hoj hji hjl hnot) (fun cs b => hsel i oi cs b hi) (fun cs b => hsel j oj cs b hoj) hQ hy (h.2 j (ready_set hj hji))
      refine wpOp_mono (fun a' w' h' => ?_) h1
      obtain ⟨hy', hS', ht⟩ := h'
      refine ih (listed.setIfInBounds j true) a' w' (fun q oq hq hqi hql hqe => hap q oq hq hqi ?_ hqe) (ready_set hir (Ne.symm hji)) hy' (hS' hw) ?_
      · by_cases e : q = j
        · subst e; exact hjl
        · rw [set_get e] at hql; exact hql
      · rw [Array.setIfInBounds_comm _ _ (Ne.symm hji)] at ht
        exact ht
theorem till_take {i : Nat} {oi : Oper} {v : Value} (d : Option Tmp) {fuel : Nat} {listed : Array Bool} {a : Act} {w : World} (hi : ops[i]? = some oi) (hd : oi.dst = d)
    (hs : Region.noSelect ops = true) (hf : Region.free md ops listed i = true) (hr : (Region.ready md ops listed).contains i = true)
    (hQ : ∀ c a w, Q (.panic c) (a.put d v) w → Q (.panic c) a w) (hy : YieldsIf P ops S oi v a) (hS : S w)
    (h : wpTill P md ops Q S i fuel (listed.setIfInBounds i true) (a.put d v) w) : wpAny P md ops Q (fuel + 1) listed a w := by
  subst hd
  exact till_first hi (Region.noSelect_spec hs) hQ fuel listed a w (Region.free_spec hi hf) (by simpa using hr) hy hS h
/-- What asks nothing of the world is taken first. -/
theorem any_take {i : Nat} {oi : Oper} {v : Value} (d : Option Tmp) {fuel : Nat} {listed : Array Bool} {a : Act} {w : World} (hi : ops[i]? = some oi) (hd : oi.dst = d)
    (hs : Region.noSelect ops = true) (hf : Region.free md ops listed i = true) (hr : (Region.ready md ops listed).contains i = true)
    (hQ : ∀ c a w, Q (.panic c) (a.put d v) w → Q (.panic c) a w) (hy : Yields P ops oi v a)
    (h : wpAny P md ops Q fuel (listed.setIfInBounds i true) (a.put d v) w) : wpAny P md ops Q (fuel + 1) listed a w := by
  subst hd
  exact wpAny_take hi hs hf hr hQ hy h
/-- One operation alone may come up: it does not wait for i, so S is shown behind it. -/
theorem till_one {i j : Nat} {o : Oper} {fuel : Nat} {listed : Array Bool} {a : Act} {w : World} (hr : Region.ready md ops listed = [j]) (ho : ops[j]? = some o)
    (h : ∀ K' : Act → World → Prop, Shut (∀ a w, S w → wpTill P md ops Q S i fuel (listed.setIfInBounds j true) a w → K' a w) → if Region.wanted o (yielded ops a.tmps) = true then Oper.wp P o a w K' Q else K' (a.put o.dst undef) w) : wpTill P md ops Q S i (fuel + 1) listed a w :=
  ⟨(fun h0 => by rw [hr] at h0; cases h0), fun q hq => by rw [hr, List.mem_singleton] at hq; subst hq; exact wpOp_step ho (fun K' hK => h K' (fun a w hS hW => hK a w ⟨fun _ => hS, hW⟩))⟩
/-- One operation alone may come up: it waits for i. -/
theorem till_late {i j : Nat} {o : Oper} {fuel : Nat} {listed : Array Bool} {a : Act} {w : World} (hr : Region.ready md ops listed = [j]) (ho : ops[j]? = some o) (hw : waitsB md ops j i = true)
    (h : ∀ K' : Act → World → Prop, Shut (∀ a w, wpTill P md ops Q S i fuel (listed.setIfInBounds j true) a w → K' a w) → if Region.wanted o (yielded ops a.tmps) = true then Oper.wp P o a w K' Q else K' (a.put o.dst undef) w) : wpTill P md ops Q S i (fuel + 1) listed a w :=
  ⟨(fun h0 => by rw [hr] at h0; cases h0), fun q hq => by rw [hr, List.mem_singleton] at hq; subst hq; exact wpOp_step ho (fun K' hK => h K' (fun a w hW => hK a w ⟨(fun e => by rw [hw] at e; cases e), hW⟩))⟩
theorem till_done {i : Nat} {listed : Array Bool} {a : Act} {w : World} (hr : Region.ready md ops listed = []) (h : Q .normal a w) : ∀ fuel, wpTill P md ops Q S i fuel listed a w
  | 0 => ⟨hr, h⟩
  | _ + 1 => ⟨fun _ => h, by rw [hr]; simp⟩
end
end Go.Proofs.YtoajbbcjmalngaaGreatDoor
