/- What the law makes of raw numbers: its expressions, in memory. -/
import Derived.Test.YtlflfffjaodhpaaDoorTreeMem
import Derived.Test.YtlflfffjaodhpaaDoorTreePc
namespace Go.Proofs.YtlflfffjaodhpaaDoor
open Go.RowKit Go.Lib
set_option linter.unusedVariables false
set_option linter.unusedSimpArgs false

theorem kinds (k : Int) : (k = 1 ∨ k = 2 ∨ k = 3 ∨ k = 4 ∨ k = 5 ∨ k = 6 ∨ k = 7 ∨ k = 8 ∨ k = 9 ∨ k = 10 ∨ k = 11 ∨ k = 12) ∨
    ((k == 1) = false ∧ (k == 2) = false ∧ (k == 3) = false ∧ (k == 4) = false ∧ (k == 5) = false ∧ (k == 6) = false ∧ (k == 7) = false ∧ (k == 8) = false ∧ (k == 9) = false ∧ (k == 10) = false ∧ (k == 11) = false ∧ (k == 12) = false ∧ argsN k = -1 ∧ mostN k = 0 ∧ isCond k = false) := by
  by_cases h : k = 1 ∨ k = 2 ∨ k = 3 ∨ k = 4 ∨ k = 5 ∨ k = 6 ∨ k = 7 ∨ k = 8 ∨ k = 9 ∨ k = 10 ∨ k = 11 ∨ k = 12
  · exact .inl h
  · refine .inr ⟨?_, ?_, ?_, ?_, ?_, ?_, ?_, ?_, ?_, ?_, ?_, ?_, ?_, ?_, ?_⟩
    iterate 12 (· simp; omega)
    · unfold argsN; rw [if_neg (by omega), if_neg (by omega), if_neg (by omega), if_neg (by omega)]
    · unfold mostN; rw [if_neg (by omega), if_neg (by omega), if_neg (by omega)]
    · unfold isCond; simp; omega
set_option maxHeartbeats 1000000 in
theorem rargs_any (k : Int) (w : World) : Calls Tryd.prog 27 #[.int .i64 k] w fun e w' => e = .returned (.int .i64 (argsN k)) ∧ w = w' := by
  rcases kinds k with h | ⟨k1, k2, k3, k4, k5, k6, k7, k8, k9, k10, k11, k12, ha, _⟩
  · rcases h with rfl | rfl | rfl | rfl | rfl | rfl | rfl | rfl | rfl | rfl | rfl | rfl
    all_goals
      go_enter Tryd.func27, Tryd.ntmps27
      go_wp2_with (fail)
      go_ret
      exact ⟨rfl, rfl⟩
  · have HA := Lib.hid ha
    clear ha
    go_enter Tryd.func27, Tryd.ntmps27
    go_wp2_with (fail)
    go_ret
    exact ⟨ret_int HA.out.symm, rfl⟩
theorem args_as (k m : Int) (h : Hid (argsN k = m)) (w : World) : Calls Tryd.prog 27 #[.int .i64 k] w fun e w' => e = .returned (.int .i64 m) ∧ w = w' := by rw [← h.out]; exact rargs_any k w
theorem next_as (g : Nat) (L : List Int) (n v : Int) (L' : List Int) (hv : Hid ((nx n L) = (v, L'))) (hn : 0 < n) (hn' : n ≤ 9223372036854775807) (w : World) (h : SrcAt w g L) :
    Calls Tryd.prog 39 #[.pointer (some ⟨g, 0, none⟩), .int .i64 n] w fun e w' => e = .returned (.int .i64 v) ∧ SrcAt w' g L' ∧ w.grownBy w' (some g) ∧ w'.heap.size = w.heap.size := by
  have := next_any g L n hn hn' w h
  rw [hv.out] at this
  exact this
/-- What 'expr' tells, for expressions so deep. -/
def ExprAt (d : Nat) : Prop := ∀ (c : Bool) (L : List Int) (g : Nat) (w0 w : World), Rel w0 w → w0.heap.size ≤ g → SrcAt w g L → Calls Tryd.prog 26 #[.pointer (some ⟨g, 0, none⟩), .int .i64 ((d : Int) + 1), .bool c] w fun e w' =>
  ∃ v : El, e = .returned (EV v) ∧ ExAt (fun k => w.heap.size ≤ k) w' v (gen (d + 1) c L).1 ∧ SrcAt w' g (gen (d + 1) c L).2 ∧ w.grownBy w' (some g)
theorem expr_as {d : Nat} (E : ExprAt d) (c : Bool) (L : List Int) (x : Ex) (L' : List Int) (hx : Hid (gen (d + 1) c L = (x, L'))) (g : Nat) (w0 w : World) (hr : Rel w0 w) (hg : w0.heap.size ≤ g) (hs : SrcAt w g L) :
    Calls Tryd.prog 26 #[.pointer (some ⟨g, 0, none⟩), .int .i64 ((d : Int) + 1), .bool c] w fun e w' => ∃ v : El, e = .returned (EV v) ∧ ExAt (fun k => w.heap.size ≤ k) w' v x ∧ SrcAt w' g L' ∧ w.grownBy w' (some g) := by
  have := E c L g w0 w hr hg hs
  rw [hx.out] at this
  exact this
set_option maxHeartbeats 2000000 in
theorem expr_cond (d : Nat) (hd : d ≤ 10) (H : ∀ d', d = d' + 1 → ExprAt d') (L : List Int) (g : Nat) (w0 w : World) (hr : Rel w0 w) (hg0 : w0.heap.size ≤ g) (hs : SrcAt w g L) :
    Calls Tryd.prog 26 #[.pointer (some ⟨g, 0, none⟩), .int .i64 ((d : Int) + 1), .bool true] w fun e w' =>
      ∃ v : El, e = .returned (EV v) ∧ ExAt (fun k => w.heap.size ≤ k) w' v (gen (d + 1) true L).1 ∧ SrcAt w' g (gen (d + 1) true L).2 ∧ w.grownBy w' (some g) := by
  have hgl := hs.lt
  have hA := hr.self.alloc (.cells #[.int .i64 0, .int .i64 0, .string ⟨#[]⟩, .slice none 0 0] 26)
  have hS := Lib.hid (hs.rel hA)
  have HB := Lib.hid (Bk.new w 26 #[.int .i64 0, .int .i64 0, .string ⟨#[]⟩, .slice none 0 0])
  have HG := Lib.hid (grown_rel (some g) hA)
  have HR := Lib.hid (hr.alloc (.cells #[.int .i64 0, .int .i64 0, .string ⟨#[]⟩, .slice none 0 0] 26))
  clear hA
  cases d with
  | zero =>
    obtain ⟨⟨v, L'⟩, hv⟩ : ∃ p, nx 7 L = p := ⟨_, rfl⟩
    have HV := Lib.hid hv
    have hb := nx_bd 7 (by omega) L
    rw [hv] at hb
    have HF := Lib.hid (show gen 1 true L = (.mk 11 v [] [], L') by simp [gen, hv])
    clear hv hs
    go_enter Tryd.func26, Tryd.ntmps26
    go_wp2_with (go_at_call 39; (with_reducible refine (next_as g L 7 v L' HV (by decide) (by decide) _ hS.out).mono ?_); rintro e w1 ⟨rfl, s1, g1, z1⟩; obtain ⟨⟨c0, c1, c2, c3⟩, f0, f1, f2, f3⟩ := (HB.out.grown g1 (fun e => by injection e; omega)).four)
    obtain ⟨⟨r0, r1, r2, r3⟩, _⟩ := ((HB.out.grown g1 (fun e => by injection e; omega)).put4 (.int .i64 11) (.int .i64 v) (.string ⟨#[]⟩) (.slice none 0 0)).four
    refine bodyPost_ret (v := EV (11, v, [], none, 0, 0)) (by simp [results, Tryd.results26, go_sem, r0, r1, r2, r3]; rfl) rfl ⟨_, rfl, ?_, ?_, ?_⟩
    · rw [HF.out]; exact ExAt.leaf _ _ 11 v [] none 0 ⟨by decide, by decide⟩ ⟨by omega, by omega⟩ (by simp)
    · rw [HF.out]; exact s1.grown (put4_grown w1 w.heap.size _ _ _ _) (fun k e => by cases e; exact hgl)
    · exact grown_of (grown_trans HG.out g1) (put4_grown w1 w.heap.size _ _ _ _) (fun k e => by cases e; exact Nat.le_refl _)
  | succ d =>
    have E := H d rfl
    obtain ⟨⟨v2, L2⟩, hv2⟩ : ∃ p, nx 2 L = p := ⟨_, rfl⟩
    have HV2 := Lib.hid hv2
    have hb2 := nx_bd 2 (by omega) L
    rw [hv2] at hb2
    have hdd : ¬ ((d : Int) + 1 + 1 < 2) := by omega
    by_cases h0 : v2 = 0
    · obtain ⟨⟨v, L'⟩, hv⟩ : ∃ p, nx 7 L2 = p := ⟨_, rfl⟩
      have HV := Lib.hid hv
      have hb := nx_bd 7 (by omega) L2
      rw [hv] at hb
      have HF := Lib.hid (show gen (d + 2) true L = (.mk 11 v [] [], L') by simp [gen, hv2, hv, h0])
      have h0' : (v2 == 0) = true := by simpa using h0
      clear hv hv2 hs h0
      go_enter Tryd.func26, Tryd.ntmps26
      go_wp2_with (first
        | (go_at_call 39; (with_reducible refine (next_as g L 2 v2 L2 HV2 (by decide) (by decide) _ hS.out).mono ?_); rintro e w1 ⟨rfl, s1, g1, z1⟩)
        | (go_at_call 39; (with_reducible refine (next_as g L2 7 v L' HV (by decide) (by decide) _ s1).mono ?_); rintro e w2 ⟨rfl, s2, g2, z2⟩; obtain ⟨⟨c0, c1, c2, c3⟩, f0, f1, f2, f3⟩ := (HB.out.grown (grown_trans g1 g2) (fun e => by injection e; omega)).four))
      obtain ⟨⟨r0, r1, r2, r3⟩, _⟩ := ((HB.out.grown (grown_trans g1 g2) (fun e => by injection e; omega)).put4 (.int .i64 11) (.int .i64 v) (.string ⟨#[]⟩) (.slice none 0 0)).four
      refine bodyPost_ret (v := EV (11, v, [], none, 0, 0)) (by simp [results, Tryd.results26, go_sem, r0, r1, r2, r3]; rfl) rfl ⟨_, rfl, ?_, ?_, ?_⟩
      · rw [HF.out]; exact ExAt.leaf _ _ 11 v [] none 0 ⟨by decide, by decide⟩ ⟨by omega, by omega⟩ (by simp)
      · rw [HF.out]; exact s2.grown (put4_grown w2 w.heap.size _ _ _ _) (fun k e => by cases e; exact hgl)
      · exact grown_of (grown_trans (grown_trans HG.out g1) g2) (put4_grown w2 w.heap.size _ _ _ _) (fun k e => by cases e; exact Nat.le_refl _)
    · obtain ⟨⟨x, L3⟩, hx⟩ : ∃ p, gen (d + 1) false L2 = p := ⟨_, rfl⟩
      obtain ⟨⟨y, L4⟩, hy⟩ : ∃ p, gen (d + 1) false L3 = p := ⟨_, rfl⟩
      have HF := Lib.hid (show gen (d + 2) true L = (.mk 12 0 [] [x, y], L4) by rw [gen, if_neg (by omega), hv2, if_neg h0, hx, hy])
      have h0' : (v2 == 0) = false := by simpa using h0
      have HX := Lib.hid hx
      have HY := Lib.hid hy
      have hw1 : IntKind.i64.wrap ((d : Int) + 1 + 1 - 1) = (d : Int) + 1 := by rw [IntKind.wrap_i64]; omega
      clear hv2 hs h0 hx hy
      go_enter Tryd.func26, Tryd.ntmps26
      go_wp2_with (first
        | (go_at_call 39; (with_reducible refine (next_as g L 2 v2 L2 HV2 (by decide) (by decide) _ hS.out).mono ?_); rintro e w1 ⟨rfl, s1, g1, z1⟩)
        | (go_at_call 26; (with_reducible refine (expr_as E false L2 x L3 HX g _ _ (HR.out.grown g1 (fun k e => by cases e; exact hg0)) hg0 s1).mono ?_); rintro e w2 ⟨vx, rfl, ex, s2, g2⟩)
        | (go_at_call 26; (with_reducible refine (expr_as E false L3 y L4 HY g _ _ ((HR.out.grown g1 (fun k e => by cases e; exact hg0)).grown g2 (fun k e => by cases e; exact hg0)) hg0 s2).mono ?_); rintro e w3 ⟨vy, rfl, ey, s3, g3⟩; obtain ⟨⟨c0, c1, c2, c3⟩, f0, f1, f2, f3⟩ := ((HB.out.grown (grown_trans (grown_trans g1 g2) g3) (fun e => by injection e; omega)).alloc (.cells #[.int .i64 vx.1, .int .i64 vx.2.1, .string (B vx.2.2.1), .slice vx.2.2.2.1 vx.2.2.2.2.1 vx.2.2.2.2.2, .int .i64 vy.1, .int .i64 vy.2.1, .string (B vy.2.2.1), .slice vy.2.2.2.1 vy.2.2.2.2.1 vy.2.2.2.2.2] 26)).four))
      have R2 := (HR.out.grown g1 (fun k e => by cases e; exact hg0)).grown g2 (fun k e => by cases e; exact hg0)
      have R3 := R2.grown g3 (fun k e => by cases e; exact hg0)
      have ga := grown_rel none (R3.self.alloc (.cells #[.int .i64 vx.1, .int .i64 vx.2.1, .string (B vx.2.2.1), .slice vx.2.2.2.1 vx.2.2.2.2.1 vx.2.2.2.2.2, .int .i64 vy.1, .int .i64 vy.2.1, .string (B vy.2.2.1), .slice vy.2.2.2.1 vy.2.2.2.2.1 vy.2.2.2.2.2] 26))
      have z0 : (w.alloc (.cells #[.int .i64 0, .int .i64 0, .string ⟨#[]⟩, .slice none 0 0] 26)).heap.size = w.heap.size + 1 := World.size_alloc ..
      have zz1 := g1.size
      have zz2 := g2.size
      have zz3 := g3.size
      obtain ⟨gp, hgp⟩ : ∃ gp, gp = put4_grown (w3.alloc (.cells #[.int .i64 vx.1, .int .i64 vx.2.1, .string (B vx.2.2.1), .slice vx.2.2.2.1 vx.2.2.2.2.1 vx.2.2.2.2.2, .int .i64 vy.1, .int .i64 vy.2.1, .string (B vy.2.2.1), .slice vy.2.2.2.1 vy.2.2.2.2.1 vy.2.2.2.2.2] 26)) w.heap.size (.int .i64 12) (.int .i64 0) (.string ⟨#[]⟩) (.slice (some ⟨w3.heap.size, 0, none⟩) 2 2) := ⟨_, rfl⟩
      clear hgp
      obtain ⟨⟨r0, r1, r2, r3⟩, _⟩ := (((HB.out.grown (grown_trans (grown_trans g1 g2) g3) (fun e => by injection e; omega)).alloc (.cells #[.int .i64 vx.1, .int .i64 vx.2.1, .string (B vx.2.2.1), .slice vx.2.2.2.1 vx.2.2.2.2.1 vx.2.2.2.2.2, .int .i64 vy.1, .int .i64 vy.2.1, .string (B vy.2.2.1), .slice vy.2.2.2.1 vy.2.2.2.2.1 vy.2.2.2.2.2] 26)).put4 (.int .i64 12) (.int .i64 0) (.string ⟨#[]⟩) (.slice (some ⟨w3.heap.size, 0, none⟩) 2 2)).four
      refine bodyPost_ret (v := EV (12, 0, [], some ⟨w3.heap.size, 0, none⟩, 2, 2)) (by simp [results, Tryd.results26, go_sem, r0, r1, r2, r3]; rfl) rfl ⟨_, rfl, ?_, ?_, ?_⟩
      · rw [HF.out]
        refine ExAt.two ⟨by decide, by decide⟩ ⟨by decide, by decide⟩ (Nat.zero_le _) ((Bk.new w3 26 (cellsEs [vx, vy]).toArray).grown gp (fun e => by injection e; omega)) (show w.heap.size ≤ w3.heap.size by omega) ?_ ?_
        · exact (((ex.grown (S' := fun k => w1.heap.size ≤ k) g3 (fun k hk => ⟨hk, fun e => by injection e; omega⟩)).grown (S' := fun k => w1.heap.size ≤ k) ga (fun k hk => ⟨hk, fun e => by cases e⟩)).grown gp (fun k hk => ⟨by omega, fun e => by injection e; omega⟩))
        · exact ((ey.grown (S' := fun k => w2.heap.size ≤ k) ga (fun k hk => ⟨hk, fun e => by cases e⟩)).grown gp (fun k hk => ⟨by omega, fun e => by injection e; omega⟩))
      · rw [HF.out]; exact (s3.grown ga (fun k e => by cases e)).grown gp (fun k e => by cases e; exact hgl)
      · exact grown_of (grown_of (grown_trans (grown_trans (grown_trans HG.out g1) g2) g3) ga (fun k e => by cases e)) gp (fun k e => by cases e; exact Nat.le_refl _)
end Go.Proofs.YtlflfffjaodhpaaDoor
