/- TreeGrows, over what the program is asked. -/
import Derived.Test.YtlflfffjaodhpaaDoorTreeLawA
import Derived.Test.YtlflfffjaodhpaaDoorHeld
namespace Go.Proofs.YtlflfffjaodhpaaDoor
open Go.RowKit Go.Lib
set_option linter.unusedVariables false
set_option linter.unusedSimpArgs false

theorem ExAt.three {S : Nat → Prop} {w : World} {k n : Int} {nm : List UInt8} {g c : Nat} {a b d : El} {x y z : Ex} (hk : i64 k) (hn : i64 n) (hm : nm.length ≤ 100) (h : Bk w g 26 (cellsEs [a, b, d]).toArray) (hS : S g) (hx : ExAt S w a x) (hy : ExAt S w b y) (hz : ExAt S w d z) :
    ExAt S w (k, n, nm, some ⟨g, 0, none⟩, 3, c) (.mk k n nm [x, y, z]) :=
  .mk k n nm _ c [x, y, z] [a, b, d] hk hn hm rfl (RowE.of_bk h hS) fun i h h' => by
    match i, h, h' with
    | 0, _, _ => exact hx
    | 1, _, _ => exact hy
    | 2, _, _ => exact hz
theorem ok64 {n : Int} (h : -100 ≤ n) (h' : n ≤ 100) : i64 n := ⟨by omega, by omega⟩
def exZ (x y : Ex) : Ex := .mk 8 0 [] [x, y]
def exA (x y : Ex) : Ex := .mk 12 0 [] [x, y]
def exW (x y : Ex) : Ex := .mk 10 0 [] [exA x y, x, y]
theorem z_size (x y : Ex) : size (exZ x y) = 1 + size x + size y := by unfold exZ; rw [size_mk, sizes_cons, sizes_cons, sizes_nil]; omega
theorem a_size (x y : Ex) : size (exA x y) = 1 + size x + size y := by unfold exA; rw [size_mk, sizes_cons, sizes_cons, sizes_nil]; omega
theorem w_size (x y : Ex) : size (exW x y) = 2 + 2 * size x + 2 * size y := by unfold exW; rw [size_mk, sizes_cons, sizes_cons, sizes_cons, sizes_nil, a_size]; omega
theorem z_deep (x y : Ex) : deep (exZ x y) = 1 + max (deep x) (deep y) := by unfold exZ; rw [deep_mk, deeps_cons, deeps_cons, deeps_nil]; omega
theorem a_deep (x y : Ex) : deep (exA x y) = 1 + max (deep x) (deep y) := by unfold exA; rw [deep_mk, deeps_cons, deeps_cons, deeps_nil]; omega
theorem w_deep (x y : Ex) : deep (exW x y) = 2 + max (deep x) (deep y) := by unfold exW; rw [deep_mk, deeps_cons, deeps_cons, deeps_cons, deeps_nil, a_deep]; omega
theorem a_right (x y : Ex) : rightX (exA x y) = false := by
  unfold rightX; rw [show isCond (exA x y).k = true from rfl]; simp
/-- The blocks that the law makes of both. -/
theorem grows_world (w0 w : World) (hr : Rel w0 w) (vx vy : El) (x y : Ex) (S S' : Nat → Prop) (ex : ExAt S w vx x) (ey : ExAt S' w vy y) (s : Nat) (hs : w.heap.size = s) :
    ∃ W : World, W = (((((w.alloc (.cells #[.int .i64 vx.1, .int .i64 vx.2.1, .string (B vx.2.2.1), .slice vx.2.2.2.1 vx.2.2.2.2.1 vx.2.2.2.2.2, .int .i64 vy.1, .int .i64 vy.2.1, .string (B vy.2.2.1), .slice vy.2.2.2.1 vy.2.2.2.2.1 vy.2.2.2.2.2] 26)).alloc (.cells #[.int .i64 8, .int .i64 0, .string ⟨#[]⟩, .slice (some ⟨s, 0, none⟩) 2 2] 26)).alloc (.cells #[.int .i64 vx.1, .int .i64 vx.2.1, .string (B vx.2.2.1), .slice vx.2.2.2.1 vx.2.2.2.2.1 vx.2.2.2.2.2, .int .i64 vy.1, .int .i64 vy.2.1, .string (B vy.2.2.1), .slice vy.2.2.2.1 vy.2.2.2.2.1 vy.2.2.2.2.2] 26)).alloc (.cells #[.int .i64 12, .int .i64 0, .string ⟨#[]⟩, .slice (some ⟨s + 2, 0, none⟩) 2 2, .int .i64 vx.1, .int .i64 vx.2.1, .string (B vx.2.2.1), .slice vx.2.2.2.1 vx.2.2.2.2.1 vx.2.2.2.2.2, .int .i64 vy.1, .int .i64 vy.2.1, .string (B vy.2.2.1), .slice vy.2.2.2.1 vy.2.2.2.2.1 vy.2.2.2.2.2] 26)).alloc (.cells #[.int .i64 10, .int .i64 0, .string ⟨#[]⟩, .slice (some ⟨s + 3, 0, none⟩) 3 3] 26)) ∧ Rel w W ∧
    Bk W (s + 1) 26 #[.int .i64 8, .int .i64 0, .string ⟨#[]⟩, .slice (some ⟨s, 0, none⟩) 2 2] ∧ Bk W (s + 4) 26 #[.int .i64 10, .int .i64 0, .string ⟨#[]⟩, .slice (some ⟨s + 3, 0, none⟩) 3 3] ∧
    (∀ w', Rel W w' → w'.cell? ⟨s + 3, 0, none⟩ = some (.int .i64 12) ∧ w'.cell? ⟨s + 3, 1, none⟩ = some (.int .i64 0) ∧ w'.cell? ⟨s + 3, 2, none⟩ = some (.string ⟨#[]⟩) ∧ w'.cell? ⟨s + 3, 3, none⟩ = some (.slice (some ⟨s + 2, 0, none⟩) 2 2)) ∧
    ExAt (fun _ => True) W (8, 0, [], some ⟨s, 0, none⟩, 2, 2) (exZ x y) ∧ ExAt (fun _ => True) W (12, 0, [], some ⟨s + 2, 0, none⟩, 2, 2) (exA x y) ∧ ExAt (fun _ => True) W (10, 0, [], some ⟨s + 3, 0, none⟩, 3, 3) (exW x y) := by
  have R1 := hr.self.alloc (.cells #[.int .i64 vx.1, .int .i64 vx.2.1, .string (B vx.2.2.1), .slice vx.2.2.2.1 vx.2.2.2.2.1 vx.2.2.2.2.2, .int .i64 vy.1, .int .i64 vy.2.1, .string (B vy.2.2.1), .slice vy.2.2.2.1 vy.2.2.2.2.1 vy.2.2.2.2.2] 26)
  have R2 := R1.alloc (.cells #[.int .i64 8, .int .i64 0, .string ⟨#[]⟩, .slice (some ⟨s, 0, none⟩) 2 2] 26)
  have R3 := R2.alloc (.cells #[.int .i64 vx.1, .int .i64 vx.2.1, .string (B vx.2.2.1), .slice vx.2.2.2.1 vx.2.2.2.2.1 vx.2.2.2.2.2, .int .i64 vy.1, .int .i64 vy.2.1, .string (B vy.2.2.1), .slice vy.2.2.2.1 vy.2.2.2.2.1 vy.2.2.2.2.2] 26)
  have R4 := R3.alloc (.cells #[.int .i64 12, .int .i64 0, .string ⟨#[]⟩, .slice (some ⟨s + 2, 0, none⟩) 2 2, .int .i64 vx.1, .int .i64 vx.2.1, .string (B vx.2.2.1), .slice vx.2.2.2.1 vx.2.2.2.2.1 vx.2.2.2.2.2, .int .i64 vy.1, .int .i64 vy.2.1, .string (B vy.2.2.1), .slice vy.2.2.2.1 vy.2.2.2.2.1 vy.2.2.2.2.2] 26)
  have R5 := R4.alloc (.cells #[.int .i64 10, .int .i64 0, .string ⟨#[]⟩, .slice (some ⟨s + 3, 0, none⟩) 3 3] 26)
  have b0 := Bk.new w 26 #[.int .i64 vx.1, .int .i64 vx.2.1, .string (B vx.2.2.1), .slice vx.2.2.2.1 vx.2.2.2.2.1 vx.2.2.2.2.2, .int .i64 vy.1, .int .i64 vy.2.1, .string (B vy.2.2.1), .slice vy.2.2.2.1 vy.2.2.2.2.1 vy.2.2.2.2.2]
  have b1 := Bk.new (w.alloc (.cells #[.int .i64 vx.1, .int .i64 vx.2.1, .string (B vx.2.2.1), .slice vx.2.2.2.1 vx.2.2.2.2.1 vx.2.2.2.2.2, .int .i64 vy.1, .int .i64 vy.2.1, .string (B vy.2.2.1), .slice vy.2.2.2.1 vy.2.2.2.2.1 vy.2.2.2.2.2] 26)) 26 #[.int .i64 8, .int .i64 0, .string ⟨#[]⟩, .slice (some ⟨s, 0, none⟩) 2 2]
  have b2 := Bk.new ((w.alloc (.cells #[.int .i64 vx.1, .int .i64 vx.2.1, .string (B vx.2.2.1), .slice vx.2.2.2.1 vx.2.2.2.2.1 vx.2.2.2.2.2, .int .i64 vy.1, .int .i64 vy.2.1, .string (B vy.2.2.1), .slice vy.2.2.2.1 vy.2.2.2.2.1 vy.2.2.2.2.2] 26)).alloc (.cells #[.int .i64 8, .int .i64 0, .string ⟨#[]⟩, .slice (some ⟨s, 0, none⟩) 2 2] 26)) 26 #[.int .i64 vx.1, .int .i64 vx.2.1, .string (B vx.2.2.1), .slice vx.2.2.2.1 vx.2.2.2.2.1 vx.2.2.2.2.2, .int .i64 vy.1, .int .i64 vy.2.1, .string (B vy.2.2.1), .slice vy.2.2.2.1 vy.2.2.2.2.1 vy.2.2.2.2.2]
  have b3 := Bk.new (((w.alloc (.cells #[.int .i64 vx.1, .int .i64 vx.2.1, .string (B vx.2.2.1), .slice vx.2.2.2.1 vx.2.2.2.2.1 vx.2.2.2.2.2, .int .i64 vy.1, .int .i64 vy.2.1, .string (B vy.2.2.1), .slice vy.2.2.2.1 vy.2.2.2.2.1 vy.2.2.2.2.2] 26)).alloc (.cells #[.int .i64 8, .int .i64 0, .string ⟨#[]⟩, .slice (some ⟨s, 0, none⟩) 2 2] 26)).alloc (.cells #[.int .i64 vx.1, .int .i64 vx.2.1, .string (B vx.2.2.1), .slice vx.2.2.2.1 vx.2.2.2.2.1 vx.2.2.2.2.2, .int .i64 vy.1, .int .i64 vy.2.1, .string (B vy.2.2.1), .slice vy.2.2.2.1 vy.2.2.2.2.1 vy.2.2.2.2.2] 26)) 26 #[.int .i64 12, .int .i64 0, .string ⟨#[]⟩, .slice (some ⟨s + 2, 0, none⟩) 2 2, .int .i64 vx.1, .int .i64 vx.2.1, .string (B vx.2.2.1), .slice vx.2.2.2.1 vx.2.2.2.2.1 vx.2.2.2.2.2, .int .i64 vy.1, .int .i64 vy.2.1, .string (B vy.2.2.1), .slice vy.2.2.2.1 vy.2.2.2.2.1 vy.2.2.2.2.2]
  have b4 := Bk.new ((((w.alloc (.cells #[.int .i64 vx.1, .int .i64 vx.2.1, .string (B vx.2.2.1), .slice vx.2.2.2.1 vx.2.2.2.2.1 vx.2.2.2.2.2, .int .i64 vy.1, .int .i64 vy.2.1, .string (B vy.2.2.1), .slice vy.2.2.2.1 vy.2.2.2.2.1 vy.2.2.2.2.2] 26)).alloc (.cells #[.int .i64 8, .int .i64 0, .string ⟨#[]⟩, .slice (some ⟨s, 0, none⟩) 2 2] 26)).alloc (.cells #[.int .i64 vx.1, .int .i64 vx.2.1, .string (B vx.2.2.1), .slice vx.2.2.2.1 vx.2.2.2.2.1 vx.2.2.2.2.2, .int .i64 vy.1, .int .i64 vy.2.1, .string (B vy.2.2.1), .slice vy.2.2.2.1 vy.2.2.2.2.1 vy.2.2.2.2.2] 26)).alloc (.cells #[.int .i64 12, .int .i64 0, .string ⟨#[]⟩, .slice (some ⟨s + 2, 0, none⟩) 2 2, .int .i64 vx.1, .int .i64 vx.2.1, .string (B vx.2.2.1), .slice vx.2.2.2.1 vx.2.2.2.2.1 vx.2.2.2.2.2, .int .i64 vy.1, .int .i64 vy.2.1, .string (B vy.2.2.1), .slice vy.2.2.2.1 vy.2.2.2.2.1 vy.2.2.2.2.2] 26)) 26 #[.int .i64 10, .int .i64 0, .string ⟨#[]⟩, .slice (some ⟨s + 3, 0, none⟩) 3 3]
  simp only [World.size_alloc, hs] at b0 b1 b2 b3 b4
  have a1 := ((b1.alloc (.cells #[.int .i64 vx.1, .int .i64 vx.2.1, .string (B vx.2.2.1), .slice vx.2.2.2.1 vx.2.2.2.2.1 vx.2.2.2.2.2, .int .i64 vy.1, .int .i64 vy.2.1, .string (B vy.2.2.1), .slice vy.2.2.2.1 vy.2.2.2.2.1 vy.2.2.2.2.2] 26)).alloc (.cells #[.int .i64 12, .int .i64 0, .string ⟨#[]⟩, .slice (some ⟨s + 2, 0, none⟩) 2 2, .int .i64 vx.1, .int .i64 vx.2.1, .string (B vx.2.2.1), .slice vx.2.2.2.1 vx.2.2.2.2.1 vx.2.2.2.2.2, .int .i64 vy.1, .int .i64 vy.2.1, .string (B vy.2.2.1), .slice vy.2.2.2.1 vy.2.2.2.2.1 vy.2.2.2.2.2] 26)).alloc (.cells #[.int .i64 10, .int .i64 0, .string ⟨#[]⟩, .slice (some ⟨s + 3, 0, none⟩) 3 3] 26)
  have a0 := (((b0.alloc (.cells #[.int .i64 8, .int .i64 0, .string ⟨#[]⟩, .slice (some ⟨s, 0, none⟩) 2 2] 26)).alloc (.cells #[.int .i64 vx.1, .int .i64 vx.2.1, .string (B vx.2.2.1), .slice vx.2.2.2.1 vx.2.2.2.2.1 vx.2.2.2.2.2, .int .i64 vy.1, .int .i64 vy.2.1, .string (B vy.2.2.1), .slice vy.2.2.2.1 vy.2.2.2.2.1 vy.2.2.2.2.2] 26)).alloc (.cells #[.int .i64 12, .int .i64 0, .string ⟨#[]⟩, .slice (some ⟨s + 2, 0, none⟩) 2 2, .int .i64 vx.1, .int .i64 vx.2.1, .string (B vx.2.2.1), .slice vx.2.2.2.1 vx.2.2.2.2.1 vx.2.2.2.2.2, .int .i64 vy.1, .int .i64 vy.2.1, .string (B vy.2.2.1), .slice vy.2.2.2.1 vy.2.2.2.2.1 vy.2.2.2.2.2] 26)).alloc (.cells #[.int .i64 10, .int .i64 0, .string ⟨#[]⟩, .slice (some ⟨s + 3, 0, none⟩) 3 3] 26)
  have a2 := (b2.alloc (.cells #[.int .i64 12, .int .i64 0, .string ⟨#[]⟩, .slice (some ⟨s + 2, 0, none⟩) 2 2, .int .i64 vx.1, .int .i64 vx.2.1, .string (B vx.2.2.1), .slice vx.2.2.2.1 vx.2.2.2.2.1 vx.2.2.2.2.2, .int .i64 vy.1, .int .i64 vy.2.1, .string (B vy.2.2.1), .slice vy.2.2.2.1 vy.2.2.2.2.1 vy.2.2.2.2.2] 26)).alloc (.cells #[.int .i64 10, .int .i64 0, .string ⟨#[]⟩, .slice (some ⟨s + 3, 0, none⟩) 3 3] 26)
  have a3 := b3.alloc (.cells #[.int .i64 10, .int .i64 0, .string ⟨#[]⟩, .slice (some ⟨s + 3, 0, none⟩) 3 3] 26)
  have EX := (ex.rel R5).weak (S' := fun _ => True) (fun _ _ => trivial)
  have EY := (ey.rel R5).weak (S' := fun _ => True) (fun _ _ => trivial)
  have EA := ExAt.two (k := 12) (n := 0) (nm := []) (c := 2) (ok64 (by decide) (by decide)) (ok64 (by decide) (by decide)) (Nat.zero_le _) a2 trivial EX EY
  refine ⟨_, rfl, R5, a1, b4, fun w' h => ?_, ?_, EA, ?_⟩
  · have := a3.rel h
    exact ⟨by rw [this.cell]; rfl, by rw [this.cell]; rfl, by rw [this.cell]; rfl, by rw [this.cell]; rfl⟩
  · exact ExAt.two (k := 8) (n := 0) (nm := []) (c := 2) (ok64 (by decide) (by decide)) (ok64 (by decide) (by decide)) (Nat.zero_le _) a0 trivial EX EY
  · exact ExAt.three (a := (12, 0, [], some ⟨s + 2, 0, none⟩, 2, 2)) (b := vx) (d := vy) (k := 10) (n := 0) (nm := []) (c := 3) (ok64 (by decide) (by decide)) (ok64 (by decide) (by decide)) (Nat.zero_le _) a3 trivial EA EX EY
set_option maxRecDepth 100000 in
set_option maxHeartbeats 16000000 in
theorem TreeGrows_at (H : TreeOk) (A : Option Addr) (c : Nat) (L : List Int) (A' : Option Addr) (c' : Nat) (L' : List Int) (w : World) (hr : Rel w w) (hi : IntsIn w A c L) (hi' : IntsIn w A' c' L') :
    Calls Tryd.prog 6 #[.slice A L.length c, .slice A' L'.length c'] w fun e w' => e = .returned (.bool true) ∧ Rel w w' := by
  have H := Lib.hid H
  have HR := Lib.hid hr
  have HI := Lib.hid hi
  have HI' := Lib.hid hi'
  obtain ⟨x, hx⟩ : ∃ x, strat L = x := ⟨_, rfl⟩
  obtain ⟨y, hy⟩ : ∃ y, strat L' = y := ⟨_, rfl⟩
  have HStx := Lib.hid (fun (w0 w1 : World) (hr : Rel w0 w1) (h : IntsIn w1 A c L) => strat_any A c L w0 w1 hr h)
  have HSty := Lib.hid (fun (w0 w1 : World) (hr : Rel w0 w1) (h : IntsIn w1 A' c' L') => strat_any A' c' L' w0 w1 hr h)
  have sx5 : deep x ≤ 5 := by rw [← hx]; exact strat_deep L
  have sy5 : deep y ≤ 5 := by rw [← hy]; exact strat_deep L'
  have zx : size x ≤ 2000 := by have := strat_size L; rw [hx] at this; omega
  have zy : size y ≤ 2000 := by have := strat_size L'; rw [hy] at this; omega
  rw [hx] at HStx
  rw [hy] at HSty
  clear hx hy hi hi' hr
  go_enter Tryd.func6, Tryd.ntmps6
  go_upto_region 4 with (first
    | (go_at_call 9; (with_reducible refine (awake7_any H.out _ _ HR.out).mono ?_); rintro e w1 ⟨rfl, h1⟩)
    | (go_at_call 10; (with_reducible refine (HStx.out _ _ h1.self (HI.out.rel h1)).mono ?_); rintro e w2 ⟨vx, rfl, ex, h2⟩; have AX := h2.self.alloc (.cells #[.int .i64 vx.1, .int .i64 vx.2.1, .string (B vx.2.2.1), .slice vx.2.2.2.1 vx.2.2.2.2.1 vx.2.2.2.2.2] 26); have R2 := (h1.trans h2).trans AX)
    | (go_at_call 10; (with_reducible refine (HSty.out _ _ AX.self (HI'.out.rel R2)).mono ?_); rintro e w3 ⟨vy, rfl, ey, h3⟩; have AY := h3.self.alloc (.cells #[.int .i64 vy.1, .int .i64 vy.2.1, .string (B vy.2.2.1), .slice vy.2.2.2.1 vy.2.2.2.2.1 vy.2.2.2.2.2] 26); have R3 := (R2.trans h3).trans AY; have BX := ((Bk.new w2 26 #[.int .i64 vx.1, .int .i64 vx.2.1, .string (B vx.2.2.1), .slice vx.2.2.2.1 vx.2.2.2.2.1 vx.2.2.2.2.2]).rel h3).alloc (.cells #[.int .i64 vy.1, .int .i64 vy.2.1, .string (B vy.2.2.1), .slice vy.2.2.2.1 vy.2.2.2.2.1 vy.2.2.2.2.2] 26); have BY := Bk.new w3 26 #[.int .i64 vy.1, .int .i64 vy.2.1, .string (B vy.2.2.1), .slice vy.2.2.2.1 vy.2.2.2.2.1 vy.2.2.2.2.2]; have EX := ex.rel (AX.trans (h3.trans AY)); have EY := ey.rel AY; obtain ⟨⟨x0, x1, x2, x3⟩, _⟩ := BX.four; obtain ⟨⟨y0, y1, y2, y3⟩, _⟩ := BY.four))
  have HX0 := Lib.hid EX
  have HY0 := Lib.hid EY
  have HBX0 := Lib.hid BX
  have HBY0 := Lib.hid BY
  have HRY := Lib.hid R3
  have BX1 := (BX.alloc (.cells #[.int .i64 vx.1, .int .i64 vx.2.1, .string (B vx.2.2.1), .slice vx.2.2.2.1 vx.2.2.2.2.1 vx.2.2.2.2.2, .int .i64 vy.1, .int .i64 vy.2.1, .string (B vy.2.2.1), .slice vy.2.2.2.1 vy.2.2.2.2.1 vy.2.2.2.2.2] 26)).alloc (.cells #[.int .i64 8, .int .i64 0, .string ⟨#[]⟩, .slice (some ⟨w3.heap.size + 1, 0, none⟩) 2 2] 26)
  have BY1 := (BY.alloc (.cells #[.int .i64 vx.1, .int .i64 vx.2.1, .string (B vx.2.2.1), .slice vx.2.2.2.1 vx.2.2.2.2.1 vx.2.2.2.2.2, .int .i64 vy.1, .int .i64 vy.2.1, .string (B vy.2.2.1), .slice vy.2.2.2.1 vy.2.2.2.2.1 vy.2.2.2.2.2] 26)).alloc (.cells #[.int .i64 8, .int .i64 0, .string ⟨#[]⟩, .slice (some ⟨w3.heap.size + 1, 0, none⟩) 2 2] 26)
  obtain ⟨⟨p0, p1, p2, p3⟩, _⟩ := BX1.four
  obtain ⟨⟨q0, q1, q2, q3⟩, _⟩ := BY1.four
  obtain ⟨⟨s0, s1, s2, s3⟩, _⟩ := (BX1.alloc (.cells #[.int .i64 vx.1, .int .i64 vx.2.1, .string (B vx.2.2.1), .slice vx.2.2.2.1 vx.2.2.2.2.1 vx.2.2.2.2.2, .int .i64 vy.1, .int .i64 vy.2.1, .string (B vy.2.2.1), .slice vy.2.2.2.1 vy.2.2.2.2.1 vy.2.2.2.2.2] 26)).four
  obtain ⟨⟨t0, t1, t2, t3⟩, _⟩ := (BY1.alloc (.cells #[.int .i64 vx.1, .int .i64 vx.2.1, .string (B vx.2.2.1), .slice vx.2.2.2.1 vx.2.2.2.2.1 vx.2.2.2.2.2, .int .i64 vy.1, .int .i64 vy.2.1, .string (B vy.2.2.1), .slice vy.2.2.2.1 vy.2.2.2.2.1 vy.2.2.2.2.2] 26)).four
  clear ex ey h1 h2 h3 AX AY R2 R3 BX BY EX EY BX1 BY1
  go_upto_region 6 with (fail)
  obtain ⟨W, hW, hwR, bz, bw, hr3, ez, ea, ew⟩ := grows_world _ (w3.alloc (.cells #[.int .i64 vy.1, .int .i64 vy.2.1, .string (B vy.2.2.1), .slice vy.2.2.2.1 vy.2.2.2.2.1 vy.2.2.2.2.2] 26)) HRY.out.self vx vy x y _ _ HX0.out HY0.out (w3.heap.size + 1) (by rw [World.size_alloc])
  simp only [Nat.add_assoc, Nat.reduceAdd] at hW bz bw hr3 ez ea ew ⊢
  rw [← hW]
  have HW := Lib.hid (HRY.out.trans hwR)
  have HBX := Lib.hid (HBX0.out.rel hwR)
  have HBY := Lib.hid (HBY0.out.rel hwR)
  have HBZ := Lib.hid bz
  have HBW := Lib.hid bw
  have HBR := Lib.hid hr3
  have HEX := Lib.hid (HX0.out.rel hwR)
  have HEY := Lib.hid (HY0.out.rel hwR)
  have HEZ := Lib.hid ez
  have HEA := Lib.hid ea
  have HEW := Lib.hid ew
  obtain ⟨dx, hdx⟩ : ∃ d : Nat, deep x = d := ⟨_, rfl⟩
  obtain ⟨dy, hdy⟩ : ∃ d : Nat, deep y = d := ⟨_, rfl⟩
  obtain ⟨sx, hsx⟩ : ∃ d : Nat, size x = d := ⟨_, rfl⟩
  obtain ⟨sy, hsy⟩ : ∃ d : Nat, size y = d := ⟨_, rfl⟩
  obtain ⟨dm, hdm⟩ : ∃ d : Nat, max dx dy = d := ⟨_, rfl⟩
  have d1 := deep_le_size x
  have HDX := Lib.hid (fun (w' : World) (h : Rel W w') => deep_as H.out x (dx : Int) (Lib.hid (by rw [hdx])) _ vx w' w' (HW.out.trans h).self (HEX.out.rel h) (by omega))
  have HDY := Lib.hid (fun (w' : World) (h : Rel W w') => deep_as H.out y (dy : Int) (Lib.hid (by rw [hdy])) _ vy w' w' (HW.out.trans h).self (HEY.out.rel h) (by omega))
  have HSX := Lib.hid (fun (w' : World) (h : Rel W w') => size_as H.out x (sx : Int) (Lib.hid (by rw [hsx])) _ vx w' w' (HW.out.trans h).self (HEX.out.rel h) (by omega))
  have HSY := Lib.hid (fun (w' : World) (h : Rel W w') => size_as H.out y (sy : Int) (Lib.hid (by rw [hsy])) _ vy w' w' (HW.out.trans h).self (HEY.out.rel h) (by omega))
  have ez := z_size x y
  have ew := w_size x y
  have ea := a_size x y
  have fz := z_deep x y
  have fw := w_deep x y
  have V8 : Hid (EV (8, 0, [], some ⟨w3.heap.size + 1, 0, none⟩, 2, 2) = .agg #[.int .i64 8, .int .i64 0, .string ⟨#[]⟩, .slice (some ⟨w3.heap.size + 1, 0, none⟩) 2 2]) := Lib.hid rfl
  have V10 : Hid (EV (10, 0, [], some ⟨w3.heap.size + 4, 0, none⟩, 3, 3) = .agg #[.int .i64 10, .int .i64 0, .string ⟨#[]⟩, .slice (some ⟨w3.heap.size + 4, 0, none⟩) 3 3]) := Lib.hid rfl
  have V12 : Hid (EV (12, 0, [], some ⟨w3.heap.size + 3, 0, none⟩, 2, 2) = .agg #[.int .i64 12, .int .i64 0, .string ⟨#[]⟩, .slice (some ⟨w3.heap.size + 3, 0, none⟩) 2 2]) := Lib.hid rfl
  have HDZ := Lib.hid (fun (w' : World) (h : Rel W w') => arg1 V8 (deep_as H.out (exZ x y) (1 + (dm : Int)) (Lib.hid (by rw [fz]; omega)) _ (8, 0, [], some ⟨w3.heap.size + 1, 0, none⟩, 2, 2) w' w' (HW.out.trans h).self (HEZ.out.rel h) (by omega)))
  have HSZ := Lib.hid (fun (w' : World) (h : Rel W w') => arg1 V8 (size_as H.out (exZ x y) (1 + (sx : Int) + (sy : Int)) (Lib.hid (by rw [ez]; omega)) _ (8, 0, [], some ⟨w3.heap.size + 1, 0, none⟩, 2, 2) w' w' (HW.out.trans h).self (HEZ.out.rel h) (by omega)))
  have HDW := Lib.hid (fun (w' : World) (h : Rel W w') => arg1 V10 (deep_as H.out (exW x y) (2 + (dm : Int)) (Lib.hid (by rw [fw]; omega)) _ (10, 0, [], some ⟨w3.heap.size + 4, 0, none⟩, 3, 3) w' w' (HW.out.trans h).self (HEW.out.rel h) (by omega)))
  have HSW := Lib.hid (fun (w' : World) (h : Rel W w') => arg1 V10 (size_as H.out (exW x y) (2 + 2 * (sx : Int) + 2 * (sy : Int)) (Lib.hid (by rw [ew]; omega)) _ (10, 0, [], some ⟨w3.heap.size + 4, 0, none⟩, 3, 3) w' w' (HW.out.trans h).self (HEW.out.rel h) (by omega)))
  have HRI := Lib.hid (fun (w' : World) (h : Rel W w') => arg1 V12 (right_as H.out (exA x y) false (Lib.hid (a_right x y)) _ (12, 0, [], some ⟨w3.heap.size + 3, 0, none⟩, 2, 2) w' w' (HW.out.trans h).self (HEA.out.rel h) (by omega)))
  have hm1 : max (dx : Int) (dy : Int) = (dm : Int) := by omega
  have hm2 : (if (dx : Int) < (dy : Int) then (dy : Int) else (dx : Int)) = (dm : Int) := by split <;> omega
  have hm4 : (if dx < dy then (dy : Int) else (dx : Int)) = (dm : Int) := by split <;> omega
  have hm3 : (if (dx : Int) ≤ (dy : Int) then (dy : Int) else (dx : Int)) = (dm : Int) := by split <;> omega
  have k1 : IntKind.i64.wrap (1 + (dm : Int)) = 1 + (dm : Int) := IntWalk.i64_in _ (by omega)
  have k2 : IntKind.i64.wrap (2 + (dm : Int)) = 2 + (dm : Int) := IntWalk.i64_in _ (by omega)
  have k3 : IntKind.i64.wrap (1 + (sx : Int)) = 1 + (sx : Int) := IntWalk.i64_in _ (by omega)
  have k4 : IntKind.i64.wrap (1 + (sx : Int) + (sy : Int)) = 1 + (sx : Int) + (sy : Int) := IntWalk.i64_in _ (by omega)
  have k5 : IntKind.i64.wrap (2 * (sx : Int)) = 2 * (sx : Int) := IntWalk.i64_in _ (by omega)
  have k6 : IntKind.i64.wrap (2 + 2 * (sx : Int)) = 2 + 2 * (sx : Int) := IntWalk.i64_in _ (by omega)
  have k7 : IntKind.i64.wrap (2 * (sy : Int)) = 2 * (sy : Int) := IntWalk.i64_in _ (by omega)
  have k8 : IntKind.i64.wrap (2 + 2 * (sx : Int) + 2 * (sy : Int)) = 2 + 2 * (sx : Int) + 2 * (sy : Int) := IntWalk.i64_in _ (by omega)
  have i1 : (dx : Int) ≤ (sx : Int) := by omega
  have i2 : (dx : Int) ≤ 5 := by omega
  clear hW hwR bz bw hr3 ez ea ew fz fw hdx hdy hsx hsy hdm d1 sx5 sy5 zx zy x0 x1 x2 x3 y0 y1 y2 y3 p0 p1 p2 p3 q0 q1 q2 q3 s0 s1 s2 s3 t0 t1 t2 t3
  simp only [List.append_eq, List.cons_append, List.nil_append]
  refine wp_region_held_drew (S := (fun w' => Rel W w')) (by kernel_rfl) HW.out.self.drew (fun hHeld => ?_)
  refine held_take (i := 0) (v := ?_) (some 27) rfl rfl (by kernel_rfl) (by kernel_rfl) (by kernel_rfl) (fun _ _ _ h => h) (Or.inl ⟨by rfl, ?_⟩) hHeld ?_
  rotate_left 1
  · intro w' (h : Rel W w'); obtain ⟨⟨x0, x1, x2, x3⟩, _⟩ := (HBX.out.rel h).four; obtain ⟨⟨y0, y1, y2, y3⟩, _⟩ := (HBY.out.rel h).four; obtain ⟨⟨z0, z1, z2, z3⟩, _⟩ := (HBZ.out.rel h).four; obtain ⟨⟨u0, u1, u2, u3⟩, _⟩ := (HBW.out.rel h).four; obtain ⟨r0, r1, r2, r3⟩ := HBR.out w' h; go_simp; try with_reducible rfl
  try simp only [Act.put, List.setIfInBounds_toArray, List.set_cons_zero, List.set_cons_succ]
  refine held_take (i := 1) (v := ?_) (some 28) rfl rfl (by kernel_rfl) (by kernel_rfl) (by kernel_rfl) (fun _ _ _ h => h) (Or.inl ⟨by rfl, ?_⟩) hHeld ?_
  rotate_left 1
  · intro w' (h : Rel W w'); obtain ⟨⟨x0, x1, x2, x3⟩, _⟩ := (HBX.out.rel h).four; obtain ⟨⟨y0, y1, y2, y3⟩, _⟩ := (HBY.out.rel h).four; obtain ⟨⟨z0, z1, z2, z3⟩, _⟩ := (HBZ.out.rel h).four; obtain ⟨⟨u0, u1, u2, u3⟩, _⟩ := (HBW.out.rel h).four; obtain ⟨r0, r1, r2, r3⟩ := HBR.out w' h; go_simp; try with_reducible rfl
  try simp only [Act.put, List.setIfInBounds_toArray, List.set_cons_zero, List.set_cons_succ]
  refine held_take (i := 2) (v := ?_) (some 29) rfl rfl (by kernel_rfl) (by kernel_rfl) (by kernel_rfl) (fun _ _ _ h => h) (Or.inl ⟨by rfl, ?_⟩) hHeld ?_
  rotate_left 1
  · intro w' (h : Rel W w'); obtain ⟨⟨x0, x1, x2, x3⟩, _⟩ := (HBX.out.rel h).four; obtain ⟨⟨y0, y1, y2, y3⟩, _⟩ := (HBY.out.rel h).four; obtain ⟨⟨z0, z1, z2, z3⟩, _⟩ := (HBZ.out.rel h).four; obtain ⟨⟨u0, u1, u2, u3⟩, _⟩ := (HBW.out.rel h).four; obtain ⟨r0, r1, r2, r3⟩ := HBR.out w' h; go_simp; try with_reducible rfl
  try simp only [Act.put, List.setIfInBounds_toArray, List.set_cons_zero, List.set_cons_succ]
  refine held_take (i := 4) (v := ?_) (some 31) rfl rfl (by kernel_rfl) (by kernel_rfl) (by kernel_rfl) (fun _ _ _ h => h) (Or.inl ⟨by rfl, ?_⟩) hHeld ?_
  rotate_left 1
  · intro w' (h : Rel W w'); obtain ⟨⟨x0, x1, x2, x3⟩, _⟩ := (HBX.out.rel h).four; obtain ⟨⟨y0, y1, y2, y3⟩, _⟩ := (HBY.out.rel h).four; obtain ⟨⟨z0, z1, z2, z3⟩, _⟩ := (HBZ.out.rel h).four; obtain ⟨⟨u0, u1, u2, u3⟩, _⟩ := (HBW.out.rel h).four; obtain ⟨r0, r1, r2, r3⟩ := HBR.out w' h; go_simp; try with_reducible rfl
  try simp only [Act.put, List.setIfInBounds_toArray, List.set_cons_zero, List.set_cons_succ]
  refine held_take (i := 6) (v := ?_) (some 33) rfl rfl (by kernel_rfl) (by kernel_rfl) (by kernel_rfl) (fun _ _ _ h => h) (Or.inl ⟨by rfl, ?_⟩) hHeld ?_
  rotate_left 1
  · intro w' (h : Rel W w'); obtain ⟨⟨x0, x1, x2, x3⟩, _⟩ := (HBX.out.rel h).four; obtain ⟨⟨y0, y1, y2, y3⟩, _⟩ := (HBY.out.rel h).four; obtain ⟨⟨z0, z1, z2, z3⟩, _⟩ := (HBZ.out.rel h).four; obtain ⟨⟨u0, u1, u2, u3⟩, _⟩ := (HBW.out.rel h).four; obtain ⟨r0, r1, r2, r3⟩ := HBR.out w' h; go_simp; try with_reducible rfl
  try simp only [Act.put, List.setIfInBounds_toArray, List.set_cons_zero, List.set_cons_succ]
  refine held_one (j := 3) (by kernel_rfl) rfl (fun K hK => ?_)
  try simp only [List.getElem_toArray, List.getElem_cons_succ, List.getElem_cons_zero]
  rw [if_pos (by rfl)]
  go_simp
  go_at_call 18
  (with_reducible refine (HDZ.out _ hHeld).mono ?_)
  rintro e w2 ⟨rfl, h2⟩
  refine hK.out _ _ (hHeld.trans h2) (fun hHeld => ?_)
  clear hK K
  try simp only [Act.put, List.setIfInBounds_toArray, List.set_cons_zero, List.set_cons_succ]
  refine held_one (j := 5) (by kernel_rfl) rfl (fun K hK => ?_)
  try simp only [List.getElem_toArray, List.getElem_cons_succ, List.getElem_cons_zero]
  rw [if_pos (by rfl)]
  go_simp
  go_at_call 18
  (with_reducible refine (HDX.out _ hHeld).mono ?_)
  rintro e w2 ⟨rfl, h2⟩
  refine hK.out _ _ (hHeld.trans h2) (fun hHeld => ?_)
  clear hK K
  try simp only [Act.put, List.setIfInBounds_toArray, List.set_cons_zero, List.set_cons_succ]
  refine held_one (j := 7) (by kernel_rfl) rfl (fun K hK => ?_)
  try simp only [List.getElem_toArray, List.getElem_cons_succ, List.getElem_cons_zero]
  rw [if_pos (by rfl)]
  go_simp
  go_at_call 18
  (with_reducible refine (HDY.out _ hHeld).mono ?_)
  rintro e w2 ⟨rfl, h2⟩
  refine hK.out _ _ (hHeld.trans h2) (fun hHeld => ?_)
  clear hK K
  try simp only [Act.put, List.setIfInBounds_toArray, List.set_cons_zero, List.set_cons_succ]
  refine held_take (i := 8) (v := ?_) (some 35) rfl rfl (by kernel_rfl) (by kernel_rfl) (by kernel_rfl) (fun _ _ _ h => h) (Or.inl ⟨by rfl, ?_⟩) hHeld ?_
  rotate_left 1
  · intro w' (h : Rel W w'); obtain ⟨⟨x0, x1, x2, x3⟩, _⟩ := (HBX.out.rel h).four; obtain ⟨⟨y0, y1, y2, y3⟩, _⟩ := (HBY.out.rel h).four; obtain ⟨⟨z0, z1, z2, z3⟩, _⟩ := (HBZ.out.rel h).four; obtain ⟨⟨u0, u1, u2, u3⟩, _⟩ := (HBW.out.rel h).four; obtain ⟨r0, r1, r2, r3⟩ := HBR.out w' h; go_simp; try with_reducible rfl
  try simp only [Act.put, List.setIfInBounds_toArray, List.set_cons_zero, List.set_cons_succ]
  refine held_take (i := 9) (v := ?_) (some 36) rfl rfl (by kernel_rfl) (by kernel_rfl) (by kernel_rfl) (fun _ _ _ h => h) (Or.inl ⟨by rfl, ?_⟩) hHeld ?_
  rotate_left 1
  · intro w' (h : Rel W w'); obtain ⟨⟨x0, x1, x2, x3⟩, _⟩ := (HBX.out.rel h).four; obtain ⟨⟨y0, y1, y2, y3⟩, _⟩ := (HBY.out.rel h).four; obtain ⟨⟨z0, z1, z2, z3⟩, _⟩ := (HBZ.out.rel h).four; obtain ⟨⟨u0, u1, u2, u3⟩, _⟩ := (HBW.out.rel h).four; obtain ⟨r0, r1, r2, r3⟩ := HBR.out w' h; go_simp; try with_reducible rfl
  try simp only [Act.put, List.setIfInBounds_toArray, List.set_cons_zero, List.set_cons_succ]
  refine held_take (i := 10) (v := ?_) (some 37) rfl rfl (by kernel_rfl) (by kernel_rfl) (by kernel_rfl) (fun _ _ _ h => h) (Or.inl ⟨by rfl, ?_⟩) hHeld ?_
  rotate_left 1
  · intro w' (h : Rel W w'); obtain ⟨⟨x0, x1, x2, x3⟩, _⟩ := (HBX.out.rel h).four; obtain ⟨⟨y0, y1, y2, y3⟩, _⟩ := (HBY.out.rel h).four; obtain ⟨⟨z0, z1, z2, z3⟩, _⟩ := (HBZ.out.rel h).four; obtain ⟨⟨u0, u1, u2, u3⟩, _⟩ := (HBW.out.rel h).four; obtain ⟨r0, r1, r2, r3⟩ := HBR.out w' h; go_simp; try with_reducible rfl
  try simp only [Act.put, List.setIfInBounds_toArray, List.set_cons_zero, List.set_cons_succ]
  refine held_take (i := 11) (v := ?_) (some 38) rfl rfl (by kernel_rfl) (by kernel_rfl) (by kernel_rfl) (fun _ _ _ h => h) (Or.inl ⟨by rfl, ?_⟩) hHeld ?_
  rotate_left 1
  · intro w' (h : Rel W w'); obtain ⟨⟨x0, x1, x2, x3⟩, _⟩ := (HBX.out.rel h).four; obtain ⟨⟨y0, y1, y2, y3⟩, _⟩ := (HBY.out.rel h).four; obtain ⟨⟨z0, z1, z2, z3⟩, _⟩ := (HBZ.out.rel h).four; obtain ⟨⟨u0, u1, u2, u3⟩, _⟩ := (HBW.out.rel h).four; obtain ⟨r0, r1, r2, r3⟩ := HBR.out w' h; go_simp; try with_reducible rfl
  try simp only [Act.put, List.setIfInBounds_toArray, List.set_cons_zero, List.set_cons_succ]
  refine held_take (i := 12) (v := ?_) (some 39) rfl rfl (by kernel_rfl) (by kernel_rfl) (by kernel_rfl) (fun _ _ _ h => h) (Or.inl ⟨by rfl, ?_⟩) hHeld ?_
  rotate_left 1
  · intro w' (h : Rel W w'); obtain ⟨⟨x0, x1, x2, x3⟩, _⟩ := (HBX.out.rel h).four; obtain ⟨⟨y0, y1, y2, y3⟩, _⟩ := (HBY.out.rel h).four; obtain ⟨⟨z0, z1, z2, z3⟩, _⟩ := (HBZ.out.rel h).four; obtain ⟨⟨u0, u1, u2, u3⟩, _⟩ := (HBW.out.rel h).four; obtain ⟨r0, r1, r2, r3⟩ := HBR.out w' h; go_simp; try with_reducible rfl
  try simp only [Act.put, List.setIfInBounds_toArray, List.set_cons_zero, List.set_cons_succ]
  refine held_take (i := 13) (v := ?_) (some 40) rfl rfl (by kernel_rfl) (by kernel_rfl) (by kernel_rfl) (fun _ _ _ h => h) (Or.inl ⟨by rfl, ?_⟩) hHeld ?_
  rotate_left 1
  · intro w' (h : Rel W w'); obtain ⟨⟨x0, x1, x2, x3⟩, _⟩ := (HBX.out.rel h).four; obtain ⟨⟨y0, y1, y2, y3⟩, _⟩ := (HBY.out.rel h).four; obtain ⟨⟨z0, z1, z2, z3⟩, _⟩ := (HBZ.out.rel h).four; obtain ⟨⟨u0, u1, u2, u3⟩, _⟩ := (HBW.out.rel h).four; obtain ⟨r0, r1, r2, r3⟩ := HBR.out w' h; go_simp; try with_reducible rfl
  try simp only [Act.put, List.setIfInBounds_toArray, List.set_cons_zero, List.set_cons_succ]
  refine held_take (i := 15) (v := ?_) (some 42) rfl rfl (by kernel_rfl) (by kernel_rfl) (by kernel_rfl) (fun _ _ _ h => h) (Or.inl ⟨by rfl, ?_⟩) hHeld ?_
  rotate_left 1
  · intro w' (h : Rel W w'); obtain ⟨⟨x0, x1, x2, x3⟩, _⟩ := (HBX.out.rel h).four; obtain ⟨⟨y0, y1, y2, y3⟩, _⟩ := (HBY.out.rel h).four; obtain ⟨⟨z0, z1, z2, z3⟩, _⟩ := (HBZ.out.rel h).four; obtain ⟨⟨u0, u1, u2, u3⟩, _⟩ := (HBW.out.rel h).four; obtain ⟨r0, r1, r2, r3⟩ := HBR.out w' h; go_simp; try with_reducible rfl
  try simp only [Act.put, List.setIfInBounds_toArray, List.set_cons_zero, List.set_cons_succ]
  refine held_take (i := 18) (v := ?_) (some 45) rfl rfl (by kernel_rfl) (by kernel_rfl) (by kernel_rfl) (fun _ _ _ h => h) (Or.inl ⟨by rfl, ?_⟩) hHeld ?_
  rotate_left 1
  · intro w' (h : Rel W w'); obtain ⟨⟨x0, x1, x2, x3⟩, _⟩ := (HBX.out.rel h).four; obtain ⟨⟨y0, y1, y2, y3⟩, _⟩ := (HBY.out.rel h).four; obtain ⟨⟨z0, z1, z2, z3⟩, _⟩ := (HBZ.out.rel h).four; obtain ⟨⟨u0, u1, u2, u3⟩, _⟩ := (HBW.out.rel h).four; obtain ⟨r0, r1, r2, r3⟩ := HBR.out w' h; go_simp; try with_reducible rfl
  try simp only [Act.put, List.setIfInBounds_toArray, List.set_cons_zero, List.set_cons_succ]
  refine held_one (j := 14) (by kernel_rfl) rfl (fun K hK => ?_)
  try simp only [List.getElem_toArray, List.getElem_cons_succ, List.getElem_cons_zero]
  rw [if_pos (by rfl)]
  go_simp
  go_at_call 16
  (with_reducible refine (HSZ.out _ hHeld).mono ?_)
  rintro e w2 ⟨rfl, h2⟩
  refine hK.out _ _ (hHeld.trans h2) (fun hHeld => ?_)
  clear hK K
  try simp only [Act.put, List.setIfInBounds_toArray, List.set_cons_zero, List.set_cons_succ]
  refine held_one (j := 16) (by kernel_rfl) rfl (fun K hK => ?_)
  try simp only [List.getElem_toArray, List.getElem_cons_succ, List.getElem_cons_zero]
  rw [if_pos (by rfl)]
  go_simp
  go_at_call 16
  (with_reducible refine (HSX.out _ hHeld).mono ?_)
  rintro e w2 ⟨rfl, h2⟩
  refine hK.out _ _ (hHeld.trans h2) (fun hHeld => ?_)
  clear hK K
  try simp only [Act.put, List.setIfInBounds_toArray, List.set_cons_zero, List.set_cons_succ]
  refine held_take (i := 17) (v := ?_) (some 44) rfl rfl (by kernel_rfl) (by kernel_rfl) (by kernel_rfl) (fun _ _ _ h => h) (Or.inl ⟨by rfl, ?_⟩) hHeld ?_
  rotate_left 1
  · intro w' (h : Rel W w'); obtain ⟨⟨x0, x1, x2, x3⟩, _⟩ := (HBX.out.rel h).four; obtain ⟨⟨y0, y1, y2, y3⟩, _⟩ := (HBY.out.rel h).four; obtain ⟨⟨z0, z1, z2, z3⟩, _⟩ := (HBZ.out.rel h).four; obtain ⟨⟨u0, u1, u2, u3⟩, _⟩ := (HBW.out.rel h).four; obtain ⟨r0, r1, r2, r3⟩ := HBR.out w' h; go_simp; try with_reducible rfl
  try simp only [Act.put, List.setIfInBounds_toArray, List.set_cons_zero, List.set_cons_succ]
  refine held_one (j := 19) (by kernel_rfl) rfl (fun K hK => ?_)
  try simp only [List.getElem_toArray, List.getElem_cons_succ, List.getElem_cons_zero]
  rw [if_pos (by rfl)]
  go_simp
  go_at_call 16
  (with_reducible refine (HSY.out _ hHeld).mono ?_)
  rintro e w2 ⟨rfl, h2⟩
  refine hK.out _ _ (hHeld.trans h2) (fun hHeld => ?_)
  clear hK K
  try simp only [Act.put, List.setIfInBounds_toArray, List.set_cons_zero, List.set_cons_succ]
  refine held_take (i := 20) (v := ?_) (some 47) rfl rfl (by kernel_rfl) (by kernel_rfl) (by kernel_rfl) (fun _ _ _ h => h) (Or.inl ⟨by rfl, ?_⟩) hHeld ?_
  rotate_left 1
  · intro w' (h : Rel W w'); obtain ⟨⟨x0, x1, x2, x3⟩, _⟩ := (HBX.out.rel h).four; obtain ⟨⟨y0, y1, y2, y3⟩, _⟩ := (HBY.out.rel h).four; obtain ⟨⟨z0, z1, z2, z3⟩, _⟩ := (HBZ.out.rel h).four; obtain ⟨⟨u0, u1, u2, u3⟩, _⟩ := (HBW.out.rel h).four; obtain ⟨r0, r1, r2, r3⟩ := HBR.out w' h; go_simp; try with_reducible rfl
  try simp only [Act.put, List.setIfInBounds_toArray, List.set_cons_zero, List.set_cons_succ]
  refine held_take (i := 21) (v := ?_) (some 48) rfl rfl (by kernel_rfl) (by kernel_rfl) (by kernel_rfl) (fun _ _ _ h => h) (Or.inl ⟨by rfl, ?_⟩) hHeld ?_
  rotate_left 1
  · intro w' (h : Rel W w'); obtain ⟨⟨x0, x1, x2, x3⟩, _⟩ := (HBX.out.rel h).four; obtain ⟨⟨y0, y1, y2, y3⟩, _⟩ := (HBY.out.rel h).four; obtain ⟨⟨z0, z1, z2, z3⟩, _⟩ := (HBZ.out.rel h).four; obtain ⟨⟨u0, u1, u2, u3⟩, _⟩ := (HBW.out.rel h).four; obtain ⟨r0, r1, r2, r3⟩ := HBR.out w' h; go_simp; try with_reducible rfl
  try simp only [Act.put, List.setIfInBounds_toArray, List.set_cons_zero, List.set_cons_succ]
  refine held_take (i := 22) (v := ?_) (some 49) rfl rfl (by kernel_rfl) (by kernel_rfl) (by kernel_rfl) (fun _ _ _ h => h) (Or.inl ⟨by rfl, ?_⟩) hHeld ?_
  rotate_left 1
  · intro w' (h : Rel W w'); obtain ⟨⟨x0, x1, x2, x3⟩, _⟩ := (HBX.out.rel h).four; obtain ⟨⟨y0, y1, y2, y3⟩, _⟩ := (HBY.out.rel h).four; obtain ⟨⟨z0, z1, z2, z3⟩, _⟩ := (HBZ.out.rel h).four; obtain ⟨⟨u0, u1, u2, u3⟩, _⟩ := (HBW.out.rel h).four; obtain ⟨r0, r1, r2, r3⟩ := HBR.out w' h; go_simp; try with_reducible rfl
  try simp only [Act.put, List.setIfInBounds_toArray, List.set_cons_zero, List.set_cons_succ]
  refine held_take (i := 23) (v := ?_) (some 50) rfl rfl (by kernel_rfl) (by kernel_rfl) (by kernel_rfl) (fun _ _ _ h => h) (Or.inl ⟨by rfl, ?_⟩) hHeld ?_
  rotate_left 1
  · intro w' (h : Rel W w'); obtain ⟨⟨x0, x1, x2, x3⟩, _⟩ := (HBX.out.rel h).four; obtain ⟨⟨y0, y1, y2, y3⟩, _⟩ := (HBY.out.rel h).four; obtain ⟨⟨z0, z1, z2, z3⟩, _⟩ := (HBZ.out.rel h).four; obtain ⟨⟨u0, u1, u2, u3⟩, _⟩ := (HBW.out.rel h).four; obtain ⟨r0, r1, r2, r3⟩ := HBR.out w' h; go_simp; try with_reducible rfl
  try simp only [Act.put, List.setIfInBounds_toArray, List.set_cons_zero, List.set_cons_succ]
  refine held_take (i := 24) (v := ?_) (some 51) rfl rfl (by kernel_rfl) (by kernel_rfl) (by kernel_rfl) (fun _ _ _ h => h) (Or.inl ⟨by rfl, ?_⟩) hHeld ?_
  rotate_left 1
  · intro w' (h : Rel W w'); obtain ⟨⟨x0, x1, x2, x3⟩, _⟩ := (HBX.out.rel h).four; obtain ⟨⟨y0, y1, y2, y3⟩, _⟩ := (HBY.out.rel h).four; obtain ⟨⟨z0, z1, z2, z3⟩, _⟩ := (HBZ.out.rel h).four; obtain ⟨⟨u0, u1, u2, u3⟩, _⟩ := (HBW.out.rel h).four; obtain ⟨r0, r1, r2, r3⟩ := HBR.out w' h; go_simp; try with_reducible rfl
  try simp only [Act.put, List.setIfInBounds_toArray, List.set_cons_zero, List.set_cons_succ]
  refine held_take (i := 26) (v := ?_) (some 53) rfl rfl (by kernel_rfl) (by kernel_rfl) (by kernel_rfl) (fun _ _ _ h => h) (Or.inl ⟨by rfl, ?_⟩) hHeld ?_
  rotate_left 1
  · intro w' (h : Rel W w'); obtain ⟨⟨x0, x1, x2, x3⟩, _⟩ := (HBX.out.rel h).four; obtain ⟨⟨y0, y1, y2, y3⟩, _⟩ := (HBY.out.rel h).four; obtain ⟨⟨z0, z1, z2, z3⟩, _⟩ := (HBZ.out.rel h).four; obtain ⟨⟨u0, u1, u2, u3⟩, _⟩ := (HBW.out.rel h).four; obtain ⟨r0, r1, r2, r3⟩ := HBR.out w' h; go_simp; try with_reducible rfl
  try simp only [Act.put, List.setIfInBounds_toArray, List.set_cons_zero, List.set_cons_succ]
  refine held_take (i := 28) (v := ?_) (some 55) rfl rfl (by kernel_rfl) (by kernel_rfl) (by kernel_rfl) (fun _ _ _ h => h) (Or.inl ⟨by rfl, ?_⟩) hHeld ?_
  rotate_left 1
  · intro w' (h : Rel W w'); obtain ⟨⟨x0, x1, x2, x3⟩, _⟩ := (HBX.out.rel h).four; obtain ⟨⟨y0, y1, y2, y3⟩, _⟩ := (HBY.out.rel h).four; obtain ⟨⟨z0, z1, z2, z3⟩, _⟩ := (HBZ.out.rel h).four; obtain ⟨⟨u0, u1, u2, u3⟩, _⟩ := (HBW.out.rel h).four; obtain ⟨r0, r1, r2, r3⟩ := HBR.out w' h; go_simp; try with_reducible rfl
  try simp only [Act.put, List.setIfInBounds_toArray, List.set_cons_zero, List.set_cons_succ]
  refine held_one (j := 25) (by kernel_rfl) rfl (fun K hK => ?_)
  try simp only [List.getElem_toArray, List.getElem_cons_succ, List.getElem_cons_zero]
  rw [if_pos (by rfl)]
  go_simp
  go_at_call 18
  (with_reducible refine (HDW.out _ hHeld).mono ?_)
  rintro e w2 ⟨rfl, h2⟩
  refine hK.out _ _ (hHeld.trans h2) (fun hHeld => ?_)
  clear hK K
  try simp only [Act.put, List.setIfInBounds_toArray, List.set_cons_zero, List.set_cons_succ]
  refine held_one (j := 27) (by kernel_rfl) rfl (fun K hK => ?_)
  try simp only [List.getElem_toArray, List.getElem_cons_succ, List.getElem_cons_zero]
  rw [if_pos (by rfl)]
  go_simp
  go_at_call 18
  (with_reducible refine (HDX.out _ hHeld).mono ?_)
  rintro e w2 ⟨rfl, h2⟩
  refine hK.out _ _ (hHeld.trans h2) (fun hHeld => ?_)
  clear hK K
  try simp only [Act.put, List.setIfInBounds_toArray, List.set_cons_zero, List.set_cons_succ]
  refine held_one (j := 29) (by kernel_rfl) rfl (fun K hK => ?_)
  try simp only [List.getElem_toArray, List.getElem_cons_succ, List.getElem_cons_zero]
  rw [if_pos (by rfl)]
  go_simp
  go_at_call 18
  (with_reducible refine (HDY.out _ hHeld).mono ?_)
  rintro e w2 ⟨rfl, h2⟩
  refine hK.out _ _ (hHeld.trans h2) (fun hHeld => ?_)
  clear hK K
  try simp only [Act.put, List.setIfInBounds_toArray, List.set_cons_zero, List.set_cons_succ]
  refine held_take (i := 30) (v := ?_) (some 57) rfl rfl (by kernel_rfl) (by kernel_rfl) (by kernel_rfl) (fun _ _ _ h => h) (Or.inl ⟨by rfl, ?_⟩) hHeld ?_
  rotate_left 1
  · intro w' (h : Rel W w'); obtain ⟨⟨x0, x1, x2, x3⟩, _⟩ := (HBX.out.rel h).four; obtain ⟨⟨y0, y1, y2, y3⟩, _⟩ := (HBY.out.rel h).four; obtain ⟨⟨z0, z1, z2, z3⟩, _⟩ := (HBZ.out.rel h).four; obtain ⟨⟨u0, u1, u2, u3⟩, _⟩ := (HBW.out.rel h).four; obtain ⟨r0, r1, r2, r3⟩ := HBR.out w' h; go_simp; try with_reducible rfl
  try simp only [Act.put, List.setIfInBounds_toArray, List.set_cons_zero, List.set_cons_succ]
  refine held_take (i := 31) (v := ?_) (some 58) rfl rfl (by kernel_rfl) (by kernel_rfl) (by kernel_rfl) (fun _ _ _ h => h) (Or.inl ⟨by rfl, ?_⟩) hHeld ?_
  rotate_left 1
  · intro w' (h : Rel W w'); obtain ⟨⟨x0, x1, x2, x3⟩, _⟩ := (HBX.out.rel h).four; obtain ⟨⟨y0, y1, y2, y3⟩, _⟩ := (HBY.out.rel h).four; obtain ⟨⟨z0, z1, z2, z3⟩, _⟩ := (HBZ.out.rel h).four; obtain ⟨⟨u0, u1, u2, u3⟩, _⟩ := (HBW.out.rel h).four; obtain ⟨r0, r1, r2, r3⟩ := HBR.out w' h; go_simp; try with_reducible rfl
  try simp only [Act.put, List.setIfInBounds_toArray, List.set_cons_zero, List.set_cons_succ]
  refine held_take (i := 32) (v := ?_) (some 59) rfl rfl (by kernel_rfl) (by kernel_rfl) (by kernel_rfl) (fun _ _ _ h => h) (Or.inl ⟨by rfl, ?_⟩) hHeld ?_
  rotate_left 1
  · intro w' (h : Rel W w'); obtain ⟨⟨x0, x1, x2, x3⟩, _⟩ := (HBX.out.rel h).four; obtain ⟨⟨y0, y1, y2, y3⟩, _⟩ := (HBY.out.rel h).four; obtain ⟨⟨z0, z1, z2, z3⟩, _⟩ := (HBZ.out.rel h).four; obtain ⟨⟨u0, u1, u2, u3⟩, _⟩ := (HBW.out.rel h).four; obtain ⟨r0, r1, r2, r3⟩ := HBR.out w' h; go_simp; try with_reducible rfl
  try simp only [Act.put, List.setIfInBounds_toArray, List.set_cons_zero, List.set_cons_succ]
  refine held_take (i := 33) (v := ?_) (some 60) rfl rfl (by kernel_rfl) (by kernel_rfl) (by kernel_rfl) (fun _ _ _ h => h) (Or.inl ⟨by rfl, ?_⟩) hHeld ?_
  rotate_left 1
  · intro w' (h : Rel W w'); obtain ⟨⟨x0, x1, x2, x3⟩, _⟩ := (HBX.out.rel h).four; obtain ⟨⟨y0, y1, y2, y3⟩, _⟩ := (HBY.out.rel h).four; obtain ⟨⟨z0, z1, z2, z3⟩, _⟩ := (HBZ.out.rel h).four; obtain ⟨⟨u0, u1, u2, u3⟩, _⟩ := (HBW.out.rel h).four; obtain ⟨r0, r1, r2, r3⟩ := HBR.out w' h; go_simp; try with_reducible rfl
  try simp only [Act.put, List.setIfInBounds_toArray, List.set_cons_zero, List.set_cons_succ]
  refine held_take (i := 34) (v := ?_) (some 61) rfl rfl (by kernel_rfl) (by kernel_rfl) (by kernel_rfl) (fun _ _ _ h => h) (Or.inl ⟨by rfl, ?_⟩) hHeld ?_
  rotate_left 1
  · intro w' (h : Rel W w'); obtain ⟨⟨x0, x1, x2, x3⟩, _⟩ := (HBX.out.rel h).four; obtain ⟨⟨y0, y1, y2, y3⟩, _⟩ := (HBY.out.rel h).four; obtain ⟨⟨z0, z1, z2, z3⟩, _⟩ := (HBZ.out.rel h).four; obtain ⟨⟨u0, u1, u2, u3⟩, _⟩ := (HBW.out.rel h).four; obtain ⟨r0, r1, r2, r3⟩ := HBR.out w' h; go_simp; try with_reducible rfl
  try simp only [Act.put, List.setIfInBounds_toArray, List.set_cons_zero, List.set_cons_succ]
  refine held_take (i := 35) (v := ?_) (some 62) rfl rfl (by kernel_rfl) (by kernel_rfl) (by kernel_rfl) (fun _ _ _ h => h) (Or.inl ⟨by rfl, ?_⟩) hHeld ?_
  rotate_left 1
  · intro w' (h : Rel W w'); obtain ⟨⟨x0, x1, x2, x3⟩, _⟩ := (HBX.out.rel h).four; obtain ⟨⟨y0, y1, y2, y3⟩, _⟩ := (HBY.out.rel h).four; obtain ⟨⟨z0, z1, z2, z3⟩, _⟩ := (HBZ.out.rel h).four; obtain ⟨⟨u0, u1, u2, u3⟩, _⟩ := (HBW.out.rel h).four; obtain ⟨r0, r1, r2, r3⟩ := HBR.out w' h; go_simp; try with_reducible rfl
  try simp only [Act.put, List.setIfInBounds_toArray, List.set_cons_zero, List.set_cons_succ]
  refine held_take (i := 37) (v := ?_) (some 64) rfl rfl (by kernel_rfl) (by kernel_rfl) (by kernel_rfl) (fun _ _ _ h => h) (Or.inl ⟨by rfl, ?_⟩) hHeld ?_
  rotate_left 1
  · intro w' (h : Rel W w'); obtain ⟨⟨x0, x1, x2, x3⟩, _⟩ := (HBX.out.rel h).four; obtain ⟨⟨y0, y1, y2, y3⟩, _⟩ := (HBY.out.rel h).four; obtain ⟨⟨z0, z1, z2, z3⟩, _⟩ := (HBZ.out.rel h).four; obtain ⟨⟨u0, u1, u2, u3⟩, _⟩ := (HBW.out.rel h).four; obtain ⟨r0, r1, r2, r3⟩ := HBR.out w' h; go_simp; try with_reducible rfl
  try simp only [Act.put, List.setIfInBounds_toArray, List.set_cons_zero, List.set_cons_succ]
  refine held_take (i := 41) (v := ?_) (some 68) rfl rfl (by kernel_rfl) (by kernel_rfl) (by kernel_rfl) (fun _ _ _ h => h) (Or.inl ⟨by rfl, ?_⟩) hHeld ?_
  rotate_left 1
  · intro w' (h : Rel W w'); obtain ⟨⟨x0, x1, x2, x3⟩, _⟩ := (HBX.out.rel h).four; obtain ⟨⟨y0, y1, y2, y3⟩, _⟩ := (HBY.out.rel h).four; obtain ⟨⟨z0, z1, z2, z3⟩, _⟩ := (HBZ.out.rel h).four; obtain ⟨⟨u0, u1, u2, u3⟩, _⟩ := (HBW.out.rel h).four; obtain ⟨r0, r1, r2, r3⟩ := HBR.out w' h; go_simp; try with_reducible rfl
  try simp only [Act.put, List.setIfInBounds_toArray, List.set_cons_zero, List.set_cons_succ]
  refine held_one (j := 36) (by kernel_rfl) rfl (fun K hK => ?_)
  try simp only [List.getElem_toArray, List.getElem_cons_succ, List.getElem_cons_zero]
  rw [if_pos (by rfl)]
  go_simp
  go_at_call 16
  (with_reducible refine (HSW.out _ hHeld).mono ?_)
  rintro e w2 ⟨rfl, h2⟩
  refine hK.out _ _ (hHeld.trans h2) (fun hHeld => ?_)
  clear hK K
  try simp only [Act.put, List.setIfInBounds_toArray, List.set_cons_zero, List.set_cons_succ]
  refine held_one (j := 38) (by kernel_rfl) rfl (fun K hK => ?_)
  try simp only [List.getElem_toArray, List.getElem_cons_succ, List.getElem_cons_zero]
  rw [if_pos (by rfl)]
  go_simp
  go_at_call 16
  (with_reducible refine (HSX.out _ hHeld).mono ?_)
  rintro e w2 ⟨rfl, h2⟩
  refine hK.out _ _ (hHeld.trans h2) (fun hHeld => ?_)
  clear hK K
  try simp only [Act.put, List.setIfInBounds_toArray, List.set_cons_zero, List.set_cons_succ]
  refine held_take (i := 39) (v := ?_) (some 66) rfl rfl (by kernel_rfl) (by kernel_rfl) (by kernel_rfl) (fun _ _ _ h => h) (Or.inl ⟨by rfl, ?_⟩) hHeld ?_
  rotate_left 1
  · intro w' (h : Rel W w'); obtain ⟨⟨x0, x1, x2, x3⟩, _⟩ := (HBX.out.rel h).four; obtain ⟨⟨y0, y1, y2, y3⟩, _⟩ := (HBY.out.rel h).four; obtain ⟨⟨z0, z1, z2, z3⟩, _⟩ := (HBZ.out.rel h).four; obtain ⟨⟨u0, u1, u2, u3⟩, _⟩ := (HBW.out.rel h).four; obtain ⟨r0, r1, r2, r3⟩ := HBR.out w' h; go_simp; try with_reducible rfl
  try simp only [Act.put, List.setIfInBounds_toArray, List.set_cons_zero, List.set_cons_succ]
  refine held_take (i := 40) (v := ?_) (some 67) rfl rfl (by kernel_rfl) (by kernel_rfl) (by kernel_rfl) (fun _ _ _ h => h) (Or.inl ⟨by rfl, ?_⟩) hHeld ?_
  rotate_left 1
  · intro w' (h : Rel W w'); obtain ⟨⟨x0, x1, x2, x3⟩, _⟩ := (HBX.out.rel h).four; obtain ⟨⟨y0, y1, y2, y3⟩, _⟩ := (HBY.out.rel h).four; obtain ⟨⟨z0, z1, z2, z3⟩, _⟩ := (HBZ.out.rel h).four; obtain ⟨⟨u0, u1, u2, u3⟩, _⟩ := (HBW.out.rel h).four; obtain ⟨r0, r1, r2, r3⟩ := HBR.out w' h; go_simp; try with_reducible rfl
  try simp only [Act.put, List.setIfInBounds_toArray, List.set_cons_zero, List.set_cons_succ]
  refine held_one (j := 42) (by kernel_rfl) rfl (fun K hK => ?_)
  try simp only [List.getElem_toArray, List.getElem_cons_succ, List.getElem_cons_zero]
  rw [if_pos (by rfl)]
  go_simp
  go_at_call 16
  (with_reducible refine (HSY.out _ hHeld).mono ?_)
  rintro e w2 ⟨rfl, h2⟩
  refine hK.out _ _ (hHeld.trans h2) (fun hHeld => ?_)
  clear hK K
  try simp only [Act.put, List.setIfInBounds_toArray, List.set_cons_zero, List.set_cons_succ]
  refine held_take (i := 43) (v := ?_) (some 70) rfl rfl (by kernel_rfl) (by kernel_rfl) (by kernel_rfl) (fun _ _ _ h => h) (Or.inl ⟨by rfl, ?_⟩) hHeld ?_
  rotate_left 1
  · intro w' (h : Rel W w'); obtain ⟨⟨x0, x1, x2, x3⟩, _⟩ := (HBX.out.rel h).four; obtain ⟨⟨y0, y1, y2, y3⟩, _⟩ := (HBY.out.rel h).four; obtain ⟨⟨z0, z1, z2, z3⟩, _⟩ := (HBZ.out.rel h).four; obtain ⟨⟨u0, u1, u2, u3⟩, _⟩ := (HBW.out.rel h).four; obtain ⟨r0, r1, r2, r3⟩ := HBR.out w' h; go_simp; try with_reducible rfl
  try simp only [Act.put, List.setIfInBounds_toArray, List.set_cons_zero, List.set_cons_succ]
  refine held_take (i := 44) (v := ?_) (some 71) rfl rfl (by kernel_rfl) (by kernel_rfl) (by kernel_rfl) (fun _ _ _ h => h) (Or.inl ⟨by rfl, ?_⟩) hHeld ?_
  rotate_left 1
  · intro w' (h : Rel W w'); obtain ⟨⟨x0, x1, x2, x3⟩, _⟩ := (HBX.out.rel h).four; obtain ⟨⟨y0, y1, y2, y3⟩, _⟩ := (HBY.out.rel h).four; obtain ⟨⟨z0, z1, z2, z3⟩, _⟩ := (HBZ.out.rel h).four; obtain ⟨⟨u0, u1, u2, u3⟩, _⟩ := (HBW.out.rel h).four; obtain ⟨r0, r1, r2, r3⟩ := HBR.out w' h; go_simp; try with_reducible rfl
  try simp only [Act.put, List.setIfInBounds_toArray, List.set_cons_zero, List.set_cons_succ]
  refine held_take (i := 45) (v := ?_) (some 72) rfl rfl (by kernel_rfl) (by kernel_rfl) (by kernel_rfl) (fun _ _ _ h => h) (Or.inl ⟨by rfl, ?_⟩) hHeld ?_
  rotate_left 1
  · intro w' (h : Rel W w'); obtain ⟨⟨x0, x1, x2, x3⟩, _⟩ := (HBX.out.rel h).four; obtain ⟨⟨y0, y1, y2, y3⟩, _⟩ := (HBY.out.rel h).four; obtain ⟨⟨z0, z1, z2, z3⟩, _⟩ := (HBZ.out.rel h).four; obtain ⟨⟨u0, u1, u2, u3⟩, _⟩ := (HBW.out.rel h).four; obtain ⟨r0, r1, r2, r3⟩ := HBR.out w' h; go_simp; try with_reducible rfl
  try simp only [Act.put, List.setIfInBounds_toArray, List.set_cons_zero, List.set_cons_succ]
  refine held_take (i := 46) (v := ?_) (some 73) rfl rfl (by kernel_rfl) (by kernel_rfl) (by kernel_rfl) (fun _ _ _ h => h) (Or.inl ⟨by rfl, ?_⟩) hHeld ?_
  rotate_left 1
  · intro w' (h : Rel W w'); obtain ⟨⟨x0, x1, x2, x3⟩, _⟩ := (HBX.out.rel h).four; obtain ⟨⟨y0, y1, y2, y3⟩, _⟩ := (HBY.out.rel h).four; obtain ⟨⟨z0, z1, z2, z3⟩, _⟩ := (HBZ.out.rel h).four; obtain ⟨⟨u0, u1, u2, u3⟩, _⟩ := (HBW.out.rel h).four; obtain ⟨r0, r1, r2, r3⟩ := HBR.out w' h; go_simp; try with_reducible rfl
  try simp only [Act.put, List.setIfInBounds_toArray, List.set_cons_zero, List.set_cons_succ]
  refine held_take (i := 47) (v := ?_) (some 74) rfl rfl (by kernel_rfl) (by kernel_rfl) (by kernel_rfl) (fun _ _ _ h => h) (Or.inl ⟨by rfl, ?_⟩) hHeld ?_
  rotate_left 1
  · intro w' (h : Rel W w'); obtain ⟨⟨x0, x1, x2, x3⟩, _⟩ := (HBX.out.rel h).four; obtain ⟨⟨y0, y1, y2, y3⟩, _⟩ := (HBY.out.rel h).four; obtain ⟨⟨z0, z1, z2, z3⟩, _⟩ := (HBZ.out.rel h).four; obtain ⟨⟨u0, u1, u2, u3⟩, _⟩ := (HBW.out.rel h).four; obtain ⟨r0, r1, r2, r3⟩ := HBR.out w' h; go_simp; try with_reducible rfl
  try simp only [Act.put, List.setIfInBounds_toArray, List.set_cons_zero, List.set_cons_succ]
  refine held_take (i := 48) (v := ?_) (some 75) rfl rfl (by kernel_rfl) (by kernel_rfl) (by kernel_rfl) (fun _ _ _ h => h) (Or.inl ⟨by rfl, ?_⟩) hHeld ?_
  rotate_left 1
  · intro w' (h : Rel W w'); obtain ⟨⟨x0, x1, x2, x3⟩, _⟩ := (HBX.out.rel h).four; obtain ⟨⟨y0, y1, y2, y3⟩, _⟩ := (HBY.out.rel h).four; obtain ⟨⟨z0, z1, z2, z3⟩, _⟩ := (HBZ.out.rel h).four; obtain ⟨⟨u0, u1, u2, u3⟩, _⟩ := (HBW.out.rel h).four; obtain ⟨r0, r1, r2, r3⟩ := HBR.out w' h; go_simp; try with_reducible rfl
  try simp only [Act.put, List.setIfInBounds_toArray, List.set_cons_zero, List.set_cons_succ]
  refine held_take (i := 50) (v := ?_) (some 77) rfl rfl (by kernel_rfl) (by kernel_rfl) (by kernel_rfl) (fun _ _ _ h => h) (Or.inl ⟨by rfl, ?_⟩) hHeld ?_
  rotate_left 1
  · intro w' (h : Rel W w'); obtain ⟨⟨x0, x1, x2, x3⟩, _⟩ := (HBX.out.rel h).four; obtain ⟨⟨y0, y1, y2, y3⟩, _⟩ := (HBY.out.rel h).four; obtain ⟨⟨z0, z1, z2, z3⟩, _⟩ := (HBZ.out.rel h).four; obtain ⟨⟨u0, u1, u2, u3⟩, _⟩ := (HBW.out.rel h).four; obtain ⟨r0, r1, r2, r3⟩ := HBR.out w' h; go_simp; try with_reducible rfl
  try simp only [Act.put, List.setIfInBounds_toArray, List.set_cons_zero, List.set_cons_succ]
  refine held_one (j := 49) (by kernel_rfl) rfl (fun K hK => ?_)
  try simp only [List.getElem_toArray, List.getElem_cons_succ, List.getElem_cons_zero]
  rw [if_pos (by rfl)]
  go_simp
  go_at_call 16
  (with_reducible refine (HSX.out _ hHeld).mono ?_)
  rintro e w2 ⟨rfl, h2⟩
  refine hK.out _ _ (hHeld.trans h2) (fun hHeld => ?_)
  clear hK K
  try simp only [Act.put, List.setIfInBounds_toArray, List.set_cons_zero, List.set_cons_succ]
  refine held_one (j := 51) (by kernel_rfl) rfl (fun K hK => ?_)
  try simp only [List.getElem_toArray, List.getElem_cons_succ, List.getElem_cons_zero]
  rw [if_pos (by rfl)]
  go_simp
  go_at_call 18
  (with_reducible refine (HDX.out _ hHeld).mono ?_)
  rintro e w2 ⟨rfl, h2⟩
  refine hK.out _ _ (hHeld.trans h2) (fun hHeld => ?_)
  clear hK K
  try simp only [Act.put, List.setIfInBounds_toArray, List.set_cons_zero, List.set_cons_succ]
  refine held_take (i := 52) (v := ?_) (some 79) rfl rfl (by kernel_rfl) (by kernel_rfl) (by kernel_rfl) (fun _ _ _ h => h) (Or.inl ⟨by rfl, ?_⟩) hHeld ?_
  rotate_left 1
  · intro w' (h : Rel W w'); obtain ⟨⟨x0, x1, x2, x3⟩, _⟩ := (HBX.out.rel h).four; obtain ⟨⟨y0, y1, y2, y3⟩, _⟩ := (HBY.out.rel h).four; obtain ⟨⟨z0, z1, z2, z3⟩, _⟩ := (HBZ.out.rel h).four; obtain ⟨⟨u0, u1, u2, u3⟩, _⟩ := (HBW.out.rel h).four; obtain ⟨r0, r1, r2, r3⟩ := HBR.out w' h; go_simp; try with_reducible rfl
  try simp only [Act.put, List.setIfInBounds_toArray, List.set_cons_zero, List.set_cons_succ]
  refine held_take (i := 53) (v := ?_) (some 80) rfl rfl (by kernel_rfl) (by kernel_rfl) (by kernel_rfl) (fun _ _ _ h => h) (Or.inl ⟨by rfl, ?_⟩) hHeld ?_
  rotate_left 1
  · intro w' (h : Rel W w'); obtain ⟨⟨x0, x1, x2, x3⟩, _⟩ := (HBX.out.rel h).four; obtain ⟨⟨y0, y1, y2, y3⟩, _⟩ := (HBY.out.rel h).four; obtain ⟨⟨z0, z1, z2, z3⟩, _⟩ := (HBZ.out.rel h).four; obtain ⟨⟨u0, u1, u2, u3⟩, _⟩ := (HBW.out.rel h).four; obtain ⟨r0, r1, r2, r3⟩ := HBR.out w' h; go_simp; try with_reducible rfl
  try simp only [Act.put, List.setIfInBounds_toArray, List.set_cons_zero, List.set_cons_succ]
  refine held_take (i := 54) (v := ?_) (some 81) rfl rfl (by kernel_rfl) (by kernel_rfl) (by kernel_rfl) (fun _ _ _ h => h) (Or.inl ⟨by rfl, ?_⟩) hHeld ?_
  rotate_left 1
  · intro w' (h : Rel W w'); obtain ⟨⟨x0, x1, x2, x3⟩, _⟩ := (HBX.out.rel h).four; obtain ⟨⟨y0, y1, y2, y3⟩, _⟩ := (HBY.out.rel h).four; obtain ⟨⟨z0, z1, z2, z3⟩, _⟩ := (HBZ.out.rel h).four; obtain ⟨⟨u0, u1, u2, u3⟩, _⟩ := (HBW.out.rel h).four; obtain ⟨r0, r1, r2, r3⟩ := HBR.out w' h; go_simp; try with_reducible rfl
  try simp only [Act.put, List.setIfInBounds_toArray, List.set_cons_zero, List.set_cons_succ]
  refine held_take (i := 55) (v := ?_) (some 82) rfl rfl (by kernel_rfl) (by kernel_rfl) (by kernel_rfl) (fun _ _ _ h => h) (Or.inl ⟨by rfl, ?_⟩) hHeld ?_
  rotate_left 1
  · intro w' (h : Rel W w'); obtain ⟨⟨x0, x1, x2, x3⟩, _⟩ := (HBX.out.rel h).four; obtain ⟨⟨y0, y1, y2, y3⟩, _⟩ := (HBY.out.rel h).four; obtain ⟨⟨z0, z1, z2, z3⟩, _⟩ := (HBZ.out.rel h).four; obtain ⟨⟨u0, u1, u2, u3⟩, _⟩ := (HBW.out.rel h).four; obtain ⟨r0, r1, r2, r3⟩ := HBR.out w' h; go_simp; try with_reducible rfl
  try simp only [Act.put, List.setIfInBounds_toArray, List.set_cons_zero, List.set_cons_succ]
  refine held_one (j := 56) (by kernel_rfl) rfl (fun K hK => ?_)
  try simp only [List.getElem_toArray, List.getElem_cons_succ, List.getElem_cons_zero]
  rw [if_pos (by rfl)]
  go_simp
  go_at_call 18
  (with_reducible refine (HDX.out _ hHeld).mono ?_)
  rintro e w2 ⟨rfl, h2⟩
  refine hK.out _ _ (hHeld.trans h2) (fun hHeld => ?_)
  clear hK K
  try simp only [Act.put, List.setIfInBounds_toArray, List.set_cons_zero, List.set_cons_succ]
  refine held_take (i := 57) (v := ?_) (some 84) rfl rfl (by kernel_rfl) (by kernel_rfl) (by kernel_rfl) (fun _ _ _ h => h) (Or.inl ⟨by rfl, ?_⟩) hHeld ?_
  rotate_left 1
  · intro w' (h : Rel W w'); obtain ⟨⟨x0, x1, x2, x3⟩, _⟩ := (HBX.out.rel h).four; obtain ⟨⟨y0, y1, y2, y3⟩, _⟩ := (HBY.out.rel h).four; obtain ⟨⟨z0, z1, z2, z3⟩, _⟩ := (HBZ.out.rel h).four; obtain ⟨⟨u0, u1, u2, u3⟩, _⟩ := (HBW.out.rel h).four; obtain ⟨r0, r1, r2, r3⟩ := HBR.out w' h; go_simp; try with_reducible rfl
  try simp only [Act.put, List.setIfInBounds_toArray, List.set_cons_zero, List.set_cons_succ]
  refine held_take (i := 58) (v := ?_) (some 85) rfl rfl (by kernel_rfl) (by kernel_rfl) (by kernel_rfl) (fun _ _ _ h => h) (Or.inl ⟨by rfl, ?_⟩) hHeld ?_
  rotate_left 1
  · intro w' (h : Rel W w'); obtain ⟨⟨x0, x1, x2, x3⟩, _⟩ := (HBX.out.rel h).four; obtain ⟨⟨y0, y1, y2, y3⟩, _⟩ := (HBY.out.rel h).four; obtain ⟨⟨z0, z1, z2, z3⟩, _⟩ := (HBZ.out.rel h).four; obtain ⟨⟨u0, u1, u2, u3⟩, _⟩ := (HBW.out.rel h).four; obtain ⟨r0, r1, r2, r3⟩ := HBR.out w' h; go_simp; try with_reducible rfl
  try simp only [Act.put, List.setIfInBounds_toArray, List.set_cons_zero, List.set_cons_succ]
  refine held_take (i := 59) (v := ?_) (some 86) rfl rfl (by kernel_rfl) (by kernel_rfl) (by kernel_rfl) (fun _ _ _ h => h) (Or.inl ⟨by rfl, ?_⟩) hHeld ?_
  rotate_left 1
  · intro w' (h : Rel W w'); obtain ⟨⟨x0, x1, x2, x3⟩, _⟩ := (HBX.out.rel h).four; obtain ⟨⟨y0, y1, y2, y3⟩, _⟩ := (HBY.out.rel h).four; obtain ⟨⟨z0, z1, z2, z3⟩, _⟩ := (HBZ.out.rel h).four; obtain ⟨⟨u0, u1, u2, u3⟩, _⟩ := (HBW.out.rel h).four; obtain ⟨r0, r1, r2, r3⟩ := HBR.out w' h; go_simp; try with_reducible rfl
  try simp only [Act.put, List.setIfInBounds_toArray, List.set_cons_zero, List.set_cons_succ]
  refine held_take (i := 60) (v := ?_) (some 87) rfl rfl (by kernel_rfl) (by kernel_rfl) (by kernel_rfl) (fun _ _ _ h => h) (Or.inl ⟨by rfl, ?_⟩) hHeld ?_
  rotate_left 1
  · intro w' (h : Rel W w'); obtain ⟨⟨x0, x1, x2, x3⟩, _⟩ := (HBX.out.rel h).four; obtain ⟨⟨y0, y1, y2, y3⟩, _⟩ := (HBY.out.rel h).four; obtain ⟨⟨z0, z1, z2, z3⟩, _⟩ := (HBZ.out.rel h).four; obtain ⟨⟨u0, u1, u2, u3⟩, _⟩ := (HBW.out.rel h).four; obtain ⟨r0, r1, r2, r3⟩ := HBR.out w' h; go_simp; try with_reducible rfl
  try simp only [Act.put, List.setIfInBounds_toArray, List.set_cons_zero, List.set_cons_succ]
  refine held_take (i := 61) (v := ?_) (some 88) rfl rfl (by kernel_rfl) (by kernel_rfl) (by kernel_rfl) (fun _ _ _ h => h) (Or.inl ⟨by rfl, ?_⟩) hHeld ?_
  rotate_left 1
  · intro w' (h : Rel W w'); obtain ⟨⟨x0, x1, x2, x3⟩, _⟩ := (HBX.out.rel h).four; obtain ⟨⟨y0, y1, y2, y3⟩, _⟩ := (HBY.out.rel h).four; obtain ⟨⟨z0, z1, z2, z3⟩, _⟩ := (HBZ.out.rel h).four; obtain ⟨⟨u0, u1, u2, u3⟩, _⟩ := (HBW.out.rel h).four; obtain ⟨r0, r1, r2, r3⟩ := HBR.out w' h; go_simp; try with_reducible rfl
  try simp only [Act.put, List.setIfInBounds_toArray, List.set_cons_zero, List.set_cons_succ]
  refine held_take (i := 62) (v := ?_) (some 89) rfl rfl (by kernel_rfl) (by kernel_rfl) (by kernel_rfl) (fun _ _ _ h => h) (Or.inl ⟨by rfl, ?_⟩) hHeld ?_
  rotate_left 1
  · intro w' (h : Rel W w'); obtain ⟨⟨x0, x1, x2, x3⟩, _⟩ := (HBX.out.rel h).four; obtain ⟨⟨y0, y1, y2, y3⟩, _⟩ := (HBY.out.rel h).four; obtain ⟨⟨z0, z1, z2, z3⟩, _⟩ := (HBZ.out.rel h).four; obtain ⟨⟨u0, u1, u2, u3⟩, _⟩ := (HBW.out.rel h).four; obtain ⟨r0, r1, r2, r3⟩ := HBR.out w' h; go_simp; try with_reducible rfl
  try simp only [Act.put, List.setIfInBounds_toArray, List.set_cons_zero, List.set_cons_succ]
  refine held_take (i := 63) (v := ?_) (some 90) rfl rfl (by kernel_rfl) (by kernel_rfl) (by kernel_rfl) (fun _ _ _ h => h) (Or.inl ⟨by rfl, ?_⟩) hHeld ?_
  rotate_left 1
  · intro w' (h : Rel W w'); obtain ⟨⟨x0, x1, x2, x3⟩, _⟩ := (HBX.out.rel h).four; obtain ⟨⟨y0, y1, y2, y3⟩, _⟩ := (HBY.out.rel h).four; obtain ⟨⟨z0, z1, z2, z3⟩, _⟩ := (HBZ.out.rel h).four; obtain ⟨⟨u0, u1, u2, u3⟩, _⟩ := (HBW.out.rel h).four; obtain ⟨r0, r1, r2, r3⟩ := HBR.out w' h; go_simp; try with_reducible rfl
  try simp only [Act.put, List.setIfInBounds_toArray, List.set_cons_zero, List.set_cons_succ]
  refine held_one (j := 64) (by kernel_rfl) rfl (fun K hK => ?_)
  try simp only [List.getElem_toArray, List.getElem_cons_succ, List.getElem_cons_zero]
  rw [if_pos (by rfl)]
  go_simp
  go_at_call 14
  (with_reducible refine (HRI.out _ hHeld).mono ?_)
  rintro e w2 ⟨rfl, h2⟩
  refine hK.out _ _ (hHeld.trans h2) (fun hHeld => ?_)
  clear hK K
  try simp only [Act.put, List.setIfInBounds_toArray, List.set_cons_zero, List.set_cons_succ]
  refine held_take (i := 65) (v := ?_) (some 92) rfl rfl (by kernel_rfl) (by kernel_rfl) (by kernel_rfl) (fun _ _ _ h => h) (Or.inl ⟨by rfl, ?_⟩) hHeld ?_
  rotate_left 1
  · intro w' (h : Rel W w'); obtain ⟨⟨x0, x1, x2, x3⟩, _⟩ := (HBX.out.rel h).four; obtain ⟨⟨y0, y1, y2, y3⟩, _⟩ := (HBY.out.rel h).four; obtain ⟨⟨z0, z1, z2, z3⟩, _⟩ := (HBZ.out.rel h).four; obtain ⟨⟨u0, u1, u2, u3⟩, _⟩ := (HBW.out.rel h).four; obtain ⟨r0, r1, r2, r3⟩ := HBR.out w' h; go_simp; try with_reducible rfl
  try simp only [Act.put, List.setIfInBounds_toArray, List.set_cons_zero, List.set_cons_succ]
  refine held_take (i := 66) (v := ?_) (some 93) rfl rfl (by kernel_rfl) (by kernel_rfl) (by kernel_rfl) (fun _ _ _ h => h) (Or.inl ⟨by rfl, ?_⟩) hHeld ?_
  rotate_left 1
  · intro w' (h : Rel W w'); obtain ⟨⟨x0, x1, x2, x3⟩, _⟩ := (HBX.out.rel h).four; obtain ⟨⟨y0, y1, y2, y3⟩, _⟩ := (HBY.out.rel h).four; obtain ⟨⟨z0, z1, z2, z3⟩, _⟩ := (HBZ.out.rel h).four; obtain ⟨⟨u0, u1, u2, u3⟩, _⟩ := (HBW.out.rel h).four; obtain ⟨r0, r1, r2, r3⟩ := HBR.out w' h; go_simp; try with_reducible rfl
  try simp only [Act.put, List.setIfInBounds_toArray, List.set_cons_zero, List.set_cons_succ]
  refine held_take (i := 67) (v := ?_) (some 4) rfl rfl (by kernel_rfl) (by kernel_rfl) (by kernel_rfl) (fun _ _ _ h => h) (Or.inl ⟨by rfl, ?_⟩) hHeld ?_
  rotate_left 1
  · intro w' (h : Rel W w'); obtain ⟨⟨x0, x1, x2, x3⟩, _⟩ := (HBX.out.rel h).four; obtain ⟨⟨y0, y1, y2, y3⟩, _⟩ := (HBY.out.rel h).four; obtain ⟨⟨z0, z1, z2, z3⟩, _⟩ := (HBZ.out.rel h).four; obtain ⟨⟨u0, u1, u2, u3⟩, _⟩ := (HBW.out.rel h).four; obtain ⟨r0, r1, r2, r3⟩ := HBR.out w' h; go_simp; try with_reducible rfl
  try simp only [Act.put, List.setIfInBounds_toArray, List.set_cons_zero, List.set_cons_succ]
  refine wpAnyH_done (by kernel_rfl) ?_ _
  go_wp2_with (fail)
  go_ret
  exact ⟨rfl, HW.out.trans hHeld⟩
end Go.Proofs.YtlflfffjaodhpaaDoor
