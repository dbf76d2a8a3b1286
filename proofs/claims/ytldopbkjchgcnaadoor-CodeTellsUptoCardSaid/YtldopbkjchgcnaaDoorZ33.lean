/- TreeUnlike, over what the program is asked; TreeGrows, over what the program is asked. -/
import Derived.Test.YtldopbkjchgcnaaDoorZ19
import Derived.Test.YtldopbkjchgcnaaDoorZ07
namespace Go.Proofs.YtldopbkjchgcnaaDoor
open Go.RowKit Go.Lib
set_option linter.unusedVariables false
set_option linter.unusedSimpArgs false

theorem pr_of {x : Ex} {b : Bool} (h : rightX x = b) : prT x = (if b then text x else []) ∧ prE x = (if b then 0 else 1) := by
  unfold prT prE; rw [h]; exact ⟨rfl, rfl⟩
theorem right_inj {x y : Ex} (hx : rightX x = true) (hy : rightX y = true) : text x = text y ↔ x = y := by
  simp only [rightX, Bool.and_eq_true] at hx hy
  constructor
  · intro h
    exact (text_inj x y 32 32 hx.1.1.1 hy.1.1.1 [] [] rfl rfl (by rw [h])).1
  · intro h; rw [h]
theorem B_eq (a b : List UInt8) : ((B a).toList == (B b).toList) = decide (a = b) := by
  rw [B_toList, B_toList]
  by_cases h : a = b <;> simp [h]
end Go.Proofs.YtldopbkjchgcnaaDoor

namespace Go.Proofs.YtldopbkjchgcnaaDoor
open Go.RowKit Go.Lib
set_option linter.unusedVariables false
set_option linter.unusedSimpArgs false

theorem ExAt.three {S : Nat → Prop} {w : World} {k n : Int} {nm : List UInt8} {g c : Nat} {a b d : El} {x y z : Ex} (hk : i64 k) (hn : i64 n) (hm : nm.length ≤ 100) (h : Bk w g 27 (cellsEs [a, b, d]).toArray) (hS : S g) (hx : ExAt S w a x) (hy : ExAt S w b y) (hz : ExAt S w d z) :
    ExAt S w (k, n, nm, some ⟨g, 0, none⟩, 3, c) (.mk k n nm [x, y, z]) :=
  .mk k n nm _ c [x, y, z] [a, b, d] hk hn hm rfl (RowE.of_bk h hS) fun i h h' => by
    match i, h, h' with
    | 0, _, _ => exact hx
    | 1, _, _ => exact hy
    | 2, _, _ => exact hz
theorem ok64 {n : Int} (h : -100 ≤ n) (h' : n ≤ 100) : i64 n := ⟨by omega, by omega⟩
def exZ (x y : Ex) : Ex := .mk 8 0 [] [x, y]
def exA (x y : Ex) : Ex := .mk 12 0 [] [x, y]
def exW (x y : Ex) : Ex := .mk 10 0 [] [exA x y, x, y]
theorem z_size (x y : Ex) : size (exZ x y) = 1 + size x + size y := by unfold exZ; rw [size_mk, sizes_cons, sizes_cons, sizes_nil]; omega
theorem a_size (x y : Ex) : size (exA x y) = 1 + size x + size y := by unfold exA; rw [size_mk, sizes_cons, sizes_cons, sizes_nil]; omega
theorem w_size (x y : Ex) : size (exW x y) = 2 + 2 * size x + 2 * size y := by unfold exW; rw [size_mk, sizes_cons, sizes_cons, sizes_cons, sizes_nil, a_size]; omega
theorem z_deep (x y : Ex) : deep (exZ x y) = 1 + max (deep x) (deep y) := by unfold exZ; rw [deep_mk, deeps_cons, deeps_cons, deeps_nil]; omega
theorem a_deep (x y : Ex) : deep (exA x y) = 1 + max (deep x) (deep y) := by unfold exA; rw [deep_mk, deeps_cons, deeps_cons, deeps_nil]; omega
theorem w_deep (x y : Ex) : deep (exW x y) = 2 + max (deep x) (deep y) := by unfold exW; rw [deep_mk, deeps_cons, deeps_cons, deeps_cons, deeps_nil, a_deep]; omega
theorem a_right (x y : Ex) : rightX (exA x y) = false := by
  unfold rightX; rw [show isCond (exA x y).k = true from rfl]; simp
/-- The blocks that the law makes of both. -/
theorem grows_world (w0 w : World) (hr : Rel w0 w) (vx vy : El) (x y : Ex) (S S' : Nat → Prop) (ex : ExAt S w vx x) (ey : ExAt S' w vy y) (s : Nat) (hs : w.heap.size = s) :
    ∃ W : World, W = (((((w.alloc (.cells #[.int .i64 vx.1, .int .i64 vx.2.1, .string (B vx.2.2.1), .slice vx.2.2.2.1 vx.2.2.2.2.1 vx.2.2.2.2.2, .int .i64 vy.1, .int .i64 vy.2.1, .string (B vy.2.2.1), .slice vy.2.2.2.1 vy.2.2.2.2.1 vy.2.2.2.2.2] 27)).alloc (.cells #[.int .i64 8, .int .i64 0, .string ⟨#[]⟩, .slice (some ⟨s, 0, none⟩) 2 2] 27)).alloc (.cells #[.int .i64 vx.1, .int .i64 vx.2.1, .string (B vx.2.2.1), .slice vx.2.2.2.1 vx.2.2.2.2.1 vx.2.2.2.2.2, .int .i64 vy.1, .int .i64 vy.2.1, .string (B vy.2.2.1), .slice vy.2.2.2.1 vy.2.2.2.2.1 vy.2.2.2.2.2] 27)).alloc (.cells #[.int .i64 12, .int .i64 0, .string ⟨#[]⟩, .slice (some ⟨s + 2, 0, none⟩) 2 2, .int .i64 vx.1, .int .i64 vx.2.1, .string (B vx.2.2.1), .slice vx.2.2.2.1 vx.2.2.2.2.1 vx.2.2.2.2.2, .int .i64 vy.1, .int .i64 vy.2.1, .string (B vy.2.2.1), .slice vy.2.2.2.1 vy.2.2.2.2.1 vy.2.2.2.2.2] 27)).alloc (.cells #[.int .i64 10, .int .i64 0, .string ⟨#[]⟩, .slice (some ⟨s + 3, 0, none⟩) 3 3] 27)) ∧ Rel w W ∧
    Bk W (s + 1) 27 #[.int .i64 8, .int .i64 0, .string ⟨#[]⟩, .slice (some ⟨s, 0, none⟩) 2 2] ∧ Bk W (s + 4) 27 #[.int .i64 10, .int .i64 0, .string ⟨#[]⟩, .slice (some ⟨s + 3, 0, none⟩) 3 3] ∧
    (∀ w', Rel W w' → w'.cell? ⟨s + 3, 0, none⟩ = some (.int .i64 12) ∧ w'.cell? ⟨s + 3, 1, none⟩ = some (.int .i64 0) ∧ w'.cell? ⟨s + 3, 2, none⟩ = some (.string ⟨#[]⟩) ∧ w'.cell? ⟨s + 3, 3, none⟩ = some (.slice (some ⟨s + 2, 0, none⟩) 2 2)) ∧
    ExAt (fun _ => True) W (8, 0, [], some ⟨s, 0, none⟩, 2, 2) (exZ x y) ∧ ExAt (fun _ => True) W (12, 0, [], some ⟨s + 2, 0, none⟩, 2, 2) (exA x y) ∧ ExAt (fun _ => True) W (10, 0, [], some ⟨s + 3, 0, none⟩, 3, 3) (exW x y) := by
  have R1 := hr.self.alloc (.cells #[.int .i64 vx.1, .int .i64 vx.2.1, .string (B vx.2.2.1), .slice vx.2.2.2.1 vx.2.2.2.2.1 vx.2.2.2.2.2, .int .i64 vy.1, .int .i64 vy.2.1, .string (B vy.2.2.1), .slice vy.2.2.2.1 vy.2.2.2.2.1 vy.2.2.2.2.2] 27)
  have R2 := R1.alloc (.cells #[.int .i64 8, .int .i64 0, .string ⟨#[]⟩, .slice (some ⟨s, 0, none⟩) 2 2] 27)
  have R3 := R2.alloc (.cells #[.int .i64 vx.1, .int .i64 vx.2.1, .string (B vx.2.2.1), .slice vx.2.2.2.1 vx.2.2.2.2.1 vx.2.2.2.2.2, .int .i64 vy.1, .int .i64 vy.2.1, .string (B vy.2.2.1), .slice vy.2.2.2.1 vy.2.2.2.2.1 vy.2.2.2.2.2] 27)
  have R4 := R3.alloc (.cells #[.int .i64 12, .int .i64 0, .string ⟨#[]⟩, .slice (some ⟨s + 2, 0, none⟩) 2 2, .int .i64 vx.1, .int .i64 vx.2.1, .string (B vx.2.2.1), .slice vx.2.2.2.1 vx.2.2.2.2.1 vx.2.2.2.2.2, .int .i64 vy.1, .int .i64 vy.2.1, .string (B vy.2.2.1), .slice vy.2.2.2.1 vy.2.2.2.2.1 vy.2.2.2.2.2] 27)
  have R5 := R4.alloc (.cells #[.int .i64 10, .int .i64 0, .string ⟨#[]⟩, .slice (some ⟨s + 3, 0, none⟩) 3 3] 27)
  have b0 := Bk.new w 27 #[.int .i64 vx.1, .int .i64 vx.2.1, .string (B vx.2.2.1), .slice vx.2.2.2.1 vx.2.2.2.2.1 vx.2.2.2.2.2, .int .i64 vy.1, .int .i64 vy.2.1, .string (B vy.2.2.1), .slice vy.2.2.2.1 vy.2.2.2.2.1 vy.2.2.2.2.2]
  have b1 := Bk.new (w.alloc (.cells #[.int .i64 vx.1, .int .i64 vx.2.1, .string (B vx.2.2.1), .slice vx.2.2.2.1 vx.2.2.2.2.1 vx.2.2.2.2.2, .int .i64 vy.1, .int .i64 vy.2.1, .string (B vy.2.2.1), .slice vy.2.2.2.1 vy.2.2.2.2.1 vy.2.2.2.2.2] 27)) 27 #[.int .i64 8, .int .i64 0, .string ⟨#[]⟩, .slice (some ⟨s, 0, none⟩) 2 2]
  have b2 := Bk.new ((w.alloc (.cells #[.int .i64 vx.1, .int .i64 vx.2.1, .string (B vx.2.2.1), .slice vx.2.2.2.1 vx.2.2.2.2.1 vx.2.2.2.2.2, .int .i64 vy.1, .int .i64 vy.2.1, .string (B vy.2.2.1), .slice vy.2.2.2.1 vy.2.2.2.2.1 vy.2.2.2.2.2] 27)).alloc (.cells #[.int .i64 8, .int .i64 0, .string ⟨#[]⟩, .slice (some ⟨s, 0, none⟩) 2 2] 27)) 27 #[.int .i64 vx.1, .int .i64 vx.2.1, .string (B vx.2.2.1), .slice vx.2.2.2.1 vx.2.2.2.2.1 vx.2.2.2.2.2, .int .i64 vy.1, .int .i64 vy.2.1, .string (B vy.2.2.1), .slice vy.2.2.2.1 vy.2.2.2.2.1 vy.2.2.2.2.2]
  have b3 := Bk.new (((w.alloc (.cells #[.int .i64 vx.1, .int .i64 vx.2.1, .string (B vx.2.2.1), .slice vx.2.2.2.1 vx.2.2.2.2.1 vx.2.2.2.2.2, .int .i64 vy.1, .int .i64 vy.2.1, .string (B vy.2.2.1), .slice vy.2.2.2.1 vy.2.2.2.2.1 vy.2.2.2.2.2] 27)).alloc (.cells #[.int .i64 8, .int .i64 0, .string ⟨#[]⟩, .slice (some ⟨s, 0, none⟩) 2 2] 27)).alloc (.cells #[.int .i64 vx.1, .int .i64 vx.2.1, .string (B vx.2.2.1), .slice vx.2.2.2.1 vx.2.2.2.2.1 vx.2.2.2.2.2, .int .i64 vy.1, .int .i64 vy.2.1, .string (B vy.2.2.1), .slice vy.2.2.2.1 vy.2.2.2.2.1 vy.2.2.2.2.2] 27)) 27 #[.int .i64 12, .int .i64 0, .string ⟨#[]⟩, .slice (some ⟨s + 2, 0, none⟩) 2 2, .int .i64 vx.1, .int .i64 vx.2.1, .string (B vx.2.2.1), .slice vx.2.2.2.1 vx.2.2.2.2.1 vx.2.2.2.2.2, .int .i64 vy.1, .int .i64 vy.2.1, .string (B vy.2.2.1), .slice vy.2.2.2.1 vy.2.2.2.2.1 vy.2.2.2.2.2]
  have b4 := Bk.new ((((w.alloc (.cells #[.int .i64 vx.1, .int .i64 vx.2.1, .string (B vx.2.2.1), .slice vx.2.2.2.1 vx.2.2.2.2.1 vx.2.2.2.2.2, .int .i64 vy.1, .int .i64 vy.2.1, .string (B vy.2.2.1), .slice vy.2.2.2.1 vy.2.2.2.2.1 vy.2.2.2.2.2] 27)).alloc (.cells #[.int .i64 8, .int .i64 0, .string ⟨#[]⟩, .slice (some ⟨s, 0, none⟩) 2 2] 27)).alloc (.cells #[.int .i64 vx.1, .int .i64 vx.2.1, .string (B vx.2.2.1), .slice vx.2.2.2.1 vx.2.2.2.2.1 vx.2.2.2.2.2, .int .i64 vy.1, .int .i64 vy.2.1, .string (B vy.2.2.1), .slice vy.2.2.2.1 vy.2.2.2.2.1 vy.2.2.2.2.2] 27)).alloc (.cells #[.int .i64 12, .int .i64 0, .string ⟨#[]⟩, .slice (some ⟨s + 2, 0, none⟩) 2 2, .int .i64 vx.1, .int .i64 vx.2.1, .string (B vx.2.2.1), .slice vx.2.2.2.1 vx.2.2.2.2.1 vx.2.2.2.2.2, .int .i64 vy.1, .int .i64 vy.2.1, .string (B vy.2.2.1), .slice vy.2.2.2.1 vy.2.2.2.2.1 vy.2.2.2.2.2] 27)) 27 #[.int .i64 10, .int .i64 0, .string ⟨#[]⟩, .slice (some ⟨s + 3, 0, none⟩) 3 3]
  simp only [World.size_alloc, hs] at b0 b1 b2 b3 b4
  have a1 := ((b1.alloc (.cells #[.int .i64 vx.1, .int .i64 vx.2.1, .string (B vx.2.2.1), .slice vx.2.2.2.1 vx.2.2.2.2.1 vx.2.2.2.2.2, .int .i64 vy.1, .int .i64 vy.2.1, .string (B vy.2.2.1), .slice vy.2.2.2.1 vy.2.2.2.2.1 vy.2.2.2.2.2] 27)).alloc (.cells #[.int .i64 12, .int .i64 0, .string ⟨#[]⟩, .slice (some ⟨s + 2, 0, none⟩) 2 2, .int .i64 vx.1, .int .i64 vx.2.1, .string (B vx.2.2.1), .slice vx.2.2.2.1 vx.2.2.2.2.1 vx.2.2.2.2.2, .int .i64 vy.1, .int .i64 vy.2.1, .string (B vy.2.2.1), .slice vy.2.2.2.1 vy.2.2.2.2.1 vy.2.2.2.2.2] 27)).alloc (.cells #[.int .i64 10, .int .i64 0, .string ⟨#[]⟩, .slice (some ⟨s + 3, 0, none⟩) 3 3] 27)
  have a0 := (((b0.alloc (.cells #[.int .i64 8, .int .i64 0, .string ⟨#[]⟩, .slice (some ⟨s, 0, none⟩) 2 2] 27)).alloc (.cells #[.int .i64 vx.1, .int .i64 vx.2.1, .string (B vx.2.2.1), .slice vx.2.2.2.1 vx.2.2.2.2.1 vx.2.2.2.2.2, .int .i64 vy.1, .int .i64 vy.2.1, .string (B vy.2.2.1), .slice vy.2.2.2.1 vy.2.2.2.2.1 vy.2.2.2.2.2] 27)).alloc (.cells #[.int .i64 12, .int .i64 0, .string ⟨#[]⟩, .slice (some ⟨s + 2, 0, none⟩) 2 2, .int .i64 vx.1, .int .i64 vx.2.1, .string (B vx.2.2.1), .slice vx.2.2.2.1 vx.2.2.2.2.1 vx.2.2.2.2.2, .int .i64 vy.1, .int .i64 vy.2.1, .string (B vy.2.2.1), .slice vy.2.2.2.1 vy.2.2.2.2.1 vy.2.2.2.2.2] 27)).alloc (.cells #[.int .i64 10, .int .i64 0, .string ⟨#[]⟩, .slice (some ⟨s + 3, 0, none⟩) 3 3] 27)
  have a2 := (b2.alloc (.cells #[.int .i64 12, .int .i64 0, .string ⟨#[]⟩, .slice (some ⟨s + 2, 0, none⟩) 2 2, .int .i64 vx.1, .int .i64 vx.2.1, .string (B vx.2.2.1), .slice vx.2.2.2.1 vx.2.2.2.2.1 vx.2.2.2.2.2, .int .i64 vy.1, .int .i64 vy.2.1, .string (B vy.2.2.1), .slice vy.2.2.2.1 vy.2.2.2.2.1 vy.2.2.2.2.2] 27)).alloc (.cells #[.int .i64 10, .int .i64 0, .string ⟨#[]⟩, .slice (some ⟨s + 3, 0, none⟩) 3 3] 27)
  have a3 := b3.alloc (.cells #[.int .i64 10, .int .i64 0, .string ⟨#[]⟩, .slice (some ⟨s + 3, 0, none⟩) 3 3] 27)
  have EX := (ex.rel R5).weak (S' := fun _ => True) (fun _ _ => trivial)
  have EY := (ey.rel R5).weak (S' := fun _ => True) (fun _ _ => trivial)
  have EA := ExAt.two (k := 12) (n := 0) (nm := []) (c := 2) (ok64 (by decide) (by decide)) (ok64 (by decide) (by decide)) (Nat.zero_le _) a2 trivial EX EY
  refine ⟨_, rfl, R5, a1, b4, fun w' h => ?_, ?_, EA, ?_⟩
  · have := a3.rel h
    exact ⟨by rw [this.cell]; rfl, by rw [this.cell]; rfl, by rw [this.cell]; rfl, by rw [this.cell]; rfl⟩
  · exact ExAt.two (k := 8) (n := 0) (nm := []) (c := 2) (ok64 (by decide) (by decide)) (ok64 (by decide) (by decide)) (Nat.zero_le _) a0 trivial EX EY
  · exact ExAt.three (a := (12, 0, [], some ⟨s + 2, 0, none⟩, 2, 2)) (b := vx) (d := vy) (k := 10) (n := 0) (nm := []) (c := 3) (ok64 (by decide) (by decide)) (ok64 (by decide) (by decide)) (Nat.zero_le _) a3 trivial EA EX EY
end Go.Proofs.YtldopbkjchgcnaaDoor
