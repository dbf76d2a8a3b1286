/- TreeGrows, over what the program is asked; The document's own answers of layer 9: Eval and Cond; What the laws of layer 9 lean on: what the program is asked, and the law's awake; The law's offers of raw numbers, in memory. -/
import Derived.Test.YtpehlldgnbajjaaGreatDoorZ14
import Derived.Test.YtpehlldgnbajjaaGreatDoorZ10
import Derived.Test.YtpehlldgnbajjaaGreatDoorZ06
import Derived.Test.YtpehlldgnbajjaaGreatDoorZ07
import Derived.Test.YtpehlldgnbajjaaGreatDoorZ08
import Derived.Test.YtpehlldgnbajjaaGreatDoorZ03
import Derived.Deep.CutBlock
namespace Go.Proofs.YtpehlldgnbajjaaGreatDoor
open Go.RowKit Go.Lib
set_option linter.unusedVariables false
set_option linter.unusedSimpArgs false

theorem ExAt.three {S : Nat → Prop} {w : World} {k n : Int} {nm : List UInt8} {g c : Nat} {a b d : El} {x y z : Ex} (hk : i64 k) (hn : i64 n) (hm : nm.length ≤ 100) (h : Bk w g 31 (cellsEs [a, b, d]).toArray) (hS : S g) (hx : ExAt S w a x) (hy : ExAt S w b y) (hz : ExAt S w d z) :
    ExAt S w (k, n, nm, some ⟨g, 0, none⟩, 3, c) (.mk k n nm [x, y, z]) :=
  .mk k n nm _ c [x, y, z] [a, b, d] hk hn hm rfl (RowE.of_bk h hS) fun i h h' => by
    match i, h, h' with
    | 0, _, _ => exact hx
    | 1, _, _ => exact hy
    | 2, _, _ => exact hz
theorem ok64 {n : Int} (h : -100 ≤ n) (h' : n ≤ 100) : i64 n := ⟨by omega, by omega⟩
def exZ (x y : Ex) : Ex := .mk 8 0 [] [x, y]
def exA (x y : Ex) : Ex := .mk 12 0 [] [x, y]
def exW (x y : Ex) : Ex := .mk 10 0 [] [exA x y, x, y]
theorem z_size (x y : Ex) : size (exZ x y) = 1 + size x + size y := by unfold exZ; rw [size_mk, sizes_cons, sizes_cons, sizes_nil]; omega
theorem a_size (x y : Ex) : size (exA x y) = 1 + size x + size y := by unfold exA; rw [size_mk, sizes_cons, sizes_cons, sizes_nil]; omega
theorem w_size (x y : Ex) : size (exW x y) = 2 + 2 * size x + 2 * size y := by unfold exW; rw [size_mk, sizes_cons, sizes_cons, sizes_cons, sizes_nil, a_size]; omega
theorem z_deep (x y : Ex) : deep (exZ x y) = 1 + max (deep x) (deep y) := by unfold exZ; rw [deep_mk, deeps_cons, deeps_cons, deeps_nil]; omega
theorem a_deep (x y : Ex) : deep (exA x y) = 1 + max (deep x) (deep y) := by unfold exA; rw [deep_mk, deeps_cons, deeps_cons, deeps_nil]; omega
theorem w_deep (x y : Ex) : deep (exW x y) = 2 + max (deep x) (deep y) := by unfold exW; rw [deep_mk, deeps_cons, deeps_cons, deeps_cons, deeps_nil, a_deep]; omega
theorem a_right (x y : Ex) : rightX (exA x y) = false := by
  unfold rightX; rw [show isCond (exA x y).k = true from rfl]; simp
/-- The blocks that the law makes of both. -/
theorem grows_world (w0 w : World) (hr : Rel w0 w) (vx vy : El) (x y : Ex) (S S' : Nat → Prop) (ex : ExAt S w vx x) (ey : ExAt S' w vy y) (s : Nat) (hs : w.heap.size = s) :
    ∃ W : World, W = (((((w.alloc (.cells #[.int .i64 vx.1, .int .i64 vx.2.1, .string (B vx.2.2.1), .slice vx.2.2.2.1 vx.2.2.2.2.1 vx.2.2.2.2.2, .int .i64 vy.1, .int .i64 vy.2.1, .string (B vy.2.2.1), .slice vy.2.2.2.1 vy.2.2.2.2.1 vy.2.2.2.2.2] 31)).alloc (.cells #[.int .i64 8, .int .i64 0, .string ⟨#[]⟩, .slice (some ⟨s, 0, none⟩) 2 2] 31)).alloc (.cells #[.int .i64 vx.1, .int .i64 vx.2.1, .string (B vx.2.2.1), .slice vx.2.2.2.1 vx.2.2.2.2.1 vx.2.2.2.2.2, .int .i64 vy.1, .int .i64 vy.2.1, .string (B vy.2.2.1), .slice vy.2.2.2.1 vy.2.2.2.2.1 vy.2.2.2.2.2] 31)).alloc (.cells #[.int .i64 12, .int .i64 0, .string ⟨#[]⟩, .slice (some ⟨s + 2, 0, none⟩) 2 2, .int .i64 vx.1, .int .i64 vx.2.1, .string (B vx.2.2.1), .slice vx.2.2.2.1 vx.2.2.2.2.1 vx.2.2.2.2.2, .int .i64 vy.1, .int .i64 vy.2.1, .string (B vy.2.2.1), .slice vy.2.2.2.1 vy.2.2.2.2.1 vy.2.2.2.2.2] 31)).alloc (.cells #[.int .i64 10, .int .i64 0, .string ⟨#[]⟩, .slice (some ⟨s + 3, 0, none⟩) 3 3] 31)) ∧ Rel w W ∧
    Bk W (s + 1) 31 #[.int .i64 8, .int .i64 0, .string ⟨#[]⟩, .slice (some ⟨s, 0, none⟩) 2 2] ∧ Bk W (s + 4) 31 #[.int .i64 10, .int .i64 0, .string ⟨#[]⟩, .slice (some ⟨s + 3, 0, none⟩) 3 3] ∧
    (∀ w', Rel W w' → w'.cell? ⟨s + 3, 0, none⟩ = some (.int .i64 12) ∧ w'.cell? ⟨s + 3, 1, none⟩ = some (.int .i64 0) ∧ w'.cell? ⟨s + 3, 2, none⟩ = some (.string ⟨#[]⟩) ∧ w'.cell? ⟨s + 3, 3, none⟩ = some (.slice (some ⟨s + 2, 0, none⟩) 2 2)) ∧
    ExAt (fun _ => True) W (8, 0, [], some ⟨s, 0, none⟩, 2, 2) (exZ x y) ∧ ExAt (fun _ => True) W (12, 0, [], some ⟨s + 2, 0, none⟩, 2, 2) (exA x y) ∧ ExAt (fun _ => True) W (10, 0, [], some ⟨s + 3, 0, none⟩, 3, 3) (exW x y) := by
  have R1 := hr.self.alloc (.cells #[.int .i64 vx.1, .int .i64 vx.2.1, .string (B vx.2.2.1), .slice vx.2.2.2.1 vx.2.2.2.2.1 vx.2.2.2.2.2, .int .i64 vy.1, .int .i64 vy.2.1, .string (B vy.2.2.1), .slice vy.2.2.2.1 vy.2.2.2.2.1 vy.2.2.2.2.2] 31)
  have R2 := R1.alloc (.cells #[.int .i64 8, .int .i64 0, .string ⟨#[]⟩, .slice (some ⟨s, 0, none⟩) 2 2] 31)
  have R3 := R2.alloc (.cells #[.int .i64 vx.1, .int .i64 vx.2.1, .string (B vx.2.2.1), .slice vx.2.2.2.1 vx.2.2.2.2.1 vx.2.2.2.2.2, .int .i64 vy.1, .int .i64 vy.2.1, .string (B vy.2.2.1), .slice vy.2.2.2.1 vy.2.2.2.2.1 vy.2.2.2.2.2] 31)
  have R4 := R3.alloc (.cells #[.int .i64 12, .int .i64 0, .string ⟨#[]⟩, .slice (some ⟨s + 2, 0, none⟩) 2 2, .int .i64 vx.1, .int .i64 vx.2.1, .string (B vx.2.2.1), .slice vx.2.2.2.1 vx.2.2.2.2.1 vx.2.2.2.2.2, .int .i64 vy.1, .int .i64 vy.2.1, .string (B vy.2.2.1), .slice vy.2.2.2.1 vy.2.2.2.2.1 vy.2.2.2.2.2] 31)
  have R5 := R4.alloc (.cells #[.int .i64 10, .int .i64 0, .string ⟨#[]⟩, .slice (some ⟨s + 3, 0, none⟩) 3 3] 31)
  have b0 := Bk.new w 31 #[.int .i64 vx.1, .int .i64 vx.2.1, .string (B vx.2.2.1), .slice vx.2.2.2.1 vx.2.2.2.2.1 vx.2.2.2.2.2, .int .i64 vy.1, .int .i64 vy.2.1, .string (B vy.2.2.1), .slice vy.2.2.2.1 vy.2.2.2.2.1 vy.2.2.2.2.2]
  have b1 := Bk.new (w.alloc (.cells #[.int .i64 vx.1, .int .i64 vx.2.1, .string (B vx.2.2.1), .slice vx.2.2.2.1 vx.2.2.2.2.1 vx.2.2.2.2.2, .int .i64 vy.1, .int .i64 vy.2.1, .string (B vy.2.2.1), .slice vy.2.2.2.1 vy.2.2.2.2.1 vy.2.2.2.2.2] 31)) 31 #[.int .i64 8, .int .i64 0, .string ⟨#[]⟩, .slice (some ⟨s, 0, none⟩) 2 2]
  have b2 := Bk.new ((w.alloc (.cells #[.int .i64 vx.1, .int .i64 vx.2.1, .string (B vx.2.2.1), .slice vx.2.2.2.1 vx.2.2.2.2.1 vx.2.2.2.2.2, .int .i64 vy.1, .int .i64 vy.2.1, .string (B vy.2.2.1), .slice vy.2.2.2.1 vy.2.2.2.2.1 vy.2.2.2.2.2] 31)).alloc (.cells #[.int .i64 8, .int .i64 0, .string ⟨#[]⟩, .slice (some ⟨s, 0, none⟩) 2 2] 31)) 31 #[.int .i64 vx.1, .int .i64 vx.2.1, .string (B vx.2.2.1), .slice vx.2.2.2.1 vx.2.2.2.2.1 vx.2.2.2.2.2, .int .i64 vy.1, .int .i64 vy.2.1, .string (B vy.2.2.1), .slice vy.2.2.2.1 vy.2.2.2.2.1 vy.2.2.2.2.2]
  have b3 := Bk.new (((w.alloc (.cells #[.int .i64 vx.1, .int .i64 vx.2.1, .string (B vx.2.2.1), .slice vx.2.2.2.1 vx.2.2.2.2.1 vx.2.2.2.2.2, .int .i64 vy.1, .int .i64 vy.2.1, .string (B vy.2.2.1), .slice vy.2.2.2.1 vy.2.2.2.2.1 vy.2.2.2.2.2] 31)).alloc (.cells #[.int .i64 8, .int .i64 0, .string ⟨#[]⟩, .slice (some ⟨s, 0, none⟩) 2 2] 31)).alloc (.cells #[.int .i64 vx.1, .int .i64 vx.2.1, .string (B vx.2.2.1), .slice vx.2.2.2.1 vx.2.2.2.2.1 vx.2.2.2.2.2, .int .i64 vy.1, .int .i64 vy.2.1, .string (B vy.2.2.1), .slice vy.2.2.2.1 vy.2.2.2.2.1 vy.2.2.2.2.2] 31)) 31 #[.int .i64 12, .int .i64 0, .string ⟨#[]⟩, .slice (some ⟨s + 2, 0, none⟩) 2 2, .int .i64 vx.1, .int .i64 vx.2.1, .string (B vx.2.2.1), .slice vx.2.2.2.1 vx.2.2.2.2.1 vx.2.2.2.2.2, .int .i64 vy.1, .int .i64 vy.2.1, .string (B vy.2.2.1), .slice vy.2.2.2.1 vy.2.2.2.2.1 vy.2.2.2.2.2]
  have b4 := Bk.new ((((w.alloc (.cells #[.int .i64 vx.1, .int .i64 vx.2.1, .string (B vx.2.2.1), .slice vx.2.2.2.1 vx.2.2.2.2.1 vx.2.2.2.2.2, .int .i64 vy.1, .int .i64 vy.2.1, .string (B vy.2.2.1), .slice vy.2.2.2.1 vy.2.2.2.2.1 vy.2.2.2.2.2] 31)).alloc (.cells #[.int .i64 8, .int .i64 0, .string ⟨#[]⟩, .slice (some ⟨s, 0, none⟩) 2 2] 31)).alloc (.cells #[.int .i64 vx.1, .int .i64 vx.2.1, .string (B vx.2.2.1), .slice vx.2.2.2.1 vx.2.2.2.2.1 vx.2.2.2.2.2, .int .i64 vy.1, .int .i64 vy.2.1, .string (B vy.2.2.1), .slice vy.2.2.2.1 vy.2.2.2.2.1 vy.2.2.2.2.2] 31)).alloc (.cells #[.int .i64 12, .int .i64 0, .string ⟨#[]⟩, .slice (some ⟨s + 2, 0, none⟩) 2 2, .int .i64 vx.1, .int .i64 vx.2.1, .string (B vx.2.2.1), .slice vx.2.2.2.1 vx.2.2.2.2.1 vx.2.2.2.2.2, .int .i64 vy.1, .int .i64 vy.2.1, .string (B vy.2.2.1), .slice vy.2.2.2.1 vy.2.2.2.2.1 vy.2.2.2.2.2] 31)) 31 #[.int .i64 10, .int .i64 0, .string ⟨#[]⟩, .slice (some ⟨s + 3, 0, none⟩) 3 3]
  simp only [World.size_alloc, hs] at b0 b1 b2 b3 b4
  have a1 := ((b1.alloc (.cells #[.int .i64 vx.1, .int .i64 vx.2.1, .string (B vx.2.2.1), .slice vx.2.2.2.1 vx.2.2.2.2.1 vx.2.2.2.2.2, .int .i64 vy.1, .int .i64 vy.2.1, .string (B vy.2.2.1), .slice vy.2.2.2.1 vy.2.2.2.2.1 vy.2.2.2.2.2] 31)).alloc (.cells #[.int .i64 12, .int .i64 0, .string ⟨#[]⟩, .slice (some ⟨s + 2, 0, none⟩) 2 2, .int .i64 vx.1, .int .i64 vx.2.1, .string (B vx.2.2.1), .slice vx.2.2.2.1 vx.2.2.2.2.1 vx.2.2.2.2.2, .int .i64 vy.1, .int .i64 vy.2.1, .string (B vy.2.2.1), .slice vy.2.2.2.1 vy.2.2.2.2.1 vy.2.2.2.2.2] 31)).alloc (.cells #[.int .i64 10, .int .i64 0, .string ⟨#[]⟩, .slice (some ⟨s + 3, 0, none⟩) 3 3] 31)
  have a0 := (((b0.alloc (.cells #[.int .i64 8, .int .i64 0, .string ⟨#[]⟩, .slice (some ⟨s, 0, none⟩) 2 2] 31)).alloc (.cells #[.int .i64 vx.1, .int .i64 vx.2.1, .string (B vx.2.2.1), .slice vx.2.2.2.1 vx.2.2.2.2.1 vx.2.2.2.2.2, .int .i64 vy.1, .int .i64 vy.2.1, .string (B vy.2.2.1), .slice vy.2.2.2.1 vy.2.2.2.2.1 vy.2.2.2.2.2] 31)).alloc (.cells #[.int .i64 12, .int .i64 0, .string ⟨#[]⟩, .slice (some ⟨s + 2, 0, none⟩) 2 2, .int .i64 vx.1, .int .i64 vx.2.1, .string (B vx.2.2.1), .slice vx.2.2.2.1 vx.2.2.2.2.1 vx.2.2.2.2.2, .int .i64 vy.1, .int .i64 vy.2.1, .string (B vy.2.2.1), .slice vy.2.2.2.1 vy.2.2.2.2.1 vy.2.2.2.2.2] 31)).alloc (.cells #[.int .i64 10, .int .i64 0, .string ⟨#[]⟩, .slice (some ⟨s + 3, 0, none⟩) 3 3] 31)
  have a2 := (b2.alloc (.cells #[.int .i64 12, .int .i64 0, .string ⟨#[]⟩, .slice (some ⟨s + 2, 0, none⟩) 2 2, .int .i64 vx.1, .int .i64 vx.2.1, .string (B vx.2.2.1), .slice vx.2.2.2.1 vx.2.2.2.2.1 vx.2.2.2.2.2, .int .i64 vy.1, .int .i64 vy.2.1, .string (B vy.2.2.1), .slice vy.2.2.2.1 vy.2.2.2.2.1 vy.2.2.2.2.2] 31)).alloc (.cells #[.int .i64 10, .int .i64 0, .string ⟨#[]⟩, .slice (some ⟨s + 3, 0, none⟩) 3 3] 31)
  have a3 := b3.alloc (.cells #[.int .i64 10, .int .i64 0, .string ⟨#[]⟩, .slice (some ⟨s + 3, 0, none⟩) 3 3] 31)
  have EX := (ex.rel R5).weak (S' := fun _ => True) (fun _ _ => trivial)
  have EY := (ey.rel R5).weak (S' := fun _ => True) (fun _ _ => trivial)
  have EA := ExAt.two (k := 12) (n := 0) (nm := []) (c := 2) (ok64 (by decide) (by decide)) (ok64 (by decide) (by decide)) (Nat.zero_le _) a2 trivial EX EY
  refine ⟨_, rfl, R5, a1, b4, fun w' h => ?_, ?_, EA, ?_⟩
  · have := a3.rel h
    exact ⟨by rw [this.cell]; rfl, by rw [this.cell]; rfl, by rw [this.cell]; rfl, by rw [this.cell]; rfl⟩
  · exact ExAt.two (k := 8) (n := 0) (nm := []) (c := 2) (ok64 (by decide) (by decide)) (ok64 (by decide) (by decide)) (Nat.zero_le _) a0 trivial EX EY
  · exact ExAt.three (a := (12, 0, [], some ⟨s + 2, 0, none⟩, 2, 2)) (b := vx) (d := vy) (k := 10) (n := 0) (nm := []) (c := 3) (ok64 (by decide) (by decide)) (ok64 (by decide) (by decide)) (Nat.zero_le _) a3 trivial EA EX EY
end Go.Proofs.YtpehlldgnbajjaaGreatDoor

namespace Go.Proofs.YtpehlldgnbajjaaGreatDoor
open Go.RowKit Go.Lib
set_option linter.unusedVariables false
set_option linter.unusedSimpArgs false

theorem right_fine {x : Ex} (h : rightX x = true) : fine 32 x = true ∧ isCond x.k = false := by
  unfold rightX at h
  simp only [Bool.and_eq_true, Bool.not_eq_true'] at h
  exact ⟨h.1.1.1, h.1.1.2⟩
theorem ifX_size (x : Ex) : size (ifX x) = size x + 3 := by unfold ifX exLw; simp only [size_mk, sizes_cons, sizes_nil]; omega
theorem ifX_fine {x : Ex} (h : rightX (ifX x) = true) : fine 32 x = true ∧ isCond x.k = true := by
  have h := right_fine h
  obtain ⟨_, _, _, _, h5⟩ := fine_parts h.1
  obtain ⟨g0, f0⟩ := h5 0 (by simp)
  exact ⟨fine_less _ 31 32 f0 (by have := fine_deep _ _ f0; simp only [List.getElem_cons_zero] at this ⊢; omega), g0⟩
set_option maxRecDepth 100000 in
set_option maxHeartbeats 4000000 in
theorem reval_any (x : Ex) (S : Nat → Prop) (e : El) (A : Option Addr) (c : Nat) (os : List Of) (w0 w : World) (hr : Rel w0 w) (h : ExAt S w e x) (hz : size x ≤ 1000000) (ho : OffArg w A c os) :
    Calls Tryz.prog 12 #[EV e, .slice A os.length c] w fun z w' => z = .returned (RV (evalS os x)) ∧ Rel w0 w' := by
  have HR := Lib.hid hr
  have HE := Lib.hid h
  have HO := Lib.hid ho
  obtain ⟨k, n, nm, A', m, c'⟩ := e
  have HB := Lib.hid (Bk.new w 31 #[.int .i64 k, .int .i64 n, .string (B nm), .slice A' m c'])
  have HA := Lib.hid (hr.self.alloc (.cells #[.int .i64 k, .int .i64 n, .string (B nm), .slice A' m c'] 31))
  obtain ⟨W, hW⟩ : ∃ W, w.alloc (.cells #[.int .i64 k, .int .i64 n, .string (B nm), .slice A' m c'] 31) = W := ⟨_, rfl⟩
  rw [hW] at HA HB
  have hc1 := fun (w' : World) (hh : Rel w w') => rright9_any A c os w' w' (hr.self.trans hh).self (ho.rel hh)
  have hc2 := fun (w' : World) (hh : Rel w w') => rright_any x S (k, n, nm, A', m, c') w' w' (hr.self.trans hh).self (h.rel hh) hz
  obtain ⟨b1, h1⟩ : ∃ b, offsOk os = b := ⟨_, rfl⟩
  obtain ⟨b2, h2⟩ : ∃ b, rightX x = b := ⟨_, rfl⟩
  rw [h1] at hc1
  rw [h2] at hc2
  have HC1 := Lib.hid hc1
  have HC2 := Lib.hid hc2
  have H1 := Lib.hid h1
  have H2 := Lib.hid h2
  clear h ho hc1 hc2 h1 h2
  have key : b1 = false ∨ b2 = false ∨ (b1 = true ∧ b2 = true) := by cases b1 <;> cases b2 <;> simp
  have bad : b1 = false ∨ b2 = false → Hid (evalS os x = .error 1) := fun hb => Lib.hid (by
    unfold evalS; rw [H1.out, H2.out]
    rcases hb with rfl | rfl
    · rfl
    · rw [Bool.and_false]; rfl)
  rcases key with rfl | rfl | ⟨rfl, rfl⟩
  · have HF := bad (.inl rfl)
    clear bad
    go_enter Tryz.func12, Tryz.ntmps12
    rw [HF.out]
    go_wp2_with (first
      | (go_at_call 7; (with_reducible refine (HC1.out _ HA.out).mono ?_); rintro e w1 ⟨rfl, r1⟩; have R1 := Lib.hid (HA.out.trans r1); obtain ⟨⟨d0, d1, d2, d3⟩, _⟩ := (HB.out.rel r1).four)
      | (go_at_call 16; (with_reducible refine (HC2.out _ R1.out).mono ?_); rintro e w2 ⟨rfl, r2⟩; have R2 := Lib.hid (R1.out.trans r2)))
    go_ret3
    exact ⟨rfl, HR.out.trans R2.out⟩
  · have HF := bad (.inr rfl)
    clear bad
    go_enter Tryz.func12, Tryz.ntmps12
    rw [HF.out]
    cases b1
    all_goals
      go_wp2_with (first
        | (go_at_call 7; (with_reducible refine (HC1.out _ HA.out).mono ?_); rintro e w1 ⟨rfl, r1⟩; have R1 := Lib.hid (HA.out.trans r1); obtain ⟨⟨d0, d1, d2, d3⟩, _⟩ := (HB.out.rel r1).four)
        | (go_at_call 16; (with_reducible refine (HC2.out _ R1.out).mono ?_); rintro e w2 ⟨rfl, r2⟩; have R2 := Lib.hid (R1.out.trans r2)))
      go_ret3
      exact ⟨rfl, HR.out.trans R2.out⟩
  · clear bad
    have HF := Lib.hid (eval_yes H1.out H2.out)
    have HC3 := Lib.hid (fun (w' : World) (hh : Rel w w') => (rtold_all 32).1 x S (k, n, nm, A', m, c') A c os w' w' (right_fine H2.out).1 (right_fine H2.out).2 (HR.out.trans hh).self (HE.out.rel hh) H1.out (HO.out.rel hh))
    go_enter Tryz.func12, Tryz.ntmps12
    rw [HF.out]
    go_wp2_with (first
      | (go_at_call 7; (with_reducible refine (HC1.out _ HA.out).mono ?_); rintro e w1 ⟨rfl, r1⟩; have R1 := Lib.hid (HA.out.trans r1); obtain ⟨⟨d0, d1, d2, d3⟩, _⟩ := (HB.out.rel r1).four)
      | (go_at_call 16; (with_reducible refine (HC2.out _ R1.out).mono ?_); rintro e w2 ⟨rfl, r2⟩; have R2 := Lib.hid (R1.out.trans r2); obtain ⟨⟨e0, e1, e2, e3⟩, _⟩ := ((HB.out.rel r1).rel r2).four)
      | (go_at_call 28; (with_reducible refine (HC3.out _ R2.out).mono ?_); rintro e w3 ⟨rfl, r3⟩; have R3 := Lib.hid (R2.out.trans r3)))
    go_ret3
    exact ⟨rfl, HR.out.trans R3.out⟩
theorem lw_at (S : Nat → Prop) (w : World) : ExAt S w (1, 0, [], none, 0, 0) exLw := ExAt.leaf S w 1 0 [] none 0 ⟨by decide, by decide⟩ ⟨by decide, by decide⟩ (Nat.zero_le _)
set_option maxRecDepth 100000 in
set_option maxHeartbeats 4000000 in
theorem rcond9_any (x : Ex) (S : Nat → Prop) (e : El) (A : Option Addr) (c : Nat) (os : List Of) (w0 w : World) (hr : Rel w0 w) (h : ExAt S w e x) (hz : size x ≤ 900000) (ho : OffArg w A c os) :
    Calls Tryz.prog 14 #[EV e, .slice A os.length c] w fun z w' => z = .returned (CV (condS os x)) ∧ Rel w0 w' := by
  have HR := Lib.hid hr
  have HE := Lib.hid h
  have HO := Lib.hid ho
  obtain ⟨k, n, nm, A', m, c'⟩ := e
  have HB := Lib.hid ((Bk.new w 31 #[.int .i64 k, .int .i64 n, .string (B nm), .slice A' m c']).alloc (.cells #[.int .i64 1, .int .i64 0, .string ⟨#[]⟩, .slice none 0 0] 31))
  have HL := Lib.hid (Bk.snd w #[.int .i64 k, .int .i64 n, .string (B nm), .slice A' m c'] #[.int .i64 1, .int .i64 0, .string ⟨#[]⟩, .slice none 0 0] 31 31)
  have HA := Lib.hid ((hr.self.alloc (.cells #[.int .i64 k, .int .i64 n, .string (B nm), .slice A' m c'] 31)).alloc (.cells #[.int .i64 1, .int .i64 0, .string ⟨#[]⟩, .slice none 0 0] 31))
  obtain ⟨W, hW⟩ : ∃ W, (w.alloc (.cells #[.int .i64 k, .int .i64 n, .string (B nm), .slice A' m c'] 31)).alloc (.cells #[.int .i64 1, .int .i64 0, .string ⟨#[]⟩, .slice none 0 0] 31) = W := ⟨_, rfl⟩
  rw [hW] at HA HB HL
  have HW := Lib.hid hW
  clear hW
  have hc1 := fun (w' : World) (hh : Rel w w') => rright9_any A c os w' w' (hr.self.trans hh).self (ho.rel hh)
  have hc2 : ∀ (w1 : World) (hh : Rel w w1), Calls Tryz.prog 16 #[.agg #[.int .i64 10, .int .i64 0, .string ⟨#[]⟩, .slice (some ⟨w1.heap.size, 0, none⟩) 3 3]] (w1.alloc (.cells #[.int .i64 k, .int .i64 n, .string (B nm), .slice A' m c', .int .i64 1, .int .i64 0, .string ⟨#[]⟩, .slice none 0 0, .int .i64 1, .int .i64 0, .string ⟨#[]⟩, .slice none 0 0] 31)) fun z w' => z = .returned (.bool (rightX (ifX x))) ∧ Rel w1 w' := fun w1 hh => by
    have r1 := (hr.trans hh).self
    have ra := r1.alloc (.cells #[.int .i64 k, .int .i64 n, .string (B nm), .slice A' m c', .int .i64 1, .int .i64 0, .string ⟨#[]⟩, .slice none 0 0, .int .i64 1, .int .i64 0, .string ⟨#[]⟩, .slice none 0 0] 31)
    have hb := Bk.new w1 31 #[.int .i64 k, .int .i64 n, .string (B nm), .slice A' m c', .int .i64 1, .int .i64 0, .string ⟨#[]⟩, .slice none 0 0, .int .i64 1, .int .i64 0, .string ⟨#[]⟩, .slice none 0 0]
    have ha := ExAt.three (S := fun _ => True) (a := (k, n, nm, A', m, c')) (b := (1, 0, [], none, 0, 0)) (d := (1, 0, [], none, 0, 0)) (k := 10) (n := 0) (nm := []) (c := 3) (ok64 (by decide) (by decide)) (ok64 (by decide) (by decide)) (Nat.zero_le _) hb trivial ((h.rel (hh.trans ra)).weak (fun _ _ => trivial)) (lw_at _ _) (lw_at _ _)
    exact rright_any (ifX x) _ (10, 0, [], some ⟨w1.heap.size, 0, none⟩, 3, 3) w1 _ ra ha (by rw [ifX_size]; omega)
  obtain ⟨b1, h1⟩ : ∃ b, offsOk os = b := ⟨_, rfl⟩
  obtain ⟨b2, h2⟩ : ∃ b, rightX (ifX x) = b := ⟨_, rfl⟩
  rw [h1] at hc1
  rw [h2] at hc2
  have HC1 := Lib.hid hc1
  have HC2 := Lib.hid hc2
  have H1 := Lib.hid h1
  have H2 := Lib.hid h2
  clear h ho hc1 hc2 h1 h2
  have key : b1 = false ∨ b2 = false ∨ (b1 = true ∧ b2 = true) := by cases b1 <;> cases b2 <;> simp
  have bad : b1 = false ∨ b2 = false → Hid (condS os x = .error 1) := fun hb => Lib.hid (by
    unfold condS; rw [H1.out, H2.out]
    rcases hb with rfl | rfl
    · rfl
    · rw [Bool.and_false]; rfl)
  rcases key with rfl | rfl | ⟨rfl, rfl⟩
  · have HF := bad (.inl rfl)
    clear bad
    go_enter Tryz.func14, Tryz.ntmps14
    rw [HF.out]
    go_upto_region 2 with (fail)
    rw [HW.out]
    go_wp2_with (first
      | (go_at_call 7; (with_reducible refine (HC1.out _ HA.out).mono ?_); rintro e w1 ⟨rfl, r1⟩; have R1 := Lib.hid (HA.out.trans r1); obtain ⟨⟨d0, d1, d2, d3⟩, _⟩ := (HB.out.rel r1).four; obtain ⟨⟨l0, l1, l2, l3⟩, _⟩ := (HL.out.rel r1).four)
      | (go_at_call 16; (with_reducible refine (HC2.out _ R1.out).mono ?_); rintro e w2 ⟨rfl, r2⟩; have R2 := Lib.hid (R1.out.trans r2)))
    go_ret2
    exact ⟨rfl, HR.out.trans R2.out⟩
  · have HF := bad (.inr rfl)
    clear bad
    go_enter Tryz.func14, Tryz.ntmps14
    rw [HF.out]
    go_upto_region 2 with (fail)
    rw [HW.out]
    cases b1
    all_goals
      go_wp2_with (first
        | (go_at_call 7; (with_reducible refine (HC1.out _ HA.out).mono ?_); rintro e w1 ⟨rfl, r1⟩; have R1 := Lib.hid (HA.out.trans r1); obtain ⟨⟨d0, d1, d2, d3⟩, _⟩ := (HB.out.rel r1).four; obtain ⟨⟨l0, l1, l2, l3⟩, _⟩ := (HL.out.rel r1).four)
        | (go_at_call 16; (with_reducible refine (HC2.out _ R1.out).mono ?_); rintro e w2 ⟨rfl, r2⟩; have R2 := Lib.hid (R1.out.trans r2)))
      go_ret2
      exact ⟨rfl, HR.out.trans R2.out⟩
  · clear bad
    have HF := Lib.hid (show condS os x = condN os 32 x by unfold condS; rw [H1.out, H2.out]; rfl)
    have HC3 := Lib.hid (fun (w' : World) (hh : Rel w w') => (rtold_all 32).2 x S (k, n, nm, A', m, c') A c os w' w' (ifX_fine H2.out).1 (ifX_fine H2.out).2 (HR.out.trans hh).self (HE.out.rel hh) H1.out (HO.out.rel hh))
    go_enter Tryz.func14, Tryz.ntmps14
    rw [HF.out]
    go_upto_region 2 with (fail)
    rw [HW.out]
    go_wp2_with (first
      | (go_at_call 7; (with_reducible refine (HC1.out _ HA.out).mono ?_); rintro e w1 ⟨rfl, r1⟩; have R1 := Lib.hid (HA.out.trans r1); obtain ⟨⟨d0, d1, d2, d3⟩, _⟩ := (HB.out.rel r1).four; obtain ⟨⟨l0, l1, l2, l3⟩, _⟩ := (HL.out.rel r1).four)
      | (go_at_call 16; (with_reducible refine (HC2.out _ R1.out).mono ?_); rintro e w2 ⟨rfl, r2⟩; have R2 := Lib.hid (R1.out.trans r2); obtain ⟨⟨e0, e1, e2, e3⟩, _⟩ := ((HB.out.rel r1).rel r2).four)
      | (go_at_call 33; (with_reducible refine (HC3.out _ R2.out).mono ?_); rintro e w3 ⟨rfl, r3⟩; have R3 := Lib.hid (R2.out.trans r3)))
    go_ret2
    exact ⟨rfl, HR.out.trans R3.out⟩
end Go.Proofs.YtpehlldgnbajjaaGreatDoor

namespace Go.Proofs.YtpehlldgnbajjaaGreatDoor
open Go.RowKit Go.Lib
set_option linter.unusedVariables false
set_option linter.unusedSimpArgs false

def VRightOk : Prop := ∀ (A : Option Addr) (c : Nat) (os : List Of) (w0 w : World), Rel w0 w → OffArg w A c os → Calls Tryz.prog 6 #[.slice A os.length c] w fun z w' => z = .returned (.bool (offsOk os)) ∧ Rel w0 w'
def EvalOk : Prop := ∀ (x : Ex) (S : Nat → Prop) (e : El) (A : Option Addr) (c : Nat) (os : List Of) (w0 w : World), Rel w0 w → ExAt S w e x → size x ≤ 90000 → OffArg w A c os →
    Calls Tryz.prog 11 #[EV e, .slice A os.length c] w fun z w' => z = .returned (RV (evalS os x)) ∧ Rel w0 w'
def CondOk : Prop := ∀ (x : Ex) (S : Nat → Prop) (e : El) (A : Option Addr) (c : Nat) (os : List Of) (w0 w : World), Rel w0 w → ExAt S w e x → size x ≤ 90000 → OffArg w A c os →
    Calls Tryz.prog 13 #[EV e, .slice A os.length c] w fun z w' => z = .returned (CV (condS os x)) ∧ Rel w0 w'
/-- What the program is shown to tell. -/
def ValueOk : Prop := VRightOk ∧ EvalOk ∧ CondOk
/-- A call of Eval, what it tells spelled. -/
theorem eval_as (H : ValueOk) (x : Ex) (os : List Of) (v : Int) (b : Bool) (er : Int) (hv : Hid (RV (evalS os x) = .tuple #[.int .i64 v, .bool b, .int .i64 er])) (S : Nat → Prop) (e : El) (A : Option Addr) (c : Nat) (w0 w : World) (hr : Rel w0 w) (h : ExAt S w e x) (hz : size x ≤ 90000) (ho : OffArg w A c os) (ev ov : Value) (he : Hid (EV e = ev)) (hov : Hid (Value.slice A os.length c = ov)) :
    Calls Tryz.prog 11 #[ev, ov] w fun z w' => z = .returned (.tuple #[.int .i64 v, .bool b, .int .i64 er]) ∧ Rel w0 w' := by
  rw [← he.out, ← hov.out, ← hv.out]; exact H.2.1 x S e A c os w0 w hr h hz ho
theorem cond9_as (H : ValueOk) (x : Ex) (os : List Of) (b : Bool) (er : Int) (hv : Hid (CV (condS os x) = .tuple #[.bool b, .int .i64 er])) (S : Nat → Prop) (e : El) (A : Option Addr) (c : Nat) (w0 w : World) (hr : Rel w0 w) (h : ExAt S w e x) (hz : size x ≤ 90000) (ho : OffArg w A c os) (ev ov : Value) (he : Hid (EV e = ev)) (hov : Hid (Value.slice A os.length c = ov)) :
    Calls Tryz.prog 13 #[ev, ov] w fun z w' => z = .returned (.tuple #[.bool b, .int .i64 er]) ∧ Rel w0 w' := by
  rw [← he.out, ← hov.out, ← hv.out]; exact H.2.2 x S e A c os w0 w hr h hz ho
theorem vright_as (H : ValueOk) (os : List Of) (b : Bool) (hv : Hid (offsOk os = b)) (A : Option Addr) (c : Nat) (w0 w : World) (hr : Rel w0 w) (ho : OffArg w A c os) (ov : Value) (hov : Hid (Value.slice A os.length c = ov)) :
    Calls Tryz.prog 6 #[ov] w fun z w' => z = .returned (.bool b) ∧ Rel w0 w' := by
  rw [← hov.out, ← hv.out]; exact H.1 A c os w0 w hr ho
def ofAB : List Of := [([97], 700), ([98], 500)]
def ofA0 : List Of := [([97], 0)]
theorem ab_ok : offsOk ofAB = true := by decide
theorem a0_no : offsOk ofA0 = false := by decide
theorem aw_eval1 : evalS [] exX = .ok (some 999) := by
  rw [eval_yes offsOk_nil exX_right]
  unfold exX
  rw [told_else, told_less5, told_one _ _ _ rfl, told_fix _ _ _ rfl]
  rfl
theorem aw_eval2 : evalS ofAB exX = .ok (some 499) := by
  rw [eval_yes ab_ok exX_right]
  unfold exX
  rw [told_else, told_less5, told_one _ _ _ rfl, show rk ofAB 0 = some 500 from by decide]
  simp only
  rw [sub_price (by omega) (by omega) (by omega) (by omega)]
  rfl
theorem aw_eval3 : evalS [] exLow = .ok none := eval_low offsOk_nil
theorem aw_cond : condS ofAB (.mk 11 1 [] []) = .ok true := by
  have := cond_ok (l := ofAB) (n := 1) ab_ok (by omega) (by omega)
  unfold more at this
  rw [this]; rfl
theorem fit_small {os : List Of} (h : ∀ o ∈ os, o.1.length ≤ 100 ∧ 0 ≤ o.2 ∧ o.2 ≤ 1000) : OffsFit os := fun o ho => by
  have := h o ho
  exact ⟨by omega, by omega, by omega⟩
theorem ab_fit : OffsFit ofAB := fit_small (by decide)
theorem a0_fit : OffsFit ofA0 := fit_small (by decide)
/-- Offers in a block that was just made. -/
theorem new_arg (w : World) (os : List Of) (c : Nat) (hc : os.length ≤ c) (hm : c ≤ maxLen) (hf : OffsFit os) (cs : Array Value) (hcs : (cellsO os).toArray = cs) : OffArg (w.alloc (.cells cs 44)) (some ⟨w.heap.size, 0, none⟩) c os := by
  subst hcs
  exact ⟨hc, hm, hf, OffsAt.of_bk (Bk.new w _ _)⟩
set_option maxRecDepth 100000 in
set_option maxHeartbeats 8000000 in
theorem awake9_any (H : ValueOk) (w0 w : World) (hr : Rel w0 w) :
    Calls Tryz.prog 5 #[] w fun e w' => e = .returned (.bool true) ∧ Rel w0 w' := by
  have H := Lib.hid H
  have HR := Lib.hid hr
  obtain ⟨W, hW, hb0, hb3, hx, hlow⟩ := awake_world w
  have hA : Rel w W := by rw [hW]; exact (((hr.self.alloc _).alloc _).alloc _).alloc _
  have HA := Lib.hid hA
  have HB0 := Lib.hid hb0
  have HB3 := Lib.hid hb3
  have HX := Lib.hid hx
  have HL := Lib.hid hlow
  obtain ⟨⟨c0, c1, c2, c3⟩, _⟩ := hb3.four
  have Z1 : size exX ≤ 90000 := by rw [exX_size]; omega
  have Z2 : size exLow ≤ 90000 := by unfold exLow; rw [size_mk, sizes_nil]; omega
  have Z3 : size (.mk 11 1 [] []) ≤ 90000 := by rw [size_mk, sizes_nil]; omega
  have Q1 : Hid (RV (evalS [] exX) = .tuple #[.int .i64 999, .bool true, .int .i64 0]) := Lib.hid (by rw [aw_eval1]; rfl)
  have Q2 : Hid (RV (evalS ofAB exX) = .tuple #[.int .i64 499, .bool true, .int .i64 0]) := Lib.hid (by rw [aw_eval2]; rfl)
  have Q3 : Hid (RV (evalS [] exLow) = .tuple #[.int .i64 0, .bool false, .int .i64 0]) := Lib.hid (by rw [aw_eval3]; rfl)
  have Q4 : Hid (CV (condS ofAB (.mk 11 1 [] [])) = .tuple #[.bool true, .int .i64 0]) := Lib.hid (by rw [aw_cond]; rfl)
  have Q5 : Hid (offsOk ofA0 = false) := Lib.hid a0_no
  have V9 : Hid (EV (9, 0, [], some ⟨w.heap.size + 2, 0, none⟩, 2, 2) = .agg #[.int .i64 9, .int .i64 0, .string ⟨#[]⟩, .slice (some ⟨w.heap.size + 2, 0, none⟩) 2 2]) := Lib.hid rfl
  have V1 : Hid (EV (1, 0, [], none, 0, 0) = .agg #[.int .i64 1, .int .i64 0, .string ⟨#[]⟩, .slice none 0 0]) := Lib.hid rfl
  have V11 : Hid (EV (11, 1, [], none, 0, 0) = .agg #[.int .i64 11, .int .i64 1, .string ⟨#[]⟩, .slice none 0 0]) := Lib.hid rfl
  have O0 : Hid (Value.slice none ([] : List Of).length 0 = .slice none 0 0) := Lib.hid rfl
  have NA : Hid (∀ w1 : World, OffArg (w1.alloc (.cells #[.string ⟨#[97]⟩, .int .i64 700, .string ⟨#[98]⟩, .int .i64 500] 44)) (some ⟨w1.heap.size, 0, none⟩) 2 ofAB) := Lib.hid (fun w1 => new_arg w1 ofAB 2 (by decide) (by decide) ab_fit _ rfl)
  have N0 : Hid (∀ w1 : World, OffArg (w1.alloc (.cells #[.string ⟨#[97]⟩, .int .i64 0] 44)) (some ⟨w1.heap.size, 0, none⟩) 1 ofA0) := Lib.hid (fun w1 => new_arg w1 ofA0 1 (by decide) (by decide) a0_fit _ rfl)
  have OA : Hid (∀ g : Nat, Value.slice (some ⟨g, 0, none⟩) ofAB.length 2 = .slice (some ⟨g, 0, none⟩) 2 2) := Lib.hid (fun _ => rfl)
  have O1 : Hid (∀ g : Nat, Value.slice (some ⟨g, 0, none⟩) ofA0.length 1 = .slice (some ⟨g, 0, none⟩) 1 1) := Lib.hid (fun _ => rfl)
  have LF : Hid (∀ w1 : World, ExAt (fun _ => True) w1 (11, 1, [], none, 0, 0) (.mk 11 1 [] [])) := Lib.hid (fun w1 => ExAt.leaf _ _ 11 1 [] none 0 ⟨by decide, by decide⟩ ⟨by decide, by decide⟩ (Nat.zero_le _))
  have HW := Lib.hid hW
  clear hW hA hb0 hb3 hx hlow
  go_enter Tryz.func5, Tryz.ntmps5
  go_upto_region 3 with (fail)
  simp only [Nat.add_assoc, Nat.reduceAdd]
  rw [← HW.out]
  have HRW := Lib.hid (HR.out.trans HA.out)
  go_wp2_with (first
    | (go_at_call 11; (with_reducible refine (eval_as H.out exX [] 999 true 0 Q1 (fun _ => True) (9, 0, [], some ⟨w.heap.size + 2, 0, none⟩, 2, 2) none 0 _ _ HRW.out.self HX.out Z1 (offArg_nil _) _ _ V9 O0).mono ?_); rintro e w1 ⟨rfl, h1⟩; have R1 := Lib.hid h1; obtain ⟨⟨d0, d1, d2, d3⟩, _⟩ := (HB3.out.rel h1).four)
    | (go_at_call 11; (with_reducible refine (eval_as H.out exX ofAB 499 true 0 Q2 (fun _ => True) (9, 0, [], some ⟨w.heap.size + 2, 0, none⟩, 2, 2) (some ⟨w1.heap.size, 0, none⟩) 2 _ _ (R1.out.self.alloc _).self (HX.out.rel (R1.out.alloc _)) Z1 (NA.out w1) _ _ V9 (Lib.hid (OA.out _))).mono ?_); rintro e w2 ⟨rfl, h2⟩; have R2 := Lib.hid ((R1.out.alloc _).trans h2); obtain ⟨⟨e0, e1, e2, e3⟩, _⟩ := (HB0.out.rel R2.out).four)
    | (go_at_call 11; (with_reducible refine (eval_as H.out exLow [] 0 false 0 Q3 (fun _ => True) (1, 0, [], none, 0, 0) none 0 _ _ R2.out.self (HL.out.rel R2.out) Z2 (offArg_nil _) _ _ V1 O0).mono ?_); rintro e w3 ⟨rfl, h3⟩; have R3 := Lib.hid (R2.out.trans h3))
    | (go_at_call 13; (with_reducible refine (cond9_as H.out (.mk 11 1 [] []) ofAB true 0 Q4 (fun _ => True) (11, 1, [], none, 0, 0) (some ⟨w3.heap.size, 0, none⟩) 2 _ _ (R3.out.self.alloc _).self (LF.out _) Z3 (NA.out w3) _ _ V11 (Lib.hid (OA.out _))).mono ?_); rintro e w4 ⟨rfl, h4⟩; have R4 := Lib.hid ((R3.out.alloc _).trans h4))
    | (go_at_call 6; (with_reducible refine (vright_as H.out ofA0 false Q5 (some ⟨w4.heap.size, 0, none⟩) 1 _ _ (R4.out.self.alloc _).self (N0.out w4) _ (Lib.hid (O1.out _))).mono ?_); rintro e w5 ⟨rfl, h5⟩; have R5 := Lib.hid ((R4.out.alloc _).trans h5)))
  go_ret
  exact ⟨rfl, HRW.out.trans R5.out⟩
end Go.Proofs.YtpehlldgnbajjaaGreatDoor

namespace Go.Proofs.YtpehlldgnbajjaaGreatDoor
open Go.RowKit Go.Lib
set_option linter.unusedVariables false
set_option linter.unusedSimpArgs false

theorem OffOwn.row9 {w : World} {base : Nat} {v : Value} {os : List Of} (h : OffOwn w base v os) : w.ownsRow base 44 2 v os.length (cellsO os) := h
theorem Rel.right3 {w w' : World} (h : Rel w w') : Rel w' w' := h.self
theorem OffOwn.arg {w : World} {base : Nat} {A : Option Addr} {c : Nat} {os : List Of} (h : OffOwn w base (.slice A os.length c) os) (hf : OffsFit os) : OffArg w A c os := by
  refine ⟨?_, ?_, hf, h.offs rfl⟩
  · rcases h.2 with ⟨h0, h1⟩ | ⟨g, cap, cur, hv, _, _, hc, _⟩
    · omega
    · injection hv with _ _ hv; omega
  · rcases h.2 with ⟨h0, h1⟩ | ⟨g, cap, cur, hv, _, _, _, hm, _⟩
    · injection h0 with _ _ h0; subst h0; exact Nat.zero_le _
    · injection hv with _ _ hv; omega
theorem add9_next (a : Addr) (n : Nat) : a.add (n + 1) = ⟨(a.add n).block, (a.add n).off + 1, none⟩ := by
  unfold Addr.add
  by_cases h : n = 0
  · subst h; simp
  · simp [h]; omega
theorem PairsIn.rel9 {w w' : World} {A : Option Addr} {n : Nat} {zs : List (Int × Int)} (h : PairsIn w A n zs) (hr : Rel w w') : PairsIn w' A n zs := ⟨h.1, h.2.1, h.2.2.1, h.2.2.2.rel hr⟩
theorem pairs9_at {w : World} {A : Option Addr} {n : Nat} {zs : List (Int × Int)} (h : PairsIn w A n zs) {w' : World} (hr : Rel w w') (j : Nat) (hj : j < zs.length) :
    ∃ (a : Addr) (x y : Int), A = some a ∧ w'.cell? (a.add (j * 2)) = some (.int .i64 x) ∧ w'.cell? ⟨(a.add (j * 2)).block, (a.add (j * 2)).off + 1, none⟩ = some (.int .i64 y) ∧ zs[j] = (x, y) ∧ i64 x ∧ i64 y := by
  obtain ⟨_, _, hb, hp⟩ := h
  obtain ⟨a, e, hl, c0, c1⟩ := (hp.rel hr) j hj
  have := hb zs[j] (List.getElem_mem hj)
  rw [add9_next] at c1
  exact ⟨a, zs[j].1, zs[j].2, e, c0, c1, rfl, this.1, this.2⟩
theorem offersL_step {zs : List (Int × Int)} {j : Nat} (hj : j < zs.length) {x y : Int} (hz : zs[j] = (x, y)) {out : List Of} (hl : out.length < 8) (b : Bool) (hb : hasS out (sellerL (pk x 60)) = b) :
    offersL (zs.drop j) out = offersL (zs.drop (j + 1)) (if b then out else out ++ [(sellerL (pk x 60), 1 + pk y 3000)]) := by
  rw [List.drop_eq_getElem_cons hj, hz, offersL, if_pos hl]
  show (if hasS out (sellerL (pk x 60)) then _ else _) = _
  rw [hb]
  cases b <;> rfl
theorem offersL_full {zs : List (Int × Int)} {out : List Of} (h : ¬ out.length < 8) : offersL zs out = out := by
  cases zs with
  | nil => rfl
  | cons z t => rw [offersL, if_neg h]
def hasTo (out : List Of) (s : List UInt8) (k : Nat) : Bool := (out.take k).any fun o => decide (o.1 = s)
theorem hasTo_step {out : List Of} {s : List UInt8} {k : Nat} (hk : k < out.length) : hasTo out s (k + 1) = (hasTo out s k || decide (out[k].1 = s)) := by
  unfold hasTo
  rw [List.take_succ_eq_append_getElem hk, List.any_append]; simp
theorem hasTo_full (out : List Of) (s : List UInt8) : hasTo out s out.length = hasS out s := by unfold hasTo hasS; rw [List.take_length]
def Names (out : List Of) : Prop := ∀ o ∈ out, o.1.length ≤ 12 ∧ 1 ≤ o.2 ∧ o.2 ≤ 3000
theorem names_fit {out : List Of} (h : Names out) : OffsFit out := fun o ho => by
  have := h o ho
  exact ⟨by omega, by omega, by omega⟩
theorem names_snoc {out : List Of} (h : Names out) {s : List UInt8} {p : Int} (hs : s.length ≤ 12) (h1 : 1 ≤ p) (h2 : p ≤ 3000) : Names (out ++ [(s, p)]) := fun o ho => by
  rcases List.mem_append.1 ho with ho | ho
  · exact h o ho
  · obtain rfl : o = (s, p) := by simpa using ho
    exact ⟨hs, h1, h2⟩
theorem pk9_as (c n y : Int) (h : Hid (pk c n = y)) (hc : -9223372036854775808 ≤ c) (hc' : c ≤ 9223372036854775807) (hn : 0 < n) (hn' : n ≤ 9223372036854775807) (w : World) :
    Calls Tryz.prog 15 #[.int .i64 c, .int .i64 n] w fun e w' => e = .returned (.int .i64 y) ∧ w = w' := by
  rw [← h.out]
  by_cases h : c < 0
  all_goals
    go_enter Tryz.func15, Tryz.ntmps15
    go_wp2
    all_goals
      go_ret
      exact ⟨ret_int (by unfold pk; split <;> first | rfl | omega), rfl⟩
set_option maxRecDepth 100000 in
set_option maxHeartbeats 8000000 in
theorem offers_any (A : Option Addr) (c : Nat) (zs : List (Int × Int)) (w0 w : World) (hr : Rel w0 w) (hz : PairsIn w A zs.length zs) :
    Calls Tryz.prog 8 #[.slice A zs.length c] w fun e w' => ∃ A2 c2, e = .returned (.slice A2 (offS zs).length c2) ∧ OffOwn w' w.heap.size (.slice A2 (offS zs).length c2) (offS zs) ∧ Rel w0 w' := by
  have HR := Lib.hid hr
  have HS := Lib.hid hr.self
  have HZ := Lib.hid hz
  have hzl : zs.length ≤ 9223372036854775807 := hz.2.1
  obtain ⟨i0, hi0, hz0, hz1, hz2⟩ := info_parts off_info
  clear hz hr
  go_enter Tryz.func8, Tryz.ntmps8
  go_upto_block 0 with (fail)
  go_cut [3] (fun v wx => ∃ A2 c2, v = .slice A2 (offS zs).length c2 ∧ OffOwn wx w.heap.size v (offS zs) ∧ Rel w wx)
  case first =>
    go_wp2_with (fail)
    go_loopw [3, 4] (fun v i wr => ∃ (j : Nat) (A2 : Option Addr) (c2 : Nat) (out : List Of), j ≤ zs.length ∧ out.length ≤ 8 ∧ i = .int .i64 (j : Int) ∧ v = .slice A2 out.length c2 ∧ OffOwn wr w.heap.size (.slice A2 out.length c2) out ∧ Hid (offersL (zs.drop j) out = offS zs) ∧ Hid (Names out) ∧ Rel w wr) (fun _ i _ => zs.length - (RowKit.intOf i).toNat)
    case atStart => exact ⟨0, none, 0, [], by omega, by simp, rfl, rfl, OffOwn.nil _ _, Lib.hid rfl, Lib.hid (fun o h => by cases h), HS.out⟩
    case round =>
      obtain ⟨j, A2, c2, out, hj, ho8, rfl, rfl, hO, HN, HF, hRw⟩ := hrel
      have HRw := Lib.hid hRw
      have HO := Lib.hid hO
      clear hO
      by_cases hlt : j < zs.length
      · by_cases h8 : out.length < 8
        · obtain ⟨a, x, y, rfl, c0, c1, hxy, hx, hy⟩ := pairs9_at HZ.out hRw j hlt
          have HXY := Lib.hid hxy
          have hsl : (sellerL (pk x 60)).length ≤ 12 := (name_parts (seller_name (pk x 60) (pk_bd x 60 (by omega)).1 (pk_bd x 60 (by omega)).2)).2.2.1
          have hSe := fun (w0 w : World) (hr : Rel w0 w) => seller_any x hx.1 hx.2 w0 w hr
          obtain ⟨s, hs⟩ : ∃ s, sellerL (pk x 60) = s := ⟨_, rfl⟩
          rw [hs] at hSe hsl
          obtain ⟨X, hX⟩ : ∃ X, B s = X := ⟨_, rfl⟩
          rw [hX] at hSe
          have HSe := Lib.hid hSe
          have HSs := Lib.hid hs
          have HX := Lib.hid hX
          clear hxy hSe hs hX
          go_upto_region 6 with (go_at_call 20; (with_reducible refine (HSe.out _ _ HRw.out.self).mono ?_); rintro e w1 ⟨rfl, r1⟩)
          have HR1 := Lib.hid r1
          have HRt := Lib.hid (HRw.out.trans r1)
          have HO1 := Lib.hid (HO.out.rel r1)
          have d1 := (r1.2.cell (p := ⟨(a.add (j * 2)).block, (a.add (j * 2)).off + 1, none⟩) (blk_of_cell c1)).trans c1
          clear c0 c1 r1 hRw
          go_wp2_with (fail)
          go_loopw [6, 7] (fun hv k wr => ∃ (q : Nat) (b : Bool), q ≤ out.length ∧ k = .int .i64 (q : Int) ∧ hv = .bool b ∧ Hid (hasTo out s q = b) ∧ Rel w1 wr) (fun _ k _ => out.length - (RowKit.intOf k).toNat)
          case atStart => exact ⟨0, false, by omega, rfl, rfl, Lib.hid rfl, HR1.out.right3⟩
          case round =>
            obtain ⟨q, b, hq, rfl, rfl, HQ, hRi⟩ := hrel
            have HRi := Lib.hid hRi
            by_cases hlt2 : q < out.length
            · have hqi : (q : Int) < (out.length : Int) := by omega
              cases b with
              | true =>
                have HX2 := Lib.hid (show hasTo out s (q + 1) = true by rw [hasTo_step hlt2, HQ.out]; rfl)
                clear hRi
                go_wp2_with (fail)
                go_roundw
                case rel => exact ⟨q + 1, true, by omega, by go_num, rfl, HX2, HRi.out⟩
                case measure => simp [RowKit.intOf]; omega
              | false =>
                obtain ⟨g, off, s', p', rfl, e0, e1, ho2⟩ := offs_at (HO1.out.offs rfl) hRi q hlt2
                obtain ⟨Y, hY⟩ : ∃ Y, B s' = Y := ⟨_, rfl⟩
                rw [hY] at e0
                have HY := Lib.hid hY
                have HO2 := Lib.hid ho2
                clear hY ho2 e1 hRi
                by_cases he : Y = X
                · have k1 := list_of.2 he
                  have HX2 := Lib.hid (show hasTo out s (q + 1) = true by
                    rw [hasTo_step hlt2, HQ.out, HO2.out]
                    have : s' = s := by rw [← B_list s', ← B_list s, HY.out, HX.out, he]
                    simp [this])
                  clear he
                  go_wp2_with (fail)
                  go_roundw
                  case rel => exact ⟨q + 1, true, by omega, by go_num, rfl, HX2, HRi.out⟩
                  case measure => simp [RowKit.intOf]; omega
                · have k1 := list_ne he
                  have HX2 := Lib.hid (show hasTo out s (q + 1) = false by
                    rw [hasTo_step hlt2, HQ.out, HO2.out]
                    have : ¬ s' = s := fun e => by subst e; exact he (HY.out.symm.trans HX.out)
                    simp [this])
                  clear he
                  go_wp2_with (fail)
                  go_roundw
                  case rel => exact ⟨q + 1, false, by omega, by go_num, rfl, HX2, HRi.out⟩
                  case measure => simp [RowKit.intOf]; omega
            · obtain rfl : q = out.length := by omega
              have HO3 := Lib.hid (HO1.out.rel hRi)
              have HSt := Lib.hid (offersL_step hlt HXY.out h8 b (by rw [HSs.out, ← hasTo_full]; exact HQ.out))
              have f1 := (hRi.2.cell (p := ⟨(a.add (j * 2)).block, (a.add (j * 2)).off + 1, none⟩) (blk_of_cell d1)).trans d1
              have HRf := Lib.hid (HRt.out.trans hRi)
              clear hRi d1
              cases b with
              | true =>
                have HN2 := Lib.hid (show offersL (zs.drop (j + 1)) out = offS zs by rw [← HN.out, HSt.out]; rfl)
                go_wp2_with (fail)
                go_roundw
                case rel => exact ⟨j + 1, A2, c2, out, by omega, ho8, by go_num, rfl, HO3.out, HN2, HF, HRf.out⟩
                case measure => simp [RowKit.intOf]; omega
              | false =>
                have hp0 := pk_bd y 3000 (by omega)
                obtain ⟨P, hP⟩ : ∃ P, pk y 3000 = P := ⟨_, rfl⟩
                rw [hP] at hp0
                have HP := Lib.hid hP
                have HN2 := Lib.hid (show offersL (zs.drop (j + 1)) (out ++ [(s, 1 + P)]) = offS zs by rw [← HN.out, HSt.out, HSs.out, hP]; rfl)
                have HF2 := Lib.hid (names_snoc HF.out hsl (show 1 ≤ 1 + P by omega) (by omega))
                have HLn := Lib.hid (show (out ++ [(s, 1 + P)]).length = out.length + 1 by simp)
                obtain ⟨hP0, hP1⟩ := hp0
                have y0 := hy.1
                have y1 := hy.2
                clear hP
                have hsz := HRf.out.size
                rw [← HX.out] at *
                go_wp2_with (first
                  | (go_at_call 15; (with_reducible refine (pk9_as y 3000 P HP y0 y1 (by omega) (by omega) _).mono ?_); rintro e w2 ⟨rfl, rfl⟩)
                  | (at_builtin; (refine wpList_append_lies _ rfl _ _ 24 rfl w.heap.size 44 i0 (.agg #[.string ⟨#[]⟩, .int .i64 0]) 2 24 Tryz.underlying24 hi0 hz0 hz1 hz2 rfl (by decide) _ out.length (cellsO out) rfl (HO3.out.row9.alloc _) ⟨wr.heap.size, 0, none⟩ 1 1 (cells2 (s, 1 + P)) rfl rfl (World.news_of_block (Bk.new wr 44 #[.string (B s), .int .i64 (1 + P)])) (cells2_one _) (by decide) (by unfold maxLen; omega) (by omega) (by simp; omega) _ rfl ?_); intro g cap w1 hown1 hgrow hat hlt1))
                have hE5 := OffOwn.more (o := (s, 1 + P)) hown1
                have hR6 : Rel w w1 := (HRf.out.alloc _).grown hgrow (fun k hk => (HO3.out.row9.lt k hk).1)
                go_roundw
                case rel => exact ⟨j + 1, some ⟨g, 0, none⟩, cap, out ++ [(s, 1 + P)], by omega, by rw [HLn.out]; omega, by go_num, by rw [HLn.out], by rw [HLn.out]; exact hE5, HN2, HF2, hR6⟩
                case measure => simp [RowKit.intOf]; omega
        · have HE := Lib.hid (show out = offS zs by rw [← HN.out, offersL_full h8])
          have h8i : ¬ (out.length : Int) < 8 := by omega
          go_wp2_with (fail)
          go_meet
          exact ⟨A2, c2, by rw [← HE.out], by rw [← HE.out]; exact HO.out, HRw.out⟩
      · obtain rfl : j = zs.length := by omega
        have HE := Lib.hid (show out = offS zs by have := HN.out; rw [List.drop_length] at this; exact this)
        go_wp2_with (fail)
        all_goals
          go_meet
          exact ⟨A2, c2, by rw [← HE.out], by rw [← HE.out]; exact HO.out, HRw.out⟩
  obtain ⟨A2, c2, rfl, hO, hRL⟩ := hcut
  go_wp2_with (fail)
  go_ret
  exact ⟨A2, c2, rfl, hO, HR.out.trans hRL⟩
end Go.Proofs.YtpehlldgnbajjaaGreatDoor
