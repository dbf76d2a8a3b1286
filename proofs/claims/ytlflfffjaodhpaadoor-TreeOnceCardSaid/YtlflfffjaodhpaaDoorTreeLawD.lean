/- TreeOnce, over what the program is asked. -/
import Derived.Test.YtlflfffjaodhpaaDoorTreeLawC
namespace Go.Proofs.YtlflfffjaodhpaaDoor
open Go.RowKit Go.Lib
set_option linter.unusedVariables false
set_option linter.unusedSimpArgs false

def exL (k : Int) (x : Ex) : Ex := .mk 5 k [] [x]
def exC (k : Int) (x : Ex) : Ex := .mk 6 k [] [x]
theorem l_size (k : Int) (x : Ex) : size (exL k x) = size x + 1 := by unfold exL; rw [size_mk, sizes_cons, sizes_nil]; omega
theorem c_size (k : Int) (x : Ex) : size (exC k x) = size x + 1 := by unfold exC; rw [size_mk, sizes_cons, sizes_nil]; omega
theorem l_deep (k : Int) (x : Ex) : deep (exL k x) = deep x + 1 := by unfold exL; rw [deep_mk, deeps_cons, deeps_nil]; omega
theorem l_ne (k : Int) (x : Ex) : exL k x ≠ exL (k - 1) x := fun h => by unfold exL at h; injection h with _ h; omega
theorem lc_ne (k : Int) (x : Ex) : exL k x ≠ exC k x := fun h => by unfold exL exC at h; injection h with h; omega
theorem lx_ne (k : Int) (x : Ex) : exL k x ≠ x := fun h => by have := congrArg size h; rw [l_size] at this; omega
theorem txt_ne {x y : Ex} (hx : rightX x = true) (hy : rightX y = true) (h : x ≠ y) (T U : ByteArray) (hT : B (prT x) = T) (hU : B (prT y) = U) : (T.toList == U.toList) = false := by
  rw [← hT, ← hU, (pr_of hx).1, (pr_of hy).1]
  have := B_eq (text x) (text y)
  simp only [if_true]
  rw [this]
  exact decide_eq_false (fun e => h ((right_inj hx hy).1 e))
theorem once_world (w0 w : World) (hr : Rel w0 w) (vx : El) (x : Ex) (S : Nat → Prop) (ex : ExAt S w vx x) (s : Nat) (hs : w.heap.size = s) (k : Int) (k0 : 0 ≤ k) (k1 : k ≤ 3000) :
    ∃ W : World, W = ((((((w.alloc (.cells #[.int .i64 vx.1, .int .i64 vx.2.1, .string (B vx.2.2.1), .slice vx.2.2.2.1 vx.2.2.2.2.1 vx.2.2.2.2.2] 26)).alloc (.cells #[.int .i64 5, .int .i64 k, .string ⟨#[]⟩, .slice (some ⟨s, 0, none⟩) 1 1] 26)).alloc (.cells #[.int .i64 vx.1, .int .i64 vx.2.1, .string (B vx.2.2.1), .slice vx.2.2.2.1 vx.2.2.2.2.1 vx.2.2.2.2.2] 26)).alloc (.cells #[.int .i64 5, .int .i64 (k - 1), .string ⟨#[]⟩, .slice (some ⟨s + 2, 0, none⟩) 1 1] 26)).alloc (.cells #[.int .i64 vx.1, .int .i64 vx.2.1, .string (B vx.2.2.1), .slice vx.2.2.2.1 vx.2.2.2.2.1 vx.2.2.2.2.2] 26)).alloc (.cells #[.int .i64 6, .int .i64 k, .string ⟨#[]⟩, .slice (some ⟨s + 4, 0, none⟩) 1 1] 26)) ∧ Rel w W ∧ Bk W (s + 1) 26 #[.int .i64 5, .int .i64 k, .string ⟨#[]⟩, .slice (some ⟨s, 0, none⟩) 1 1] ∧ Bk W (s + 3) 26 #[.int .i64 5, .int .i64 (k - 1), .string ⟨#[]⟩, .slice (some ⟨s + 2, 0, none⟩) 1 1] ∧ Bk W (s + 5) 26 #[.int .i64 6, .int .i64 k, .string ⟨#[]⟩, .slice (some ⟨s + 4, 0, none⟩) 1 1] ∧
    ExAt (fun _ => True) W (5, k, [], some ⟨s, 0, none⟩, 1, 1) (exL k x) ∧ ExAt (fun _ => True) W (5, k - 1, [], some ⟨s + 2, 0, none⟩, 1, 1) (exL (k - 1) x) ∧ ExAt (fun _ => True) W (6, k, [], some ⟨s + 4, 0, none⟩, 1, 1) (exC k x) := by
  have R6 := ((((((hr.self.alloc (.cells #[.int .i64 vx.1, .int .i64 vx.2.1, .string (B vx.2.2.1), .slice vx.2.2.2.1 vx.2.2.2.2.1 vx.2.2.2.2.2] 26)).alloc (.cells #[.int .i64 5, .int .i64 k, .string ⟨#[]⟩, .slice (some ⟨s, 0, none⟩) 1 1] 26)).alloc (.cells #[.int .i64 vx.1, .int .i64 vx.2.1, .string (B vx.2.2.1), .slice vx.2.2.2.1 vx.2.2.2.2.1 vx.2.2.2.2.2] 26)).alloc (.cells #[.int .i64 5, .int .i64 (k - 1), .string ⟨#[]⟩, .slice (some ⟨s + 2, 0, none⟩) 1 1] 26)).alloc (.cells #[.int .i64 vx.1, .int .i64 vx.2.1, .string (B vx.2.2.1), .slice vx.2.2.2.1 vx.2.2.2.2.1 vx.2.2.2.2.2] 26)).alloc (.cells #[.int .i64 6, .int .i64 k, .string ⟨#[]⟩, .slice (some ⟨s + 4, 0, none⟩) 1 1] 26))
  have b0 := Bk.new w 26 #[.int .i64 vx.1, .int .i64 vx.2.1, .string (B vx.2.2.1), .slice vx.2.2.2.1 vx.2.2.2.2.1 vx.2.2.2.2.2]
  have b1 := Bk.new (w.alloc (.cells #[.int .i64 vx.1, .int .i64 vx.2.1, .string (B vx.2.2.1), .slice vx.2.2.2.1 vx.2.2.2.2.1 vx.2.2.2.2.2] 26)) 26 #[.int .i64 5, .int .i64 k, .string ⟨#[]⟩, .slice (some ⟨s, 0, none⟩) 1 1]
  have b2 := Bk.new ((w.alloc (.cells #[.int .i64 vx.1, .int .i64 vx.2.1, .string (B vx.2.2.1), .slice vx.2.2.2.1 vx.2.2.2.2.1 vx.2.2.2.2.2] 26)).alloc (.cells #[.int .i64 5, .int .i64 k, .string ⟨#[]⟩, .slice (some ⟨s, 0, none⟩) 1 1] 26)) 26 #[.int .i64 vx.1, .int .i64 vx.2.1, .string (B vx.2.2.1), .slice vx.2.2.2.1 vx.2.2.2.2.1 vx.2.2.2.2.2]
  have b3 := Bk.new (((w.alloc (.cells #[.int .i64 vx.1, .int .i64 vx.2.1, .string (B vx.2.2.1), .slice vx.2.2.2.1 vx.2.2.2.2.1 vx.2.2.2.2.2] 26)).alloc (.cells #[.int .i64 5, .int .i64 k, .string ⟨#[]⟩, .slice (some ⟨s, 0, none⟩) 1 1] 26)).alloc (.cells #[.int .i64 vx.1, .int .i64 vx.2.1, .string (B vx.2.2.1), .slice vx.2.2.2.1 vx.2.2.2.2.1 vx.2.2.2.2.2] 26)) 26 #[.int .i64 5, .int .i64 (k - 1), .string ⟨#[]⟩, .slice (some ⟨s + 2, 0, none⟩) 1 1]
  have b4 := Bk.new ((((w.alloc (.cells #[.int .i64 vx.1, .int .i64 vx.2.1, .string (B vx.2.2.1), .slice vx.2.2.2.1 vx.2.2.2.2.1 vx.2.2.2.2.2] 26)).alloc (.cells #[.int .i64 5, .int .i64 k, .string ⟨#[]⟩, .slice (some ⟨s, 0, none⟩) 1 1] 26)).alloc (.cells #[.int .i64 vx.1, .int .i64 vx.2.1, .string (B vx.2.2.1), .slice vx.2.2.2.1 vx.2.2.2.2.1 vx.2.2.2.2.2] 26)).alloc (.cells #[.int .i64 5, .int .i64 (k - 1), .string ⟨#[]⟩, .slice (some ⟨s + 2, 0, none⟩) 1 1] 26)) 26 #[.int .i64 vx.1, .int .i64 vx.2.1, .string (B vx.2.2.1), .slice vx.2.2.2.1 vx.2.2.2.2.1 vx.2.2.2.2.2]
  have b5 := Bk.new (((((w.alloc (.cells #[.int .i64 vx.1, .int .i64 vx.2.1, .string (B vx.2.2.1), .slice vx.2.2.2.1 vx.2.2.2.2.1 vx.2.2.2.2.2] 26)).alloc (.cells #[.int .i64 5, .int .i64 k, .string ⟨#[]⟩, .slice (some ⟨s, 0, none⟩) 1 1] 26)).alloc (.cells #[.int .i64 vx.1, .int .i64 vx.2.1, .string (B vx.2.2.1), .slice vx.2.2.2.1 vx.2.2.2.2.1 vx.2.2.2.2.2] 26)).alloc (.cells #[.int .i64 5, .int .i64 (k - 1), .string ⟨#[]⟩, .slice (some ⟨s + 2, 0, none⟩) 1 1] 26)).alloc (.cells #[.int .i64 vx.1, .int .i64 vx.2.1, .string (B vx.2.2.1), .slice vx.2.2.2.1 vx.2.2.2.2.1 vx.2.2.2.2.2] 26)) 26 #[.int .i64 6, .int .i64 k, .string ⟨#[]⟩, .slice (some ⟨s + 4, 0, none⟩) 1 1]
  simp only [World.size_alloc, hs] at b0 b1 b2 b3 b4 b5
  have EX := (ex.rel R6).weak (S' := fun _ => True) (fun _ _ => trivial)
  have B0 := ((((b0.alloc (.cells #[.int .i64 5, .int .i64 k, .string ⟨#[]⟩, .slice (some ⟨s, 0, none⟩) 1 1] 26)).alloc (.cells #[.int .i64 vx.1, .int .i64 vx.2.1, .string (B vx.2.2.1), .slice vx.2.2.2.1 vx.2.2.2.2.1 vx.2.2.2.2.2] 26)).alloc (.cells #[.int .i64 5, .int .i64 (k - 1), .string ⟨#[]⟩, .slice (some ⟨s + 2, 0, none⟩) 1 1] 26)).alloc (.cells #[.int .i64 vx.1, .int .i64 vx.2.1, .string (B vx.2.2.1), .slice vx.2.2.2.1 vx.2.2.2.2.1 vx.2.2.2.2.2] 26)).alloc (.cells #[.int .i64 6, .int .i64 k, .string ⟨#[]⟩, .slice (some ⟨s + 4, 0, none⟩) 1 1] 26)
  have B1 := (((b1.alloc (.cells #[.int .i64 vx.1, .int .i64 vx.2.1, .string (B vx.2.2.1), .slice vx.2.2.2.1 vx.2.2.2.2.1 vx.2.2.2.2.2] 26)).alloc (.cells #[.int .i64 5, .int .i64 (k - 1), .string ⟨#[]⟩, .slice (some ⟨s + 2, 0, none⟩) 1 1] 26)).alloc (.cells #[.int .i64 vx.1, .int .i64 vx.2.1, .string (B vx.2.2.1), .slice vx.2.2.2.1 vx.2.2.2.2.1 vx.2.2.2.2.2] 26)).alloc (.cells #[.int .i64 6, .int .i64 k, .string ⟨#[]⟩, .slice (some ⟨s + 4, 0, none⟩) 1 1] 26)
  have B2 := ((b2.alloc (.cells #[.int .i64 5, .int .i64 (k - 1), .string ⟨#[]⟩, .slice (some ⟨s + 2, 0, none⟩) 1 1] 26)).alloc (.cells #[.int .i64 vx.1, .int .i64 vx.2.1, .string (B vx.2.2.1), .slice vx.2.2.2.1 vx.2.2.2.2.1 vx.2.2.2.2.2] 26)).alloc (.cells #[.int .i64 6, .int .i64 k, .string ⟨#[]⟩, .slice (some ⟨s + 4, 0, none⟩) 1 1] 26)
  have B3 := (b3.alloc (.cells #[.int .i64 vx.1, .int .i64 vx.2.1, .string (B vx.2.2.1), .slice vx.2.2.2.1 vx.2.2.2.2.1 vx.2.2.2.2.2] 26)).alloc (.cells #[.int .i64 6, .int .i64 k, .string ⟨#[]⟩, .slice (some ⟨s + 4, 0, none⟩) 1 1] 26)
  have B4 := b4.alloc (.cells #[.int .i64 6, .int .i64 k, .string ⟨#[]⟩, .slice (some ⟨s + 4, 0, none⟩) 1 1] 26)
  have kk : i64 k := ⟨by omega, by omega⟩
  have kk1 : i64 (k - 1) := ⟨by omega, by omega⟩
  exact ⟨_, rfl, R6, B1, B3, b5, ExAt.one (a := vx) (ok64 (by decide) (by decide)) kk (Nat.zero_le _) B0 trivial EX, ExAt.one (a := vx) (ok64 (by decide) (by decide)) kk1 (Nat.zero_le _) B2 trivial EX, ExAt.one (a := vx) (ok64 (by decide) (by decide)) kk (Nat.zero_le _) B4 trivial EX⟩
set_option maxRecDepth 100000 in
set_option maxHeartbeats 16000000 in
theorem TreeOnce_at (H : TreeOk) (A : Option Addr) (c : Nat) (L : List Int) (n : Int) (hn : i64 n) (w : World) (hr : Rel w w) (hi : IntsIn w A c L) :
    Calls Tryd.prog 8 #[.slice A L.length c, .int .i64 n] w fun e w' => e = .returned (.bool true) ∧ Rel w w' := by
  have H := Lib.hid H
  have HR := Lib.hid hr
  have HI := Lib.hid hi
  obtain ⟨n0, n1⟩ := hn
  obtain ⟨x, hx⟩ : ∃ x, strat L = x := ⟨_, rfl⟩
  have HStx := Lib.hid (fun (w0 w1 : World) (hr : Rel w0 w1) (h : IntsIn w1 A c L) => strat_any A c L w0 w1 hr h)
  have zx : size x ≤ 2000 := by have := strat_size L; rw [hx] at this; omega
  rw [hx] at HStx
  obtain ⟨u, hu⟩ : ∃ u, pk n 3000 = u := ⟨_, rfl⟩
  have HU := Lib.hid hu
  have hub := pk_bd n 3000 (by omega)
  rw [hu] at hub
  obtain ⟨k, hk⟩ : ∃ k, 1 + u = k := ⟨_, rfl⟩
  have k1 : 1 ≤ k := by omega
  have k2 : k ≤ 3000 := by omega
  have hwk : IntKind.i64.wrap (1 + u) = k := by rw [hk]; exact IntWalk.i64_in _ (by omega)
  have hwk1 : IntKind.i64.wrap (k - 1) = k - 1 := IntWalk.i64_in _ (by omega)
  clear hx hi hr hu hub hk
  go_enter Tryd.func8, Tryd.ntmps8
  go_upto_region 4 with (first
    | (go_at_call 9; (with_reducible refine (awake7_any H.out _ _ HR.out).mono ?_); rintro e w1 ⟨rfl, h1⟩)
    | (go_at_call 10; (with_reducible refine (HStx.out _ _ h1.self (HI.out.rel h1)).mono ?_); rintro e w2 ⟨vx, rfl, ex, h2⟩; have AX := h2.self.alloc (.cells #[.int .i64 vx.1, .int .i64 vx.2.1, .string (B vx.2.2.1), .slice vx.2.2.2.1 vx.2.2.2.2.1 vx.2.2.2.2.2] 26); have R2 := (h1.trans h2).trans AX; have BX := Bk.new w2 26 #[.int .i64 vx.1, .int .i64 vx.2.1, .string (B vx.2.2.1), .slice vx.2.2.2.1 vx.2.2.2.2.1 vx.2.2.2.2.2]; have EX := ex.rel AX; obtain ⟨⟨x0, x1, x2, x3⟩, _⟩ := BX.four)
    | (go_at_call 25; (with_reducible refine (pk_as n 3000 u HU n0 n1 (by omega) (by omega) _).mono ?_); rintro e w' ⟨rfl, rfl⟩))
  have HX0 := Lib.hid EX
  have HBX0 := Lib.hid BX
  have HRX := Lib.hid R2
  have BX1 := (BX.alloc (.cells #[.int .i64 vx.1, .int .i64 vx.2.1, .string (B vx.2.2.1), .slice vx.2.2.2.1 vx.2.2.2.2.1 vx.2.2.2.2.2] 26)).alloc (.cells #[.int .i64 5, .int .i64 k, .string ⟨#[]⟩, .slice (some ⟨w2.heap.size + 1, 0, none⟩) 1 1] 26)
  obtain ⟨⟨p0, p1, p2, p3⟩, _⟩ := BX1.four
  obtain ⟨⟨q0, q1, q2, q3⟩, _⟩ := ((BX1.alloc (.cells #[.int .i64 vx.1, .int .i64 vx.2.1, .string (B vx.2.2.1), .slice vx.2.2.2.1 vx.2.2.2.2.1 vx.2.2.2.2.2] 26)).alloc (.cells #[.int .i64 5, .int .i64 (k - 1), .string ⟨#[]⟩, .slice (some ⟨w2.heap.size + 1 + 1 + 1, 0, none⟩) 1 1] 26)).four
  clear ex EX h1 h2 AX R2 BX BX1
  go_upto_region 7 with (fail)
  obtain ⟨W, hW, hwR, ba, bb, bc, ea, eb, ec⟩ := once_world _ (w2.alloc (.cells #[.int .i64 vx.1, .int .i64 vx.2.1, .string (B vx.2.2.1), .slice vx.2.2.2.1 vx.2.2.2.2.1 vx.2.2.2.2.2] 26)) HRX.out.self vx x _ HX0.out (w2.heap.size + 1) (by rw [World.size_alloc]) k (by omega) k2
  simp only [Nat.add_assoc, Nat.reduceAdd] at hW ba bb bc ea eb ec ⊢
  rw [← hW]
  have HW := Lib.hid (HRX.out.trans hwR)
  have HBX := Lib.hid (HBX0.out.rel hwR)
  have BA := Lib.hid ba
  have BB := Lib.hid bb
  have BC := Lib.hid bc
  have HEX := Lib.hid (HX0.out.rel hwR)
  have HEA := Lib.hid ea
  have HEB := Lib.hid eb
  have HEC := Lib.hid ec
  have R0 := HW.out.self
  obtain ⟨⟨a0, a1, a2, a3⟩, _⟩ := ba.four
  clear hW hwR ba bb bc ea eb ec x0 x1 x2 x3 p0 p1 p2 p3 q0 q1 q2 q3
  have ZA := l_size k x
  have ZB := l_size (k - 1) x
  have ZC := c_size k x
  have DA := l_deep k x
  have ds := deep_le_size x
  have NAB := Lib.hid (l_ne k x)
  have NBA := Lib.hid (Ne.symm (l_ne k x))
  have NAC := Lib.hid (lc_ne k x)
  have NAX := Lib.hid (lx_ne k x)
  generalize exL k x = a at *
  generalize exL (k - 1) x = b at *
  generalize exC k x = cc at *
  obtain ⟨dx, hdx⟩ : ∃ d : Nat, deep x = d := ⟨_, rfl⟩
  obtain ⟨sx, hsx⟩ : ∃ d : Nat, size x = d := ⟨_, rfl⟩
  have VA : Hid (EV (5, k, [], some ⟨w2.heap.size + 1, 0, none⟩, 1, 1) = .agg #[.int .i64 5, .int .i64 k, .string ⟨#[]⟩, .slice (some ⟨w2.heap.size + 1, 0, none⟩) 1 1]) := Lib.hid rfl
  have VB : Hid (EV (5, k - 1, [], some ⟨w2.heap.size + 3, 0, none⟩, 1, 1) = .agg #[.int .i64 5, .int .i64 (k - 1), .string ⟨#[]⟩, .slice (some ⟨w2.heap.size + 3, 0, none⟩) 1 1]) := Lib.hid rfl
  have VC : Hid (EV (6, k, [], some ⟨w2.heap.size + 5, 0, none⟩, 1, 1) = .agg #[.int .i64 6, .int .i64 k, .string ⟨#[]⟩, .slice (some ⟨w2.heap.size + 5, 0, none⟩) 1 1]) := Lib.hid rfl
  have VX : Hid (EV vx = .agg #[.int .i64 vx.1, .int .i64 vx.2.1, .string (B vx.2.2.1), .slice vx.2.2.2.1 vx.2.2.2.2.1 vx.2.2.2.2.2]) := Lib.hid rfl
  have HSX := Lib.hid (fun (w' : World) (h : Rel W w') => size_as H.out x (sx : Int) (Lib.hid (by rw [hsx])) _ vx w' w' (HW.out.trans h).self (HEX.out.rel h) (by omega))
  have HDX := Lib.hid (fun (w' : World) (h : Rel W w') => deep_as H.out x (dx : Int) (Lib.hid (by rw [hdx])) _ vx w' w' (HW.out.trans h).self (HEX.out.rel h) (by omega))
  have HSA := Lib.hid (fun (w' : World) (h : Rel W w') => arg1 VA (size_as H.out a ((sx : Int) + 1) (Lib.hid (by rw [ZA]; omega)) _ _ w' w' (HW.out.trans h).self (HEA.out.rel h) (by omega)))
  have HDA := Lib.hid (fun (w' : World) (h : Rel W w') => arg1 VA (deep_as H.out a ((dx : Int) + 1) (Lib.hid (by rw [DA]; omega)) _ _ w' w' (HW.out.trans h).self (HEA.out.rel h) (by omega)))
  have HAA := Lib.hid (fun (w' : World) (h : Rel W w') => arg2 VA VA (same_yes H.out a _ _ _ _ w' w' (HW.out.trans h).self (HEA.out.rel h) (HEA.out.rel h) (by omega)))
  have HAB := Lib.hid (fun (w' : World) (h : Rel W w') => arg2 VA VB (same_not H.out a b NAB _ _ _ _ w' w' (HW.out.trans h).self (HEA.out.rel h) (HEB.out.rel h) (by omega) (by omega)))
  have HBA := Lib.hid (fun (w' : World) (h : Rel W w') => arg2 VB VA (same_not H.out b a NBA _ _ _ _ w' w' (HW.out.trans h).self (HEB.out.rel h) (HEA.out.rel h) (by omega) (by omega)))
  have HAC := Lib.hid (fun (w' : World) (h : Rel W w') => arg2 VA VC (same_not H.out a cc NAC _ _ _ _ w' w' (HW.out.trans h).self (HEA.out.rel h) (HEC.out.rel h) (by omega) (by omega)))
  have HAX := Lib.hid (fun (w' : World) (h : Rel W w') => arg2 VA VX (same_not H.out a x NAX _ _ _ _ w' w' (HW.out.trans h).self (HEA.out.rel h) (HEX.out.rel h) (by omega) (by omega)))
  obtain ⟨ra, hra⟩ : ∃ r, rightX a = r := ⟨_, rfl⟩
  obtain ⟨rb, hrb⟩ : ∃ r, rightX b = r := ⟨_, rfl⟩
  obtain ⟨rc, hrc⟩ : ∃ r, rightX cc = r := ⟨_, rfl⟩
  have pa := (pr_of hra).2
  have pb := (pr_of hrb).2
  have pc := (pr_of hrc).2
  obtain ⟨T, hT⟩ : ∃ T, B (prT a) = T := ⟨_, rfl⟩
  obtain ⟨U, hU⟩ : ∃ T, B (prT b) = T := ⟨_, rfl⟩
  obtain ⟨V, hV⟩ : ∃ T, B (prT cc) = T := ⟨_, rfl⟩
  have HPA := Lib.hid (fun (w' : World) (h : Rel W w') => arg1 VA (print_as H.out a T (if ra then 0 else 1) (Lib.hid ⟨hT, pa⟩) _ _ w' w' (HW.out.trans h).self (HEA.out.rel h) (by omega)))
  have HPB := Lib.hid (fun (w' : World) (h : Rel W w') => arg1 VB (print_as H.out b U (if rb then 0 else 1) (Lib.hid ⟨hU, pb⟩) _ _ w' w' (HW.out.trans h).self (HEB.out.rel h) (by omega)))
  have HPC := Lib.hid (fun (w' : World) (h : Rel W w') => arg1 VC (print_as H.out cc V (if rc then 0 else 1) (Lib.hid ⟨hV, pc⟩) _ _ w' w' (HW.out.trans h).self (HEC.out.rel h) (by omega)))
  have HRA := Lib.hid (fun (w' : World) (h : Rel W w') => arg1 VA (right_as H.out a ra (Lib.hid hra) _ _ w' w' (HW.out.trans h).self (HEA.out.rel h) (by omega)))
  have HRB := Lib.hid (fun (w' : World) (h : Rel W w') => arg1 VB (right_as H.out b rb (Lib.hid hrb) _ _ w' w' (HW.out.trans h).self (HEB.out.rel h) (by omega)))
  have HRC := Lib.hid (fun (w' : World) (h : Rel W w') => arg1 VC (right_as H.out cc rc (Lib.hid hrc) _ _ w' w' (HW.out.trans h).self (HEC.out.rel h) (by omega)))
  have HTU := Lib.hid (fun (e1 : ra = true) (e2 : rb = true) => txt_ne (hra.trans e1) (hrb.trans e2) NAB.out T U hT hU)
  have HTV := Lib.hid (fun (e1 : ra = true) (e2 : rc = true) => txt_ne (hra.trans e1) (hrc.trans e2) NAC.out T V hT hV)
  have m1 : IntKind.i64.wrap ((sx : Int) + 1) = (sx : Int) + 1 := IntWalk.i64_in _ (by omega)
  have m2 : IntKind.i64.wrap ((dx : Int) + 1) = (dx : Int) + 1 := IntWalk.i64_in _ (by omega)
  clear hra hrb hrc pa pb pc hT hU hV ZA ZB ZC DA ds hdx hsx zx
  cases ra with
  | false =>
    cases rb <;> cases rc
    all_goals
      simp only [if_true, if_false, Bool.false_eq_true] at HPA HPB HPC
      clear HTU HTV
      go_wp2_with (first
        | (go_at_call 12; (with_reducible refine (HPA.out _ R0).mono ?_); rintro e v1 ⟨rfl, g1⟩; have R1 := R0.trans g1; obtain ⟨⟨a0, a1, a2, a3⟩, _⟩ := (BA.out.rel R1).four; obtain ⟨⟨b0, b1, b2, b3⟩, _⟩ := (BB.out.rel R1).four; obtain ⟨⟨c0, c1, c2, c3⟩, _⟩ := (BC.out.rel R1).four)
        | (go_at_call 12; (with_reducible refine (HPB.out _ R1).mono ?_); rintro e v2 ⟨rfl, g2⟩; have R2 := R1.trans g2; obtain ⟨⟨a0, a1, a2, a3⟩, _⟩ := (BA.out.rel R2).four; obtain ⟨⟨b0, b1, b2, b3⟩, _⟩ := (BB.out.rel R2).four; obtain ⟨⟨c0, c1, c2, c3⟩, _⟩ := (BC.out.rel R2).four)
        | (go_at_call 12; (with_reducible refine (HPC.out _ R2).mono ?_); rintro e v3 ⟨rfl, g3⟩; have R3 := R2.trans g3; obtain ⟨⟨a0, a1, a2, a3⟩, _⟩ := (BA.out.rel R3).four; obtain ⟨⟨b0, b1, b2, b3⟩, _⟩ := (BB.out.rel R3).four; obtain ⟨⟨c0, c1, c2, c3⟩, _⟩ := (BC.out.rel R3).four)
        | (go_at_call 14; (with_reducible refine (HRA.out _ R3).mono ?_); rintro e v4 ⟨rfl, g4⟩; have R4 := R3.trans g4; obtain ⟨⟨a0, a1, a2, a3⟩, _⟩ := (BA.out.rel R4).four; obtain ⟨⟨b0, b1, b2, b3⟩, _⟩ := (BB.out.rel R4).four; obtain ⟨⟨c0, c1, c2, c3⟩, _⟩ := (BC.out.rel R4).four))
      go_ret
      exact ⟨rfl, HW.out.trans R4⟩
  | true =>
    cases rb with
    | false =>
      cases rc
      all_goals
        simp only [if_true, if_false, Bool.false_eq_true] at HPA HPB HPC
        clear HTU HTV
        go_wp2_with (first
          | (go_at_call 12; (with_reducible refine (HPA.out _ R0).mono ?_); rintro e v1 ⟨rfl, g1⟩; have R1 := R0.trans g1; obtain ⟨⟨a0, a1, a2, a3⟩, _⟩ := (BA.out.rel R1).four; obtain ⟨⟨b0, b1, b2, b3⟩, _⟩ := (BB.out.rel R1).four; obtain ⟨⟨c0, c1, c2, c3⟩, _⟩ := (BC.out.rel R1).four)
          | (go_at_call 12; (with_reducible refine (HPB.out _ R1).mono ?_); rintro e v2 ⟨rfl, g2⟩; have R2 := R1.trans g2; obtain ⟨⟨a0, a1, a2, a3⟩, _⟩ := (BA.out.rel R2).four; obtain ⟨⟨b0, b1, b2, b3⟩, _⟩ := (BB.out.rel R2).four; obtain ⟨⟨c0, c1, c2, c3⟩, _⟩ := (BC.out.rel R2).four)
          | (go_at_call 12; (with_reducible refine (HPC.out _ R2).mono ?_); rintro e v3 ⟨rfl, g3⟩; have R3 := R2.trans g3; obtain ⟨⟨a0, a1, a2, a3⟩, _⟩ := (BA.out.rel R3).four; obtain ⟨⟨b0, b1, b2, b3⟩, _⟩ := (BB.out.rel R3).four; obtain ⟨⟨c0, c1, c2, c3⟩, _⟩ := (BC.out.rel R3).four)
          | (go_at_call 14; (with_reducible refine (HRA.out _ R3).mono ?_); rintro e v4 ⟨rfl, g4⟩; have R4 := R3.trans g4; obtain ⟨⟨a0, a1, a2, a3⟩, _⟩ := (BA.out.rel R4).four; obtain ⟨⟨b0, b1, b2, b3⟩, _⟩ := (BB.out.rel R4).four; obtain ⟨⟨c0, c1, c2, c3⟩, _⟩ := (BC.out.rel R4).four)
          | (go_at_call 14; (with_reducible refine (HRB.out _ R4).mono ?_); rintro e v5 ⟨rfl, g5⟩; have R5 := R4.trans g5; obtain ⟨⟨a0, a1, a2, a3⟩, _⟩ := (BA.out.rel R5).four; obtain ⟨⟨b0, b1, b2, b3⟩, _⟩ := (BB.out.rel R5).four; obtain ⟨⟨c0, c1, c2, c3⟩, _⟩ := (BC.out.rel R5).four))
        go_ret
        exact ⟨rfl, HW.out.trans R5⟩
    | true =>
      cases rc with
      | false =>
        simp only [if_true, if_false, Bool.false_eq_true] at HPA HPB HPC
        clear HTU HTV
        go_wp2_with (first
          | (go_at_call 12; (with_reducible refine (HPA.out _ R0).mono ?_); rintro e v1 ⟨rfl, g1⟩; have R1 := R0.trans g1; obtain ⟨⟨a0, a1, a2, a3⟩, _⟩ := (BA.out.rel R1).four; obtain ⟨⟨b0, b1, b2, b3⟩, _⟩ := (BB.out.rel R1).four; obtain ⟨⟨c0, c1, c2, c3⟩, _⟩ := (BC.out.rel R1).four)
          | (go_at_call 12; (with_reducible refine (HPB.out _ R1).mono ?_); rintro e v2 ⟨rfl, g2⟩; have R2 := R1.trans g2; obtain ⟨⟨a0, a1, a2, a3⟩, _⟩ := (BA.out.rel R2).four; obtain ⟨⟨b0, b1, b2, b3⟩, _⟩ := (BB.out.rel R2).four; obtain ⟨⟨c0, c1, c2, c3⟩, _⟩ := (BC.out.rel R2).four)
          | (go_at_call 12; (with_reducible refine (HPC.out _ R2).mono ?_); rintro e v3 ⟨rfl, g3⟩; have R3 := R2.trans g3; obtain ⟨⟨a0, a1, a2, a3⟩, _⟩ := (BA.out.rel R3).four; obtain ⟨⟨b0, b1, b2, b3⟩, _⟩ := (BB.out.rel R3).four; obtain ⟨⟨c0, c1, c2, c3⟩, _⟩ := (BC.out.rel R3).four)
          | (go_at_call 14; (with_reducible refine (HRA.out _ R3).mono ?_); rintro e v4 ⟨rfl, g4⟩; have R4 := R3.trans g4; obtain ⟨⟨a0, a1, a2, a3⟩, _⟩ := (BA.out.rel R4).four; obtain ⟨⟨b0, b1, b2, b3⟩, _⟩ := (BB.out.rel R4).four; obtain ⟨⟨c0, c1, c2, c3⟩, _⟩ := (BC.out.rel R4).four)
          | (go_at_call 14; (with_reducible refine (HRB.out _ R4).mono ?_); rintro e v5 ⟨rfl, g5⟩; have R5 := R4.trans g5; obtain ⟨⟨a0, a1, a2, a3⟩, _⟩ := (BA.out.rel R5).four; obtain ⟨⟨b0, b1, b2, b3⟩, _⟩ := (BB.out.rel R5).four; obtain ⟨⟨c0, c1, c2, c3⟩, _⟩ := (BC.out.rel R5).four)
          | (go_at_call 14; (with_reducible refine (HRC.out _ R5).mono ?_); rintro e v6 ⟨rfl, g6⟩; have R6 := R5.trans g6; obtain ⟨⟨a0, a1, a2, a3⟩, _⟩ := (BA.out.rel R6).four; obtain ⟨⟨b0, b1, b2, b3⟩, _⟩ := (BB.out.rel R6).four; obtain ⟨⟨c0, c1, c2, c3⟩, _⟩ := (BC.out.rel R6).four))
        go_ret
        exact ⟨rfl, HW.out.trans R6⟩
      | true =>
        simp only [if_true] at HPA HPB HPC
        have e1 := HTU.out rfl rfl
        have e2 := HTV.out rfl rfl
        have e3 : (T.toList != U.toList) = true := by rw [bne, e1]; rfl
        have e4 : (T.toList != V.toList) = true := by rw [bne, e2]; rfl
        clear HTU HTV
        go_wp2_with (first
          | (go_at_call 12; (with_reducible refine (HPA.out _ R0).mono ?_); rintro e v1 ⟨rfl, g1⟩; have R1 := R0.trans g1; obtain ⟨⟨a0, a1, a2, a3⟩, _⟩ := (BA.out.rel R1).four; obtain ⟨⟨b0, b1, b2, b3⟩, _⟩ := (BB.out.rel R1).four; obtain ⟨⟨c0, c1, c2, c3⟩, _⟩ := (BC.out.rel R1).four)
          | (go_at_call 12; (with_reducible refine (HPB.out _ R1).mono ?_); rintro e v2 ⟨rfl, g2⟩; have R2 := R1.trans g2; obtain ⟨⟨a0, a1, a2, a3⟩, _⟩ := (BA.out.rel R2).four; obtain ⟨⟨b0, b1, b2, b3⟩, _⟩ := (BB.out.rel R2).four; obtain ⟨⟨c0, c1, c2, c3⟩, _⟩ := (BC.out.rel R2).four)
          | (go_at_call 12; (with_reducible refine (HPC.out _ R2).mono ?_); rintro e v3 ⟨rfl, g3⟩; have R3 := R2.trans g3; obtain ⟨⟨a0, a1, a2, a3⟩, _⟩ := (BA.out.rel R3).four; obtain ⟨⟨b0, b1, b2, b3⟩, _⟩ := (BB.out.rel R3).four; obtain ⟨⟨c0, c1, c2, c3⟩, _⟩ := (BC.out.rel R3).four))
        · skip
          refine wp_region_held_drew (S := (fun w' => Rel W w')) (by kernel_rfl) R3.drew (fun hHeld => ?_)
          refine held_take (i := 0) (v := ?_) (some 77) rfl rfl (by kernel_rfl) (by kernel_rfl) (by kernel_rfl) (fun _ _ _ h => h) (Or.inl ⟨by rfl, ?_⟩) hHeld ?_
          rotate_left 1
          · intro w' (h : Rel W w'); obtain ⟨⟨x0, x1, x2, x3⟩, _⟩ := (HBX.out.rel h).four; obtain ⟨⟨a0, a1, a2, a3⟩, _⟩ := (BA.out.rel h).four; obtain ⟨⟨b0, b1, b2, b3⟩, _⟩ := (BB.out.rel h).four; obtain ⟨⟨c0, c1, c2, c3⟩, _⟩ := (BC.out.rel h).four; go_simp; try with_reducible rfl
          try simp only [Act.put, List.setIfInBounds_toArray, List.set_cons_zero, List.set_cons_succ]
          refine held_take (i := 1) (v := ?_) (some 78) rfl rfl (by kernel_rfl) (by kernel_rfl) (by kernel_rfl) (fun _ _ _ h => h) (Or.inl ⟨by rfl, ?_⟩) hHeld ?_
          rotate_left 1
          · intro w' (h : Rel W w'); obtain ⟨⟨x0, x1, x2, x3⟩, _⟩ := (HBX.out.rel h).four; obtain ⟨⟨a0, a1, a2, a3⟩, _⟩ := (BA.out.rel h).four; obtain ⟨⟨b0, b1, b2, b3⟩, _⟩ := (BB.out.rel h).four; obtain ⟨⟨c0, c1, c2, c3⟩, _⟩ := (BC.out.rel h).four; go_simp; try with_reducible rfl
          try simp only [Act.put, List.setIfInBounds_toArray, List.set_cons_zero, List.set_cons_succ]
          refine held_take (i := 2) (v := ?_) (some 79) rfl rfl (by kernel_rfl) (by kernel_rfl) (by kernel_rfl) (fun _ _ _ h => h) (Or.inl ⟨by rfl, ?_⟩) hHeld ?_
          rotate_left 1
          · intro w' (h : Rel W w'); obtain ⟨⟨x0, x1, x2, x3⟩, _⟩ := (HBX.out.rel h).four; obtain ⟨⟨a0, a1, a2, a3⟩, _⟩ := (BA.out.rel h).four; obtain ⟨⟨b0, b1, b2, b3⟩, _⟩ := (BB.out.rel h).four; obtain ⟨⟨c0, c1, c2, c3⟩, _⟩ := (BC.out.rel h).four; go_simp; try with_reducible rfl
          try simp only [Act.put, List.setIfInBounds_toArray, List.set_cons_zero, List.set_cons_succ]
          refine held_take (i := 3) (v := ?_) (some 80) rfl rfl (by kernel_rfl) (by kernel_rfl) (by kernel_rfl) (fun _ _ _ h => h) (Or.inl ⟨by rfl, ?_⟩) hHeld ?_
          rotate_left 1
          · intro w' (h : Rel W w'); obtain ⟨⟨x0, x1, x2, x3⟩, _⟩ := (HBX.out.rel h).four; obtain ⟨⟨a0, a1, a2, a3⟩, _⟩ := (BA.out.rel h).four; obtain ⟨⟨b0, b1, b2, b3⟩, _⟩ := (BB.out.rel h).four; obtain ⟨⟨c0, c1, c2, c3⟩, _⟩ := (BC.out.rel h).four; go_simp; try with_reducible rfl
          try simp only [Act.put, List.setIfInBounds_toArray, List.set_cons_zero, List.set_cons_succ]
          refine held_one (j := 4) (by kernel_rfl) rfl (fun K hK => ?_)
          try simp only [List.getElem_toArray, List.getElem_cons_succ, List.getElem_cons_zero]
          rw [if_pos (by rfl)]
          go_simp
          go_at_call 20
          (with_reducible refine (HAA.out _ hHeld).mono ?_)
          rintro e w2 ⟨rfl, h2⟩
          refine hK.out _ _ (hHeld.trans h2) (fun hHeld => ?_)
          clear hK K
          try simp only [Act.put, List.setIfInBounds_toArray, List.set_cons_zero, List.set_cons_succ]
          refine held_take (i := 5) (v := ?_) (some 82) rfl rfl (by kernel_rfl) (by kernel_rfl) (by kernel_rfl) (fun _ _ _ h => h) (Or.inl ⟨by rfl, ?_⟩) hHeld ?_
          rotate_left 1
          · intro w' (h : Rel W w'); obtain ⟨⟨x0, x1, x2, x3⟩, _⟩ := (HBX.out.rel h).four; obtain ⟨⟨a0, a1, a2, a3⟩, _⟩ := (BA.out.rel h).four; obtain ⟨⟨b0, b1, b2, b3⟩, _⟩ := (BB.out.rel h).four; obtain ⟨⟨c0, c1, c2, c3⟩, _⟩ := (BC.out.rel h).four; go_simp; try with_reducible rfl
          try simp only [Act.put, List.setIfInBounds_toArray, List.set_cons_zero, List.set_cons_succ]
          refine held_take (i := 6) (v := ?_) (some 83) rfl rfl (by kernel_rfl) (by kernel_rfl) (by kernel_rfl) (fun _ _ _ h => h) (Or.inl ⟨by rfl, ?_⟩) hHeld ?_
          rotate_left 1
          · intro w' (h : Rel W w'); obtain ⟨⟨x0, x1, x2, x3⟩, _⟩ := (HBX.out.rel h).four; obtain ⟨⟨a0, a1, a2, a3⟩, _⟩ := (BA.out.rel h).four; obtain ⟨⟨b0, b1, b2, b3⟩, _⟩ := (BB.out.rel h).four; obtain ⟨⟨c0, c1, c2, c3⟩, _⟩ := (BC.out.rel h).four; go_simp; try with_reducible rfl
          try simp only [Act.put, List.setIfInBounds_toArray, List.set_cons_zero, List.set_cons_succ]
          refine held_take (i := 7) (v := ?_) (some 84) rfl rfl (by kernel_rfl) (by kernel_rfl) (by kernel_rfl) (fun _ _ _ h => h) (Or.inl ⟨by rfl, ?_⟩) hHeld ?_
          rotate_left 1
          · intro w' (h : Rel W w'); obtain ⟨⟨x0, x1, x2, x3⟩, _⟩ := (HBX.out.rel h).four; obtain ⟨⟨a0, a1, a2, a3⟩, _⟩ := (BA.out.rel h).four; obtain ⟨⟨b0, b1, b2, b3⟩, _⟩ := (BB.out.rel h).four; obtain ⟨⟨c0, c1, c2, c3⟩, _⟩ := (BC.out.rel h).four; go_simp; try with_reducible rfl
          try simp only [Act.put, List.setIfInBounds_toArray, List.set_cons_zero, List.set_cons_succ]
          refine held_take (i := 8) (v := ?_) (some 85) rfl rfl (by kernel_rfl) (by kernel_rfl) (by kernel_rfl) (fun _ _ _ h => h) (Or.inl ⟨by rfl, ?_⟩) hHeld ?_
          rotate_left 1
          · intro w' (h : Rel W w'); obtain ⟨⟨x0, x1, x2, x3⟩, _⟩ := (HBX.out.rel h).four; obtain ⟨⟨a0, a1, a2, a3⟩, _⟩ := (BA.out.rel h).four; obtain ⟨⟨b0, b1, b2, b3⟩, _⟩ := (BB.out.rel h).four; obtain ⟨⟨c0, c1, c2, c3⟩, _⟩ := (BC.out.rel h).four; go_simp; try with_reducible rfl
          try simp only [Act.put, List.setIfInBounds_toArray, List.set_cons_zero, List.set_cons_succ]
          refine held_one (j := 9) (by kernel_rfl) rfl (fun K hK => ?_)
          try simp only [List.getElem_toArray, List.getElem_cons_succ, List.getElem_cons_zero]
          rw [if_pos (by rfl)]
          go_simp
          go_at_call 20
          (with_reducible refine (HAB.out _ hHeld).mono ?_)
          rintro e w2 ⟨rfl, h2⟩
          refine hK.out _ _ (hHeld.trans h2) (fun hHeld => ?_)
          clear hK K
          try simp only [Act.put, List.setIfInBounds_toArray, List.set_cons_zero, List.set_cons_succ]
          refine held_take (i := 10) (v := ?_) (some 87) rfl rfl (by kernel_rfl) (by kernel_rfl) (by kernel_rfl) (fun _ _ _ h => h) (Or.inl ⟨by rfl, ?_⟩) hHeld ?_
          rotate_left 1
          · intro w' (h : Rel W w'); obtain ⟨⟨x0, x1, x2, x3⟩, _⟩ := (HBX.out.rel h).four; obtain ⟨⟨a0, a1, a2, a3⟩, _⟩ := (BA.out.rel h).four; obtain ⟨⟨b0, b1, b2, b3⟩, _⟩ := (BB.out.rel h).four; obtain ⟨⟨c0, c1, c2, c3⟩, _⟩ := (BC.out.rel h).four; go_simp; try with_reducible rfl
          try simp only [Act.put, List.setIfInBounds_toArray, List.set_cons_zero, List.set_cons_succ]
          refine held_take (i := 11) (v := ?_) (some 88) rfl rfl (by kernel_rfl) (by kernel_rfl) (by kernel_rfl) (fun _ _ _ h => h) (Or.inl ⟨by rfl, ?_⟩) hHeld ?_
          rotate_left 1
          · intro w' (h : Rel W w'); obtain ⟨⟨x0, x1, x2, x3⟩, _⟩ := (HBX.out.rel h).four; obtain ⟨⟨a0, a1, a2, a3⟩, _⟩ := (BA.out.rel h).four; obtain ⟨⟨b0, b1, b2, b3⟩, _⟩ := (BB.out.rel h).four; obtain ⟨⟨c0, c1, c2, c3⟩, _⟩ := (BC.out.rel h).four; go_simp; try with_reducible rfl
          try simp only [Act.put, List.setIfInBounds_toArray, List.set_cons_zero, List.set_cons_succ]
          refine held_take (i := 12) (v := ?_) (some 89) rfl rfl (by kernel_rfl) (by kernel_rfl) (by kernel_rfl) (fun _ _ _ h => h) (Or.inl ⟨by rfl, ?_⟩) hHeld ?_
          rotate_left 1
          · intro w' (h : Rel W w'); obtain ⟨⟨x0, x1, x2, x3⟩, _⟩ := (HBX.out.rel h).four; obtain ⟨⟨a0, a1, a2, a3⟩, _⟩ := (BA.out.rel h).four; obtain ⟨⟨b0, b1, b2, b3⟩, _⟩ := (BB.out.rel h).four; obtain ⟨⟨c0, c1, c2, c3⟩, _⟩ := (BC.out.rel h).four; go_simp; try with_reducible rfl
          try simp only [Act.put, List.setIfInBounds_toArray, List.set_cons_zero, List.set_cons_succ]
          refine held_take (i := 13) (v := ?_) (some 90) rfl rfl (by kernel_rfl) (by kernel_rfl) (by kernel_rfl) (fun _ _ _ h => h) (Or.inl ⟨by rfl, ?_⟩) hHeld ?_
          rotate_left 1
          · intro w' (h : Rel W w'); obtain ⟨⟨x0, x1, x2, x3⟩, _⟩ := (HBX.out.rel h).four; obtain ⟨⟨a0, a1, a2, a3⟩, _⟩ := (BA.out.rel h).four; obtain ⟨⟨b0, b1, b2, b3⟩, _⟩ := (BB.out.rel h).four; obtain ⟨⟨c0, c1, c2, c3⟩, _⟩ := (BC.out.rel h).four; go_simp; try with_reducible rfl
          try simp only [Act.put, List.setIfInBounds_toArray, List.set_cons_zero, List.set_cons_succ]
          refine held_take (i := 14) (v := ?_) (some 91) rfl rfl (by kernel_rfl) (by kernel_rfl) (by kernel_rfl) (fun _ _ _ h => h) (Or.inl ⟨by rfl, ?_⟩) hHeld ?_
          rotate_left 1
          · intro w' (h : Rel W w'); obtain ⟨⟨x0, x1, x2, x3⟩, _⟩ := (HBX.out.rel h).four; obtain ⟨⟨a0, a1, a2, a3⟩, _⟩ := (BA.out.rel h).four; obtain ⟨⟨b0, b1, b2, b3⟩, _⟩ := (BB.out.rel h).four; obtain ⟨⟨c0, c1, c2, c3⟩, _⟩ := (BC.out.rel h).four; go_simp; try with_reducible rfl
          try simp only [Act.put, List.setIfInBounds_toArray, List.set_cons_zero, List.set_cons_succ]
          refine held_one (j := 15) (by kernel_rfl) rfl (fun K hK => ?_)
          try simp only [List.getElem_toArray, List.getElem_cons_succ, List.getElem_cons_zero]
          rw [if_pos (by rfl)]
          go_simp
          go_at_call 20
          (with_reducible refine (HBA.out _ hHeld).mono ?_)
          rintro e w2 ⟨rfl, h2⟩
          refine hK.out _ _ (hHeld.trans h2) (fun hHeld => ?_)
          clear hK K
          try simp only [Act.put, List.setIfInBounds_toArray, List.set_cons_zero, List.set_cons_succ]
          refine held_take (i := 16) (v := ?_) (some 93) rfl rfl (by kernel_rfl) (by kernel_rfl) (by kernel_rfl) (fun _ _ _ h => h) (Or.inl ⟨by rfl, ?_⟩) hHeld ?_
          rotate_left 1
          · intro w' (h : Rel W w'); obtain ⟨⟨x0, x1, x2, x3⟩, _⟩ := (HBX.out.rel h).four; obtain ⟨⟨a0, a1, a2, a3⟩, _⟩ := (BA.out.rel h).four; obtain ⟨⟨b0, b1, b2, b3⟩, _⟩ := (BB.out.rel h).four; obtain ⟨⟨c0, c1, c2, c3⟩, _⟩ := (BC.out.rel h).four; go_simp; try with_reducible rfl
          try simp only [Act.put, List.setIfInBounds_toArray, List.set_cons_zero, List.set_cons_succ]
          refine held_take (i := 17) (v := ?_) (some 94) rfl rfl (by kernel_rfl) (by kernel_rfl) (by kernel_rfl) (fun _ _ _ h => h) (Or.inl ⟨by rfl, ?_⟩) hHeld ?_
          rotate_left 1
          · intro w' (h : Rel W w'); obtain ⟨⟨x0, x1, x2, x3⟩, _⟩ := (HBX.out.rel h).four; obtain ⟨⟨a0, a1, a2, a3⟩, _⟩ := (BA.out.rel h).four; obtain ⟨⟨b0, b1, b2, b3⟩, _⟩ := (BB.out.rel h).four; obtain ⟨⟨c0, c1, c2, c3⟩, _⟩ := (BC.out.rel h).four; go_simp; try with_reducible rfl
          try simp only [Act.put, List.setIfInBounds_toArray, List.set_cons_zero, List.set_cons_succ]
          refine held_take (i := 18) (v := ?_) (some 95) rfl rfl (by kernel_rfl) (by kernel_rfl) (by kernel_rfl) (fun _ _ _ h => h) (Or.inl ⟨by rfl, ?_⟩) hHeld ?_
          rotate_left 1
          · intro w' (h : Rel W w'); obtain ⟨⟨x0, x1, x2, x3⟩, _⟩ := (HBX.out.rel h).four; obtain ⟨⟨a0, a1, a2, a3⟩, _⟩ := (BA.out.rel h).four; obtain ⟨⟨b0, b1, b2, b3⟩, _⟩ := (BB.out.rel h).four; obtain ⟨⟨c0, c1, c2, c3⟩, _⟩ := (BC.out.rel h).four; go_simp; try with_reducible rfl
          try simp only [Act.put, List.setIfInBounds_toArray, List.set_cons_zero, List.set_cons_succ]
          refine held_take (i := 19) (v := ?_) (some 96) rfl rfl (by kernel_rfl) (by kernel_rfl) (by kernel_rfl) (fun _ _ _ h => h) (Or.inl ⟨by rfl, ?_⟩) hHeld ?_
          rotate_left 1
          · intro w' (h : Rel W w'); obtain ⟨⟨x0, x1, x2, x3⟩, _⟩ := (HBX.out.rel h).four; obtain ⟨⟨a0, a1, a2, a3⟩, _⟩ := (BA.out.rel h).four; obtain ⟨⟨b0, b1, b2, b3⟩, _⟩ := (BB.out.rel h).four; obtain ⟨⟨c0, c1, c2, c3⟩, _⟩ := (BC.out.rel h).four; go_simp; try with_reducible rfl
          try simp only [Act.put, List.setIfInBounds_toArray, List.set_cons_zero, List.set_cons_succ]
          refine held_take (i := 20) (v := ?_) (some 97) rfl rfl (by kernel_rfl) (by kernel_rfl) (by kernel_rfl) (fun _ _ _ h => h) (Or.inl ⟨by rfl, ?_⟩) hHeld ?_
          rotate_left 1
          · intro w' (h : Rel W w'); obtain ⟨⟨x0, x1, x2, x3⟩, _⟩ := (HBX.out.rel h).four; obtain ⟨⟨a0, a1, a2, a3⟩, _⟩ := (BA.out.rel h).four; obtain ⟨⟨b0, b1, b2, b3⟩, _⟩ := (BB.out.rel h).four; obtain ⟨⟨c0, c1, c2, c3⟩, _⟩ := (BC.out.rel h).four; go_simp; try with_reducible rfl
          try simp only [Act.put, List.setIfInBounds_toArray, List.set_cons_zero, List.set_cons_succ]
          refine held_one (j := 21) (by kernel_rfl) rfl (fun K hK => ?_)
          try simp only [List.getElem_toArray, List.getElem_cons_succ, List.getElem_cons_zero]
          rw [if_pos (by rfl)]
          go_simp
          go_at_call 20
          (with_reducible refine (HAC.out _ hHeld).mono ?_)
          rintro e w2 ⟨rfl, h2⟩
          refine hK.out _ _ (hHeld.trans h2) (fun hHeld => ?_)
          clear hK K
          try simp only [Act.put, List.setIfInBounds_toArray, List.set_cons_zero, List.set_cons_succ]
          refine held_take (i := 22) (v := ?_) (some 99) rfl rfl (by kernel_rfl) (by kernel_rfl) (by kernel_rfl) (fun _ _ _ h => h) (Or.inl ⟨by rfl, ?_⟩) hHeld ?_
          rotate_left 1
          · intro w' (h : Rel W w'); obtain ⟨⟨x0, x1, x2, x3⟩, _⟩ := (HBX.out.rel h).four; obtain ⟨⟨a0, a1, a2, a3⟩, _⟩ := (BA.out.rel h).four; obtain ⟨⟨b0, b1, b2, b3⟩, _⟩ := (BB.out.rel h).four; obtain ⟨⟨c0, c1, c2, c3⟩, _⟩ := (BC.out.rel h).four; go_simp; try with_reducible rfl
          try simp only [Act.put, List.setIfInBounds_toArray, List.set_cons_zero, List.set_cons_succ]
          refine held_take (i := 23) (v := ?_) (some 100) rfl rfl (by kernel_rfl) (by kernel_rfl) (by kernel_rfl) (fun _ _ _ h => h) (Or.inl ⟨by rfl, ?_⟩) hHeld ?_
          rotate_left 1
          · intro w' (h : Rel W w'); obtain ⟨⟨x0, x1, x2, x3⟩, _⟩ := (HBX.out.rel h).four; obtain ⟨⟨a0, a1, a2, a3⟩, _⟩ := (BA.out.rel h).four; obtain ⟨⟨b0, b1, b2, b3⟩, _⟩ := (BB.out.rel h).four; obtain ⟨⟨c0, c1, c2, c3⟩, _⟩ := (BC.out.rel h).four; go_simp; try with_reducible rfl
          try simp only [Act.put, List.setIfInBounds_toArray, List.set_cons_zero, List.set_cons_succ]
          refine held_take (i := 24) (v := ?_) (some 101) rfl rfl (by kernel_rfl) (by kernel_rfl) (by kernel_rfl) (fun _ _ _ h => h) (Or.inl ⟨by rfl, ?_⟩) hHeld ?_
          rotate_left 1
          · intro w' (h : Rel W w'); obtain ⟨⟨x0, x1, x2, x3⟩, _⟩ := (HBX.out.rel h).four; obtain ⟨⟨a0, a1, a2, a3⟩, _⟩ := (BA.out.rel h).four; obtain ⟨⟨b0, b1, b2, b3⟩, _⟩ := (BB.out.rel h).four; obtain ⟨⟨c0, c1, c2, c3⟩, _⟩ := (BC.out.rel h).four; go_simp; try with_reducible rfl
          try simp only [Act.put, List.setIfInBounds_toArray, List.set_cons_zero, List.set_cons_succ]
          refine held_take (i := 25) (v := ?_) (some 102) rfl rfl (by kernel_rfl) (by kernel_rfl) (by kernel_rfl) (fun _ _ _ h => h) (Or.inl ⟨by rfl, ?_⟩) hHeld ?_
          rotate_left 1
          · intro w' (h : Rel W w'); obtain ⟨⟨x0, x1, x2, x3⟩, _⟩ := (HBX.out.rel h).four; obtain ⟨⟨a0, a1, a2, a3⟩, _⟩ := (BA.out.rel h).four; obtain ⟨⟨b0, b1, b2, b3⟩, _⟩ := (BB.out.rel h).four; obtain ⟨⟨c0, c1, c2, c3⟩, _⟩ := (BC.out.rel h).four; go_simp; try with_reducible rfl
          try simp only [Act.put, List.setIfInBounds_toArray, List.set_cons_zero, List.set_cons_succ]
          refine held_take (i := 26) (v := ?_) (some 103) rfl rfl (by kernel_rfl) (by kernel_rfl) (by kernel_rfl) (fun _ _ _ h => h) (Or.inl ⟨by rfl, ?_⟩) hHeld ?_
          rotate_left 1
          · intro w' (h : Rel W w'); obtain ⟨⟨x0, x1, x2, x3⟩, _⟩ := (HBX.out.rel h).four; obtain ⟨⟨a0, a1, a2, a3⟩, _⟩ := (BA.out.rel h).four; obtain ⟨⟨b0, b1, b2, b3⟩, _⟩ := (BB.out.rel h).four; obtain ⟨⟨c0, c1, c2, c3⟩, _⟩ := (BC.out.rel h).four; go_simp; try with_reducible rfl
          try simp only [Act.put, List.setIfInBounds_toArray, List.set_cons_zero, List.set_cons_succ]
          refine held_one (j := 27) (by kernel_rfl) rfl (fun K hK => ?_)
          try simp only [List.getElem_toArray, List.getElem_cons_succ, List.getElem_cons_zero]
          rw [if_pos (by rfl)]
          go_simp
          go_at_call 20
          (with_reducible refine (HAX.out _ hHeld).mono ?_)
          rintro e w2 ⟨rfl, h2⟩
          refine hK.out _ _ (hHeld.trans h2) (fun hHeld => ?_)
          clear hK K
          try simp only [Act.put, List.setIfInBounds_toArray, List.set_cons_zero, List.set_cons_succ]
          refine held_take (i := 28) (v := ?_) (some 105) rfl rfl (by kernel_rfl) (by kernel_rfl) (by kernel_rfl) (fun _ _ _ h => h) (Or.inl ⟨by rfl, ?_⟩) hHeld ?_
          rotate_left 1
          · intro w' (h : Rel W w'); obtain ⟨⟨x0, x1, x2, x3⟩, _⟩ := (HBX.out.rel h).four; obtain ⟨⟨a0, a1, a2, a3⟩, _⟩ := (BA.out.rel h).four; obtain ⟨⟨b0, b1, b2, b3⟩, _⟩ := (BB.out.rel h).four; obtain ⟨⟨c0, c1, c2, c3⟩, _⟩ := (BC.out.rel h).four; go_simp; try with_reducible rfl
          try simp only [Act.put, List.setIfInBounds_toArray, List.set_cons_zero, List.set_cons_succ]
          refine held_take (i := 29) (v := ?_) (some 106) rfl rfl (by kernel_rfl) (by kernel_rfl) (by kernel_rfl) (fun _ _ _ h => h) (Or.inl ⟨by rfl, ?_⟩) hHeld ?_
          rotate_left 1
          · intro w' (h : Rel W w'); obtain ⟨⟨x0, x1, x2, x3⟩, _⟩ := (HBX.out.rel h).four; obtain ⟨⟨a0, a1, a2, a3⟩, _⟩ := (BA.out.rel h).four; obtain ⟨⟨b0, b1, b2, b3⟩, _⟩ := (BB.out.rel h).four; obtain ⟨⟨c0, c1, c2, c3⟩, _⟩ := (BC.out.rel h).four; go_simp; try with_reducible rfl
          try simp only [Act.put, List.setIfInBounds_toArray, List.set_cons_zero, List.set_cons_succ]
          refine held_take (i := 30) (v := ?_) (some 107) rfl rfl (by kernel_rfl) (by kernel_rfl) (by kernel_rfl) (fun _ _ _ h => h) (Or.inl ⟨by rfl, ?_⟩) hHeld ?_
          rotate_left 1
          · intro w' (h : Rel W w'); obtain ⟨⟨x0, x1, x2, x3⟩, _⟩ := (HBX.out.rel h).four; obtain ⟨⟨a0, a1, a2, a3⟩, _⟩ := (BA.out.rel h).four; obtain ⟨⟨b0, b1, b2, b3⟩, _⟩ := (BB.out.rel h).four; obtain ⟨⟨c0, c1, c2, c3⟩, _⟩ := (BC.out.rel h).four; go_simp; try with_reducible rfl
          try simp only [Act.put, List.setIfInBounds_toArray, List.set_cons_zero, List.set_cons_succ]
          refine held_take (i := 31) (v := ?_) (some 108) rfl rfl (by kernel_rfl) (by kernel_rfl) (by kernel_rfl) (fun _ _ _ h => h) (Or.inl ⟨by rfl, ?_⟩) hHeld ?_
          rotate_left 1
          · intro w' (h : Rel W w'); obtain ⟨⟨x0, x1, x2, x3⟩, _⟩ := (HBX.out.rel h).four; obtain ⟨⟨a0, a1, a2, a3⟩, _⟩ := (BA.out.rel h).four; obtain ⟨⟨b0, b1, b2, b3⟩, _⟩ := (BB.out.rel h).four; obtain ⟨⟨c0, c1, c2, c3⟩, _⟩ := (BC.out.rel h).four; go_simp; try with_reducible rfl
          try simp only [Act.put, List.setIfInBounds_toArray, List.set_cons_zero, List.set_cons_succ]
          refine held_take (i := 32) (v := ?_) (some 109) rfl rfl (by kernel_rfl) (by kernel_rfl) (by kernel_rfl) (fun _ _ _ h => h) (Or.inl ⟨by rfl, ?_⟩) hHeld ?_
          rotate_left 1
          · intro w' (h : Rel W w'); obtain ⟨⟨x0, x1, x2, x3⟩, _⟩ := (HBX.out.rel h).four; obtain ⟨⟨a0, a1, a2, a3⟩, _⟩ := (BA.out.rel h).four; obtain ⟨⟨b0, b1, b2, b3⟩, _⟩ := (BB.out.rel h).four; obtain ⟨⟨c0, c1, c2, c3⟩, _⟩ := (BC.out.rel h).four; go_simp; try with_reducible rfl
          try simp only [Act.put, List.setIfInBounds_toArray, List.set_cons_zero, List.set_cons_succ]
          refine held_take (i := 33) (v := ?_) (some 110) rfl rfl (by kernel_rfl) (by kernel_rfl) (by kernel_rfl) (fun _ _ _ h => h) (Or.inl ⟨by rfl, ?_⟩) hHeld ?_
          rotate_left 1
          · intro w' (h : Rel W w'); obtain ⟨⟨x0, x1, x2, x3⟩, _⟩ := (HBX.out.rel h).four; obtain ⟨⟨a0, a1, a2, a3⟩, _⟩ := (BA.out.rel h).four; obtain ⟨⟨b0, b1, b2, b3⟩, _⟩ := (BB.out.rel h).four; obtain ⟨⟨c0, c1, c2, c3⟩, _⟩ := (BC.out.rel h).four; go_simp; try with_reducible rfl
          try simp only [Act.put, List.setIfInBounds_toArray, List.set_cons_zero, List.set_cons_succ]
          refine held_take (i := 34) (v := ?_) (some 111) rfl rfl (by kernel_rfl) (by kernel_rfl) (by kernel_rfl) (fun _ _ _ h => h) (Or.inl ⟨by rfl, ?_⟩) hHeld ?_
          rotate_left 1
          · intro w' (h : Rel W w'); obtain ⟨⟨x0, x1, x2, x3⟩, _⟩ := (HBX.out.rel h).four; obtain ⟨⟨a0, a1, a2, a3⟩, _⟩ := (BA.out.rel h).four; obtain ⟨⟨b0, b1, b2, b3⟩, _⟩ := (BB.out.rel h).four; obtain ⟨⟨c0, c1, c2, c3⟩, _⟩ := (BC.out.rel h).four; go_simp; try with_reducible rfl
          try simp only [Act.put, List.setIfInBounds_toArray, List.set_cons_zero, List.set_cons_succ]
          refine held_take (i := 35) (v := ?_) (some 112) rfl rfl (by kernel_rfl) (by kernel_rfl) (by kernel_rfl) (fun _ _ _ h => h) (Or.inl ⟨by rfl, ?_⟩) hHeld ?_
          rotate_left 1
          · intro w' (h : Rel W w'); obtain ⟨⟨x0, x1, x2, x3⟩, _⟩ := (HBX.out.rel h).four; obtain ⟨⟨a0, a1, a2, a3⟩, _⟩ := (BA.out.rel h).four; obtain ⟨⟨b0, b1, b2, b3⟩, _⟩ := (BB.out.rel h).four; obtain ⟨⟨c0, c1, c2, c3⟩, _⟩ := (BC.out.rel h).four; go_simp; try with_reducible rfl
          try simp only [Act.put, List.setIfInBounds_toArray, List.set_cons_zero, List.set_cons_succ]
          refine held_take (i := 36) (v := ?_) (some 113) rfl rfl (by kernel_rfl) (by kernel_rfl) (by kernel_rfl) (fun _ _ _ h => h) (Or.inl ⟨by rfl, ?_⟩) hHeld ?_
          rotate_left 1
          · intro w' (h : Rel W w'); obtain ⟨⟨x0, x1, x2, x3⟩, _⟩ := (HBX.out.rel h).four; obtain ⟨⟨a0, a1, a2, a3⟩, _⟩ := (BA.out.rel h).four; obtain ⟨⟨b0, b1, b2, b3⟩, _⟩ := (BB.out.rel h).four; obtain ⟨⟨c0, c1, c2, c3⟩, _⟩ := (BC.out.rel h).four; go_simp; try with_reducible rfl
          try simp only [Act.put, List.setIfInBounds_toArray, List.set_cons_zero, List.set_cons_succ]
          refine held_take (i := 37) (v := ?_) (some 114) rfl rfl (by kernel_rfl) (by kernel_rfl) (by kernel_rfl) (fun _ _ _ h => h) (Or.inl ⟨by rfl, ?_⟩) hHeld ?_
          rotate_left 1
          · intro w' (h : Rel W w'); obtain ⟨⟨x0, x1, x2, x3⟩, _⟩ := (HBX.out.rel h).four; obtain ⟨⟨a0, a1, a2, a3⟩, _⟩ := (BA.out.rel h).four; obtain ⟨⟨b0, b1, b2, b3⟩, _⟩ := (BB.out.rel h).four; obtain ⟨⟨c0, c1, c2, c3⟩, _⟩ := (BC.out.rel h).four; go_simp; try with_reducible rfl
          try simp only [Act.put, List.setIfInBounds_toArray, List.set_cons_zero, List.set_cons_succ]
          refine held_take (i := 38) (v := ?_) (some 115) rfl rfl (by kernel_rfl) (by kernel_rfl) (by kernel_rfl) (fun _ _ _ h => h) (Or.inl ⟨by rfl, ?_⟩) hHeld ?_
          rotate_left 1
          · intro w' (h : Rel W w'); obtain ⟨⟨x0, x1, x2, x3⟩, _⟩ := (HBX.out.rel h).four; obtain ⟨⟨a0, a1, a2, a3⟩, _⟩ := (BA.out.rel h).four; obtain ⟨⟨b0, b1, b2, b3⟩, _⟩ := (BB.out.rel h).four; obtain ⟨⟨c0, c1, c2, c3⟩, _⟩ := (BC.out.rel h).four; go_simp; try with_reducible rfl
          try simp only [Act.put, List.setIfInBounds_toArray, List.set_cons_zero, List.set_cons_succ]
          refine held_take (i := 39) (v := ?_) (some 116) rfl rfl (by kernel_rfl) (by kernel_rfl) (by kernel_rfl) (fun _ _ _ h => h) (Or.inl ⟨by rfl, ?_⟩) hHeld ?_
          rotate_left 1
          · intro w' (h : Rel W w'); obtain ⟨⟨x0, x1, x2, x3⟩, _⟩ := (HBX.out.rel h).four; obtain ⟨⟨a0, a1, a2, a3⟩, _⟩ := (BA.out.rel h).four; obtain ⟨⟨b0, b1, b2, b3⟩, _⟩ := (BB.out.rel h).four; obtain ⟨⟨c0, c1, c2, c3⟩, _⟩ := (BC.out.rel h).four; go_simp; try with_reducible rfl
          try simp only [Act.put, List.setIfInBounds_toArray, List.set_cons_zero, List.set_cons_succ]
          refine held_take (i := 40) (v := ?_) (some 117) rfl rfl (by kernel_rfl) (by kernel_rfl) (by kernel_rfl) (fun _ _ _ h => h) (Or.inl ⟨by rfl, ?_⟩) hHeld ?_
          rotate_left 1
          · intro w' (h : Rel W w'); obtain ⟨⟨x0, x1, x2, x3⟩, _⟩ := (HBX.out.rel h).four; obtain ⟨⟨a0, a1, a2, a3⟩, _⟩ := (BA.out.rel h).four; obtain ⟨⟨b0, b1, b2, b3⟩, _⟩ := (BB.out.rel h).four; obtain ⟨⟨c0, c1, c2, c3⟩, _⟩ := (BC.out.rel h).four; go_simp; try with_reducible rfl
          try simp only [Act.put, List.setIfInBounds_toArray, List.set_cons_zero, List.set_cons_succ]
          refine held_take (i := 41) (v := ?_) (some 118) rfl rfl (by kernel_rfl) (by kernel_rfl) (by kernel_rfl) (fun _ _ _ h => h) (Or.inl ⟨by rfl, ?_⟩) hHeld ?_
          rotate_left 1
          · intro w' (h : Rel W w'); obtain ⟨⟨x0, x1, x2, x3⟩, _⟩ := (HBX.out.rel h).four; obtain ⟨⟨a0, a1, a2, a3⟩, _⟩ := (BA.out.rel h).four; obtain ⟨⟨b0, b1, b2, b3⟩, _⟩ := (BB.out.rel h).four; obtain ⟨⟨c0, c1, c2, c3⟩, _⟩ := (BC.out.rel h).four; go_simp; try with_reducible rfl
          try simp only [Act.put, List.setIfInBounds_toArray, List.set_cons_zero, List.set_cons_succ]
          refine held_take (i := 43) (v := ?_) (some 120) rfl rfl (by kernel_rfl) (by kernel_rfl) (by kernel_rfl) (fun _ _ _ h => h) (Or.inl ⟨by rfl, ?_⟩) hHeld ?_
          rotate_left 1
          · intro w' (h : Rel W w'); obtain ⟨⟨x0, x1, x2, x3⟩, _⟩ := (HBX.out.rel h).four; obtain ⟨⟨a0, a1, a2, a3⟩, _⟩ := (BA.out.rel h).four; obtain ⟨⟨b0, b1, b2, b3⟩, _⟩ := (BB.out.rel h).four; obtain ⟨⟨c0, c1, c2, c3⟩, _⟩ := (BC.out.rel h).four; go_simp; try with_reducible rfl
          try simp only [Act.put, List.setIfInBounds_toArray, List.set_cons_zero, List.set_cons_succ]
          refine held_one (j := 42) (by kernel_rfl) rfl (fun K hK => ?_)
          try simp only [List.getElem_toArray, List.getElem_cons_succ, List.getElem_cons_zero]
          rw [if_pos (by rfl)]
          go_simp
          go_at_call 16
          (with_reducible refine (HSA.out _ hHeld).mono ?_)
          rintro e w2 ⟨rfl, h2⟩
          refine hK.out _ _ (hHeld.trans h2) (fun hHeld => ?_)
          clear hK K
          try simp only [Act.put, List.setIfInBounds_toArray, List.set_cons_zero, List.set_cons_succ]
          refine held_one (j := 44) (by kernel_rfl) rfl (fun K hK => ?_)
          try simp only [List.getElem_toArray, List.getElem_cons_succ, List.getElem_cons_zero]
          rw [if_pos (by rfl)]
          go_simp
          go_at_call 16
          (with_reducible refine (HSX.out _ hHeld).mono ?_)
          rintro e w2 ⟨rfl, h2⟩
          refine hK.out _ _ (hHeld.trans h2) (fun hHeld => ?_)
          clear hK K
          try simp only [Act.put, List.setIfInBounds_toArray, List.set_cons_zero, List.set_cons_succ]
          refine held_take (i := 45) (v := ?_) (some 122) rfl rfl (by kernel_rfl) (by kernel_rfl) (by kernel_rfl) (fun _ _ _ h => h) (Or.inl ⟨by rfl, ?_⟩) hHeld ?_
          rotate_left 1
          · intro w' (h : Rel W w'); obtain ⟨⟨x0, x1, x2, x3⟩, _⟩ := (HBX.out.rel h).four; obtain ⟨⟨a0, a1, a2, a3⟩, _⟩ := (BA.out.rel h).four; obtain ⟨⟨b0, b1, b2, b3⟩, _⟩ := (BB.out.rel h).four; obtain ⟨⟨c0, c1, c2, c3⟩, _⟩ := (BC.out.rel h).four; go_simp; try with_reducible rfl
          try simp only [Act.put, List.setIfInBounds_toArray, List.set_cons_zero, List.set_cons_succ]
          refine held_take (i := 46) (v := ?_) (some 123) rfl rfl (by kernel_rfl) (by kernel_rfl) (by kernel_rfl) (fun _ _ _ h => h) (Or.inl ⟨by rfl, ?_⟩) hHeld ?_
          rotate_left 1
          · intro w' (h : Rel W w'); obtain ⟨⟨x0, x1, x2, x3⟩, _⟩ := (HBX.out.rel h).four; obtain ⟨⟨a0, a1, a2, a3⟩, _⟩ := (BA.out.rel h).four; obtain ⟨⟨b0, b1, b2, b3⟩, _⟩ := (BB.out.rel h).four; obtain ⟨⟨c0, c1, c2, c3⟩, _⟩ := (BC.out.rel h).four; go_simp; try with_reducible rfl
          try simp only [Act.put, List.setIfInBounds_toArray, List.set_cons_zero, List.set_cons_succ]
          refine held_take (i := 47) (v := ?_) (some 124) rfl rfl (by kernel_rfl) (by kernel_rfl) (by kernel_rfl) (fun _ _ _ h => h) (Or.inl ⟨by rfl, ?_⟩) hHeld ?_
          rotate_left 1
          · intro w' (h : Rel W w'); obtain ⟨⟨x0, x1, x2, x3⟩, _⟩ := (HBX.out.rel h).four; obtain ⟨⟨a0, a1, a2, a3⟩, _⟩ := (BA.out.rel h).four; obtain ⟨⟨b0, b1, b2, b3⟩, _⟩ := (BB.out.rel h).four; obtain ⟨⟨c0, c1, c2, c3⟩, _⟩ := (BC.out.rel h).four; go_simp; try with_reducible rfl
          try simp only [Act.put, List.setIfInBounds_toArray, List.set_cons_zero, List.set_cons_succ]
          refine held_take (i := 48) (v := ?_) (some 125) rfl rfl (by kernel_rfl) (by kernel_rfl) (by kernel_rfl) (fun _ _ _ h => h) (Or.inl ⟨by rfl, ?_⟩) hHeld ?_
          rotate_left 1
          · intro w' (h : Rel W w'); obtain ⟨⟨x0, x1, x2, x3⟩, _⟩ := (HBX.out.rel h).four; obtain ⟨⟨a0, a1, a2, a3⟩, _⟩ := (BA.out.rel h).four; obtain ⟨⟨b0, b1, b2, b3⟩, _⟩ := (BB.out.rel h).four; obtain ⟨⟨c0, c1, c2, c3⟩, _⟩ := (BC.out.rel h).four; go_simp; try with_reducible rfl
          try simp only [Act.put, List.setIfInBounds_toArray, List.set_cons_zero, List.set_cons_succ]
          refine held_take (i := 49) (v := ?_) (some 126) rfl rfl (by kernel_rfl) (by kernel_rfl) (by kernel_rfl) (fun _ _ _ h => h) (Or.inl ⟨by rfl, ?_⟩) hHeld ?_
          rotate_left 1
          · intro w' (h : Rel W w'); obtain ⟨⟨x0, x1, x2, x3⟩, _⟩ := (HBX.out.rel h).four; obtain ⟨⟨a0, a1, a2, a3⟩, _⟩ := (BA.out.rel h).four; obtain ⟨⟨b0, b1, b2, b3⟩, _⟩ := (BB.out.rel h).four; obtain ⟨⟨c0, c1, c2, c3⟩, _⟩ := (BC.out.rel h).four; go_simp; try with_reducible rfl
          try simp only [Act.put, List.setIfInBounds_toArray, List.set_cons_zero, List.set_cons_succ]
          refine held_take (i := 51) (v := ?_) (some 128) rfl rfl (by kernel_rfl) (by kernel_rfl) (by kernel_rfl) (fun _ _ _ h => h) (Or.inl ⟨by rfl, ?_⟩) hHeld ?_
          rotate_left 1
          · intro w' (h : Rel W w'); obtain ⟨⟨x0, x1, x2, x3⟩, _⟩ := (HBX.out.rel h).four; obtain ⟨⟨a0, a1, a2, a3⟩, _⟩ := (BA.out.rel h).four; obtain ⟨⟨b0, b1, b2, b3⟩, _⟩ := (BB.out.rel h).four; obtain ⟨⟨c0, c1, c2, c3⟩, _⟩ := (BC.out.rel h).four; go_simp; try with_reducible rfl
          try simp only [Act.put, List.setIfInBounds_toArray, List.set_cons_zero, List.set_cons_succ]
          refine held_one (j := 50) (by kernel_rfl) rfl (fun K hK => ?_)
          try simp only [List.getElem_toArray, List.getElem_cons_succ, List.getElem_cons_zero]
          rw [if_pos (by rfl)]
          go_simp
          go_at_call 18
          (with_reducible refine (HDA.out _ hHeld).mono ?_)
          rintro e w2 ⟨rfl, h2⟩
          refine hK.out _ _ (hHeld.trans h2) (fun hHeld => ?_)
          clear hK K
          try simp only [Act.put, List.setIfInBounds_toArray, List.set_cons_zero, List.set_cons_succ]
          refine held_one (j := 52) (by kernel_rfl) rfl (fun K hK => ?_)
          try simp only [List.getElem_toArray, List.getElem_cons_succ, List.getElem_cons_zero]
          rw [if_pos (by rfl)]
          go_simp
          go_at_call 18
          (with_reducible refine (HDX.out _ hHeld).mono ?_)
          rintro e w2 ⟨rfl, h2⟩
          refine hK.out _ _ (hHeld.trans h2) (fun hHeld => ?_)
          clear hK K
          try simp only [Act.put, List.setIfInBounds_toArray, List.set_cons_zero, List.set_cons_succ]
          refine held_take (i := 53) (v := ?_) (some 130) rfl rfl (by kernel_rfl) (by kernel_rfl) (by kernel_rfl) (fun _ _ _ h => h) (Or.inl ⟨by rfl, ?_⟩) hHeld ?_
          rotate_left 1
          · intro w' (h : Rel W w'); obtain ⟨⟨x0, x1, x2, x3⟩, _⟩ := (HBX.out.rel h).four; obtain ⟨⟨a0, a1, a2, a3⟩, _⟩ := (BA.out.rel h).four; obtain ⟨⟨b0, b1, b2, b3⟩, _⟩ := (BB.out.rel h).four; obtain ⟨⟨c0, c1, c2, c3⟩, _⟩ := (BC.out.rel h).four; go_simp; try with_reducible rfl
          try simp only [Act.put, List.setIfInBounds_toArray, List.set_cons_zero, List.set_cons_succ]
          refine held_take (i := 54) (v := ?_) (some 131) rfl rfl (by kernel_rfl) (by kernel_rfl) (by kernel_rfl) (fun _ _ _ h => h) (Or.inl ⟨by rfl, ?_⟩) hHeld ?_
          rotate_left 1
          · intro w' (h : Rel W w'); obtain ⟨⟨x0, x1, x2, x3⟩, _⟩ := (HBX.out.rel h).four; obtain ⟨⟨a0, a1, a2, a3⟩, _⟩ := (BA.out.rel h).four; obtain ⟨⟨b0, b1, b2, b3⟩, _⟩ := (BB.out.rel h).four; obtain ⟨⟨c0, c1, c2, c3⟩, _⟩ := (BC.out.rel h).four; go_simp; try with_reducible rfl
          try simp only [Act.put, List.setIfInBounds_toArray, List.set_cons_zero, List.set_cons_succ]
          refine held_take (i := 55) (v := ?_) (some 132) rfl rfl (by kernel_rfl) (by kernel_rfl) (by kernel_rfl) (fun _ _ _ h => h) (Or.inl ⟨by rfl, ?_⟩) hHeld ?_
          rotate_left 1
          · intro w' (h : Rel W w'); obtain ⟨⟨x0, x1, x2, x3⟩, _⟩ := (HBX.out.rel h).four; obtain ⟨⟨a0, a1, a2, a3⟩, _⟩ := (BA.out.rel h).four; obtain ⟨⟨b0, b1, b2, b3⟩, _⟩ := (BB.out.rel h).four; obtain ⟨⟨c0, c1, c2, c3⟩, _⟩ := (BC.out.rel h).four; go_simp; try with_reducible rfl
          try simp only [Act.put, List.setIfInBounds_toArray, List.set_cons_zero, List.set_cons_succ]
          refine held_take (i := 56) (v := ?_) (some 4) rfl rfl (by kernel_rfl) (by kernel_rfl) (by kernel_rfl) (fun _ _ _ h => h) (Or.inl ⟨by rfl, ?_⟩) hHeld ?_
          rotate_left 1
          · intro w' (h : Rel W w'); obtain ⟨⟨x0, x1, x2, x3⟩, _⟩ := (HBX.out.rel h).four; obtain ⟨⟨a0, a1, a2, a3⟩, _⟩ := (BA.out.rel h).four; obtain ⟨⟨b0, b1, b2, b3⟩, _⟩ := (BB.out.rel h).four; obtain ⟨⟨c0, c1, c2, c3⟩, _⟩ := (BC.out.rel h).four; go_simp; try with_reducible rfl
          try simp only [Act.put, List.setIfInBounds_toArray, List.set_cons_zero, List.set_cons_succ]
          refine wpAnyH_done (by kernel_rfl) ?_ _
          go_wp2_with (fail)
          go_ret
          exact ⟨rfl, HW.out.trans hHeld⟩
end Go.Proofs.YtlflfffjaodhpaaDoor
