/- The law's Wild: ten ways in which an expression may be wrong. -/
import Derived.Test.YtldopbkjchgcnaaDoorZ33
namespace Go.Proofs.YtldopbkjchgcnaaDoor
open Go.RowKit Go.Lib
set_option linter.unusedVariables false
set_option linter.unusedSimpArgs false

/-- What Wild makes of an expression. -/
def cuts : Nat → Ex → Ex
  | 0, x => x
  | n + 1, x => cuts n (.mk 6 1 [] [x])
def mins : Nat → Ex → Ex
  | 0, x => x
  | n + 1, x => mins n (.mk 7 0 [] [x, x])
def wildNames : List (List UInt8) := [[], [105, 102], [65], [97, 49], [49, 97]]
def wildX (x : Ex) (what y : Int) : Ex :=
  let u := pk what 10
  if u = 0 then .mk (pk y 16 - 1) 0 [] [x, x]
  else if u = 1 then .mk 9 y [] [x, x]
  else if u = 2 then .mk 9 0 [97] [x, x]
  else if u = 3 then .mk 9 0 [] [x]
  else if u = 4 then .mk 9 0 [] [x, .mk 11 0 [] []]
  else if u = 5 then .mk 10 0 [] [x, x, x]
  else if u = 6 then .mk 3 0 (wildNames.getD (pk y 5).toNat []) []
  else if u = 7 then .mk (3 + pk what 4) y [] (if 3 + pk what 4 ≤ 4 then [] else [x])
  else if u = 8 then cuts (pk y 36).toNat x
  else mins (pk y 7).toNat x
theorem RowE.first {S : Nat → Prop} {w : World} {A : Option Addr} {a b : El} (h : RowE S w A [a, b]) : RowE S w A [a] := fun i hi => by
  obtain rfl : i = 0 := by simpa using hi
  exact h 0 (by simp)
/-- The blocks that the law's Wild writes into again: what is made is in none of them. -/
def Out3 (s0 n2 : Nat) (q : Nat) : Prop := s0 < q ∧ q ≠ n2 ∧ q ≠ n2 + 2
set_option maxRecDepth 100000 in
set_option maxHeartbeats 16000000 in
theorem wild_0 (A : Option Addr) (c : Nat) (L : List Int) (what y : Int) (hw : i64 what) (hy : i64 y) (hu : pk what 10 = 0) (w0 w : World) (hr : Rel w0 w) (hi : IntsIn w A c L) :
    Calls Tryd.prog 10 #[.slice A L.length c, .int .i64 what, .int .i64 y] w fun e w' => ∃ v : El, e = .returned (EV v) ∧ ExAt (fun _ => True) w' v (wildX (strat L) what y) ∧ Rel w0 w' := by
  have HR := Lib.hid hr
  have HU := Lib.hid hu
  obtain ⟨w1, w2'⟩ := hw
  obtain ⟨y1, y2⟩ := hy
  obtain ⟨x, hx⟩ : ∃ x, strat L = x := ⟨_, rfl⟩
  have hA := hr.self.alloc (.cells #[.int .i64 0, .int .i64 0, .string ⟨#[]⟩, .slice none 0 0] 27)
  have HA := Lib.hid hA
  have HZ := Lib.hid (Bk.new w 27 #[.int .i64 0, .int .i64 0, .string ⟨#[]⟩, .slice none 0 0])
  have HStx := Lib.hid (strat_any A c L _ _ hA.self (hi.rel hA))
  rw [hx] at HStx ⊢
  have hpb := pk_bd y 16 (by omega)
  obtain ⟨p, hp⟩ : ∃ p, pk y 16 = p := ⟨_, rfl⟩
  have HX : wildX x what y = .mk (p - 1) 0 [] [x, x] := by unfold wildX; rw [hu, ← hp]; rfl
  rw [hp] at hpb
  have HP := Lib.hid hp
  have hwp : IntKind.i64.wrap (p - 1) = p - 1 := IntWalk.i64_in _ (by omega)
  clear hp
  clear hx hi hr hu hA
  go_enter Tryd.func10, Tryd.ntmps10
  go_upto_region 35 with (first
    | (go_at_call 9; (with_reducible refine HStx.out.mono ?_); rintro e w2 ⟨vx, rfl, ex, h2⟩)
    | (go_at_call 24; (with_reducible refine (pk_as what 10 0 HU w1 w2' (by omega) (by omega) _).mono ?_); rintro e w' ⟨rfl, rfl⟩)
    | (go_at_call 24; (with_reducible refine (pk_as y 16 p HP y1 y2 (by omega) (by omega) _).mono ?_); rintro e w' ⟨rfl, rfl⟩))
  have hsz := h2.size
  rw [World.size_alloc] at hsz
  have EX := Lib.hid (ex.mono (S' := fun q => w.heap.size < q ∧ q < w2.heap.size) (Nat.le_refl _) fun g hg hl => ⟨⟨by rw [World.size_alloc] at hg; omega, hl⟩, rfl⟩)
  have HZ2 := Lib.hid (HZ.out.rel h2)
  have HW2 := Lib.hid (HA.out.trans h2)
  clear ex h2 HStx HA HZ
  have hr2 := Bk.new (w2.alloc (.cells #[.int .i64 vx.1, .int .i64 vx.2.1, .string (B vx.2.2.1), .slice vx.2.2.2.1 vx.2.2.2.2.1 vx.2.2.2.2.2] 27)) 27 #[.int .i64 vx.1, .int .i64 vx.2.1, .string (B vx.2.2.1), .slice vx.2.2.2.1 vx.2.2.2.2.1 vx.2.2.2.2.2, .int .i64 vx.1, .int .i64 vx.2.1, .string (B vx.2.2.1), .slice vx.2.2.2.1 vx.2.2.2.2.1 vx.2.2.2.2.2]
  try simp only [World.size_alloc] at hr2
  have hr2 := (hr2.alloc (.cells #[.int .i64 (p - 1), .int .i64 0, .string ⟨#[]⟩, .slice (some ⟨w2.heap.size + 1, 0, none⟩) 2 2] 27))
  have h8 := Bk.new ((w2.alloc (.cells #[.int .i64 vx.1, .int .i64 vx.2.1, .string (B vx.2.2.1), .slice vx.2.2.2.1 vx.2.2.2.2.1 vx.2.2.2.2.2] 27)).alloc (.cells #[.int .i64 vx.1, .int .i64 vx.2.1, .string (B vx.2.2.1), .slice vx.2.2.2.1 vx.2.2.2.2.1 vx.2.2.2.2.2, .int .i64 vx.1, .int .i64 vx.2.1, .string (B vx.2.2.1), .slice vx.2.2.2.1 vx.2.2.2.2.1 vx.2.2.2.2.2] 27)) 27 #[.int .i64 (p - 1), .int .i64 0, .string ⟨#[]⟩, .slice (some ⟨w2.heap.size + 1, 0, none⟩) 2 2]
  try simp only [World.size_alloc] at h8
  have h8 := h8
  have RT := (((HW2.out.self.alloc (.cells #[.int .i64 vx.1, .int .i64 vx.2.1, .string (B vx.2.2.1), .slice vx.2.2.2.1 vx.2.2.2.2.1 vx.2.2.2.2.2] 27)).alloc (.cells #[.int .i64 vx.1, .int .i64 vx.2.1, .string (B vx.2.2.1), .slice vx.2.2.2.1 vx.2.2.2.2.1 vx.2.2.2.2.2, .int .i64 vx.1, .int .i64 vx.2.1, .string (B vx.2.2.1), .slice vx.2.2.2.1 vx.2.2.2.2.1 vx.2.2.2.2.2] 27)).alloc (.cells #[.int .i64 (p - 1), .int .i64 0, .string ⟨#[]⟩, .slice (some ⟨w2.heap.size + 1, 0, none⟩) 2 2] 27))
  have H8 := Lib.hid h8
  have H0 := Lib.hid (HZ2.out.rel RT)
  have HRt := Lib.hid (HW2.out.trans RT)
  have EXt := (EX.out.rel RT).weak (S' := Out3 w.heap.size w2.heap.size) fun q hq => ⟨hq.1, by omega, by omega⟩
  have hS : Out3 w.heap.size w2.heap.size (w2.heap.size + 1) := ⟨by omega, by omega, by omega⟩
  have HE := Lib.hid (show ExAt (Out3 w.heap.size w2.heap.size) ((((w2.alloc (.cells #[.int .i64 vx.1, .int .i64 vx.2.1, .string (B vx.2.2.1), .slice vx.2.2.2.1 vx.2.2.2.2.1 vx.2.2.2.2.2] 27)).alloc (.cells #[.int .i64 vx.1, .int .i64 vx.2.1, .string (B vx.2.2.1), .slice vx.2.2.2.1 vx.2.2.2.2.1 vx.2.2.2.2.2, .int .i64 vx.1, .int .i64 vx.2.1, .string (B vx.2.2.1), .slice vx.2.2.2.1 vx.2.2.2.2.1 vx.2.2.2.2.2] 27)).alloc (.cells #[.int .i64 (p - 1), .int .i64 0, .string ⟨#[]⟩, .slice (some ⟨w2.heap.size + 1, 0, none⟩) 2 2] 27))) (p - 1, 0, [], some ⟨w2.heap.size + 1, 0, none⟩, 2, 2) (wildX x what y) from by
    rw [HX]
    exact ExAt.two (a := vx) (b := vx) (ok64 (by omega) (by omega)) (ok64 (by decide) (by decide)) (Nat.zero_le _) hr2 hS EXt EXt)
  obtain ⟨Wt, hWt⟩ : ∃ Wt, (((w2.alloc (.cells #[.int .i64 vx.1, .int .i64 vx.2.1, .string (B vx.2.2.1), .slice vx.2.2.2.1 vx.2.2.2.2.1 vx.2.2.2.2.2] 27)).alloc (.cells #[.int .i64 vx.1, .int .i64 vx.2.1, .string (B vx.2.2.1), .slice vx.2.2.2.1 vx.2.2.2.2.1 vx.2.2.2.2.2, .int .i64 vx.1, .int .i64 vx.2.1, .string (B vx.2.2.1), .slice vx.2.2.2.1 vx.2.2.2.2.1 vx.2.2.2.2.2] 27)).alloc (.cells #[.int .i64 (p - 1), .int .i64 0, .string ⟨#[]⟩, .slice (some ⟨w2.heap.size + 1, 0, none⟩) 2 2] 27)) = Wt := ⟨_, rfl⟩
  rw [hWt] at H8 H0 HRt HE ⊢
  clear hWt hr2 h8 RT EXt hS
  obtain ⟨⟨c0, c1, c2, c3⟩, _⟩ := H8.out.four
  obtain ⟨_, f0, f1, f2, f3⟩ := H0.out.four
  go_wp2_with (fail)
  obtain ⟨⟨t0, t1, t2, t3⟩, _⟩ := (H0.out.put4 (.int .i64 (p - 1)) (.int .i64 0) (.string ⟨#[]⟩) (.slice (some ⟨w2.heap.size + 1, 0, none⟩) 2 2)).four
  have gp := put4_grown Wt w.heap.size (.int .i64 (p - 1)) (.int .i64 0) (.string ⟨#[]⟩) (.slice (some ⟨w2.heap.size + 1, 0, none⟩) 2 2)
  refine bodyPost_ret (v := .agg #[.int .i64 (p - 1), .int .i64 0, .string ⟨#[]⟩, .slice (some ⟨w2.heap.size + 1, 0, none⟩) 2 2]) (by simp [results, Tryd.results10, go_sem, t0, t1, t2, t3]) rfl ⟨(p - 1, 0, [], some ⟨w2.heap.size + 1, 0, none⟩, 2, 2), rfl, ?_, ?_⟩
  · exact HE.out.grown gp (fun q hq => ⟨trivial, fun e => by injection e with e; have := hq.1; omega⟩)
  · exact HR.out.trans (Rel.grown HRt.out gp (fun k e => by cases e; exact Nat.le_refl _))
set_option maxRecDepth 100000 in
set_option maxHeartbeats 16000000 in
theorem wild_1 (A : Option Addr) (c : Nat) (L : List Int) (what y : Int) (hw : i64 what) (hy : i64 y) (hu : pk what 10 = 1) (w0 w : World) (hr : Rel w0 w) (hi : IntsIn w A c L) :
    Calls Tryd.prog 10 #[.slice A L.length c, .int .i64 what, .int .i64 y] w fun e w' => ∃ v : El, e = .returned (EV v) ∧ ExAt (fun _ => True) w' v (wildX (strat L) what y) ∧ Rel w0 w' := by
  have HR := Lib.hid hr
  have HU := Lib.hid hu
  obtain ⟨w1, w2'⟩ := hw
  obtain ⟨y1, y2⟩ := hy
  obtain ⟨x, hx⟩ : ∃ x, strat L = x := ⟨_, rfl⟩
  have hA := hr.self.alloc (.cells #[.int .i64 0, .int .i64 0, .string ⟨#[]⟩, .slice none 0 0] 27)
  have HA := Lib.hid hA
  have HZ := Lib.hid (Bk.new w 27 #[.int .i64 0, .int .i64 0, .string ⟨#[]⟩, .slice none 0 0])
  have HStx := Lib.hid (strat_any A c L _ _ hA.self (hi.rel hA))
  rw [hx] at HStx ⊢
  have HX : wildX x what y = .mk 9 y [] [x, x] := by unfold wildX; rw [hu]; rfl
  clear hx hi hr hu hA
  go_enter Tryd.func10, Tryd.ntmps10
  go_upto_region 35 with (first
    | (go_at_call 9; (with_reducible refine HStx.out.mono ?_); rintro e w2 ⟨vx, rfl, ex, h2⟩)
    | (go_at_call 24; (with_reducible refine (pk_as what 10 1 HU w1 w2' (by omega) (by omega) _).mono ?_); rintro e w' ⟨rfl, rfl⟩))
  have hsz := h2.size
  rw [World.size_alloc] at hsz
  have EX := Lib.hid (ex.mono (S' := fun q => w.heap.size < q ∧ q < w2.heap.size) (Nat.le_refl _) fun g hg hl => ⟨⟨by rw [World.size_alloc] at hg; omega, hl⟩, rfl⟩)
  have HZ2 := Lib.hid (HZ.out.rel h2)
  have HW2 := Lib.hid (HA.out.trans h2)
  clear ex h2 HStx HA HZ
  have hr2 := Bk.new (w2.alloc (.cells #[.int .i64 vx.1, .int .i64 vx.2.1, .string (B vx.2.2.1), .slice vx.2.2.2.1 vx.2.2.2.2.1 vx.2.2.2.2.2] 27)) 27 #[.int .i64 vx.1, .int .i64 vx.2.1, .string (B vx.2.2.1), .slice vx.2.2.2.1 vx.2.2.2.2.1 vx.2.2.2.2.2, .int .i64 vx.1, .int .i64 vx.2.1, .string (B vx.2.2.1), .slice vx.2.2.2.1 vx.2.2.2.2.1 vx.2.2.2.2.2]
  try simp only [World.size_alloc] at hr2
  have hr2 := (hr2.alloc (.cells #[.int .i64 9, .int .i64 y, .string ⟨#[]⟩, .slice (some ⟨w2.heap.size + 1, 0, none⟩) 2 2] 27))
  have h8 := Bk.new ((w2.alloc (.cells #[.int .i64 vx.1, .int .i64 vx.2.1, .string (B vx.2.2.1), .slice vx.2.2.2.1 vx.2.2.2.2.1 vx.2.2.2.2.2] 27)).alloc (.cells #[.int .i64 vx.1, .int .i64 vx.2.1, .string (B vx.2.2.1), .slice vx.2.2.2.1 vx.2.2.2.2.1 vx.2.2.2.2.2, .int .i64 vx.1, .int .i64 vx.2.1, .string (B vx.2.2.1), .slice vx.2.2.2.1 vx.2.2.2.2.1 vx.2.2.2.2.2] 27)) 27 #[.int .i64 9, .int .i64 y, .string ⟨#[]⟩, .slice (some ⟨w2.heap.size + 1, 0, none⟩) 2 2]
  try simp only [World.size_alloc] at h8
  have h8 := h8
  have RT := (((HW2.out.self.alloc (.cells #[.int .i64 vx.1, .int .i64 vx.2.1, .string (B vx.2.2.1), .slice vx.2.2.2.1 vx.2.2.2.2.1 vx.2.2.2.2.2] 27)).alloc (.cells #[.int .i64 vx.1, .int .i64 vx.2.1, .string (B vx.2.2.1), .slice vx.2.2.2.1 vx.2.2.2.2.1 vx.2.2.2.2.2, .int .i64 vx.1, .int .i64 vx.2.1, .string (B vx.2.2.1), .slice vx.2.2.2.1 vx.2.2.2.2.1 vx.2.2.2.2.2] 27)).alloc (.cells #[.int .i64 9, .int .i64 y, .string ⟨#[]⟩, .slice (some ⟨w2.heap.size + 1, 0, none⟩) 2 2] 27))
  have H8 := Lib.hid h8
  have H0 := Lib.hid (HZ2.out.rel RT)
  have HRt := Lib.hid (HW2.out.trans RT)
  have EXt := (EX.out.rel RT).weak (S' := Out3 w.heap.size w2.heap.size) fun q hq => ⟨hq.1, by omega, by omega⟩
  have hS : Out3 w.heap.size w2.heap.size (w2.heap.size + 1) := ⟨by omega, by omega, by omega⟩
  have HE := Lib.hid (show ExAt (Out3 w.heap.size w2.heap.size) ((((w2.alloc (.cells #[.int .i64 vx.1, .int .i64 vx.2.1, .string (B vx.2.2.1), .slice vx.2.2.2.1 vx.2.2.2.2.1 vx.2.2.2.2.2] 27)).alloc (.cells #[.int .i64 vx.1, .int .i64 vx.2.1, .string (B vx.2.2.1), .slice vx.2.2.2.1 vx.2.2.2.2.1 vx.2.2.2.2.2, .int .i64 vx.1, .int .i64 vx.2.1, .string (B vx.2.2.1), .slice vx.2.2.2.1 vx.2.2.2.2.1 vx.2.2.2.2.2] 27)).alloc (.cells #[.int .i64 9, .int .i64 y, .string ⟨#[]⟩, .slice (some ⟨w2.heap.size + 1, 0, none⟩) 2 2] 27))) (9, y, [], some ⟨w2.heap.size + 1, 0, none⟩, 2, 2) (wildX x what y) from by
    rw [HX]
    exact ExAt.two (a := vx) (b := vx) (ok64 (by decide) (by decide)) ⟨y1, y2⟩ (Nat.zero_le _) hr2 hS EXt EXt)
  obtain ⟨Wt, hWt⟩ : ∃ Wt, (((w2.alloc (.cells #[.int .i64 vx.1, .int .i64 vx.2.1, .string (B vx.2.2.1), .slice vx.2.2.2.1 vx.2.2.2.2.1 vx.2.2.2.2.2] 27)).alloc (.cells #[.int .i64 vx.1, .int .i64 vx.2.1, .string (B vx.2.2.1), .slice vx.2.2.2.1 vx.2.2.2.2.1 vx.2.2.2.2.2, .int .i64 vx.1, .int .i64 vx.2.1, .string (B vx.2.2.1), .slice vx.2.2.2.1 vx.2.2.2.2.1 vx.2.2.2.2.2] 27)).alloc (.cells #[.int .i64 9, .int .i64 y, .string ⟨#[]⟩, .slice (some ⟨w2.heap.size + 1, 0, none⟩) 2 2] 27)) = Wt := ⟨_, rfl⟩
  rw [hWt] at H8 H0 HRt HE ⊢
  clear hWt hr2 h8 RT EXt hS
  obtain ⟨⟨c0, c1, c2, c3⟩, _⟩ := H8.out.four
  obtain ⟨_, f0, f1, f2, f3⟩ := H0.out.four
  go_wp2_with (fail)
  obtain ⟨⟨t0, t1, t2, t3⟩, _⟩ := (H0.out.put4 (.int .i64 9) (.int .i64 y) (.string ⟨#[]⟩) (.slice (some ⟨w2.heap.size + 1, 0, none⟩) 2 2)).four
  have gp := put4_grown Wt w.heap.size (.int .i64 9) (.int .i64 y) (.string ⟨#[]⟩) (.slice (some ⟨w2.heap.size + 1, 0, none⟩) 2 2)
  refine bodyPost_ret (v := .agg #[.int .i64 9, .int .i64 y, .string ⟨#[]⟩, .slice (some ⟨w2.heap.size + 1, 0, none⟩) 2 2]) (by simp [results, Tryd.results10, go_sem, t0, t1, t2, t3]) rfl ⟨(9, y, [], some ⟨w2.heap.size + 1, 0, none⟩, 2, 2), rfl, ?_, ?_⟩
  · exact HE.out.grown gp (fun q hq => ⟨trivial, fun e => by injection e with e; have := hq.1; omega⟩)
  · exact HR.out.trans (Rel.grown HRt.out gp (fun k e => by cases e; exact Nat.le_refl _))
set_option maxRecDepth 100000 in
set_option maxHeartbeats 16000000 in
theorem wild_2 (A : Option Addr) (c : Nat) (L : List Int) (what y : Int) (hw : i64 what) (hy : i64 y) (hu : pk what 10 = 2) (w0 w : World) (hr : Rel w0 w) (hi : IntsIn w A c L) :
    Calls Tryd.prog 10 #[.slice A L.length c, .int .i64 what, .int .i64 y] w fun e w' => ∃ v : El, e = .returned (EV v) ∧ ExAt (fun _ => True) w' v (wildX (strat L) what y) ∧ Rel w0 w' := by
  have HR := Lib.hid hr
  have HU := Lib.hid hu
  obtain ⟨w1, w2'⟩ := hw
  obtain ⟨y1, y2⟩ := hy
  obtain ⟨x, hx⟩ : ∃ x, strat L = x := ⟨_, rfl⟩
  have hA := hr.self.alloc (.cells #[.int .i64 0, .int .i64 0, .string ⟨#[]⟩, .slice none 0 0] 27)
  have HA := Lib.hid hA
  have HZ := Lib.hid (Bk.new w 27 #[.int .i64 0, .int .i64 0, .string ⟨#[]⟩, .slice none 0 0])
  have HStx := Lib.hid (strat_any A c L _ _ hA.self (hi.rel hA))
  rw [hx] at HStx ⊢
  have HX : wildX x what y = .mk 9 0 [97] [x, x] := by unfold wildX; rw [hu]; rfl
  clear hx hi hr hu hA
  go_enter Tryd.func10, Tryd.ntmps10
  go_upto_region 35 with (first
    | (go_at_call 9; (with_reducible refine HStx.out.mono ?_); rintro e w2 ⟨vx, rfl, ex, h2⟩)
    | (go_at_call 24; (with_reducible refine (pk_as what 10 2 HU w1 w2' (by omega) (by omega) _).mono ?_); rintro e w' ⟨rfl, rfl⟩))
  have hsz := h2.size
  rw [World.size_alloc] at hsz
  have EX := Lib.hid (ex.mono (S' := fun q => w.heap.size < q ∧ q < w2.heap.size) (Nat.le_refl _) fun g hg hl => ⟨⟨by rw [World.size_alloc] at hg; omega, hl⟩, rfl⟩)
  have HZ2 := Lib.hid (HZ.out.rel h2)
  have HW2 := Lib.hid (HA.out.trans h2)
  clear ex h2 HStx HA HZ
  have hr2 := Bk.new (w2.alloc (.cells #[.int .i64 vx.1, .int .i64 vx.2.1, .string (B vx.2.2.1), .slice vx.2.2.2.1 vx.2.2.2.2.1 vx.2.2.2.2.2] 27)) 27 #[.int .i64 vx.1, .int .i64 vx.2.1, .string (B vx.2.2.1), .slice vx.2.2.2.1 vx.2.2.2.2.1 vx.2.2.2.2.2, .int .i64 vx.1, .int .i64 vx.2.1, .string (B vx.2.2.1), .slice vx.2.2.2.1 vx.2.2.2.2.1 vx.2.2.2.2.2]
  try simp only [World.size_alloc] at hr2
  have hr2 := (hr2.alloc (.cells #[.int .i64 9, .int .i64 0, .string ⟨#[97]⟩, .slice (some ⟨w2.heap.size + 1, 0, none⟩) 2 2] 27))
  have h8 := Bk.new ((w2.alloc (.cells #[.int .i64 vx.1, .int .i64 vx.2.1, .string (B vx.2.2.1), .slice vx.2.2.2.1 vx.2.2.2.2.1 vx.2.2.2.2.2] 27)).alloc (.cells #[.int .i64 vx.1, .int .i64 vx.2.1, .string (B vx.2.2.1), .slice vx.2.2.2.1 vx.2.2.2.2.1 vx.2.2.2.2.2, .int .i64 vx.1, .int .i64 vx.2.1, .string (B vx.2.2.1), .slice vx.2.2.2.1 vx.2.2.2.2.1 vx.2.2.2.2.2] 27)) 27 #[.int .i64 9, .int .i64 0, .string ⟨#[97]⟩, .slice (some ⟨w2.heap.size + 1, 0, none⟩) 2 2]
  try simp only [World.size_alloc] at h8
  have h8 := h8
  have RT := (((HW2.out.self.alloc (.cells #[.int .i64 vx.1, .int .i64 vx.2.1, .string (B vx.2.2.1), .slice vx.2.2.2.1 vx.2.2.2.2.1 vx.2.2.2.2.2] 27)).alloc (.cells #[.int .i64 vx.1, .int .i64 vx.2.1, .string (B vx.2.2.1), .slice vx.2.2.2.1 vx.2.2.2.2.1 vx.2.2.2.2.2, .int .i64 vx.1, .int .i64 vx.2.1, .string (B vx.2.2.1), .slice vx.2.2.2.1 vx.2.2.2.2.1 vx.2.2.2.2.2] 27)).alloc (.cells #[.int .i64 9, .int .i64 0, .string ⟨#[97]⟩, .slice (some ⟨w2.heap.size + 1, 0, none⟩) 2 2] 27))
  have H8 := Lib.hid h8
  have H0 := Lib.hid (HZ2.out.rel RT)
  have HRt := Lib.hid (HW2.out.trans RT)
  have EXt := (EX.out.rel RT).weak (S' := Out3 w.heap.size w2.heap.size) fun q hq => ⟨hq.1, by omega, by omega⟩
  have hS : Out3 w.heap.size w2.heap.size (w2.heap.size + 1) := ⟨by omega, by omega, by omega⟩
  have HE := Lib.hid (show ExAt (Out3 w.heap.size w2.heap.size) ((((w2.alloc (.cells #[.int .i64 vx.1, .int .i64 vx.2.1, .string (B vx.2.2.1), .slice vx.2.2.2.1 vx.2.2.2.2.1 vx.2.2.2.2.2] 27)).alloc (.cells #[.int .i64 vx.1, .int .i64 vx.2.1, .string (B vx.2.2.1), .slice vx.2.2.2.1 vx.2.2.2.2.1 vx.2.2.2.2.2, .int .i64 vx.1, .int .i64 vx.2.1, .string (B vx.2.2.1), .slice vx.2.2.2.1 vx.2.2.2.2.1 vx.2.2.2.2.2] 27)).alloc (.cells #[.int .i64 9, .int .i64 0, .string ⟨#[97]⟩, .slice (some ⟨w2.heap.size + 1, 0, none⟩) 2 2] 27))) (9, 0, [97], some ⟨w2.heap.size + 1, 0, none⟩, 2, 2) (wildX x what y) from by
    rw [HX]
    exact ExAt.two (a := vx) (b := vx) (ok64 (by decide) (by decide)) (ok64 (by decide) (by decide)) (by decide) hr2 hS EXt EXt)
  obtain ⟨Wt, hWt⟩ : ∃ Wt, (((w2.alloc (.cells #[.int .i64 vx.1, .int .i64 vx.2.1, .string (B vx.2.2.1), .slice vx.2.2.2.1 vx.2.2.2.2.1 vx.2.2.2.2.2] 27)).alloc (.cells #[.int .i64 vx.1, .int .i64 vx.2.1, .string (B vx.2.2.1), .slice vx.2.2.2.1 vx.2.2.2.2.1 vx.2.2.2.2.2, .int .i64 vx.1, .int .i64 vx.2.1, .string (B vx.2.2.1), .slice vx.2.2.2.1 vx.2.2.2.2.1 vx.2.2.2.2.2] 27)).alloc (.cells #[.int .i64 9, .int .i64 0, .string ⟨#[97]⟩, .slice (some ⟨w2.heap.size + 1, 0, none⟩) 2 2] 27)) = Wt := ⟨_, rfl⟩
  rw [hWt] at H8 H0 HRt HE ⊢
  clear hWt hr2 h8 RT EXt hS
  obtain ⟨⟨c0, c1, c2, c3⟩, _⟩ := H8.out.four
  obtain ⟨_, f0, f1, f2, f3⟩ := H0.out.four
  go_wp2_with (fail)
  obtain ⟨⟨t0, t1, t2, t3⟩, _⟩ := (H0.out.put4 (.int .i64 9) (.int .i64 0) (.string ⟨#[97]⟩) (.slice (some ⟨w2.heap.size + 1, 0, none⟩) 2 2)).four
  have gp := put4_grown Wt w.heap.size (.int .i64 9) (.int .i64 0) (.string ⟨#[97]⟩) (.slice (some ⟨w2.heap.size + 1, 0, none⟩) 2 2)
  refine bodyPost_ret (v := .agg #[.int .i64 9, .int .i64 0, .string ⟨#[97]⟩, .slice (some ⟨w2.heap.size + 1, 0, none⟩) 2 2]) (by simp [results, Tryd.results10, go_sem, t0, t1, t2, t3]) rfl ⟨(9, 0, [97], some ⟨w2.heap.size + 1, 0, none⟩, 2, 2), rfl, ?_, ?_⟩
  · exact HE.out.grown gp (fun q hq => ⟨trivial, fun e => by injection e with e; have := hq.1; omega⟩)
  · exact HR.out.trans (Rel.grown HRt.out gp (fun k e => by cases e; exact Nat.le_refl _))
set_option maxRecDepth 100000 in
set_option maxHeartbeats 16000000 in
theorem wild_3 (A : Option Addr) (c : Nat) (L : List Int) (what y : Int) (hw : i64 what) (hy : i64 y) (hu : pk what 10 = 3) (w0 w : World) (hr : Rel w0 w) (hi : IntsIn w A c L) :
    Calls Tryd.prog 10 #[.slice A L.length c, .int .i64 what, .int .i64 y] w fun e w' => ∃ v : El, e = .returned (EV v) ∧ ExAt (fun _ => True) w' v (wildX (strat L) what y) ∧ Rel w0 w' := by
  have HR := Lib.hid hr
  have HU := Lib.hid hu
  obtain ⟨w1, w2'⟩ := hw
  obtain ⟨y1, y2⟩ := hy
  obtain ⟨x, hx⟩ : ∃ x, strat L = x := ⟨_, rfl⟩
  have hA := hr.self.alloc (.cells #[.int .i64 0, .int .i64 0, .string ⟨#[]⟩, .slice none 0 0] 27)
  have HA := Lib.hid hA
  have HZ := Lib.hid (Bk.new w 27 #[.int .i64 0, .int .i64 0, .string ⟨#[]⟩, .slice none 0 0])
  have HStx := Lib.hid (strat_any A c L _ _ hA.self (hi.rel hA))
  rw [hx] at HStx ⊢
  have HX : wildX x what y = .mk 9 0 [] [x] := by unfold wildX; rw [hu]; rfl
  clear hx hi hr hu hA
  go_enter Tryd.func10, Tryd.ntmps10
  go_upto_region 35 with (first
    | (go_at_call 9; (with_reducible refine HStx.out.mono ?_); rintro e w2 ⟨vx, rfl, ex, h2⟩)
    | (go_at_call 24; (with_reducible refine (pk_as what 10 3 HU w1 w2' (by omega) (by omega) _).mono ?_); rintro e w' ⟨rfl, rfl⟩))
  have hsz := h2.size
  rw [World.size_alloc] at hsz
  have EX := Lib.hid (ex.mono (S' := fun q => w.heap.size < q ∧ q < w2.heap.size) (Nat.le_refl _) fun g hg hl => ⟨⟨by rw [World.size_alloc] at hg; omega, hl⟩, rfl⟩)
  have HZ2 := Lib.hid (HZ.out.rel h2)
  have HW2 := Lib.hid (HA.out.trans h2)
  clear ex h2 HStx HA HZ
  have hr2 := Bk.new (w2.alloc (.cells #[.int .i64 vx.1, .int .i64 vx.2.1, .string (B vx.2.2.1), .slice vx.2.2.2.1 vx.2.2.2.2.1 vx.2.2.2.2.2] 27)) 27 #[.int .i64 vx.1, .int .i64 vx.2.1, .string (B vx.2.2.1), .slice vx.2.2.2.1 vx.2.2.2.2.1 vx.2.2.2.2.2, .int .i64 vx.1, .int .i64 vx.2.1, .string (B vx.2.2.1), .slice vx.2.2.2.1 vx.2.2.2.2.1 vx.2.2.2.2.2]
  try simp only [World.size_alloc] at hr2
  have hr2 := (hr2.alloc (.cells #[.int .i64 9, .int .i64 0, .string ⟨#[]⟩, .slice (some ⟨w2.heap.size + 1, 0, none⟩) 1 2] 27))
  have h8 := Bk.new ((w2.alloc (.cells #[.int .i64 vx.1, .int .i64 vx.2.1, .string (B vx.2.2.1), .slice vx.2.2.2.1 vx.2.2.2.2.1 vx.2.2.2.2.2] 27)).alloc (.cells #[.int .i64 vx.1, .int .i64 vx.2.1, .string (B vx.2.2.1), .slice vx.2.2.2.1 vx.2.2.2.2.1 vx.2.2.2.2.2, .int .i64 vx.1, .int .i64 vx.2.1, .string (B vx.2.2.1), .slice vx.2.2.2.1 vx.2.2.2.2.1 vx.2.2.2.2.2] 27)) 27 #[.int .i64 9, .int .i64 0, .string ⟨#[]⟩, .slice (some ⟨w2.heap.size + 1, 0, none⟩) 1 2]
  try simp only [World.size_alloc] at h8
  have h8 := h8
  have RT := (((HW2.out.self.alloc (.cells #[.int .i64 vx.1, .int .i64 vx.2.1, .string (B vx.2.2.1), .slice vx.2.2.2.1 vx.2.2.2.2.1 vx.2.2.2.2.2] 27)).alloc (.cells #[.int .i64 vx.1, .int .i64 vx.2.1, .string (B vx.2.2.1), .slice vx.2.2.2.1 vx.2.2.2.2.1 vx.2.2.2.2.2, .int .i64 vx.1, .int .i64 vx.2.1, .string (B vx.2.2.1), .slice vx.2.2.2.1 vx.2.2.2.2.1 vx.2.2.2.2.2] 27)).alloc (.cells #[.int .i64 9, .int .i64 0, .string ⟨#[]⟩, .slice (some ⟨w2.heap.size + 1, 0, none⟩) 1 2] 27))
  have H8 := Lib.hid h8
  have H0 := Lib.hid (HZ2.out.rel RT)
  have HRt := Lib.hid (HW2.out.trans RT)
  have EXt := (EX.out.rel RT).weak (S' := Out3 w.heap.size w2.heap.size) fun q hq => ⟨hq.1, by omega, by omega⟩
  have hS : Out3 w.heap.size w2.heap.size (w2.heap.size + 1) := ⟨by omega, by omega, by omega⟩
  have HE := Lib.hid (show ExAt (Out3 w.heap.size w2.heap.size) ((((w2.alloc (.cells #[.int .i64 vx.1, .int .i64 vx.2.1, .string (B vx.2.2.1), .slice vx.2.2.2.1 vx.2.2.2.2.1 vx.2.2.2.2.2] 27)).alloc (.cells #[.int .i64 vx.1, .int .i64 vx.2.1, .string (B vx.2.2.1), .slice vx.2.2.2.1 vx.2.2.2.2.1 vx.2.2.2.2.2, .int .i64 vx.1, .int .i64 vx.2.1, .string (B vx.2.2.1), .slice vx.2.2.2.1 vx.2.2.2.2.1 vx.2.2.2.2.2] 27)).alloc (.cells #[.int .i64 9, .int .i64 0, .string ⟨#[]⟩, .slice (some ⟨w2.heap.size + 1, 0, none⟩) 1 2] 27))) (9, 0, [], some ⟨w2.heap.size + 1, 0, none⟩, 1, 2) (wildX x what y) from by
    rw [HX]
    exact ExAt.mk 9 0 [] _ 2 [x] [vx] (ok64 (by decide) (by decide)) (ok64 (by decide) (by decide)) (Nat.zero_le _) rfl (RowE.first (b := vx) (RowE.of_bk hr2 hS)) (fun i h h' => by
      match i, h, h' with
      | 0, _, _ => exact EXt))
  obtain ⟨Wt, hWt⟩ : ∃ Wt, (((w2.alloc (.cells #[.int .i64 vx.1, .int .i64 vx.2.1, .string (B vx.2.2.1), .slice vx.2.2.2.1 vx.2.2.2.2.1 vx.2.2.2.2.2] 27)).alloc (.cells #[.int .i64 vx.1, .int .i64 vx.2.1, .string (B vx.2.2.1), .slice vx.2.2.2.1 vx.2.2.2.2.1 vx.2.2.2.2.2, .int .i64 vx.1, .int .i64 vx.2.1, .string (B vx.2.2.1), .slice vx.2.2.2.1 vx.2.2.2.2.1 vx.2.2.2.2.2] 27)).alloc (.cells #[.int .i64 9, .int .i64 0, .string ⟨#[]⟩, .slice (some ⟨w2.heap.size + 1, 0, none⟩) 1 2] 27)) = Wt := ⟨_, rfl⟩
  rw [hWt] at H8 H0 HRt HE ⊢
  clear hWt hr2 h8 RT EXt hS
  obtain ⟨⟨c0, c1, c2, c3⟩, _⟩ := H8.out.four
  obtain ⟨_, f0, f1, f2, f3⟩ := H0.out.four
  go_wp2_with (fail)
  obtain ⟨⟨t0, t1, t2, t3⟩, _⟩ := (H0.out.put4 (.int .i64 9) (.int .i64 0) (.string ⟨#[]⟩) (.slice (some ⟨w2.heap.size + 1, 0, none⟩) 1 2)).four
  have gp := put4_grown Wt w.heap.size (.int .i64 9) (.int .i64 0) (.string ⟨#[]⟩) (.slice (some ⟨w2.heap.size + 1, 0, none⟩) 1 2)
  refine bodyPost_ret (v := .agg #[.int .i64 9, .int .i64 0, .string ⟨#[]⟩, .slice (some ⟨w2.heap.size + 1, 0, none⟩) 1 2]) (by simp [results, Tryd.results10, go_sem, t0, t1, t2, t3]) rfl ⟨(9, 0, [], some ⟨w2.heap.size + 1, 0, none⟩, 1, 2), rfl, ?_, ?_⟩
  · exact HE.out.grown gp (fun q hq => ⟨trivial, fun e => by injection e with e; have := hq.1; omega⟩)
  · exact HR.out.trans (Rel.grown HRt.out gp (fun k e => by cases e; exact Nat.le_refl _))
set_option maxRecDepth 100000 in
set_option maxHeartbeats 16000000 in
theorem wild_4 (A : Option Addr) (c : Nat) (L : List Int) (what y : Int) (hw : i64 what) (hy : i64 y) (hu : pk what 10 = 4) (w0 w : World) (hr : Rel w0 w) (hi : IntsIn w A c L) :
    Calls Tryd.prog 10 #[.slice A L.length c, .int .i64 what, .int .i64 y] w fun e w' => ∃ v : El, e = .returned (EV v) ∧ ExAt (fun _ => True) w' v (wildX (strat L) what y) ∧ Rel w0 w' := by
  have HR := Lib.hid hr
  have HU := Lib.hid hu
  obtain ⟨w1, w2'⟩ := hw
  obtain ⟨y1, y2⟩ := hy
  obtain ⟨x, hx⟩ : ∃ x, strat L = x := ⟨_, rfl⟩
  have hA := hr.self.alloc (.cells #[.int .i64 0, .int .i64 0, .string ⟨#[]⟩, .slice none 0 0] 27)
  have HA := Lib.hid hA
  have HZ := Lib.hid (Bk.new w 27 #[.int .i64 0, .int .i64 0, .string ⟨#[]⟩, .slice none 0 0])
  have HStx := Lib.hid (strat_any A c L _ _ hA.self (hi.rel hA))
  rw [hx] at HStx ⊢
  have HX : wildX x what y = .mk 9 0 [] [x, .mk 11 0 [] []] := by unfold wildX; rw [hu]; rfl
  clear hx hi hr hu hA
  go_enter Tryd.func10, Tryd.ntmps10
  go_upto_region 35 with (first
    | (go_at_call 9; (with_reducible refine HStx.out.mono ?_); rintro e w2 ⟨vx, rfl, ex, h2⟩)
    | (go_at_call 24; (with_reducible refine (pk_as what 10 4 HU w1 w2' (by omega) (by omega) _).mono ?_); rintro e w' ⟨rfl, rfl⟩))
  have hsz := h2.size
  rw [World.size_alloc] at hsz
  have EX := Lib.hid (ex.mono (S' := fun q => w.heap.size < q ∧ q < w2.heap.size) (Nat.le_refl _) fun g hg hl => ⟨⟨by rw [World.size_alloc] at hg; omega, hl⟩, rfl⟩)
  have HZ2 := Lib.hid (HZ.out.rel h2)
  have HW2 := Lib.hid (HA.out.trans h2)
  clear ex h2 HStx HA HZ
  have hr2 := Bk.new (w2.alloc (.cells #[.int .i64 vx.1, .int .i64 vx.2.1, .string (B vx.2.2.1), .slice vx.2.2.2.1 vx.2.2.2.2.1 vx.2.2.2.2.2] 27)) 27 #[.int .i64 vx.1, .int .i64 vx.2.1, .string (B vx.2.2.1), .slice vx.2.2.2.1 vx.2.2.2.2.1 vx.2.2.2.2.2, .int .i64 11, .int .i64 0, .string ⟨#[]⟩, .slice none 0 0]
  try simp only [World.size_alloc] at hr2
  have hr2 := (hr2.alloc (.cells #[.int .i64 9, .int .i64 0, .string ⟨#[]⟩, .slice (some ⟨w2.heap.size + 1, 0, none⟩) 2 2] 27))
  have h8 := Bk.new ((w2.alloc (.cells #[.int .i64 vx.1, .int .i64 vx.2.1, .string (B vx.2.2.1), .slice vx.2.2.2.1 vx.2.2.2.2.1 vx.2.2.2.2.2] 27)).alloc (.cells #[.int .i64 vx.1, .int .i64 vx.2.1, .string (B vx.2.2.1), .slice vx.2.2.2.1 vx.2.2.2.2.1 vx.2.2.2.2.2, .int .i64 11, .int .i64 0, .string ⟨#[]⟩, .slice none 0 0] 27)) 27 #[.int .i64 9, .int .i64 0, .string ⟨#[]⟩, .slice (some ⟨w2.heap.size + 1, 0, none⟩) 2 2]
  try simp only [World.size_alloc] at h8
  have h8 := h8
  have RT := (((HW2.out.self.alloc (.cells #[.int .i64 vx.1, .int .i64 vx.2.1, .string (B vx.2.2.1), .slice vx.2.2.2.1 vx.2.2.2.2.1 vx.2.2.2.2.2] 27)).alloc (.cells #[.int .i64 vx.1, .int .i64 vx.2.1, .string (B vx.2.2.1), .slice vx.2.2.2.1 vx.2.2.2.2.1 vx.2.2.2.2.2, .int .i64 11, .int .i64 0, .string ⟨#[]⟩, .slice none 0 0] 27)).alloc (.cells #[.int .i64 9, .int .i64 0, .string ⟨#[]⟩, .slice (some ⟨w2.heap.size + 1, 0, none⟩) 2 2] 27))
  have H8 := Lib.hid h8
  have H0 := Lib.hid (HZ2.out.rel RT)
  have HRt := Lib.hid (HW2.out.trans RT)
  have EXt := (EX.out.rel RT).weak (S' := Out3 w.heap.size w2.heap.size) fun q hq => ⟨hq.1, by omega, by omega⟩
  have hS : Out3 w.heap.size w2.heap.size (w2.heap.size + 1) := ⟨by omega, by omega, by omega⟩
  have HE := Lib.hid (show ExAt (Out3 w.heap.size w2.heap.size) ((((w2.alloc (.cells #[.int .i64 vx.1, .int .i64 vx.2.1, .string (B vx.2.2.1), .slice vx.2.2.2.1 vx.2.2.2.2.1 vx.2.2.2.2.2] 27)).alloc (.cells #[.int .i64 vx.1, .int .i64 vx.2.1, .string (B vx.2.2.1), .slice vx.2.2.2.1 vx.2.2.2.2.1 vx.2.2.2.2.2, .int .i64 11, .int .i64 0, .string ⟨#[]⟩, .slice none 0 0] 27)).alloc (.cells #[.int .i64 9, .int .i64 0, .string ⟨#[]⟩, .slice (some ⟨w2.heap.size + 1, 0, none⟩) 2 2] 27))) (9, 0, [], some ⟨w2.heap.size + 1, 0, none⟩, 2, 2) (wildX x what y) from by
    rw [HX]
    exact ExAt.two (a := vx) (b := (11, 0, [], none, 0, 0)) (ok64 (by decide) (by decide)) (ok64 (by decide) (by decide)) (Nat.zero_le _) hr2 hS EXt (ExAt.leaf _ _ 11 0 [] none 0 (ok64 (by decide) (by decide)) (ok64 (by decide) (by decide)) (Nat.zero_le _)))
  obtain ⟨Wt, hWt⟩ : ∃ Wt, (((w2.alloc (.cells #[.int .i64 vx.1, .int .i64 vx.2.1, .string (B vx.2.2.1), .slice vx.2.2.2.1 vx.2.2.2.2.1 vx.2.2.2.2.2] 27)).alloc (.cells #[.int .i64 vx.1, .int .i64 vx.2.1, .string (B vx.2.2.1), .slice vx.2.2.2.1 vx.2.2.2.2.1 vx.2.2.2.2.2, .int .i64 11, .int .i64 0, .string ⟨#[]⟩, .slice none 0 0] 27)).alloc (.cells #[.int .i64 9, .int .i64 0, .string ⟨#[]⟩, .slice (some ⟨w2.heap.size + 1, 0, none⟩) 2 2] 27)) = Wt := ⟨_, rfl⟩
  rw [hWt] at H8 H0 HRt HE ⊢
  clear hWt hr2 h8 RT EXt hS
  obtain ⟨⟨c0, c1, c2, c3⟩, _⟩ := H8.out.four
  obtain ⟨_, f0, f1, f2, f3⟩ := H0.out.four
  go_wp2_with (fail)
  obtain ⟨⟨t0, t1, t2, t3⟩, _⟩ := (H0.out.put4 (.int .i64 9) (.int .i64 0) (.string ⟨#[]⟩) (.slice (some ⟨w2.heap.size + 1, 0, none⟩) 2 2)).four
  have gp := put4_grown Wt w.heap.size (.int .i64 9) (.int .i64 0) (.string ⟨#[]⟩) (.slice (some ⟨w2.heap.size + 1, 0, none⟩) 2 2)
  refine bodyPost_ret (v := .agg #[.int .i64 9, .int .i64 0, .string ⟨#[]⟩, .slice (some ⟨w2.heap.size + 1, 0, none⟩) 2 2]) (by simp [results, Tryd.results10, go_sem, t0, t1, t2, t3]) rfl ⟨(9, 0, [], some ⟨w2.heap.size + 1, 0, none⟩, 2, 2), rfl, ?_, ?_⟩
  · exact HE.out.grown gp (fun q hq => ⟨trivial, fun e => by injection e with e; have := hq.1; omega⟩)
  · exact HR.out.trans (Rel.grown HRt.out gp (fun k e => by cases e; exact Nat.le_refl _))
set_option maxRecDepth 100000 in
set_option maxHeartbeats 16000000 in
theorem wild_5 (A : Option Addr) (c : Nat) (L : List Int) (what y : Int) (hw : i64 what) (hy : i64 y) (hu : pk what 10 = 5) (w0 w : World) (hr : Rel w0 w) (hi : IntsIn w A c L) :
    Calls Tryd.prog 10 #[.slice A L.length c, .int .i64 what, .int .i64 y] w fun e w' => ∃ v : El, e = .returned (EV v) ∧ ExAt (fun _ => True) w' v (wildX (strat L) what y) ∧ Rel w0 w' := by
  have HR := Lib.hid hr
  have HU := Lib.hid hu
  obtain ⟨w1, w2'⟩ := hw
  obtain ⟨y1, y2⟩ := hy
  obtain ⟨x, hx⟩ : ∃ x, strat L = x := ⟨_, rfl⟩
  have hA := hr.self.alloc (.cells #[.int .i64 0, .int .i64 0, .string ⟨#[]⟩, .slice none 0 0] 27)
  have HA := Lib.hid hA
  have HZ := Lib.hid (Bk.new w 27 #[.int .i64 0, .int .i64 0, .string ⟨#[]⟩, .slice none 0 0])
  have HStx := Lib.hid (strat_any A c L _ _ hA.self (hi.rel hA))
  rw [hx] at HStx ⊢
  have HX : wildX x what y = .mk 10 0 [] [x, x, x] := by unfold wildX; rw [hu]; rfl
  clear hx hi hr hu hA
  go_enter Tryd.func10, Tryd.ntmps10
  go_upto_region 35 with (first
    | (go_at_call 9; (with_reducible refine HStx.out.mono ?_); rintro e w2 ⟨vx, rfl, ex, h2⟩)
    | (go_at_call 24; (with_reducible refine (pk_as what 10 5 HU w1 w2' (by omega) (by omega) _).mono ?_); rintro e w' ⟨rfl, rfl⟩))
  have hsz := h2.size
  rw [World.size_alloc] at hsz
  have EX := Lib.hid (ex.mono (S' := fun q => w.heap.size < q ∧ q < w2.heap.size) (Nat.le_refl _) fun g hg hl => ⟨⟨by rw [World.size_alloc] at hg; omega, hl⟩, rfl⟩)
  have HZ2 := Lib.hid (HZ.out.rel h2)
  have HW2 := Lib.hid (HA.out.trans h2)
  clear ex h2 HStx HA HZ
  have hr2 := Bk.new (((w2.alloc (.cells #[.int .i64 vx.1, .int .i64 vx.2.1, .string (B vx.2.2.1), .slice vx.2.2.2.1 vx.2.2.2.2.1 vx.2.2.2.2.2] 27)).alloc (.cells #[.int .i64 vx.1, .int .i64 vx.2.1, .string (B vx.2.2.1), .slice vx.2.2.2.1 vx.2.2.2.2.1 vx.2.2.2.2.2, .int .i64 vx.1, .int .i64 vx.2.1, .string (B vx.2.2.1), .slice vx.2.2.2.1 vx.2.2.2.2.1 vx.2.2.2.2.2] 27)).alloc (.cells #[.int .i64 10, .int .i64 0, .string ⟨#[]⟩, .slice (some ⟨w2.heap.size + 1 + 1 + 1, 0, none⟩) 3 3] 27)) 27 #[.int .i64 vx.1, .int .i64 vx.2.1, .string (B vx.2.2.1), .slice vx.2.2.2.1 vx.2.2.2.2.1 vx.2.2.2.2.2, .int .i64 vx.1, .int .i64 vx.2.1, .string (B vx.2.2.1), .slice vx.2.2.2.1 vx.2.2.2.2.1 vx.2.2.2.2.2, .int .i64 vx.1, .int .i64 vx.2.1, .string (B vx.2.2.1), .slice vx.2.2.2.1 vx.2.2.2.2.1 vx.2.2.2.2.2]
  try simp only [World.size_alloc] at hr2
  have hr2 := hr2
  have h8 := Bk.new ((w2.alloc (.cells #[.int .i64 vx.1, .int .i64 vx.2.1, .string (B vx.2.2.1), .slice vx.2.2.2.1 vx.2.2.2.2.1 vx.2.2.2.2.2] 27)).alloc (.cells #[.int .i64 vx.1, .int .i64 vx.2.1, .string (B vx.2.2.1), .slice vx.2.2.2.1 vx.2.2.2.2.1 vx.2.2.2.2.2, .int .i64 vx.1, .int .i64 vx.2.1, .string (B vx.2.2.1), .slice vx.2.2.2.1 vx.2.2.2.2.1 vx.2.2.2.2.2] 27)) 27 #[.int .i64 10, .int .i64 0, .string ⟨#[]⟩, .slice (some ⟨w2.heap.size + 1 + 1 + 1, 0, none⟩) 3 3]
  try simp only [World.size_alloc] at h8
  have h8 := (h8.alloc (.cells #[.int .i64 vx.1, .int .i64 vx.2.1, .string (B vx.2.2.1), .slice vx.2.2.2.1 vx.2.2.2.2.1 vx.2.2.2.2.2, .int .i64 vx.1, .int .i64 vx.2.1, .string (B vx.2.2.1), .slice vx.2.2.2.1 vx.2.2.2.2.1 vx.2.2.2.2.2, .int .i64 vx.1, .int .i64 vx.2.1, .string (B vx.2.2.1), .slice vx.2.2.2.1 vx.2.2.2.2.1 vx.2.2.2.2.2] 27))
  have RT := ((((HW2.out.self.alloc (.cells #[.int .i64 vx.1, .int .i64 vx.2.1, .string (B vx.2.2.1), .slice vx.2.2.2.1 vx.2.2.2.2.1 vx.2.2.2.2.2] 27)).alloc (.cells #[.int .i64 vx.1, .int .i64 vx.2.1, .string (B vx.2.2.1), .slice vx.2.2.2.1 vx.2.2.2.2.1 vx.2.2.2.2.2, .int .i64 vx.1, .int .i64 vx.2.1, .string (B vx.2.2.1), .slice vx.2.2.2.1 vx.2.2.2.2.1 vx.2.2.2.2.2] 27)).alloc (.cells #[.int .i64 10, .int .i64 0, .string ⟨#[]⟩, .slice (some ⟨w2.heap.size + 1 + 1 + 1, 0, none⟩) 3 3] 27)).alloc (.cells #[.int .i64 vx.1, .int .i64 vx.2.1, .string (B vx.2.2.1), .slice vx.2.2.2.1 vx.2.2.2.2.1 vx.2.2.2.2.2, .int .i64 vx.1, .int .i64 vx.2.1, .string (B vx.2.2.1), .slice vx.2.2.2.1 vx.2.2.2.2.1 vx.2.2.2.2.2, .int .i64 vx.1, .int .i64 vx.2.1, .string (B vx.2.2.1), .slice vx.2.2.2.1 vx.2.2.2.2.1 vx.2.2.2.2.2] 27))
  have H8 := Lib.hid h8
  have H0 := Lib.hid (HZ2.out.rel RT)
  have HRt := Lib.hid (HW2.out.trans RT)
  have EXt := (EX.out.rel RT).weak (S' := Out3 w.heap.size w2.heap.size) fun q hq => ⟨hq.1, by omega, by omega⟩
  have hS : Out3 w.heap.size w2.heap.size (w2.heap.size + 1 + 1 + 1) := ⟨by omega, by omega, by omega⟩
  have HE := Lib.hid (show ExAt (Out3 w.heap.size w2.heap.size) (((((w2.alloc (.cells #[.int .i64 vx.1, .int .i64 vx.2.1, .string (B vx.2.2.1), .slice vx.2.2.2.1 vx.2.2.2.2.1 vx.2.2.2.2.2] 27)).alloc (.cells #[.int .i64 vx.1, .int .i64 vx.2.1, .string (B vx.2.2.1), .slice vx.2.2.2.1 vx.2.2.2.2.1 vx.2.2.2.2.2, .int .i64 vx.1, .int .i64 vx.2.1, .string (B vx.2.2.1), .slice vx.2.2.2.1 vx.2.2.2.2.1 vx.2.2.2.2.2] 27)).alloc (.cells #[.int .i64 10, .int .i64 0, .string ⟨#[]⟩, .slice (some ⟨w2.heap.size + 1 + 1 + 1, 0, none⟩) 3 3] 27)).alloc (.cells #[.int .i64 vx.1, .int .i64 vx.2.1, .string (B vx.2.2.1), .slice vx.2.2.2.1 vx.2.2.2.2.1 vx.2.2.2.2.2, .int .i64 vx.1, .int .i64 vx.2.1, .string (B vx.2.2.1), .slice vx.2.2.2.1 vx.2.2.2.2.1 vx.2.2.2.2.2, .int .i64 vx.1, .int .i64 vx.2.1, .string (B vx.2.2.1), .slice vx.2.2.2.1 vx.2.2.2.2.1 vx.2.2.2.2.2] 27))) (10, 0, [], some ⟨w2.heap.size + 1 + 1 + 1, 0, none⟩, 3, 3) (wildX x what y) from by
    rw [HX]
    exact ExAt.three (a := vx) (b := vx) (d := vx) (ok64 (by decide) (by decide)) (ok64 (by decide) (by decide)) (Nat.zero_le _) hr2 hS EXt EXt EXt)
  obtain ⟨Wt, hWt⟩ : ∃ Wt, ((((w2.alloc (.cells #[.int .i64 vx.1, .int .i64 vx.2.1, .string (B vx.2.2.1), .slice vx.2.2.2.1 vx.2.2.2.2.1 vx.2.2.2.2.2] 27)).alloc (.cells #[.int .i64 vx.1, .int .i64 vx.2.1, .string (B vx.2.2.1), .slice vx.2.2.2.1 vx.2.2.2.2.1 vx.2.2.2.2.2, .int .i64 vx.1, .int .i64 vx.2.1, .string (B vx.2.2.1), .slice vx.2.2.2.1 vx.2.2.2.2.1 vx.2.2.2.2.2] 27)).alloc (.cells #[.int .i64 10, .int .i64 0, .string ⟨#[]⟩, .slice (some ⟨w2.heap.size + 1 + 1 + 1, 0, none⟩) 3 3] 27)).alloc (.cells #[.int .i64 vx.1, .int .i64 vx.2.1, .string (B vx.2.2.1), .slice vx.2.2.2.1 vx.2.2.2.2.1 vx.2.2.2.2.2, .int .i64 vx.1, .int .i64 vx.2.1, .string (B vx.2.2.1), .slice vx.2.2.2.1 vx.2.2.2.2.1 vx.2.2.2.2.2, .int .i64 vx.1, .int .i64 vx.2.1, .string (B vx.2.2.1), .slice vx.2.2.2.1 vx.2.2.2.2.1 vx.2.2.2.2.2] 27)) = Wt := ⟨_, rfl⟩
  rw [hWt] at H8 H0 HRt HE ⊢
  clear hWt hr2 h8 RT EXt hS
  obtain ⟨⟨c0, c1, c2, c3⟩, _⟩ := H8.out.four
  obtain ⟨_, f0, f1, f2, f3⟩ := H0.out.four
  go_wp2_with (fail)
  obtain ⟨⟨t0, t1, t2, t3⟩, _⟩ := (H0.out.put4 (.int .i64 10) (.int .i64 0) (.string ⟨#[]⟩) (.slice (some ⟨w2.heap.size + 1 + 1 + 1, 0, none⟩) 3 3)).four
  have gp := put4_grown Wt w.heap.size (.int .i64 10) (.int .i64 0) (.string ⟨#[]⟩) (.slice (some ⟨w2.heap.size + 1 + 1 + 1, 0, none⟩) 3 3)
  refine bodyPost_ret (v := .agg #[.int .i64 10, .int .i64 0, .string ⟨#[]⟩, .slice (some ⟨w2.heap.size + 1 + 1 + 1, 0, none⟩) 3 3]) (by simp [results, Tryd.results10, go_sem, t0, t1, t2, t3]) rfl ⟨(10, 0, [], some ⟨w2.heap.size + 1 + 1 + 1, 0, none⟩, 3, 3), rfl, ?_, ?_⟩
  · exact HE.out.grown gp (fun q hq => ⟨trivial, fun e => by injection e with e; have := hq.1; omega⟩)
  · exact HR.out.trans (Rel.grown HRt.out gp (fun k e => by cases e; exact Nat.le_refl _))
set_option maxRecDepth 100000 in
set_option maxHeartbeats 16000000 in
theorem wild_6_0 (A : Option Addr) (c : Nat) (L : List Int) (what y : Int) (hw : i64 what) (hy : i64 y) (hu : pk what 10 = 6) (hq : pk y 5 = 0) (w0 w : World) (hr : Rel w0 w) (hi : IntsIn w A c L) :
    Calls Tryd.prog 10 #[.slice A L.length c, .int .i64 what, .int .i64 y] w fun e w' => ∃ v : El, e = .returned (EV v) ∧ ExAt (fun _ => True) w' v (wildX (strat L) what y) ∧ Rel w0 w' := by
  have HR := Lib.hid hr
  have HU := Lib.hid hu
  obtain ⟨w1, w2'⟩ := hw
  obtain ⟨y1, y2⟩ := hy
  obtain ⟨x, hx⟩ : ∃ x, strat L = x := ⟨_, rfl⟩
  have hA := hr.self.alloc (.cells #[.int .i64 0, .int .i64 0, .string ⟨#[]⟩, .slice none 0 0] 27)
  have HA := Lib.hid hA
  have HZ := Lib.hid (Bk.new w 27 #[.int .i64 0, .int .i64 0, .string ⟨#[]⟩, .slice none 0 0])
  have HStx := Lib.hid (strat_any A c L _ _ hA.self (hi.rel hA))
  rw [hx] at HStx ⊢
  have HQ := Lib.hid hq
  have HX : wildX x what y = .mk 3 0 [] [] := by unfold wildX; rw [hu, hq]; rfl
  clear hq
  clear hx hi hr hu hA
  go_enter Tryd.func10, Tryd.ntmps10
  go_upto_region 35 with (first
    | (go_at_call 9; (with_reducible refine HStx.out.mono ?_); rintro e w2 ⟨vx, rfl, ex, h2⟩)
    | (go_at_call 24; (with_reducible refine (pk_as what 10 6 HU w1 w2' (by omega) (by omega) _).mono ?_); rintro e w' ⟨rfl, rfl⟩)
    | (go_at_call 24; (with_reducible refine (pk_as y 5 0 HQ y1 y2 (by omega) (by omega) _).mono ?_); rintro e w' ⟨rfl, rfl⟩))
  have hsz := h2.size
  rw [World.size_alloc] at hsz
  have EX := Lib.hid (ex.mono (S' := fun q => w.heap.size < q ∧ q < w2.heap.size) (Nat.le_refl _) fun g hg hl => ⟨⟨by rw [World.size_alloc] at hg; omega, hl⟩, rfl⟩)
  have HZ2 := Lib.hid (HZ.out.rel h2)
  have HW2 := Lib.hid (HA.out.trans h2)
  clear ex h2 HStx HA HZ
  have hr2 := Bk.new (w2.alloc (.cells #[.int .i64 vx.1, .int .i64 vx.2.1, .string (B vx.2.2.1), .slice vx.2.2.2.1 vx.2.2.2.2.1 vx.2.2.2.2.2] 27)) 27 #[.int .i64 vx.1, .int .i64 vx.2.1, .string (B vx.2.2.1), .slice vx.2.2.2.1 vx.2.2.2.2.1 vx.2.2.2.2.2, .int .i64 vx.1, .int .i64 vx.2.1, .string (B vx.2.2.1), .slice vx.2.2.2.1 vx.2.2.2.2.1 vx.2.2.2.2.2]
  try simp only [World.size_alloc] at hr2
  have hr2 := ((hr2.alloc (.cells #[.int .i64 3, .int .i64 0, .string ⟨#[]⟩, .slice none 0 0] 27)).alloc (.cells #[.string ⟨#[]⟩, .string ⟨#[105, 102]⟩, .string ⟨#[65]⟩, .string ⟨#[97, 49]⟩, .string ⟨#[49, 97]⟩] 9))
  have h8 := Bk.new ((w2.alloc (.cells #[.int .i64 vx.1, .int .i64 vx.2.1, .string (B vx.2.2.1), .slice vx.2.2.2.1 vx.2.2.2.2.1 vx.2.2.2.2.2] 27)).alloc (.cells #[.int .i64 vx.1, .int .i64 vx.2.1, .string (B vx.2.2.1), .slice vx.2.2.2.1 vx.2.2.2.2.1 vx.2.2.2.2.2, .int .i64 vx.1, .int .i64 vx.2.1, .string (B vx.2.2.1), .slice vx.2.2.2.1 vx.2.2.2.2.1 vx.2.2.2.2.2] 27)) 27 #[.int .i64 3, .int .i64 0, .string ⟨#[]⟩, .slice none 0 0]
  try simp only [World.size_alloc] at h8
  have h8 := (h8.alloc (.cells #[.string ⟨#[]⟩, .string ⟨#[105, 102]⟩, .string ⟨#[65]⟩, .string ⟨#[97, 49]⟩, .string ⟨#[49, 97]⟩] 9))
  have RT := ((((HW2.out.self.alloc (.cells #[.int .i64 vx.1, .int .i64 vx.2.1, .string (B vx.2.2.1), .slice vx.2.2.2.1 vx.2.2.2.2.1 vx.2.2.2.2.2] 27)).alloc (.cells #[.int .i64 vx.1, .int .i64 vx.2.1, .string (B vx.2.2.1), .slice vx.2.2.2.1 vx.2.2.2.2.1 vx.2.2.2.2.2, .int .i64 vx.1, .int .i64 vx.2.1, .string (B vx.2.2.1), .slice vx.2.2.2.1 vx.2.2.2.2.1 vx.2.2.2.2.2] 27)).alloc (.cells #[.int .i64 3, .int .i64 0, .string ⟨#[]⟩, .slice none 0 0] 27)).alloc (.cells #[.string ⟨#[]⟩, .string ⟨#[105, 102]⟩, .string ⟨#[65]⟩, .string ⟨#[97, 49]⟩, .string ⟨#[49, 97]⟩] 9))
  have H8 := Lib.hid h8
  have H0 := Lib.hid (HZ2.out.rel RT)
  have HRt := Lib.hid (HW2.out.trans RT)
  have EXt := (EX.out.rel RT).weak (S' := Out3 w.heap.size w2.heap.size) fun q hq => ⟨hq.1, by omega, by omega⟩
  have hS : Out3 w.heap.size w2.heap.size (w2.heap.size + 1) := ⟨by omega, by omega, by omega⟩
  have HE := Lib.hid (show ExAt (Out3 w.heap.size w2.heap.size) (((((w2.alloc (.cells #[.int .i64 vx.1, .int .i64 vx.2.1, .string (B vx.2.2.1), .slice vx.2.2.2.1 vx.2.2.2.2.1 vx.2.2.2.2.2] 27)).alloc (.cells #[.int .i64 vx.1, .int .i64 vx.2.1, .string (B vx.2.2.1), .slice vx.2.2.2.1 vx.2.2.2.2.1 vx.2.2.2.2.2, .int .i64 vx.1, .int .i64 vx.2.1, .string (B vx.2.2.1), .slice vx.2.2.2.1 vx.2.2.2.2.1 vx.2.2.2.2.2] 27)).alloc (.cells #[.int .i64 3, .int .i64 0, .string ⟨#[]⟩, .slice none 0 0] 27)).alloc (.cells #[.string ⟨#[]⟩, .string ⟨#[105, 102]⟩, .string ⟨#[65]⟩, .string ⟨#[97, 49]⟩, .string ⟨#[49, 97]⟩] 9))) (3, 0, [], none, 0, 0) (wildX x what y) from by
    rw [HX]
    exact ExAt.leaf _ _ 3 0 [] none 0 (ok64 (by decide) (by decide)) (ok64 (by decide) (by decide)) (by decide))
  obtain ⟨Wt, hWt⟩ : ∃ Wt, ((((w2.alloc (.cells #[.int .i64 vx.1, .int .i64 vx.2.1, .string (B vx.2.2.1), .slice vx.2.2.2.1 vx.2.2.2.2.1 vx.2.2.2.2.2] 27)).alloc (.cells #[.int .i64 vx.1, .int .i64 vx.2.1, .string (B vx.2.2.1), .slice vx.2.2.2.1 vx.2.2.2.2.1 vx.2.2.2.2.2, .int .i64 vx.1, .int .i64 vx.2.1, .string (B vx.2.2.1), .slice vx.2.2.2.1 vx.2.2.2.2.1 vx.2.2.2.2.2] 27)).alloc (.cells #[.int .i64 3, .int .i64 0, .string ⟨#[]⟩, .slice none 0 0] 27)).alloc (.cells #[.string ⟨#[]⟩, .string ⟨#[105, 102]⟩, .string ⟨#[65]⟩, .string ⟨#[97, 49]⟩, .string ⟨#[49, 97]⟩] 9)) = Wt := ⟨_, rfl⟩
  rw [hWt] at H8 H0 HRt HE ⊢
  clear hWt hr2 h8 RT EXt hS
  obtain ⟨⟨c0, c1, c2, c3⟩, _⟩ := H8.out.four
  obtain ⟨_, f0, f1, f2, f3⟩ := H0.out.four
  go_wp2_with (fail)
  obtain ⟨⟨t0, t1, t2, t3⟩, _⟩ := (H0.out.put4 (.int .i64 3) (.int .i64 0) (.string ⟨#[]⟩) (.slice none 0 0)).four
  have gp := put4_grown Wt w.heap.size (.int .i64 3) (.int .i64 0) (.string ⟨#[]⟩) (.slice none 0 0)
  refine bodyPost_ret (v := .agg #[.int .i64 3, .int .i64 0, .string ⟨#[]⟩, .slice none 0 0]) (by simp [results, Tryd.results10, go_sem, t0, t1, t2, t3]) rfl ⟨(3, 0, [], none, 0, 0), rfl, ?_, ?_⟩
  · exact HE.out.grown gp (fun q hq => ⟨trivial, fun e => by injection e with e; have := hq.1; omega⟩)
  · exact HR.out.trans (Rel.grown HRt.out gp (fun k e => by cases e; exact Nat.le_refl _))
set_option maxRecDepth 100000 in
set_option maxHeartbeats 16000000 in
theorem wild_6_1 (A : Option Addr) (c : Nat) (L : List Int) (what y : Int) (hw : i64 what) (hy : i64 y) (hu : pk what 10 = 6) (hq : pk y 5 = 1) (w0 w : World) (hr : Rel w0 w) (hi : IntsIn w A c L) :
    Calls Tryd.prog 10 #[.slice A L.length c, .int .i64 what, .int .i64 y] w fun e w' => ∃ v : El, e = .returned (EV v) ∧ ExAt (fun _ => True) w' v (wildX (strat L) what y) ∧ Rel w0 w' := by
  have HR := Lib.hid hr
  have HU := Lib.hid hu
  obtain ⟨w1, w2'⟩ := hw
  obtain ⟨y1, y2⟩ := hy
  obtain ⟨x, hx⟩ : ∃ x, strat L = x := ⟨_, rfl⟩
  have hA := hr.self.alloc (.cells #[.int .i64 0, .int .i64 0, .string ⟨#[]⟩, .slice none 0 0] 27)
  have HA := Lib.hid hA
  have HZ := Lib.hid (Bk.new w 27 #[.int .i64 0, .int .i64 0, .string ⟨#[]⟩, .slice none 0 0])
  have HStx := Lib.hid (strat_any A c L _ _ hA.self (hi.rel hA))
  rw [hx] at HStx ⊢
  have HQ := Lib.hid hq
  have HX : wildX x what y = .mk 3 0 [105, 102] [] := by unfold wildX; rw [hu, hq]; rfl
  clear hq
  clear hx hi hr hu hA
  go_enter Tryd.func10, Tryd.ntmps10
  go_upto_region 35 with (first
    | (go_at_call 9; (with_reducible refine HStx.out.mono ?_); rintro e w2 ⟨vx, rfl, ex, h2⟩)
    | (go_at_call 24; (with_reducible refine (pk_as what 10 6 HU w1 w2' (by omega) (by omega) _).mono ?_); rintro e w' ⟨rfl, rfl⟩)
    | (go_at_call 24; (with_reducible refine (pk_as y 5 1 HQ y1 y2 (by omega) (by omega) _).mono ?_); rintro e w' ⟨rfl, rfl⟩))
  have hsz := h2.size
  rw [World.size_alloc] at hsz
  have EX := Lib.hid (ex.mono (S' := fun q => w.heap.size < q ∧ q < w2.heap.size) (Nat.le_refl _) fun g hg hl => ⟨⟨by rw [World.size_alloc] at hg; omega, hl⟩, rfl⟩)
  have HZ2 := Lib.hid (HZ.out.rel h2)
  have HW2 := Lib.hid (HA.out.trans h2)
  clear ex h2 HStx HA HZ
  have hr2 := Bk.new (w2.alloc (.cells #[.int .i64 vx.1, .int .i64 vx.2.1, .string (B vx.2.2.1), .slice vx.2.2.2.1 vx.2.2.2.2.1 vx.2.2.2.2.2] 27)) 27 #[.int .i64 vx.1, .int .i64 vx.2.1, .string (B vx.2.2.1), .slice vx.2.2.2.1 vx.2.2.2.2.1 vx.2.2.2.2.2, .int .i64 vx.1, .int .i64 vx.2.1, .string (B vx.2.2.1), .slice vx.2.2.2.1 vx.2.2.2.2.1 vx.2.2.2.2.2]
  try simp only [World.size_alloc] at hr2
  have hr2 := ((hr2.alloc (.cells #[.int .i64 3, .int .i64 0, .string ⟨#[105, 102]⟩, .slice none 0 0] 27)).alloc (.cells #[.string ⟨#[]⟩, .string ⟨#[105, 102]⟩, .string ⟨#[65]⟩, .string ⟨#[97, 49]⟩, .string ⟨#[49, 97]⟩] 9))
  have h8 := Bk.new ((w2.alloc (.cells #[.int .i64 vx.1, .int .i64 vx.2.1, .string (B vx.2.2.1), .slice vx.2.2.2.1 vx.2.2.2.2.1 vx.2.2.2.2.2] 27)).alloc (.cells #[.int .i64 vx.1, .int .i64 vx.2.1, .string (B vx.2.2.1), .slice vx.2.2.2.1 vx.2.2.2.2.1 vx.2.2.2.2.2, .int .i64 vx.1, .int .i64 vx.2.1, .string (B vx.2.2.1), .slice vx.2.2.2.1 vx.2.2.2.2.1 vx.2.2.2.2.2] 27)) 27 #[.int .i64 3, .int .i64 0, .string ⟨#[105, 102]⟩, .slice none 0 0]
  try simp only [World.size_alloc] at h8
  have h8 := (h8.alloc (.cells #[.string ⟨#[]⟩, .string ⟨#[105, 102]⟩, .string ⟨#[65]⟩, .string ⟨#[97, 49]⟩, .string ⟨#[49, 97]⟩] 9))
  have RT := ((((HW2.out.self.alloc (.cells #[.int .i64 vx.1, .int .i64 vx.2.1, .string (B vx.2.2.1), .slice vx.2.2.2.1 vx.2.2.2.2.1 vx.2.2.2.2.2] 27)).alloc (.cells #[.int .i64 vx.1, .int .i64 vx.2.1, .string (B vx.2.2.1), .slice vx.2.2.2.1 vx.2.2.2.2.1 vx.2.2.2.2.2, .int .i64 vx.1, .int .i64 vx.2.1, .string (B vx.2.2.1), .slice vx.2.2.2.1 vx.2.2.2.2.1 vx.2.2.2.2.2] 27)).alloc (.cells #[.int .i64 3, .int .i64 0, .string ⟨#[105, 102]⟩, .slice none 0 0] 27)).alloc (.cells #[.string ⟨#[]⟩, .string ⟨#[105, 102]⟩, .string ⟨#[65]⟩, .string ⟨#[97, 49]⟩, .string ⟨#[49, 97]⟩] 9))
  have H8 := Lib.hid h8
  have H0 := Lib.hid (HZ2.out.rel RT)
  have HRt := Lib.hid (HW2.out.trans RT)
  have EXt := (EX.out.rel RT).weak (S' := Out3 w.heap.size w2.heap.size) fun q hq => ⟨hq.1, by omega, by omega⟩
  have hS : Out3 w.heap.size w2.heap.size (w2.heap.size + 1) := ⟨by omega, by omega, by omega⟩
  have HE := Lib.hid (show ExAt (Out3 w.heap.size w2.heap.size) (((((w2.alloc (.cells #[.int .i64 vx.1, .int .i64 vx.2.1, .string (B vx.2.2.1), .slice vx.2.2.2.1 vx.2.2.2.2.1 vx.2.2.2.2.2] 27)).alloc (.cells #[.int .i64 vx.1, .int .i64 vx.2.1, .string (B vx.2.2.1), .slice vx.2.2.2.1 vx.2.2.2.2.1 vx.2.2.2.2.2, .int .i64 vx.1, .int .i64 vx.2.1, .string (B vx.2.2.1), .slice vx.2.2.2.1 vx.2.2.2.2.1 vx.2.2.2.2.2] 27)).alloc (.cells #[.int .i64 3, .int .i64 0, .string ⟨#[105, 102]⟩, .slice none 0 0] 27)).alloc (.cells #[.string ⟨#[]⟩, .string ⟨#[105, 102]⟩, .string ⟨#[65]⟩, .string ⟨#[97, 49]⟩, .string ⟨#[49, 97]⟩] 9))) (3, 0, [105, 102], none, 0, 0) (wildX x what y) from by
    rw [HX]
    exact ExAt.leaf _ _ 3 0 [105, 102] none 0 (ok64 (by decide) (by decide)) (ok64 (by decide) (by decide)) (by decide))
  obtain ⟨Wt, hWt⟩ : ∃ Wt, ((((w2.alloc (.cells #[.int .i64 vx.1, .int .i64 vx.2.1, .string (B vx.2.2.1), .slice vx.2.2.2.1 vx.2.2.2.2.1 vx.2.2.2.2.2] 27)).alloc (.cells #[.int .i64 vx.1, .int .i64 vx.2.1, .string (B vx.2.2.1), .slice vx.2.2.2.1 vx.2.2.2.2.1 vx.2.2.2.2.2, .int .i64 vx.1, .int .i64 vx.2.1, .string (B vx.2.2.1), .slice vx.2.2.2.1 vx.2.2.2.2.1 vx.2.2.2.2.2] 27)).alloc (.cells #[.int .i64 3, .int .i64 0, .string ⟨#[105, 102]⟩, .slice none 0 0] 27)).alloc (.cells #[.string ⟨#[]⟩, .string ⟨#[105, 102]⟩, .string ⟨#[65]⟩, .string ⟨#[97, 49]⟩, .string ⟨#[49, 97]⟩] 9)) = Wt := ⟨_, rfl⟩
  rw [hWt] at H8 H0 HRt HE ⊢
  clear hWt hr2 h8 RT EXt hS
  obtain ⟨⟨c0, c1, c2, c3⟩, _⟩ := H8.out.four
  obtain ⟨_, f0, f1, f2, f3⟩ := H0.out.four
  go_wp2_with (fail)
  obtain ⟨⟨t0, t1, t2, t3⟩, _⟩ := (H0.out.put4 (.int .i64 3) (.int .i64 0) (.string ⟨#[105, 102]⟩) (.slice none 0 0)).four
  have gp := put4_grown Wt w.heap.size (.int .i64 3) (.int .i64 0) (.string ⟨#[105, 102]⟩) (.slice none 0 0)
  refine bodyPost_ret (v := .agg #[.int .i64 3, .int .i64 0, .string ⟨#[105, 102]⟩, .slice none 0 0]) (by simp [results, Tryd.results10, go_sem, t0, t1, t2, t3]) rfl ⟨(3, 0, [105, 102], none, 0, 0), rfl, ?_, ?_⟩
  · exact HE.out.grown gp (fun q hq => ⟨trivial, fun e => by injection e with e; have := hq.1; omega⟩)
  · exact HR.out.trans (Rel.grown HRt.out gp (fun k e => by cases e; exact Nat.le_refl _))
set_option maxRecDepth 100000 in
set_option maxHeartbeats 16000000 in
theorem wild_6_2 (A : Option Addr) (c : Nat) (L : List Int) (what y : Int) (hw : i64 what) (hy : i64 y) (hu : pk what 10 = 6) (hq : pk y 5 = 2) (w0 w : World) (hr : Rel w0 w) (hi : IntsIn w A c L) :
    Calls Tryd.prog 10 #[.slice A L.length c, .int .i64 what, .int .i64 y] w fun e w' => ∃ v : El, e = .returned (EV v) ∧ ExAt (fun _ => True) w' v (wildX (strat L) what y) ∧ Rel w0 w' := by
  have HR := Lib.hid hr
  have HU := Lib.hid hu
  obtain ⟨w1, w2'⟩ := hw
  obtain ⟨y1, y2⟩ := hy
  obtain ⟨x, hx⟩ : ∃ x, strat L = x := ⟨_, rfl⟩
  have hA := hr.self.alloc (.cells #[.int .i64 0, .int .i64 0, .string ⟨#[]⟩, .slice none 0 0] 27)
  have HA := Lib.hid hA
  have HZ := Lib.hid (Bk.new w 27 #[.int .i64 0, .int .i64 0, .string ⟨#[]⟩, .slice none 0 0])
  have HStx := Lib.hid (strat_any A c L _ _ hA.self (hi.rel hA))
  rw [hx] at HStx ⊢
  have HQ := Lib.hid hq
  have HX : wildX x what y = .mk 3 0 [65] [] := by unfold wildX; rw [hu, hq]; rfl
  clear hq
  clear hx hi hr hu hA
  go_enter Tryd.func10, Tryd.ntmps10
  go_upto_region 35 with (first
    | (go_at_call 9; (with_reducible refine HStx.out.mono ?_); rintro e w2 ⟨vx, rfl, ex, h2⟩)
    | (go_at_call 24; (with_reducible refine (pk_as what 10 6 HU w1 w2' (by omega) (by omega) _).mono ?_); rintro e w' ⟨rfl, rfl⟩)
    | (go_at_call 24; (with_reducible refine (pk_as y 5 2 HQ y1 y2 (by omega) (by omega) _).mono ?_); rintro e w' ⟨rfl, rfl⟩))
  have hsz := h2.size
  rw [World.size_alloc] at hsz
  have EX := Lib.hid (ex.mono (S' := fun q => w.heap.size < q ∧ q < w2.heap.size) (Nat.le_refl _) fun g hg hl => ⟨⟨by rw [World.size_alloc] at hg; omega, hl⟩, rfl⟩)
  have HZ2 := Lib.hid (HZ.out.rel h2)
  have HW2 := Lib.hid (HA.out.trans h2)
  clear ex h2 HStx HA HZ
  have hr2 := Bk.new (w2.alloc (.cells #[.int .i64 vx.1, .int .i64 vx.2.1, .string (B vx.2.2.1), .slice vx.2.2.2.1 vx.2.2.2.2.1 vx.2.2.2.2.2] 27)) 27 #[.int .i64 vx.1, .int .i64 vx.2.1, .string (B vx.2.2.1), .slice vx.2.2.2.1 vx.2.2.2.2.1 vx.2.2.2.2.2, .int .i64 vx.1, .int .i64 vx.2.1, .string (B vx.2.2.1), .slice vx.2.2.2.1 vx.2.2.2.2.1 vx.2.2.2.2.2]
  try simp only [World.size_alloc] at hr2
  have hr2 := ((hr2.alloc (.cells #[.int .i64 3, .int .i64 0, .string ⟨#[65]⟩, .slice none 0 0] 27)).alloc (.cells #[.string ⟨#[]⟩, .string ⟨#[105, 102]⟩, .string ⟨#[65]⟩, .string ⟨#[97, 49]⟩, .string ⟨#[49, 97]⟩] 9))
  have h8 := Bk.new ((w2.alloc (.cells #[.int .i64 vx.1, .int .i64 vx.2.1, .string (B vx.2.2.1), .slice vx.2.2.2.1 vx.2.2.2.2.1 vx.2.2.2.2.2] 27)).alloc (.cells #[.int .i64 vx.1, .int .i64 vx.2.1, .string (B vx.2.2.1), .slice vx.2.2.2.1 vx.2.2.2.2.1 vx.2.2.2.2.2, .int .i64 vx.1, .int .i64 vx.2.1, .string (B vx.2.2.1), .slice vx.2.2.2.1 vx.2.2.2.2.1 vx.2.2.2.2.2] 27)) 27 #[.int .i64 3, .int .i64 0, .string ⟨#[65]⟩, .slice none 0 0]
  try simp only [World.size_alloc] at h8
  have h8 := (h8.alloc (.cells #[.string ⟨#[]⟩, .string ⟨#[105, 102]⟩, .string ⟨#[65]⟩, .string ⟨#[97, 49]⟩, .string ⟨#[49, 97]⟩] 9))
  have RT := ((((HW2.out.self.alloc (.cells #[.int .i64 vx.1, .int .i64 vx.2.1, .string (B vx.2.2.1), .slice vx.2.2.2.1 vx.2.2.2.2.1 vx.2.2.2.2.2] 27)).alloc (.cells #[.int .i64 vx.1, .int .i64 vx.2.1, .string (B vx.2.2.1), .slice vx.2.2.2.1 vx.2.2.2.2.1 vx.2.2.2.2.2, .int .i64 vx.1, .int .i64 vx.2.1, .string (B vx.2.2.1), .slice vx.2.2.2.1 vx.2.2.2.2.1 vx.2.2.2.2.2] 27)).alloc (.cells #[.int .i64 3, .int .i64 0, .string ⟨#[65]⟩, .slice none 0 0] 27)).alloc (.cells #[.string ⟨#[]⟩, .string ⟨#[105, 102]⟩, .string ⟨#[65]⟩, .string ⟨#[97, 49]⟩, .string ⟨#[49, 97]⟩] 9))
  have H8 := Lib.hid h8
  have H0 := Lib.hid (HZ2.out.rel RT)
  have HRt := Lib.hid (HW2.out.trans RT)
  have EXt := (EX.out.rel RT).weak (S' := Out3 w.heap.size w2.heap.size) fun q hq => ⟨hq.1, by omega, by omega⟩
  have hS : Out3 w.heap.size w2.heap.size (w2.heap.size + 1) := ⟨by omega, by omega, by omega⟩
  have HE := Lib.hid (show ExAt (Out3 w.heap.size w2.heap.size) (((((w2.alloc (.cells #[.int .i64 vx.1, .int .i64 vx.2.1, .string (B vx.2.2.1), .slice vx.2.2.2.1 vx.2.2.2.2.1 vx.2.2.2.2.2] 27)).alloc (.cells #[.int .i64 vx.1, .int .i64 vx.2.1, .string (B vx.2.2.1), .slice vx.2.2.2.1 vx.2.2.2.2.1 vx.2.2.2.2.2, .int .i64 vx.1, .int .i64 vx.2.1, .string (B vx.2.2.1), .slice vx.2.2.2.1 vx.2.2.2.2.1 vx.2.2.2.2.2] 27)).alloc (.cells #[.int .i64 3, .int .i64 0, .string ⟨#[65]⟩, .slice none 0 0] 27)).alloc (.cells #[.string ⟨#[]⟩, .string ⟨#[105, 102]⟩, .string ⟨#[65]⟩, .string ⟨#[97, 49]⟩, .string ⟨#[49, 97]⟩] 9))) (3, 0, [65], none, 0, 0) (wildX x what y) from by
    rw [HX]
    exact ExAt.leaf _ _ 3 0 [65] none 0 (ok64 (by decide) (by decide)) (ok64 (by decide) (by decide)) (by decide))
  obtain ⟨Wt, hWt⟩ : ∃ Wt, ((((w2.alloc (.cells #[.int .i64 vx.1, .int .i64 vx.2.1, .string (B vx.2.2.1), .slice vx.2.2.2.1 vx.2.2.2.2.1 vx.2.2.2.2.2] 27)).alloc (.cells #[.int .i64 vx.1, .int .i64 vx.2.1, .string (B vx.2.2.1), .slice vx.2.2.2.1 vx.2.2.2.2.1 vx.2.2.2.2.2, .int .i64 vx.1, .int .i64 vx.2.1, .string (B vx.2.2.1), .slice vx.2.2.2.1 vx.2.2.2.2.1 vx.2.2.2.2.2] 27)).alloc (.cells #[.int .i64 3, .int .i64 0, .string ⟨#[65]⟩, .slice none 0 0] 27)).alloc (.cells #[.string ⟨#[]⟩, .string ⟨#[105, 102]⟩, .string ⟨#[65]⟩, .string ⟨#[97, 49]⟩, .string ⟨#[49, 97]⟩] 9)) = Wt := ⟨_, rfl⟩
  rw [hWt] at H8 H0 HRt HE ⊢
  clear hWt hr2 h8 RT EXt hS
  obtain ⟨⟨c0, c1, c2, c3⟩, _⟩ := H8.out.four
  obtain ⟨_, f0, f1, f2, f3⟩ := H0.out.four
  go_wp2_with (fail)
  obtain ⟨⟨t0, t1, t2, t3⟩, _⟩ := (H0.out.put4 (.int .i64 3) (.int .i64 0) (.string ⟨#[65]⟩) (.slice none 0 0)).four
  have gp := put4_grown Wt w.heap.size (.int .i64 3) (.int .i64 0) (.string ⟨#[65]⟩) (.slice none 0 0)
  refine bodyPost_ret (v := .agg #[.int .i64 3, .int .i64 0, .string ⟨#[65]⟩, .slice none 0 0]) (by simp [results, Tryd.results10, go_sem, t0, t1, t2, t3]) rfl ⟨(3, 0, [65], none, 0, 0), rfl, ?_, ?_⟩
  · exact HE.out.grown gp (fun q hq => ⟨trivial, fun e => by injection e with e; have := hq.1; omega⟩)
  · exact HR.out.trans (Rel.grown HRt.out gp (fun k e => by cases e; exact Nat.le_refl _))
set_option maxRecDepth 100000 in
set_option maxHeartbeats 16000000 in
theorem wild_6_3 (A : Option Addr) (c : Nat) (L : List Int) (what y : Int) (hw : i64 what) (hy : i64 y) (hu : pk what 10 = 6) (hq : pk y 5 = 3) (w0 w : World) (hr : Rel w0 w) (hi : IntsIn w A c L) :
    Calls Tryd.prog 10 #[.slice A L.length c, .int .i64 what, .int .i64 y] w fun e w' => ∃ v : El, e = .returned (EV v) ∧ ExAt (fun _ => True) w' v (wildX (strat L) what y) ∧ Rel w0 w' := by
  have HR := Lib.hid hr
  have HU := Lib.hid hu
  obtain ⟨w1, w2'⟩ := hw
  obtain ⟨y1, y2⟩ := hy
  obtain ⟨x, hx⟩ : ∃ x, strat L = x := ⟨_, rfl⟩
  have hA := hr.self.alloc (.cells #[.int .i64 0, .int .i64 0, .string ⟨#[]⟩, .slice none 0 0] 27)
  have HA := Lib.hid hA
  have HZ := Lib.hid (Bk.new w 27 #[.int .i64 0, .int .i64 0, .string ⟨#[]⟩, .slice none 0 0])
  have HStx := Lib.hid (strat_any A c L _ _ hA.self (hi.rel hA))
  rw [hx] at HStx ⊢
  have HQ := Lib.hid hq
  have HX : wildX x what y = .mk 3 0 [97, 49] [] := by unfold wildX; rw [hu, hq]; rfl
  clear hq
  clear hx hi hr hu hA
  go_enter Tryd.func10, Tryd.ntmps10
  go_upto_region 35 with (first
    | (go_at_call 9; (with_reducible refine HStx.out.mono ?_); rintro e w2 ⟨vx, rfl, ex, h2⟩)
    | (go_at_call 24; (with_reducible refine (pk_as what 10 6 HU w1 w2' (by omega) (by omega) _).mono ?_); rintro e w' ⟨rfl, rfl⟩)
    | (go_at_call 24; (with_reducible refine (pk_as y 5 3 HQ y1 y2 (by omega) (by omega) _).mono ?_); rintro e w' ⟨rfl, rfl⟩))
  have hsz := h2.size
  rw [World.size_alloc] at hsz
  have EX := Lib.hid (ex.mono (S' := fun q => w.heap.size < q ∧ q < w2.heap.size) (Nat.le_refl _) fun g hg hl => ⟨⟨by rw [World.size_alloc] at hg; omega, hl⟩, rfl⟩)
  have HZ2 := Lib.hid (HZ.out.rel h2)
  have HW2 := Lib.hid (HA.out.trans h2)
  clear ex h2 HStx HA HZ
  have hr2 := Bk.new (w2.alloc (.cells #[.int .i64 vx.1, .int .i64 vx.2.1, .string (B vx.2.2.1), .slice vx.2.2.2.1 vx.2.2.2.2.1 vx.2.2.2.2.2] 27)) 27 #[.int .i64 vx.1, .int .i64 vx.2.1, .string (B vx.2.2.1), .slice vx.2.2.2.1 vx.2.2.2.2.1 vx.2.2.2.2.2, .int .i64 vx.1, .int .i64 vx.2.1, .string (B vx.2.2.1), .slice vx.2.2.2.1 vx.2.2.2.2.1 vx.2.2.2.2.2]
  try simp only [World.size_alloc] at hr2
  have hr2 := ((hr2.alloc (.cells #[.int .i64 3, .int .i64 0, .string ⟨#[97, 49]⟩, .slice none 0 0] 27)).alloc (.cells #[.string ⟨#[]⟩, .string ⟨#[105, 102]⟩, .string ⟨#[65]⟩, .string ⟨#[97, 49]⟩, .string ⟨#[49, 97]⟩] 9))
  have h8 := Bk.new ((w2.alloc (.cells #[.int .i64 vx.1, .int .i64 vx.2.1, .string (B vx.2.2.1), .slice vx.2.2.2.1 vx.2.2.2.2.1 vx.2.2.2.2.2] 27)).alloc (.cells #[.int .i64 vx.1, .int .i64 vx.2.1, .string (B vx.2.2.1), .slice vx.2.2.2.1 vx.2.2.2.2.1 vx.2.2.2.2.2, .int .i64 vx.1, .int .i64 vx.2.1, .string (B vx.2.2.1), .slice vx.2.2.2.1 vx.2.2.2.2.1 vx.2.2.2.2.2] 27)) 27 #[.int .i64 3, .int .i64 0, .string ⟨#[97, 49]⟩, .slice none 0 0]
  try simp only [World.size_alloc] at h8
  have h8 := (h8.alloc (.cells #[.string ⟨#[]⟩, .string ⟨#[105, 102]⟩, .string ⟨#[65]⟩, .string ⟨#[97, 49]⟩, .string ⟨#[49, 97]⟩] 9))
  have RT := ((((HW2.out.self.alloc (.cells #[.int .i64 vx.1, .int .i64 vx.2.1, .string (B vx.2.2.1), .slice vx.2.2.2.1 vx.2.2.2.2.1 vx.2.2.2.2.2] 27)).alloc (.cells #[.int .i64 vx.1, .int .i64 vx.2.1, .string (B vx.2.2.1), .slice vx.2.2.2.1 vx.2.2.2.2.1 vx.2.2.2.2.2, .int .i64 vx.1, .int .i64 vx.2.1, .string (B vx.2.2.1), .slice vx.2.2.2.1 vx.2.2.2.2.1 vx.2.2.2.2.2] 27)).alloc (.cells #[.int .i64 3, .int .i64 0, .string ⟨#[97, 49]⟩, .slice none 0 0] 27)).alloc (.cells #[.string ⟨#[]⟩, .string ⟨#[105, 102]⟩, .string ⟨#[65]⟩, .string ⟨#[97, 49]⟩, .string ⟨#[49, 97]⟩] 9))
  have H8 := Lib.hid h8
  have H0 := Lib.hid (HZ2.out.rel RT)
  have HRt := Lib.hid (HW2.out.trans RT)
  have EXt := (EX.out.rel RT).weak (S' := Out3 w.heap.size w2.heap.size) fun q hq => ⟨hq.1, by omega, by omega⟩
  have hS : Out3 w.heap.size w2.heap.size (w2.heap.size + 1) := ⟨by omega, by omega, by omega⟩
  have HE := Lib.hid (show ExAt (Out3 w.heap.size w2.heap.size) (((((w2.alloc (.cells #[.int .i64 vx.1, .int .i64 vx.2.1, .string (B vx.2.2.1), .slice vx.2.2.2.1 vx.2.2.2.2.1 vx.2.2.2.2.2] 27)).alloc (.cells #[.int .i64 vx.1, .int .i64 vx.2.1, .string (B vx.2.2.1), .slice vx.2.2.2.1 vx.2.2.2.2.1 vx.2.2.2.2.2, .int .i64 vx.1, .int .i64 vx.2.1, .string (B vx.2.2.1), .slice vx.2.2.2.1 vx.2.2.2.2.1 vx.2.2.2.2.2] 27)).alloc (.cells #[.int .i64 3, .int .i64 0, .string ⟨#[97, 49]⟩, .slice none 0 0] 27)).alloc (.cells #[.string ⟨#[]⟩, .string ⟨#[105, 102]⟩, .string ⟨#[65]⟩, .string ⟨#[97, 49]⟩, .string ⟨#[49, 97]⟩] 9))) (3, 0, [97, 49], none, 0, 0) (wildX x what y) from by
    rw [HX]
    exact ExAt.leaf _ _ 3 0 [97, 49] none 0 (ok64 (by decide) (by decide)) (ok64 (by decide) (by decide)) (by decide))
  obtain ⟨Wt, hWt⟩ : ∃ Wt, ((((w2.alloc (.cells #[.int .i64 vx.1, .int .i64 vx.2.1, .string (B vx.2.2.1), .slice vx.2.2.2.1 vx.2.2.2.2.1 vx.2.2.2.2.2] 27)).alloc (.cells #[.int .i64 vx.1, .int .i64 vx.2.1, .string (B vx.2.2.1), .slice vx.2.2.2.1 vx.2.2.2.2.1 vx.2.2.2.2.2, .int .i64 vx.1, .int .i64 vx.2.1, .string (B vx.2.2.1), .slice vx.2.2.2.1 vx.2.2.2.2.1 vx.2.2.2.2.2] 27)).alloc (.cells #[.int .i64 3, .int .i64 0, .string ⟨#[97, 49]⟩, .slice none 0 0] 27)).alloc (.cells #[.string ⟨#[]⟩, .string ⟨#[105, 102]⟩, .string ⟨#[65]⟩, .string ⟨#[97, 49]⟩, .string ⟨#[49, 97]⟩] 9)) = Wt := ⟨_, rfl⟩
  rw [hWt] at H8 H0 HRt HE ⊢
  clear hWt hr2 h8 RT EXt hS
  obtain ⟨⟨c0, c1, c2, c3⟩, _⟩ := H8.out.four
  obtain ⟨_, f0, f1, f2, f3⟩ := H0.out.four
  go_wp2_with (fail)
  obtain ⟨⟨t0, t1, t2, t3⟩, _⟩ := (H0.out.put4 (.int .i64 3) (.int .i64 0) (.string ⟨#[97, 49]⟩) (.slice none 0 0)).four
  have gp := put4_grown Wt w.heap.size (.int .i64 3) (.int .i64 0) (.string ⟨#[97, 49]⟩) (.slice none 0 0)
  refine bodyPost_ret (v := .agg #[.int .i64 3, .int .i64 0, .string ⟨#[97, 49]⟩, .slice none 0 0]) (by simp [results, Tryd.results10, go_sem, t0, t1, t2, t3]) rfl ⟨(3, 0, [97, 49], none, 0, 0), rfl, ?_, ?_⟩
  · exact HE.out.grown gp (fun q hq => ⟨trivial, fun e => by injection e with e; have := hq.1; omega⟩)
  · exact HR.out.trans (Rel.grown HRt.out gp (fun k e => by cases e; exact Nat.le_refl _))
set_option maxRecDepth 100000 in
set_option maxHeartbeats 16000000 in
theorem wild_6_4 (A : Option Addr) (c : Nat) (L : List Int) (what y : Int) (hw : i64 what) (hy : i64 y) (hu : pk what 10 = 6) (hq : pk y 5 = 4) (w0 w : World) (hr : Rel w0 w) (hi : IntsIn w A c L) :
    Calls Tryd.prog 10 #[.slice A L.length c, .int .i64 what, .int .i64 y] w fun e w' => ∃ v : El, e = .returned (EV v) ∧ ExAt (fun _ => True) w' v (wildX (strat L) what y) ∧ Rel w0 w' := by
  have HR := Lib.hid hr
  have HU := Lib.hid hu
  obtain ⟨w1, w2'⟩ := hw
  obtain ⟨y1, y2⟩ := hy
  obtain ⟨x, hx⟩ : ∃ x, strat L = x := ⟨_, rfl⟩
  have hA := hr.self.alloc (.cells #[.int .i64 0, .int .i64 0, .string ⟨#[]⟩, .slice none 0 0] 27)
  have HA := Lib.hid hA
  have HZ := Lib.hid (Bk.new w 27 #[.int .i64 0, .int .i64 0, .string ⟨#[]⟩, .slice none 0 0])
  have HStx := Lib.hid (strat_any A c L _ _ hA.self (hi.rel hA))
  rw [hx] at HStx ⊢
  have HQ := Lib.hid hq
  have HX : wildX x what y = .mk 3 0 [49, 97] [] := by unfold wildX; rw [hu, hq]; rfl
  clear hq
  clear hx hi hr hu hA
  go_enter Tryd.func10, Tryd.ntmps10
  go_upto_region 35 with (first
    | (go_at_call 9; (with_reducible refine HStx.out.mono ?_); rintro e w2 ⟨vx, rfl, ex, h2⟩)
    | (go_at_call 24; (with_reducible refine (pk_as what 10 6 HU w1 w2' (by omega) (by omega) _).mono ?_); rintro e w' ⟨rfl, rfl⟩)
    | (go_at_call 24; (with_reducible refine (pk_as y 5 4 HQ y1 y2 (by omega) (by omega) _).mono ?_); rintro e w' ⟨rfl, rfl⟩))
  have hsz := h2.size
  rw [World.size_alloc] at hsz
  have EX := Lib.hid (ex.mono (S' := fun q => w.heap.size < q ∧ q < w2.heap.size) (Nat.le_refl _) fun g hg hl => ⟨⟨by rw [World.size_alloc] at hg; omega, hl⟩, rfl⟩)
  have HZ2 := Lib.hid (HZ.out.rel h2)
  have HW2 := Lib.hid (HA.out.trans h2)
  clear ex h2 HStx HA HZ
  have hr2 := Bk.new (w2.alloc (.cells #[.int .i64 vx.1, .int .i64 vx.2.1, .string (B vx.2.2.1), .slice vx.2.2.2.1 vx.2.2.2.2.1 vx.2.2.2.2.2] 27)) 27 #[.int .i64 vx.1, .int .i64 vx.2.1, .string (B vx.2.2.1), .slice vx.2.2.2.1 vx.2.2.2.2.1 vx.2.2.2.2.2, .int .i64 vx.1, .int .i64 vx.2.1, .string (B vx.2.2.1), .slice vx.2.2.2.1 vx.2.2.2.2.1 vx.2.2.2.2.2]
  try simp only [World.size_alloc] at hr2
  have hr2 := ((hr2.alloc (.cells #[.int .i64 3, .int .i64 0, .string ⟨#[49, 97]⟩, .slice none 0 0] 27)).alloc (.cells #[.string ⟨#[]⟩, .string ⟨#[105, 102]⟩, .string ⟨#[65]⟩, .string ⟨#[97, 49]⟩, .string ⟨#[49, 97]⟩] 9))
  have h8 := Bk.new ((w2.alloc (.cells #[.int .i64 vx.1, .int .i64 vx.2.1, .string (B vx.2.2.1), .slice vx.2.2.2.1 vx.2.2.2.2.1 vx.2.2.2.2.2] 27)).alloc (.cells #[.int .i64 vx.1, .int .i64 vx.2.1, .string (B vx.2.2.1), .slice vx.2.2.2.1 vx.2.2.2.2.1 vx.2.2.2.2.2, .int .i64 vx.1, .int .i64 vx.2.1, .string (B vx.2.2.1), .slice vx.2.2.2.1 vx.2.2.2.2.1 vx.2.2.2.2.2] 27)) 27 #[.int .i64 3, .int .i64 0, .string ⟨#[49, 97]⟩, .slice none 0 0]
  try simp only [World.size_alloc] at h8
  have h8 := (h8.alloc (.cells #[.string ⟨#[]⟩, .string ⟨#[105, 102]⟩, .string ⟨#[65]⟩, .string ⟨#[97, 49]⟩, .string ⟨#[49, 97]⟩] 9))
  have RT := ((((HW2.out.self.alloc (.cells #[.int .i64 vx.1, .int .i64 vx.2.1, .string (B vx.2.2.1), .slice vx.2.2.2.1 vx.2.2.2.2.1 vx.2.2.2.2.2] 27)).alloc (.cells #[.int .i64 vx.1, .int .i64 vx.2.1, .string (B vx.2.2.1), .slice vx.2.2.2.1 vx.2.2.2.2.1 vx.2.2.2.2.2, .int .i64 vx.1, .int .i64 vx.2.1, .string (B vx.2.2.1), .slice vx.2.2.2.1 vx.2.2.2.2.1 vx.2.2.2.2.2] 27)).alloc (.cells #[.int .i64 3, .int .i64 0, .string ⟨#[49, 97]⟩, .slice none 0 0] 27)).alloc (.cells #[.string ⟨#[]⟩, .string ⟨#[105, 102]⟩, .string ⟨#[65]⟩, .string ⟨#[97, 49]⟩, .string ⟨#[49, 97]⟩] 9))
  have H8 := Lib.hid h8
  have H0 := Lib.hid (HZ2.out.rel RT)
  have HRt := Lib.hid (HW2.out.trans RT)
  have EXt := (EX.out.rel RT).weak (S' := Out3 w.heap.size w2.heap.size) fun q hq => ⟨hq.1, by omega, by omega⟩
  have hS : Out3 w.heap.size w2.heap.size (w2.heap.size + 1) := ⟨by omega, by omega, by omega⟩
  have HE := Lib.hid (show ExAt (Out3 w.heap.size w2.heap.size) (((((w2.alloc (.cells #[.int .i64 vx.1, .int .i64 vx.2.1, .string (B vx.2.2.1), .slice vx.2.2.2.1 vx.2.2.2.2.1 vx.2.2.2.2.2] 27)).alloc (.cells #[.int .i64 vx.1, .int .i64 vx.2.1, .string (B vx.2.2.1), .slice vx.2.2.2.1 vx.2.2.2.2.1 vx.2.2.2.2.2, .int .i64 vx.1, .int .i64 vx.2.1, .string (B vx.2.2.1), .slice vx.2.2.2.1 vx.2.2.2.2.1 vx.2.2.2.2.2] 27)).alloc (.cells #[.int .i64 3, .int .i64 0, .string ⟨#[49, 97]⟩, .slice none 0 0] 27)).alloc (.cells #[.string ⟨#[]⟩, .string ⟨#[105, 102]⟩, .string ⟨#[65]⟩, .string ⟨#[97, 49]⟩, .string ⟨#[49, 97]⟩] 9))) (3, 0, [49, 97], none, 0, 0) (wildX x what y) from by
    rw [HX]
    exact ExAt.leaf _ _ 3 0 [49, 97] none 0 (ok64 (by decide) (by decide)) (ok64 (by decide) (by decide)) (by decide))
  obtain ⟨Wt, hWt⟩ : ∃ Wt, ((((w2.alloc (.cells #[.int .i64 vx.1, .int .i64 vx.2.1, .string (B vx.2.2.1), .slice vx.2.2.2.1 vx.2.2.2.2.1 vx.2.2.2.2.2] 27)).alloc (.cells #[.int .i64 vx.1, .int .i64 vx.2.1, .string (B vx.2.2.1), .slice vx.2.2.2.1 vx.2.2.2.2.1 vx.2.2.2.2.2, .int .i64 vx.1, .int .i64 vx.2.1, .string (B vx.2.2.1), .slice vx.2.2.2.1 vx.2.2.2.2.1 vx.2.2.2.2.2] 27)).alloc (.cells #[.int .i64 3, .int .i64 0, .string ⟨#[49, 97]⟩, .slice none 0 0] 27)).alloc (.cells #[.string ⟨#[]⟩, .string ⟨#[105, 102]⟩, .string ⟨#[65]⟩, .string ⟨#[97, 49]⟩, .string ⟨#[49, 97]⟩] 9)) = Wt := ⟨_, rfl⟩
  rw [hWt] at H8 H0 HRt HE ⊢
  clear hWt hr2 h8 RT EXt hS
  obtain ⟨⟨c0, c1, c2, c3⟩, _⟩ := H8.out.four
  obtain ⟨_, f0, f1, f2, f3⟩ := H0.out.four
  go_wp2_with (fail)
  obtain ⟨⟨t0, t1, t2, t3⟩, _⟩ := (H0.out.put4 (.int .i64 3) (.int .i64 0) (.string ⟨#[49, 97]⟩) (.slice none 0 0)).four
  have gp := put4_grown Wt w.heap.size (.int .i64 3) (.int .i64 0) (.string ⟨#[49, 97]⟩) (.slice none 0 0)
  refine bodyPost_ret (v := .agg #[.int .i64 3, .int .i64 0, .string ⟨#[49, 97]⟩, .slice none 0 0]) (by simp [results, Tryd.results10, go_sem, t0, t1, t2, t3]) rfl ⟨(3, 0, [49, 97], none, 0, 0), rfl, ?_, ?_⟩
  · exact HE.out.grown gp (fun q hq => ⟨trivial, fun e => by injection e with e; have := hq.1; omega⟩)
  · exact HR.out.trans (Rel.grown HRt.out gp (fun k e => by cases e; exact Nat.le_refl _))
set_option maxRecDepth 100000 in
set_option maxHeartbeats 16000000 in
theorem wild_7_0 (A : Option Addr) (c : Nat) (L : List Int) (what y : Int) (hw : i64 what) (hy : i64 y) (hu : pk what 10 = 7) (hq : pk what 4 = 0) (w0 w : World) (hr : Rel w0 w) (hi : IntsIn w A c L) :
    Calls Tryd.prog 10 #[.slice A L.length c, .int .i64 what, .int .i64 y] w fun e w' => ∃ v : El, e = .returned (EV v) ∧ ExAt (fun _ => True) w' v (wildX (strat L) what y) ∧ Rel w0 w' := by
  have HR := Lib.hid hr
  have HU := Lib.hid hu
  obtain ⟨w1, w2'⟩ := hw
  obtain ⟨y1, y2⟩ := hy
  obtain ⟨x, hx⟩ : ∃ x, strat L = x := ⟨_, rfl⟩
  have hA := hr.self.alloc (.cells #[.int .i64 0, .int .i64 0, .string ⟨#[]⟩, .slice none 0 0] 27)
  have HA := Lib.hid hA
  have HZ := Lib.hid (Bk.new w 27 #[.int .i64 0, .int .i64 0, .string ⟨#[]⟩, .slice none 0 0])
  have HStx := Lib.hid (strat_any A c L _ _ hA.self (hi.rel hA))
  rw [hx] at HStx ⊢
  have HQ := Lib.hid hq
  have HX : wildX x what y = .mk 3 y [] [] := by unfold wildX; rw [hu, hq]; rfl
  clear hq
  clear hx hi hr hu hA
  go_enter Tryd.func10, Tryd.ntmps10
  go_upto_region 25 with (first
    | (go_at_call 9; (with_reducible refine HStx.out.mono ?_); rintro e w2 ⟨vx, rfl, ex, h2⟩)
    | (go_at_call 24; (with_reducible refine (pk_as what 10 7 HU w1 w2' (by omega) (by omega) _).mono ?_); rintro e w' ⟨rfl, rfl⟩)
    | (go_at_call 24; (with_reducible refine (pk_as what 4 0 HQ w1 w2' (by omega) (by omega) _).mono ?_); rintro e w' ⟨rfl, rfl⟩))
  have hsz := h2.size
  rw [World.size_alloc] at hsz
  have EX := Lib.hid (ex.mono (S' := fun q => w.heap.size < q ∧ q < w2.heap.size) (Nat.le_refl _) fun g hg hl => ⟨⟨by rw [World.size_alloc] at hg; omega, hl⟩, rfl⟩)
  have HZ2 := Lib.hid (HZ.out.rel h2)
  have HW2 := Lib.hid (HA.out.trans h2)
  clear ex h2 HStx HA HZ
  have h8 := Bk.new ((w2.alloc (.cells #[.int .i64 vx.1, .int .i64 vx.2.1, .string (B vx.2.2.1), .slice vx.2.2.2.1 vx.2.2.2.2.1 vx.2.2.2.2.2] 27)).alloc (.cells #[.int .i64 vx.1, .int .i64 vx.2.1, .string (B vx.2.2.1), .slice vx.2.2.2.1 vx.2.2.2.2.1 vx.2.2.2.2.2, .int .i64 vx.1, .int .i64 vx.2.1, .string (B vx.2.2.1), .slice vx.2.2.2.1 vx.2.2.2.2.1 vx.2.2.2.2.2] 27)) 27 #[.int .i64 3, .int .i64 y, .string ⟨#[]⟩, .slice none 0 0]
  try simp only [World.size_alloc] at h8
  have h8 := h8
  have RT := ((HW2.out.self.alloc (.cells #[.int .i64 vx.1, .int .i64 vx.2.1, .string (B vx.2.2.1), .slice vx.2.2.2.1 vx.2.2.2.2.1 vx.2.2.2.2.2] 27)).alloc (.cells #[.int .i64 vx.1, .int .i64 vx.2.1, .string (B vx.2.2.1), .slice vx.2.2.2.1 vx.2.2.2.2.1 vx.2.2.2.2.2, .int .i64 vx.1, .int .i64 vx.2.1, .string (B vx.2.2.1), .slice vx.2.2.2.1 vx.2.2.2.2.1 vx.2.2.2.2.2] 27)).alloc (.cells #[.int .i64 3, .int .i64 y, .string ⟨#[]⟩, .slice none 0 0] 27)
  have H8 := Lib.hid h8
  have H0 := Lib.hid (HZ2.out.rel RT)
  have HRt := Lib.hid (HW2.out.trans RT)
  have HE := Lib.hid (show ExAt (Out3 w.heap.size w2.heap.size) ((((w2.alloc (.cells #[.int .i64 vx.1, .int .i64 vx.2.1, .string (B vx.2.2.1), .slice vx.2.2.2.1 vx.2.2.2.2.1 vx.2.2.2.2.2] 27)).alloc (.cells #[.int .i64 vx.1, .int .i64 vx.2.1, .string (B vx.2.2.1), .slice vx.2.2.2.1 vx.2.2.2.2.1 vx.2.2.2.2.2, .int .i64 vx.1, .int .i64 vx.2.1, .string (B vx.2.2.1), .slice vx.2.2.2.1 vx.2.2.2.2.1 vx.2.2.2.2.2] 27)).alloc (.cells #[.int .i64 3, .int .i64 y, .string ⟨#[]⟩, .slice none 0 0] 27))) (3, y, [], none, 0, 0) (wildX x what y) from by
    rw [HX]
    exact ExAt.leaf _ _ 3 y [] none 0 (ok64 (by decide) (by decide)) ⟨y1, y2⟩ (Nat.zero_le _))
  go_wp2_with (fail)
  obtain ⟨Wt, hWt⟩ : ∃ Wt, (((w2.alloc (.cells #[.int .i64 vx.1, .int .i64 vx.2.1, .string (B vx.2.2.1), .slice vx.2.2.2.1 vx.2.2.2.2.1 vx.2.2.2.2.2] 27)).alloc (.cells #[.int .i64 vx.1, .int .i64 vx.2.1, .string (B vx.2.2.1), .slice vx.2.2.2.1 vx.2.2.2.2.1 vx.2.2.2.2.2, .int .i64 vx.1, .int .i64 vx.2.1, .string (B vx.2.2.1), .slice vx.2.2.2.1 vx.2.2.2.2.1 vx.2.2.2.2.2] 27)).alloc (.cells #[.int .i64 3, .int .i64 y, .string ⟨#[]⟩, .slice none 0 0] 27)) = Wt := ⟨_, rfl⟩
  rw [hWt] at H8 H0 HRt HE ⊢
  clear hWt h8 RT
  go_loopw [9] (fun i wr => i = .int .i64 0 ∧ wr = Wt) (fun i _ => 0)
  case atStart => exact ⟨rfl, rfl⟩
  case round =>
    obtain ⟨rfl, rfl⟩ := hrel
    obtain ⟨Wt, hWt⟩ : ∃ Wt, Wt = wr := ⟨_, rfl⟩
    subst hWt
    obtain ⟨⟨c0, c1, c2, c3⟩, _⟩ := H8.out.four
    go_upto_region 35 with (go_at_call 25; (with_reducible refine (args_as 3 0 (Lib.hid rfl) _).mono ?_); rintro e w' ⟨rfl, rfl⟩)
    clear c0 c1 c2 c3
    obtain ⟨⟨c0, c1, c2, c3⟩, _⟩ := H8.out.four
    obtain ⟨_, f0, f1, f2, f3⟩ := H0.out.four
    go_wp2_with (fail)
    obtain ⟨⟨t0, t1, t2, t3⟩, _⟩ := (H0.out.put4 (.int .i64 3) (.int .i64 y) (.string ⟨#[]⟩) (.slice none 0 0)).four
    have gp := put4_grown Wt w.heap.size (.int .i64 3) (.int .i64 y) (.string ⟨#[]⟩) (.slice none 0 0)
    refine bodyPost_ret (v := .agg #[.int .i64 3, .int .i64 y, .string ⟨#[]⟩, .slice none 0 0]) (by simp [results, Tryd.results10, go_sem, t0, t1, t2, t3]) rfl ⟨(3, y, [], none, 0, 0), rfl, ?_, ?_⟩
    · exact HE.out.grown gp (fun q hq => ⟨trivial, fun e => by injection e with e; have := hq.1; omega⟩)
    · exact HR.out.trans (Rel.grown HRt.out gp (fun k e => by cases e; exact Nat.le_refl _))
set_option maxRecDepth 100000 in
set_option maxHeartbeats 16000000 in
theorem wild_7_1 (A : Option Addr) (c : Nat) (L : List Int) (what y : Int) (hw : i64 what) (hy : i64 y) (hu : pk what 10 = 7) (hq : pk what 4 = 1) (w0 w : World) (hr : Rel w0 w) (hi : IntsIn w A c L) :
    Calls Tryd.prog 10 #[.slice A L.length c, .int .i64 what, .int .i64 y] w fun e w' => ∃ v : El, e = .returned (EV v) ∧ ExAt (fun _ => True) w' v (wildX (strat L) what y) ∧ Rel w0 w' := by
  have HR := Lib.hid hr
  have HU := Lib.hid hu
  obtain ⟨w1, w2'⟩ := hw
  obtain ⟨y1, y2⟩ := hy
  obtain ⟨x, hx⟩ : ∃ x, strat L = x := ⟨_, rfl⟩
  have hA := hr.self.alloc (.cells #[.int .i64 0, .int .i64 0, .string ⟨#[]⟩, .slice none 0 0] 27)
  have HA := Lib.hid hA
  have HZ := Lib.hid (Bk.new w 27 #[.int .i64 0, .int .i64 0, .string ⟨#[]⟩, .slice none 0 0])
  have HStx := Lib.hid (strat_any A c L _ _ hA.self (hi.rel hA))
  rw [hx] at HStx ⊢
  have HQ := Lib.hid hq
  have HX : wildX x what y = .mk 4 y [] [] := by unfold wildX; rw [hu, hq]; rfl
  clear hq
  clear hx hi hr hu hA
  go_enter Tryd.func10, Tryd.ntmps10
  go_upto_region 25 with (first
    | (go_at_call 9; (with_reducible refine HStx.out.mono ?_); rintro e w2 ⟨vx, rfl, ex, h2⟩)
    | (go_at_call 24; (with_reducible refine (pk_as what 10 7 HU w1 w2' (by omega) (by omega) _).mono ?_); rintro e w' ⟨rfl, rfl⟩)
    | (go_at_call 24; (with_reducible refine (pk_as what 4 1 HQ w1 w2' (by omega) (by omega) _).mono ?_); rintro e w' ⟨rfl, rfl⟩))
  have hsz := h2.size
  rw [World.size_alloc] at hsz
  have EX := Lib.hid (ex.mono (S' := fun q => w.heap.size < q ∧ q < w2.heap.size) (Nat.le_refl _) fun g hg hl => ⟨⟨by rw [World.size_alloc] at hg; omega, hl⟩, rfl⟩)
  have HZ2 := Lib.hid (HZ.out.rel h2)
  have HW2 := Lib.hid (HA.out.trans h2)
  clear ex h2 HStx HA HZ
  have h8 := Bk.new ((w2.alloc (.cells #[.int .i64 vx.1, .int .i64 vx.2.1, .string (B vx.2.2.1), .slice vx.2.2.2.1 vx.2.2.2.2.1 vx.2.2.2.2.2] 27)).alloc (.cells #[.int .i64 vx.1, .int .i64 vx.2.1, .string (B vx.2.2.1), .slice vx.2.2.2.1 vx.2.2.2.2.1 vx.2.2.2.2.2, .int .i64 vx.1, .int .i64 vx.2.1, .string (B vx.2.2.1), .slice vx.2.2.2.1 vx.2.2.2.2.1 vx.2.2.2.2.2] 27)) 27 #[.int .i64 4, .int .i64 y, .string ⟨#[]⟩, .slice none 0 0]
  try simp only [World.size_alloc] at h8
  have h8 := h8
  have RT := ((HW2.out.self.alloc (.cells #[.int .i64 vx.1, .int .i64 vx.2.1, .string (B vx.2.2.1), .slice vx.2.2.2.1 vx.2.2.2.2.1 vx.2.2.2.2.2] 27)).alloc (.cells #[.int .i64 vx.1, .int .i64 vx.2.1, .string (B vx.2.2.1), .slice vx.2.2.2.1 vx.2.2.2.2.1 vx.2.2.2.2.2, .int .i64 vx.1, .int .i64 vx.2.1, .string (B vx.2.2.1), .slice vx.2.2.2.1 vx.2.2.2.2.1 vx.2.2.2.2.2] 27)).alloc (.cells #[.int .i64 4, .int .i64 y, .string ⟨#[]⟩, .slice none 0 0] 27)
  have H8 := Lib.hid h8
  have H0 := Lib.hid (HZ2.out.rel RT)
  have HRt := Lib.hid (HW2.out.trans RT)
  have HE := Lib.hid (show ExAt (Out3 w.heap.size w2.heap.size) ((((w2.alloc (.cells #[.int .i64 vx.1, .int .i64 vx.2.1, .string (B vx.2.2.1), .slice vx.2.2.2.1 vx.2.2.2.2.1 vx.2.2.2.2.2] 27)).alloc (.cells #[.int .i64 vx.1, .int .i64 vx.2.1, .string (B vx.2.2.1), .slice vx.2.2.2.1 vx.2.2.2.2.1 vx.2.2.2.2.2, .int .i64 vx.1, .int .i64 vx.2.1, .string (B vx.2.2.1), .slice vx.2.2.2.1 vx.2.2.2.2.1 vx.2.2.2.2.2] 27)).alloc (.cells #[.int .i64 4, .int .i64 y, .string ⟨#[]⟩, .slice none 0 0] 27))) (4, y, [], none, 0, 0) (wildX x what y) from by
    rw [HX]
    exact ExAt.leaf _ _ 4 y [] none 0 (ok64 (by decide) (by decide)) ⟨y1, y2⟩ (Nat.zero_le _))
  go_wp2_with (fail)
  obtain ⟨Wt, hWt⟩ : ∃ Wt, (((w2.alloc (.cells #[.int .i64 vx.1, .int .i64 vx.2.1, .string (B vx.2.2.1), .slice vx.2.2.2.1 vx.2.2.2.2.1 vx.2.2.2.2.2] 27)).alloc (.cells #[.int .i64 vx.1, .int .i64 vx.2.1, .string (B vx.2.2.1), .slice vx.2.2.2.1 vx.2.2.2.2.1 vx.2.2.2.2.2, .int .i64 vx.1, .int .i64 vx.2.1, .string (B vx.2.2.1), .slice vx.2.2.2.1 vx.2.2.2.2.1 vx.2.2.2.2.2] 27)).alloc (.cells #[.int .i64 4, .int .i64 y, .string ⟨#[]⟩, .slice none 0 0] 27)) = Wt := ⟨_, rfl⟩
  rw [hWt] at H8 H0 HRt HE ⊢
  clear hWt h8 RT
  go_loopw [9] (fun i wr => i = .int .i64 0 ∧ wr = Wt) (fun i _ => 0)
  case atStart => exact ⟨rfl, rfl⟩
  case round =>
    obtain ⟨rfl, rfl⟩ := hrel
    obtain ⟨Wt, hWt⟩ : ∃ Wt, Wt = wr := ⟨_, rfl⟩
    subst hWt
    obtain ⟨⟨c0, c1, c2, c3⟩, _⟩ := H8.out.four
    go_upto_region 35 with (go_at_call 25; (with_reducible refine (args_as 4 0 (Lib.hid rfl) _).mono ?_); rintro e w' ⟨rfl, rfl⟩)
    clear c0 c1 c2 c3
    obtain ⟨⟨c0, c1, c2, c3⟩, _⟩ := H8.out.four
    obtain ⟨_, f0, f1, f2, f3⟩ := H0.out.four
    go_wp2_with (fail)
    obtain ⟨⟨t0, t1, t2, t3⟩, _⟩ := (H0.out.put4 (.int .i64 4) (.int .i64 y) (.string ⟨#[]⟩) (.slice none 0 0)).four
    have gp := put4_grown Wt w.heap.size (.int .i64 4) (.int .i64 y) (.string ⟨#[]⟩) (.slice none 0 0)
    refine bodyPost_ret (v := .agg #[.int .i64 4, .int .i64 y, .string ⟨#[]⟩, .slice none 0 0]) (by simp [results, Tryd.results10, go_sem, t0, t1, t2, t3]) rfl ⟨(4, y, [], none, 0, 0), rfl, ?_, ?_⟩
    · exact HE.out.grown gp (fun q hq => ⟨trivial, fun e => by injection e with e; have := hq.1; omega⟩)
    · exact HR.out.trans (Rel.grown HRt.out gp (fun k e => by cases e; exact Nat.le_refl _))
set_option maxRecDepth 100000 in
set_option maxHeartbeats 16000000 in
theorem wild_7_2 (A : Option Addr) (c : Nat) (L : List Int) (what y : Int) (hw : i64 what) (hy : i64 y) (hu : pk what 10 = 7) (hq : pk what 4 = 2) (w0 w : World) (hr : Rel w0 w) (hi : IntsIn w A c L) :
    Calls Tryd.prog 10 #[.slice A L.length c, .int .i64 what, .int .i64 y] w fun e w' => ∃ v : El, e = .returned (EV v) ∧ ExAt (fun _ => True) w' v (wildX (strat L) what y) ∧ Rel w0 w' := by
  have HR := Lib.hid hr
  have HU := Lib.hid hu
  obtain ⟨w1, w2'⟩ := hw
  obtain ⟨y1, y2⟩ := hy
  obtain ⟨x, hx⟩ : ∃ x, strat L = x := ⟨_, rfl⟩
  have hA := hr.self.alloc (.cells #[.int .i64 0, .int .i64 0, .string ⟨#[]⟩, .slice none 0 0] 27)
  have HA := Lib.hid hA
  have HZ := Lib.hid (Bk.new w 27 #[.int .i64 0, .int .i64 0, .string ⟨#[]⟩, .slice none 0 0])
  have HStx := Lib.hid (strat_any A c L _ _ hA.self (hi.rel hA))
  rw [hx] at HStx ⊢
  have HQ := Lib.hid hq
  have HX : wildX x what y = .mk 5 y [] [x] := by unfold wildX; rw [hu, hq]; rfl
  clear hq
  clear hx hi hr hu hA
  go_enter Tryd.func10, Tryd.ntmps10
  go_upto_region 25 with (first
    | (go_at_call 9; (with_reducible refine HStx.out.mono ?_); rintro e w2 ⟨vx, rfl, ex, h2⟩)
    | (go_at_call 24; (with_reducible refine (pk_as what 10 7 HU w1 w2' (by omega) (by omega) _).mono ?_); rintro e w' ⟨rfl, rfl⟩)
    | (go_at_call 24; (with_reducible refine (pk_as what 4 2 HQ w1 w2' (by omega) (by omega) _).mono ?_); rintro e w' ⟨rfl, rfl⟩))
  have hsz := h2.size
  rw [World.size_alloc] at hsz
  have EX := Lib.hid (ex.mono (S' := fun q => w.heap.size < q ∧ q < w2.heap.size) (Nat.le_refl _) fun g hg hl => ⟨⟨by rw [World.size_alloc] at hg; omega, hl⟩, rfl⟩)
  have HZ2 := Lib.hid (HZ.out.rel h2)
  have HW2 := Lib.hid (HA.out.trans h2)
  clear ex h2 HStx HA HZ
  have h8 := Bk.new ((w2.alloc (.cells #[.int .i64 vx.1, .int .i64 vx.2.1, .string (B vx.2.2.1), .slice vx.2.2.2.1 vx.2.2.2.2.1 vx.2.2.2.2.2] 27)).alloc (.cells #[.int .i64 vx.1, .int .i64 vx.2.1, .string (B vx.2.2.1), .slice vx.2.2.2.1 vx.2.2.2.2.1 vx.2.2.2.2.2, .int .i64 vx.1, .int .i64 vx.2.1, .string (B vx.2.2.1), .slice vx.2.2.2.1 vx.2.2.2.2.1 vx.2.2.2.2.2] 27)) 27 #[.int .i64 5, .int .i64 y, .string ⟨#[]⟩, .slice none 0 0]
  try simp only [World.size_alloc] at h8
  have h8 := h8
  have h7 := Bk.new w2 27 #[.int .i64 vx.1, .int .i64 vx.2.1, .string (B vx.2.2.1), .slice vx.2.2.2.1 vx.2.2.2.2.1 vx.2.2.2.2.2]
  try simp only [World.size_alloc] at h7
  have h7 := ((h7.alloc (.cells #[.int .i64 vx.1, .int .i64 vx.2.1, .string (B vx.2.2.1), .slice vx.2.2.2.1 vx.2.2.2.2.1 vx.2.2.2.2.2, .int .i64 vx.1, .int .i64 vx.2.1, .string (B vx.2.2.1), .slice vx.2.2.2.1 vx.2.2.2.2.1 vx.2.2.2.2.2] 27)).alloc (.cells #[.int .i64 5, .int .i64 y, .string ⟨#[]⟩, .slice none 0 0] 27))
  have RT := ((HW2.out.self.alloc (.cells #[.int .i64 vx.1, .int .i64 vx.2.1, .string (B vx.2.2.1), .slice vx.2.2.2.1 vx.2.2.2.2.1 vx.2.2.2.2.2] 27)).alloc (.cells #[.int .i64 vx.1, .int .i64 vx.2.1, .string (B vx.2.2.1), .slice vx.2.2.2.1 vx.2.2.2.2.1 vx.2.2.2.2.2, .int .i64 vx.1, .int .i64 vx.2.1, .string (B vx.2.2.1), .slice vx.2.2.2.1 vx.2.2.2.2.1 vx.2.2.2.2.2] 27)).alloc (.cells #[.int .i64 5, .int .i64 y, .string ⟨#[]⟩, .slice none 0 0] 27)
  have H8 := Lib.hid h8
  have H7 := Lib.hid h7
  have H0 := Lib.hid (HZ2.out.rel RT)
  have HRt := Lib.hid (HW2.out.trans RT)
  have EXt := Lib.hid ((EX.out.rel RT).weak (S' := Out3 w.heap.size w2.heap.size) fun q hq => ⟨hq.1, by omega, by omega⟩)
  have hzt : (((w2.alloc (.cells #[.int .i64 vx.1, .int .i64 vx.2.1, .string (B vx.2.2.1), .slice vx.2.2.2.1 vx.2.2.2.2.1 vx.2.2.2.2.2] 27)).alloc (.cells #[.int .i64 vx.1, .int .i64 vx.2.1, .string (B vx.2.2.1), .slice vx.2.2.2.1 vx.2.2.2.2.1 vx.2.2.2.2.2, .int .i64 vx.1, .int .i64 vx.2.1, .string (B vx.2.2.1), .slice vx.2.2.2.1 vx.2.2.2.2.1 vx.2.2.2.2.2] 27)).alloc (.cells #[.int .i64 5, .int .i64 y, .string ⟨#[]⟩, .slice none 0 0] 27)).heap.size = w2.heap.size + 3 := by simp only [World.size_alloc]
  go_wp2_with (fail)
  obtain ⟨Wt, hWt⟩ : ∃ Wt, (((w2.alloc (.cells #[.int .i64 vx.1, .int .i64 vx.2.1, .string (B vx.2.2.1), .slice vx.2.2.2.1 vx.2.2.2.2.1 vx.2.2.2.2.2] 27)).alloc (.cells #[.int .i64 vx.1, .int .i64 vx.2.1, .string (B vx.2.2.1), .slice vx.2.2.2.1 vx.2.2.2.2.1 vx.2.2.2.2.2, .int .i64 vx.1, .int .i64 vx.2.1, .string (B vx.2.2.1), .slice vx.2.2.2.1 vx.2.2.2.2.1 vx.2.2.2.2.2] 27)).alloc (.cells #[.int .i64 5, .int .i64 y, .string ⟨#[]⟩, .slice none 0 0] 27)) = Wt := ⟨_, rfl⟩
  rw [hWt] at H8 H7 H0 HRt EXt hzt ⊢
  clear hWt h8 h7 RT
  obtain ⟨i0, hi, hz0, hz1, hz2'⟩ := info_parts ex_info
  go_loopw [9] (fun i wr => (i = .int .i64 0 ∧ wr = Wt) ∨ (i = .int .i64 1 ∧ Hid (∃ g cp, Bk wr (w2.heap.size + 1 + 1) 27 #[.int .i64 5, .int .i64 y, .string ⟨#[]⟩, .slice (some ⟨g, 0, none⟩) 1 cp] ∧ Bk wr w.heap.size 27 #[.int .i64 0, .int .i64 0, .string ⟨#[]⟩, .slice none 0 0] ∧ Rel w wr ∧ ExAt (Out3 w.heap.size w2.heap.size) wr (5, y, [], some ⟨g, 0, none⟩, 1, cp) (wildX x what y)))) (fun i _ => 1 - (RowKit.intOf i).toNat)
  case atStart => exact .inl ⟨rfl, rfl⟩
  case round =>
    rcases hrel with ⟨rfl, rfl⟩ | ⟨rfl, HS⟩
    · obtain ⟨Wt, hWt⟩ : ∃ Wt, Wt = wr := ⟨_, rfl⟩
      subst hWt
      obtain ⟨⟨c0, c1, c2, c3⟩, f0, f1, f2, f3⟩ := H8.out.four
      obtain ⟨⟨d0, d1, d2, d3⟩, _⟩ := H7.out.four
      have hOA : (Wt.alloc (.cells #[.int .i64 vx.1, .int .i64 vx.2.1, .string (B vx.2.2.1), .slice vx.2.2.2.1 vx.2.2.2.2.1 vx.2.2.2.2.2] 27)).ownsRow (w2.heap.size + 4) 27 4 (.slice none 0 0) 0 (cellsEs []) := World.ownsRow_nil _ _ _ _
      have hB3 := Bk.new Wt 27 #[.int .i64 vx.1, .int .i64 vx.2.1, .string (B vx.2.2.1), .slice vx.2.2.2.1 vx.2.2.2.2.1 vx.2.2.2.2.2]
      rw [hzt] at hB3
      have hNW := World.news_of_block hB3
      go_wp2_with (first
        | (go_at_call 25; (with_reducible refine (args_as 5 1 (Lib.hid rfl) _).mono ?_); rintro e w' ⟨rfl, rfl⟩)
        | (at_builtin; (refine wpList_append_lies _ rfl _ _ 25 rfl (w2.heap.size + 4) 27 i0 (.agg #[.int .i64 0, .int .i64 0, .string ⟨#[]⟩, .slice none 0 0]) 4 56 Tryd.underlying25 hi hz0 hz1 hz2' rfl (by decide) _ 0 (cellsEs []) rfl hOA ⟨w2.heap.size + 3, 0, none⟩ 1 1 (cellsE vx) rfl rfl hNW (cellsE_one _) (by decide) (by unfold maxLen; omega) (by omega) (by rw [World.size_alloc]; omega) _ rfl ?_); intro g cap w3 hown hg hgat hlt3; have H83 := (H8.out.alloc (.cells #[.int .i64 vx.1, .int .i64 vx.2.1, .string (B vx.2.2.1), .slice vx.2.2.2.1 vx.2.2.2.2.1 vx.2.2.2.2.2] 27)).grown hg (fun e => by cases e); obtain ⟨⟨e0, e1, e2, e3⟩, g0, g1, g2, g3⟩ := H83.four))
      have hge : g = w2.heap.size + 4 := by
        rcases hgat with h | h
        · cases h
        · rw [h, World.size_alloc, hzt]
      have gs := set_grown w3 (w2.heap.size + 1 + 1) 3 (.slice (some ⟨g, 0, none⟩) 1 cap)
      have hown2 := own_set hown (p := ⟨w2.heap.size + 1 + 1, 3, none⟩) (fun e => by have e := Option.some.inj e; simp only at e; omega) (.slice (some ⟨g, 0, none⟩) 1 cap)
      have hS : Out3 w.heap.size w2.heap.size g := ⟨by omega, by omega, by omega⟩
      have hrow : RowE (Out3 w.heap.size w2.heap.size) (w3.setCell ⟨w2.heap.size + 1 + 1, 3, none⟩ (.slice (some ⟨g, 0, none⟩) 1 cap)) (some ⟨g, 0, none⟩) [vx] := ElsOwn.toks (ElsOwn.more (es := []) (e := vx) hown2) rfl (fun j hj => by have hj := Option.some.inj hj; rw [← hj]; exact hS)
      have he3 : ExAt (Out3 w.heap.size w2.heap.size) (w3.setCell ⟨w2.heap.size + 1 + 1, 3, none⟩ (.slice (some ⟨g, 0, none⟩) 1 cap)) vx x :=
        (((EXt.out.rel (HRt.out.self.alloc (.cells #[.int .i64 vx.1, .int .i64 vx.2.1, .string (B vx.2.2.1), .slice vx.2.2.2.1 vx.2.2.2.2.1 vx.2.2.2.2.2] 27))).grown hg (fun q hq => ⟨hq, fun e => by cases e⟩))).grown gs (fun q hq => ⟨hq, fun e => by injection e with e; exact hq.2.2 e⟩)
      have hfin : Hid (∃ g' cp', Bk (w3.setCell ⟨w2.heap.size + 1 + 1, 3, none⟩ (.slice (some ⟨g, 0, none⟩) 1 cap)) (w2.heap.size + 1 + 1) 27 #[.int .i64 5, .int .i64 y, .string ⟨#[]⟩, .slice (some ⟨g', 0, none⟩) 1 cp'] ∧ Bk (w3.setCell ⟨w2.heap.size + 1 + 1, 3, none⟩ (.slice (some ⟨g, 0, none⟩) 1 cap)) w.heap.size 27 #[.int .i64 0, .int .i64 0, .string ⟨#[]⟩, .slice none 0 0] ∧ Rel w (w3.setCell ⟨w2.heap.size + 1 + 1, 3, none⟩ (.slice (some ⟨g, 0, none⟩) 1 cap)) ∧ ExAt (Out3 w.heap.size w2.heap.size) (w3.setCell ⟨w2.heap.size + 1 + 1, 3, none⟩ (.slice (some ⟨g, 0, none⟩) 1 cap)) (5, y, [], some ⟨g', 0, none⟩, 1, cp') (wildX x what y)) :=
        Lib.hid ⟨g, cap, H83.set_ 3 _, ((H0.out.alloc (.cells #[.int .i64 vx.1, .int .i64 vx.2.1, .string (B vx.2.2.1), .slice vx.2.2.2.1 vx.2.2.2.2.1 vx.2.2.2.2.2] 27)).grown hg (fun e => by cases e)).grown gs (fun e => by injection e with e; omega), Rel.grown (Rel.grown (HRt.out.alloc (.cells #[.int .i64 vx.1, .int .i64 vx.2.1, .string (B vx.2.2.1), .slice vx.2.2.2.1 vx.2.2.2.2.1 vx.2.2.2.2.2] 27)) hg (fun k e => by cases e)) gs (fun k e => by injection e with e; omega), by
          rw [HX]
          exact .mk 5 y [] _ cap [x] [vx] (ok64 (by decide) (by decide)) ⟨y1, y2⟩ (Nat.zero_le _) rfl hrow (fun i h h' => by
            match i, h, h' with
            | 0, _, _ => exact he3)⟩
      clear hOA hB3 hNW hown hg hgat H83 gs hown2 hrow he3
      go_roundw
      case rel => exact .inr ⟨rfl, hfin⟩
      case measure => simp [RowKit.intOf]
    · obtain ⟨Wt, hWt⟩ : ∃ Wt, Wt = wr := ⟨_, rfl⟩
      subst hWt
      obtain ⟨g, cp, h8', h0', hrt', he'⟩ := HS.out
      clear H8 H7 H0 HRt EXt
      have H8 := Lib.hid h8'
      have H0 := Lib.hid h0'
      have HRt := Lib.hid hrt'
      have HE := Lib.hid he'
      obtain ⟨⟨c0, c1, c2, c3⟩, _⟩ := H8.out.four
      clear h8' h0' hrt' he' HS
      go_upto_region 35 with (go_at_call 25; (with_reducible refine (args_as 5 1 (Lib.hid rfl) _).mono ?_); rintro e w' ⟨rfl, rfl⟩)
      clear c0 c1 c2 c3
      obtain ⟨⟨c0, c1, c2, c3⟩, _⟩ := H8.out.four
      obtain ⟨_, f0, f1, f2, f3⟩ := H0.out.four
      go_wp2_with (fail)
      obtain ⟨⟨t0, t1, t2, t3⟩, _⟩ := (H0.out.put4 (.int .i64 5) (.int .i64 y) (.string ⟨#[]⟩) (.slice (some ⟨g, 0, none⟩) 1 cp)).four
      have gp := put4_grown Wt w.heap.size (.int .i64 5) (.int .i64 y) (.string ⟨#[]⟩) (.slice (some ⟨g, 0, none⟩) 1 cp)
      refine bodyPost_ret (v := .agg #[.int .i64 5, .int .i64 y, .string ⟨#[]⟩, .slice (some ⟨g, 0, none⟩) 1 cp]) (by simp [results, Tryd.results10, go_sem, t0, t1, t2, t3]) rfl ⟨(5, y, [], some ⟨g, 0, none⟩, 1, cp), rfl, ?_, ?_⟩
      · exact HE.out.grown gp (fun q hq => ⟨trivial, fun e => by injection e with e; have := hq.1; omega⟩)
      · exact HR.out.trans (Rel.grown HRt.out gp (fun k e => by cases e; exact Nat.le_refl _))
set_option maxRecDepth 100000 in
set_option maxHeartbeats 16000000 in
theorem wild_7_3 (A : Option Addr) (c : Nat) (L : List Int) (what y : Int) (hw : i64 what) (hy : i64 y) (hu : pk what 10 = 7) (hq : pk what 4 = 3) (w0 w : World) (hr : Rel w0 w) (hi : IntsIn w A c L) :
    Calls Tryd.prog 10 #[.slice A L.length c, .int .i64 what, .int .i64 y] w fun e w' => ∃ v : El, e = .returned (EV v) ∧ ExAt (fun _ => True) w' v (wildX (strat L) what y) ∧ Rel w0 w' := by
  have HR := Lib.hid hr
  have HU := Lib.hid hu
  obtain ⟨w1, w2'⟩ := hw
  obtain ⟨y1, y2⟩ := hy
  obtain ⟨x, hx⟩ : ∃ x, strat L = x := ⟨_, rfl⟩
  have hA := hr.self.alloc (.cells #[.int .i64 0, .int .i64 0, .string ⟨#[]⟩, .slice none 0 0] 27)
  have HA := Lib.hid hA
  have HZ := Lib.hid (Bk.new w 27 #[.int .i64 0, .int .i64 0, .string ⟨#[]⟩, .slice none 0 0])
  have HStx := Lib.hid (strat_any A c L _ _ hA.self (hi.rel hA))
  rw [hx] at HStx ⊢
  have HQ := Lib.hid hq
  have HX : wildX x what y = .mk 6 y [] [x] := by unfold wildX; rw [hu, hq]; rfl
  clear hq
  clear hx hi hr hu hA
  go_enter Tryd.func10, Tryd.ntmps10
  go_upto_region 25 with (first
    | (go_at_call 9; (with_reducible refine HStx.out.mono ?_); rintro e w2 ⟨vx, rfl, ex, h2⟩)
    | (go_at_call 24; (with_reducible refine (pk_as what 10 7 HU w1 w2' (by omega) (by omega) _).mono ?_); rintro e w' ⟨rfl, rfl⟩)
    | (go_at_call 24; (with_reducible refine (pk_as what 4 3 HQ w1 w2' (by omega) (by omega) _).mono ?_); rintro e w' ⟨rfl, rfl⟩))
  have hsz := h2.size
  rw [World.size_alloc] at hsz
  have EX := Lib.hid (ex.mono (S' := fun q => w.heap.size < q ∧ q < w2.heap.size) (Nat.le_refl _) fun g hg hl => ⟨⟨by rw [World.size_alloc] at hg; omega, hl⟩, rfl⟩)
  have HZ2 := Lib.hid (HZ.out.rel h2)
  have HW2 := Lib.hid (HA.out.trans h2)
  clear ex h2 HStx HA HZ
  have h8 := Bk.new ((w2.alloc (.cells #[.int .i64 vx.1, .int .i64 vx.2.1, .string (B vx.2.2.1), .slice vx.2.2.2.1 vx.2.2.2.2.1 vx.2.2.2.2.2] 27)).alloc (.cells #[.int .i64 vx.1, .int .i64 vx.2.1, .string (B vx.2.2.1), .slice vx.2.2.2.1 vx.2.2.2.2.1 vx.2.2.2.2.2, .int .i64 vx.1, .int .i64 vx.2.1, .string (B vx.2.2.1), .slice vx.2.2.2.1 vx.2.2.2.2.1 vx.2.2.2.2.2] 27)) 27 #[.int .i64 6, .int .i64 y, .string ⟨#[]⟩, .slice none 0 0]
  try simp only [World.size_alloc] at h8
  have h8 := h8
  have h7 := Bk.new w2 27 #[.int .i64 vx.1, .int .i64 vx.2.1, .string (B vx.2.2.1), .slice vx.2.2.2.1 vx.2.2.2.2.1 vx.2.2.2.2.2]
  try simp only [World.size_alloc] at h7
  have h7 := ((h7.alloc (.cells #[.int .i64 vx.1, .int .i64 vx.2.1, .string (B vx.2.2.1), .slice vx.2.2.2.1 vx.2.2.2.2.1 vx.2.2.2.2.2, .int .i64 vx.1, .int .i64 vx.2.1, .string (B vx.2.2.1), .slice vx.2.2.2.1 vx.2.2.2.2.1 vx.2.2.2.2.2] 27)).alloc (.cells #[.int .i64 6, .int .i64 y, .string ⟨#[]⟩, .slice none 0 0] 27))
  have RT := ((HW2.out.self.alloc (.cells #[.int .i64 vx.1, .int .i64 vx.2.1, .string (B vx.2.2.1), .slice vx.2.2.2.1 vx.2.2.2.2.1 vx.2.2.2.2.2] 27)).alloc (.cells #[.int .i64 vx.1, .int .i64 vx.2.1, .string (B vx.2.2.1), .slice vx.2.2.2.1 vx.2.2.2.2.1 vx.2.2.2.2.2, .int .i64 vx.1, .int .i64 vx.2.1, .string (B vx.2.2.1), .slice vx.2.2.2.1 vx.2.2.2.2.1 vx.2.2.2.2.2] 27)).alloc (.cells #[.int .i64 6, .int .i64 y, .string ⟨#[]⟩, .slice none 0 0] 27)
  have H8 := Lib.hid h8
  have H7 := Lib.hid h7
  have H0 := Lib.hid (HZ2.out.rel RT)
  have HRt := Lib.hid (HW2.out.trans RT)
  have EXt := Lib.hid ((EX.out.rel RT).weak (S' := Out3 w.heap.size w2.heap.size) fun q hq => ⟨hq.1, by omega, by omega⟩)
  have hzt : (((w2.alloc (.cells #[.int .i64 vx.1, .int .i64 vx.2.1, .string (B vx.2.2.1), .slice vx.2.2.2.1 vx.2.2.2.2.1 vx.2.2.2.2.2] 27)).alloc (.cells #[.int .i64 vx.1, .int .i64 vx.2.1, .string (B vx.2.2.1), .slice vx.2.2.2.1 vx.2.2.2.2.1 vx.2.2.2.2.2, .int .i64 vx.1, .int .i64 vx.2.1, .string (B vx.2.2.1), .slice vx.2.2.2.1 vx.2.2.2.2.1 vx.2.2.2.2.2] 27)).alloc (.cells #[.int .i64 6, .int .i64 y, .string ⟨#[]⟩, .slice none 0 0] 27)).heap.size = w2.heap.size + 3 := by simp only [World.size_alloc]
  go_wp2_with (fail)
  obtain ⟨Wt, hWt⟩ : ∃ Wt, (((w2.alloc (.cells #[.int .i64 vx.1, .int .i64 vx.2.1, .string (B vx.2.2.1), .slice vx.2.2.2.1 vx.2.2.2.2.1 vx.2.2.2.2.2] 27)).alloc (.cells #[.int .i64 vx.1, .int .i64 vx.2.1, .string (B vx.2.2.1), .slice vx.2.2.2.1 vx.2.2.2.2.1 vx.2.2.2.2.2, .int .i64 vx.1, .int .i64 vx.2.1, .string (B vx.2.2.1), .slice vx.2.2.2.1 vx.2.2.2.2.1 vx.2.2.2.2.2] 27)).alloc (.cells #[.int .i64 6, .int .i64 y, .string ⟨#[]⟩, .slice none 0 0] 27)) = Wt := ⟨_, rfl⟩
  rw [hWt] at H8 H7 H0 HRt EXt hzt ⊢
  clear hWt h8 h7 RT
  obtain ⟨i0, hi, hz0, hz1, hz2'⟩ := info_parts ex_info
  go_loopw [9] (fun i wr => (i = .int .i64 0 ∧ wr = Wt) ∨ (i = .int .i64 1 ∧ Hid (∃ g cp, Bk wr (w2.heap.size + 1 + 1) 27 #[.int .i64 6, .int .i64 y, .string ⟨#[]⟩, .slice (some ⟨g, 0, none⟩) 1 cp] ∧ Bk wr w.heap.size 27 #[.int .i64 0, .int .i64 0, .string ⟨#[]⟩, .slice none 0 0] ∧ Rel w wr ∧ ExAt (Out3 w.heap.size w2.heap.size) wr (6, y, [], some ⟨g, 0, none⟩, 1, cp) (wildX x what y)))) (fun i _ => 1 - (RowKit.intOf i).toNat)
  case atStart => exact .inl ⟨rfl, rfl⟩
  case round =>
    rcases hrel with ⟨rfl, rfl⟩ | ⟨rfl, HS⟩
    · obtain ⟨Wt, hWt⟩ : ∃ Wt, Wt = wr := ⟨_, rfl⟩
      subst hWt
      obtain ⟨⟨c0, c1, c2, c3⟩, f0, f1, f2, f3⟩ := H8.out.four
      obtain ⟨⟨d0, d1, d2, d3⟩, _⟩ := H7.out.four
      have hOA : (Wt.alloc (.cells #[.int .i64 vx.1, .int .i64 vx.2.1, .string (B vx.2.2.1), .slice vx.2.2.2.1 vx.2.2.2.2.1 vx.2.2.2.2.2] 27)).ownsRow (w2.heap.size + 4) 27 4 (.slice none 0 0) 0 (cellsEs []) := World.ownsRow_nil _ _ _ _
      have hB3 := Bk.new Wt 27 #[.int .i64 vx.1, .int .i64 vx.2.1, .string (B vx.2.2.1), .slice vx.2.2.2.1 vx.2.2.2.2.1 vx.2.2.2.2.2]
      rw [hzt] at hB3
      have hNW := World.news_of_block hB3
      go_wp2_with (first
        | (go_at_call 25; (with_reducible refine (args_as 6 1 (Lib.hid rfl) _).mono ?_); rintro e w' ⟨rfl, rfl⟩)
        | (at_builtin; (refine wpList_append_lies _ rfl _ _ 25 rfl (w2.heap.size + 4) 27 i0 (.agg #[.int .i64 0, .int .i64 0, .string ⟨#[]⟩, .slice none 0 0]) 4 56 Tryd.underlying25 hi hz0 hz1 hz2' rfl (by decide) _ 0 (cellsEs []) rfl hOA ⟨w2.heap.size + 3, 0, none⟩ 1 1 (cellsE vx) rfl rfl hNW (cellsE_one _) (by decide) (by unfold maxLen; omega) (by omega) (by rw [World.size_alloc]; omega) _ rfl ?_); intro g cap w3 hown hg hgat hlt3; have H83 := (H8.out.alloc (.cells #[.int .i64 vx.1, .int .i64 vx.2.1, .string (B vx.2.2.1), .slice vx.2.2.2.1 vx.2.2.2.2.1 vx.2.2.2.2.2] 27)).grown hg (fun e => by cases e); obtain ⟨⟨e0, e1, e2, e3⟩, g0, g1, g2, g3⟩ := H83.four))
      have hge : g = w2.heap.size + 4 := by
        rcases hgat with h | h
        · cases h
        · rw [h, World.size_alloc, hzt]
      have gs := set_grown w3 (w2.heap.size + 1 + 1) 3 (.slice (some ⟨g, 0, none⟩) 1 cap)
      have hown2 := own_set hown (p := ⟨w2.heap.size + 1 + 1, 3, none⟩) (fun e => by have e := Option.some.inj e; simp only at e; omega) (.slice (some ⟨g, 0, none⟩) 1 cap)
      have hS : Out3 w.heap.size w2.heap.size g := ⟨by omega, by omega, by omega⟩
      have hrow : RowE (Out3 w.heap.size w2.heap.size) (w3.setCell ⟨w2.heap.size + 1 + 1, 3, none⟩ (.slice (some ⟨g, 0, none⟩) 1 cap)) (some ⟨g, 0, none⟩) [vx] := ElsOwn.toks (ElsOwn.more (es := []) (e := vx) hown2) rfl (fun j hj => by have hj := Option.some.inj hj; rw [← hj]; exact hS)
      have he3 : ExAt (Out3 w.heap.size w2.heap.size) (w3.setCell ⟨w2.heap.size + 1 + 1, 3, none⟩ (.slice (some ⟨g, 0, none⟩) 1 cap)) vx x :=
        (((EXt.out.rel (HRt.out.self.alloc (.cells #[.int .i64 vx.1, .int .i64 vx.2.1, .string (B vx.2.2.1), .slice vx.2.2.2.1 vx.2.2.2.2.1 vx.2.2.2.2.2] 27))).grown hg (fun q hq => ⟨hq, fun e => by cases e⟩))).grown gs (fun q hq => ⟨hq, fun e => by injection e with e; exact hq.2.2 e⟩)
      have hfin : Hid (∃ g' cp', Bk (w3.setCell ⟨w2.heap.size + 1 + 1, 3, none⟩ (.slice (some ⟨g, 0, none⟩) 1 cap)) (w2.heap.size + 1 + 1) 27 #[.int .i64 6, .int .i64 y, .string ⟨#[]⟩, .slice (some ⟨g', 0, none⟩) 1 cp'] ∧ Bk (w3.setCell ⟨w2.heap.size + 1 + 1, 3, none⟩ (.slice (some ⟨g, 0, none⟩) 1 cap)) w.heap.size 27 #[.int .i64 0, .int .i64 0, .string ⟨#[]⟩, .slice none 0 0] ∧ Rel w (w3.setCell ⟨w2.heap.size + 1 + 1, 3, none⟩ (.slice (some ⟨g, 0, none⟩) 1 cap)) ∧ ExAt (Out3 w.heap.size w2.heap.size) (w3.setCell ⟨w2.heap.size + 1 + 1, 3, none⟩ (.slice (some ⟨g, 0, none⟩) 1 cap)) (6, y, [], some ⟨g', 0, none⟩, 1, cp') (wildX x what y)) :=
        Lib.hid ⟨g, cap, H83.set_ 3 _, ((H0.out.alloc (.cells #[.int .i64 vx.1, .int .i64 vx.2.1, .string (B vx.2.2.1), .slice vx.2.2.2.1 vx.2.2.2.2.1 vx.2.2.2.2.2] 27)).grown hg (fun e => by cases e)).grown gs (fun e => by injection e with e; omega), Rel.grown (Rel.grown (HRt.out.alloc (.cells #[.int .i64 vx.1, .int .i64 vx.2.1, .string (B vx.2.2.1), .slice vx.2.2.2.1 vx.2.2.2.2.1 vx.2.2.2.2.2] 27)) hg (fun k e => by cases e)) gs (fun k e => by injection e with e; omega), by
          rw [HX]
          exact .mk 6 y [] _ cap [x] [vx] (ok64 (by decide) (by decide)) ⟨y1, y2⟩ (Nat.zero_le _) rfl hrow (fun i h h' => by
            match i, h, h' with
            | 0, _, _ => exact he3)⟩
      clear hOA hB3 hNW hown hg hgat H83 gs hown2 hrow he3
      go_roundw
      case rel => exact .inr ⟨rfl, hfin⟩
      case measure => simp [RowKit.intOf]
    · obtain ⟨Wt, hWt⟩ : ∃ Wt, Wt = wr := ⟨_, rfl⟩
      subst hWt
      obtain ⟨g, cp, h8', h0', hrt', he'⟩ := HS.out
      clear H8 H7 H0 HRt EXt
      have H8 := Lib.hid h8'
      have H0 := Lib.hid h0'
      have HRt := Lib.hid hrt'
      have HE := Lib.hid he'
      obtain ⟨⟨c0, c1, c2, c3⟩, _⟩ := H8.out.four
      clear h8' h0' hrt' he' HS
      go_upto_region 35 with (go_at_call 25; (with_reducible refine (args_as 6 1 (Lib.hid rfl) _).mono ?_); rintro e w' ⟨rfl, rfl⟩)
      clear c0 c1 c2 c3
      obtain ⟨⟨c0, c1, c2, c3⟩, _⟩ := H8.out.four
      obtain ⟨_, f0, f1, f2, f3⟩ := H0.out.four
      go_wp2_with (fail)
      obtain ⟨⟨t0, t1, t2, t3⟩, _⟩ := (H0.out.put4 (.int .i64 6) (.int .i64 y) (.string ⟨#[]⟩) (.slice (some ⟨g, 0, none⟩) 1 cp)).four
      have gp := put4_grown Wt w.heap.size (.int .i64 6) (.int .i64 y) (.string ⟨#[]⟩) (.slice (some ⟨g, 0, none⟩) 1 cp)
      refine bodyPost_ret (v := .agg #[.int .i64 6, .int .i64 y, .string ⟨#[]⟩, .slice (some ⟨g, 0, none⟩) 1 cp]) (by simp [results, Tryd.results10, go_sem, t0, t1, t2, t3]) rfl ⟨(6, y, [], some ⟨g, 0, none⟩, 1, cp), rfl, ?_, ?_⟩
      · exact HE.out.grown gp (fun q hq => ⟨trivial, fun e => by injection e with e; have := hq.1; omega⟩)
      · exact HR.out.trans (Rel.grown HRt.out gp (fun k e => by cases e; exact Nat.le_refl _))
set_option maxRecDepth 100000 in
set_option maxHeartbeats 16000000 in
theorem wild_8 (A : Option Addr) (c : Nat) (L : List Int) (what y : Int) (hw : i64 what) (hy : i64 y) (hu : pk what 10 = 8) (w0 w : World) (hr : Rel w0 w) (hi : IntsIn w A c L) :
    Calls Tryd.prog 10 #[.slice A L.length c, .int .i64 what, .int .i64 y] w fun e w' => ∃ v : El, e = .returned (EV v) ∧ ExAt (fun _ => True) w' v (wildX (strat L) what y) ∧ Rel w0 w' := by
  have HR := Lib.hid hr
  have HU := Lib.hid hu
  obtain ⟨w1, w2'⟩ := hw
  obtain ⟨y1, y2⟩ := hy
  obtain ⟨x, hx⟩ : ∃ x, strat L = x := ⟨_, rfl⟩
  have hA := hr.self.alloc (.cells #[.int .i64 0, .int .i64 0, .string ⟨#[]⟩, .slice none 0 0] 27)
  have HA := Lib.hid hA
  have HZ := Lib.hid (Bk.new w 27 #[.int .i64 0, .int .i64 0, .string ⟨#[]⟩, .slice none 0 0])
  have HStx := Lib.hid (strat_any A c L _ _ hA.self (hi.rel hA))
  rw [hx] at HStx ⊢
  have hpb := pk_bd y 36 (by omega)
  obtain ⟨m, hp⟩ : ∃ m : Nat, pk y 36 = (m : Int) := ⟨(pk y 36).toNat, by omega⟩
  have HX : wildX x what y = cuts m x := by unfold wildX; rw [hu, hp]; rfl
  have HM := Lib.hid hp
  have hm9 : m < 36 := by omega
  clear hp hpb
  clear hx hi hr hu hA
  go_enter Tryd.func10, Tryd.ntmps10
  go_upto_region 30 with (first
    | (go_at_call 9; (with_reducible refine HStx.out.mono ?_); rintro e w2 ⟨vx, rfl, ex, h2⟩)
    | (go_at_call 24; (with_reducible refine (pk_as what 10 8 HU w1 w2' (by omega) (by omega) _).mono ?_); rintro e w' ⟨rfl, rfl⟩))
  have hsz := h2.size
  rw [World.size_alloc] at hsz
  have EX := Lib.hid (ex.mono (S' := fun q => w.heap.size < q ∧ q < w2.heap.size) (Nat.le_refl _) fun g hg hl => ⟨⟨by rw [World.size_alloc] at hg; omega, hl⟩, rfl⟩)
  have HZ2 := Lib.hid (HZ.out.rel h2)
  have HW2 := Lib.hid (HA.out.trans h2)
  clear ex h2 HStx HA HZ
  have h8 := Bk.new ((w2.alloc (.cells #[.int .i64 vx.1, .int .i64 vx.2.1, .string (B vx.2.2.1), .slice vx.2.2.2.1 vx.2.2.2.2.1 vx.2.2.2.2.2] 27)).alloc (.cells #[.int .i64 vx.1, .int .i64 vx.2.1, .string (B vx.2.2.1), .slice vx.2.2.2.1 vx.2.2.2.2.1 vx.2.2.2.2.2, .int .i64 vx.1, .int .i64 vx.2.1, .string (B vx.2.2.1), .slice vx.2.2.2.1 vx.2.2.2.2.1 vx.2.2.2.2.2] 27)) 27 #[.int .i64 9, .int .i64 0, .string ⟨#[]⟩, .slice (some ⟨w2.heap.size + 1, 0, none⟩) 2 2]
  try simp only [World.size_alloc] at h8
  have h8 := h8
  have h7 := Bk.new w2 27 #[.int .i64 vx.1, .int .i64 vx.2.1, .string (B vx.2.2.1), .slice vx.2.2.2.1 vx.2.2.2.2.1 vx.2.2.2.2.2]
  try simp only [World.size_alloc] at h7
  have h7 := ((h7.alloc (.cells #[.int .i64 vx.1, .int .i64 vx.2.1, .string (B vx.2.2.1), .slice vx.2.2.2.1 vx.2.2.2.2.1 vx.2.2.2.2.2, .int .i64 vx.1, .int .i64 vx.2.1, .string (B vx.2.2.1), .slice vx.2.2.2.1 vx.2.2.2.2.1 vx.2.2.2.2.2] 27)).alloc (.cells #[.int .i64 9, .int .i64 0, .string ⟨#[]⟩, .slice (some ⟨w2.heap.size + 1, 0, none⟩) 2 2] 27))
  have RT := ((HW2.out.self.alloc (.cells #[.int .i64 vx.1, .int .i64 vx.2.1, .string (B vx.2.2.1), .slice vx.2.2.2.1 vx.2.2.2.2.1 vx.2.2.2.2.2] 27)).alloc (.cells #[.int .i64 vx.1, .int .i64 vx.2.1, .string (B vx.2.2.1), .slice vx.2.2.2.1 vx.2.2.2.2.1 vx.2.2.2.2.2, .int .i64 vx.1, .int .i64 vx.2.1, .string (B vx.2.2.1), .slice vx.2.2.2.1 vx.2.2.2.2.1 vx.2.2.2.2.2] 27)).alloc (.cells #[.int .i64 9, .int .i64 0, .string ⟨#[]⟩, .slice (some ⟨w2.heap.size + 1, 0, none⟩) 2 2] 27)
  have hzt : (((w2.alloc (.cells #[.int .i64 vx.1, .int .i64 vx.2.1, .string (B vx.2.2.1), .slice vx.2.2.2.1 vx.2.2.2.2.1 vx.2.2.2.2.2] 27)).alloc (.cells #[.int .i64 vx.1, .int .i64 vx.2.1, .string (B vx.2.2.1), .slice vx.2.2.2.1 vx.2.2.2.2.1 vx.2.2.2.2.2, .int .i64 vx.1, .int .i64 vx.2.1, .string (B vx.2.2.1), .slice vx.2.2.2.1 vx.2.2.2.2.1 vx.2.2.2.2.2] 27)).alloc (.cells #[.int .i64 9, .int .i64 0, .string ⟨#[]⟩, .slice (some ⟨w2.heap.size + 1, 0, none⟩) 2 2] 27)).heap.size = w2.heap.size + 3 := by simp only [World.size_alloc]
  have HS0 := Lib.hid (show ∃ (v : El) (X : Ex), Bk (((w2.alloc (.cells #[.int .i64 vx.1, .int .i64 vx.2.1, .string (B vx.2.2.1), .slice vx.2.2.2.1 vx.2.2.2.2.1 vx.2.2.2.2.2] 27)).alloc (.cells #[.int .i64 vx.1, .int .i64 vx.2.1, .string (B vx.2.2.1), .slice vx.2.2.2.1 vx.2.2.2.2.1 vx.2.2.2.2.2, .int .i64 vx.1, .int .i64 vx.2.1, .string (B vx.2.2.1), .slice vx.2.2.2.1 vx.2.2.2.2.1 vx.2.2.2.2.2] 27)).alloc (.cells #[.int .i64 9, .int .i64 0, .string ⟨#[]⟩, .slice (some ⟨w2.heap.size + 1, 0, none⟩) 2 2] 27)) w2.heap.size 27 #[.int .i64 v.1, .int .i64 v.2.1, .string (B v.2.2.1), .slice v.2.2.2.1 v.2.2.2.2.1 v.2.2.2.2.2] ∧ Bk (((w2.alloc (.cells #[.int .i64 vx.1, .int .i64 vx.2.1, .string (B vx.2.2.1), .slice vx.2.2.2.1 vx.2.2.2.2.1 vx.2.2.2.2.2] 27)).alloc (.cells #[.int .i64 vx.1, .int .i64 vx.2.1, .string (B vx.2.2.1), .slice vx.2.2.2.1 vx.2.2.2.2.1 vx.2.2.2.2.2, .int .i64 vx.1, .int .i64 vx.2.1, .string (B vx.2.2.1), .slice vx.2.2.2.1 vx.2.2.2.2.1 vx.2.2.2.2.2] 27)).alloc (.cells #[.int .i64 9, .int .i64 0, .string ⟨#[]⟩, .slice (some ⟨w2.heap.size + 1, 0, none⟩) 2 2] 27)) (w2.heap.size + 1 + 1) 27 #[.int .i64 9, .int .i64 0, .string ⟨#[]⟩, .slice (some ⟨w2.heap.size + 1, 0, none⟩) 2 2] ∧ Bk (((w2.alloc (.cells #[.int .i64 vx.1, .int .i64 vx.2.1, .string (B vx.2.2.1), .slice vx.2.2.2.1 vx.2.2.2.2.1 vx.2.2.2.2.2] 27)).alloc (.cells #[.int .i64 vx.1, .int .i64 vx.2.1, .string (B vx.2.2.1), .slice vx.2.2.2.1 vx.2.2.2.2.1 vx.2.2.2.2.2, .int .i64 vx.1, .int .i64 vx.2.1, .string (B vx.2.2.1), .slice vx.2.2.2.1 vx.2.2.2.2.1 vx.2.2.2.2.2] 27)).alloc (.cells #[.int .i64 9, .int .i64 0, .string ⟨#[]⟩, .slice (some ⟨w2.heap.size + 1, 0, none⟩) 2 2] 27)) w.heap.size 27 #[.int .i64 0, .int .i64 0, .string ⟨#[]⟩, .slice none 0 0] ∧ ExAt (Out3 w.heap.size w2.heap.size) (((w2.alloc (.cells #[.int .i64 vx.1, .int .i64 vx.2.1, .string (B vx.2.2.1), .slice vx.2.2.2.1 vx.2.2.2.2.1 vx.2.2.2.2.2] 27)).alloc (.cells #[.int .i64 vx.1, .int .i64 vx.2.1, .string (B vx.2.2.1), .slice vx.2.2.2.1 vx.2.2.2.2.1 vx.2.2.2.2.2, .int .i64 vx.1, .int .i64 vx.2.1, .string (B vx.2.2.1), .slice vx.2.2.2.1 vx.2.2.2.2.1 vx.2.2.2.2.2] 27)).alloc (.cells #[.int .i64 9, .int .i64 0, .string ⟨#[]⟩, .slice (some ⟨w2.heap.size + 1, 0, none⟩) 2 2] 27)) v X ∧ cuts (m - 0) X = cuts m x ∧ Rel w (((w2.alloc (.cells #[.int .i64 vx.1, .int .i64 vx.2.1, .string (B vx.2.2.1), .slice vx.2.2.2.1 vx.2.2.2.2.1 vx.2.2.2.2.2] 27)).alloc (.cells #[.int .i64 vx.1, .int .i64 vx.2.1, .string (B vx.2.2.1), .slice vx.2.2.2.1 vx.2.2.2.2.1 vx.2.2.2.2.2, .int .i64 vx.1, .int .i64 vx.2.1, .string (B vx.2.2.1), .slice vx.2.2.2.1 vx.2.2.2.2.1 vx.2.2.2.2.2] 27)).alloc (.cells #[.int .i64 9, .int .i64 0, .string ⟨#[]⟩, .slice (some ⟨w2.heap.size + 1, 0, none⟩) 2 2] 27)) ∧ w2.heap.size + 3 ≤ (((w2.alloc (.cells #[.int .i64 vx.1, .int .i64 vx.2.1, .string (B vx.2.2.1), .slice vx.2.2.2.1 vx.2.2.2.2.1 vx.2.2.2.2.2] 27)).alloc (.cells #[.int .i64 vx.1, .int .i64 vx.2.1, .string (B vx.2.2.1), .slice vx.2.2.2.1 vx.2.2.2.2.1 vx.2.2.2.2.2, .int .i64 vx.1, .int .i64 vx.2.1, .string (B vx.2.2.1), .slice vx.2.2.2.1 vx.2.2.2.2.1 vx.2.2.2.2.2] 27)).alloc (.cells #[.int .i64 9, .int .i64 0, .string ⟨#[]⟩, .slice (some ⟨w2.heap.size + 1, 0, none⟩) 2 2] 27)).heap.size from
    ⟨vx, x, h7, h8, HZ2.out.rel RT, (EX.out.rel RT).weak (fun q hq => ⟨hq.1, by omega, by omega⟩), rfl, HW2.out.trans RT, by omega⟩)
  clear h8 h7 RT
  go_wp2_with (fail)
  obtain ⟨Wt, hWt⟩ : ∃ Wt, (((w2.alloc (.cells #[.int .i64 vx.1, .int .i64 vx.2.1, .string (B vx.2.2.1), .slice vx.2.2.2.1 vx.2.2.2.2.1 vx.2.2.2.2.2] 27)).alloc (.cells #[.int .i64 vx.1, .int .i64 vx.2.1, .string (B vx.2.2.1), .slice vx.2.2.2.1 vx.2.2.2.2.1 vx.2.2.2.2.2, .int .i64 vx.1, .int .i64 vx.2.1, .string (B vx.2.2.1), .slice vx.2.2.2.1 vx.2.2.2.2.1 vx.2.2.2.2.2] 27)).alloc (.cells #[.int .i64 9, .int .i64 0, .string ⟨#[]⟩, .slice (some ⟨w2.heap.size + 1, 0, none⟩) 2 2] 27)) = Wt := ⟨_, rfl⟩
  rw [hWt] at HS0 hzt ⊢
  clear hWt HZ2 HW2 EX
  go_loopw [10] (fun i wr => ∃ (j : Nat), i = .int .i64 (j : Int) ∧ j ≤ m ∧ Hid (∃ (v : El) (X : Ex), Bk wr w2.heap.size 27 #[.int .i64 v.1, .int .i64 v.2.1, .string (B v.2.2.1), .slice v.2.2.2.1 v.2.2.2.2.1 v.2.2.2.2.2] ∧ Bk wr (w2.heap.size + 1 + 1) 27 #[.int .i64 9, .int .i64 0, .string ⟨#[]⟩, .slice (some ⟨w2.heap.size + 1, 0, none⟩) 2 2] ∧ Bk wr w.heap.size 27 #[.int .i64 0, .int .i64 0, .string ⟨#[]⟩, .slice none 0 0] ∧ ExAt (Out3 w.heap.size w2.heap.size) wr v X ∧ cuts (m - j) X = cuts m x ∧ Rel w wr ∧ w2.heap.size + 3 ≤ wr.heap.size)) (fun i _ => m - (RowKit.intOf i).toNat)
  case atStart => exact ⟨0, rfl, by omega, HS0⟩
  case round =>
    obtain ⟨j, rfl, hj, HS⟩ := hrel
    obtain ⟨v, X, h7, h8, h0, he, hc, hrw, hzw⟩ := HS.out
    by_cases hlt : j < m
    · obtain ⟨⟨c0, c1, c2, c3⟩, f0, f1, f2, f3⟩ := h7.four
      obtain ⟨⟨d0, d1, d2, d3⟩, g0, g1, g2, g3⟩ := (h7.alloc (.cells #[.int .i64 v.1, .int .i64 v.2.1, .string (B v.2.2.1), .slice v.2.2.2.1 v.2.2.2.2.1 v.2.2.2.2.2] 27)).four
      have hjm : (j : Int) < (m : Int) := by omega
      go_wp2_with (go_at_call 24; (with_reducible refine (pk_as y 36 (m : Int) HM y1 y2 (by omega) (by omega) _).mono ?_); rintro e w' ⟨rfl, rfl⟩)
      have hal := hrw.self.alloc (.cells #[.int .i64 v.1, .int .i64 v.2.1, .string (B v.2.2.1), .slice v.2.2.2.1 v.2.2.2.2.1 v.2.2.2.2.2] 27)
      have gp := put4_grown (wr.alloc (.cells #[.int .i64 v.1, .int .i64 v.2.1, .string (B v.2.2.1), .slice v.2.2.2.1 v.2.2.2.2.1 v.2.2.2.2.2] 27)) w2.heap.size (.int .i64 6) (.int .i64 1) (.string ⟨#[]⟩) (.slice (some ⟨wr.heap.size, 0, none⟩) 1 1)
      have hgz := gp.size
      rw [World.size_alloc] at hgz
      have hS : Out3 w.heap.size w2.heap.size wr.heap.size := ⟨by omega, by omega, by omega⟩
      have hrow := (Bk.new wr 27 #[.int .i64 v.1, .int .i64 v.2.1, .string (B v.2.2.1), .slice v.2.2.2.1 v.2.2.2.2.1 v.2.2.2.2.2]).grown gp (fun e => by have e := Option.some.inj e; omega)
      have hev := (he.rel hal).grown gp (fun q hq => ⟨hq, fun e => hq.2.1 (Option.some.inj e)⟩)
      have hc2 : cuts (m - (j + 1)) (.mk 6 1 [] [X]) = cuts m x := by
        rw [show m - j = (m - (j + 1)) + 1 by omega] at hc
        exact hc
      have h7' := (h7.alloc (.cells #[.int .i64 v.1, .int .i64 v.2.1, .string (B v.2.2.1), .slice v.2.2.2.1 v.2.2.2.2.1 v.2.2.2.2.2] 27)).put4 (.int .i64 6) (.int .i64 1) (.string ⟨#[]⟩) (.slice (some ⟨wr.heap.size, 0, none⟩) 1 1)
      have h8' := (h8.alloc (.cells #[.int .i64 v.1, .int .i64 v.2.1, .string (B v.2.2.1), .slice v.2.2.2.1 v.2.2.2.2.1 v.2.2.2.2.2] 27)).grown gp (fun e => by have e := Option.some.inj e; omega)
      have h0' := (h0.alloc (.cells #[.int .i64 v.1, .int .i64 v.2.1, .string (B v.2.2.1), .slice v.2.2.2.1 v.2.2.2.2.1 v.2.2.2.2.2] 27)).grown gp (fun e => by have e := Option.some.inj e; omega)
      have hr' := Rel.grown (hrw.alloc (.cells #[.int .i64 v.1, .int .i64 v.2.1, .string (B v.2.2.1), .slice v.2.2.2.1 v.2.2.2.2.1 v.2.2.2.2.2] 27)) gp (fun k e => by have e := Option.some.inj e; omega)
      have hx' := ExAt.one (a := v) (k := 6) (n := 1) (nm := []) (c := 1) (ok64 (by decide) (by decide)) (ok64 (by decide) (by decide)) (Nat.zero_le _) hrow hS hev
      go_roundw
      case rel => exact ⟨j + 1, by go_num, by omega, Lib.hid ⟨(6, 1, [], some ⟨wr.heap.size, 0, none⟩, 1, 1), _, h7', h8', h0', hx', hc2, hr', by omega⟩⟩
      case measure => simp [RowKit.intOf]; omega
    · obtain rfl : j = m := by omega
      rw [Nat.sub_self] at hc
      have hX2 : X = cuts j x := hc
      have hjm : ¬ (j : Int) < (j : Int) := by omega
      obtain ⟨⟨c0, c1, c2, c3⟩, _⟩ := h7.four
      obtain ⟨⟨d0, d1, d2, d3⟩, f0, f1, f2, f3⟩ := h8.four
      go_upto_region 35 with (go_at_call 24; (with_reducible refine (pk_as y 36 (j : Int) HM y1 y2 (by omega) (by omega) _).mono ?_); rintro e w' ⟨rfl, rfl⟩)
      have gp := put4_grown wr (w2.heap.size + 1 + 1) (.int .i64 v.1) (.int .i64 v.2.1) (.string (B v.2.2.1)) (.slice v.2.2.2.1 v.2.2.2.2.1 v.2.2.2.2.2)
      have H8 := Lib.hid (h8.put4 (.int .i64 v.1) (.int .i64 v.2.1) (.string (B v.2.2.1)) (.slice v.2.2.2.1 v.2.2.2.2.1 v.2.2.2.2.2))
      have H0 := Lib.hid (h0.grown gp (fun e => by have e := Option.some.inj e; omega))
      have HRt := Lib.hid (Rel.grown hrw gp (fun k e => by have e := Option.some.inj e; omega))
      have HE := Lib.hid (he.grown gp (fun q hq => ⟨hq, fun e => hq.2.2 (Option.some.inj e)⟩))
      rw [hX2, ← HX] at HE
      obtain ⟨Wt, hWt⟩ : ∃ Wt, ((((wr.setCell ⟨w2.heap.size + 1 + 1, 0, none⟩ (.int .i64 v.1)).setCell ⟨w2.heap.size + 1 + 1, 1, none⟩ (.int .i64 v.2.1)).setCell ⟨w2.heap.size + 1 + 1, 2, none⟩ (.string (B v.2.2.1))).setCell ⟨w2.heap.size + 1 + 1, 3, none⟩ (.slice v.2.2.2.1 v.2.2.2.2.1 v.2.2.2.2.2)) = Wt := ⟨_, rfl⟩
      rw [hWt] at H8 H0 HRt HE ⊢
      clear hWt gp c0 c1 c2 c3 d0 d1 d2 d3 f0 f1 f2 f3
      obtain ⟨⟨c0, c1, c2, c3⟩, _⟩ := H8.out.four
      obtain ⟨_, f0, f1, f2, f3⟩ := H0.out.four
      go_wp2_with (fail)
      obtain ⟨⟨t0, t1, t2, t3⟩, _⟩ := (H0.out.put4 (.int .i64 v.1) (.int .i64 v.2.1) (.string (B v.2.2.1)) (.slice v.2.2.2.1 v.2.2.2.2.1 v.2.2.2.2.2)).four
      have gp := put4_grown Wt w.heap.size (.int .i64 v.1) (.int .i64 v.2.1) (.string (B v.2.2.1)) (.slice v.2.2.2.1 v.2.2.2.2.1 v.2.2.2.2.2)
      refine bodyPost_ret (v := .agg #[.int .i64 v.1, .int .i64 v.2.1, .string (B v.2.2.1), .slice v.2.2.2.1 v.2.2.2.2.1 v.2.2.2.2.2]) (by simp [results, Tryd.results10, go_sem, t0, t1, t2, t3]) rfl ⟨v, rfl, ?_, ?_⟩
      · exact HE.out.grown gp (fun q hq => ⟨trivial, fun e => by injection e with e; have := hq.1; omega⟩)
      · exact HR.out.trans (Rel.grown HRt.out gp (fun k e => by cases e; exact Nat.le_refl _))
set_option maxRecDepth 100000 in
set_option maxHeartbeats 16000000 in
theorem wild_9 (A : Option Addr) (c : Nat) (L : List Int) (what y : Int) (hw : i64 what) (hy : i64 y) (hu : pk what 10 = 9) (w0 w : World) (hr : Rel w0 w) (hi : IntsIn w A c L) :
    Calls Tryd.prog 10 #[.slice A L.length c, .int .i64 what, .int .i64 y] w fun e w' => ∃ v : El, e = .returned (EV v) ∧ ExAt (fun _ => True) w' v (wildX (strat L) what y) ∧ Rel w0 w' := by
  have HR := Lib.hid hr
  have HU := Lib.hid hu
  obtain ⟨w1, w2'⟩ := hw
  obtain ⟨y1, y2⟩ := hy
  obtain ⟨x, hx⟩ : ∃ x, strat L = x := ⟨_, rfl⟩
  have hA := hr.self.alloc (.cells #[.int .i64 0, .int .i64 0, .string ⟨#[]⟩, .slice none 0 0] 27)
  have HA := Lib.hid hA
  have HZ := Lib.hid (Bk.new w 27 #[.int .i64 0, .int .i64 0, .string ⟨#[]⟩, .slice none 0 0])
  have HStx := Lib.hid (strat_any A c L _ _ hA.self (hi.rel hA))
  rw [hx] at HStx ⊢
  have hpb := pk_bd y 7 (by omega)
  obtain ⟨m, hp⟩ : ∃ m : Nat, pk y 7 = (m : Int) := ⟨(pk y 7).toNat, by omega⟩
  have HX : wildX x what y = mins m x := by unfold wildX; rw [hu, hp]; rfl
  have HM := Lib.hid hp
  have hm9 : m < 7 := by omega
  clear hp hpb
  clear hx hi hr hu hA
  go_enter Tryd.func10, Tryd.ntmps10
  go_upto_region 4 with (first
    | (go_at_call 9; (with_reducible refine HStx.out.mono ?_); rintro e w2 ⟨vx, rfl, ex, h2⟩)
    | (go_at_call 24; (with_reducible refine (pk_as what 10 9 HU w1 w2' (by omega) (by omega) _).mono ?_); rintro e w' ⟨rfl, rfl⟩))
  have hsz := h2.size
  rw [World.size_alloc] at hsz
  have EX := Lib.hid (ex.mono (S' := fun q => w.heap.size < q ∧ q < w2.heap.size) (Nat.le_refl _) fun g hg hl => ⟨⟨by rw [World.size_alloc] at hg; omega, hl⟩, rfl⟩)
  have HZ2 := Lib.hid (HZ.out.rel h2)
  have HW2 := Lib.hid (HA.out.trans h2)
  clear ex h2 HStx HA HZ
  have h8 := Bk.new ((w2.alloc (.cells #[.int .i64 vx.1, .int .i64 vx.2.1, .string (B vx.2.2.1), .slice vx.2.2.2.1 vx.2.2.2.2.1 vx.2.2.2.2.2] 27)).alloc (.cells #[.int .i64 vx.1, .int .i64 vx.2.1, .string (B vx.2.2.1), .slice vx.2.2.2.1 vx.2.2.2.2.1 vx.2.2.2.2.2, .int .i64 vx.1, .int .i64 vx.2.1, .string (B vx.2.2.1), .slice vx.2.2.2.1 vx.2.2.2.2.1 vx.2.2.2.2.2] 27)) 27 #[.int .i64 9, .int .i64 0, .string ⟨#[]⟩, .slice (some ⟨w2.heap.size + 1, 0, none⟩) 2 2]
  try simp only [World.size_alloc] at h8
  have h8 := h8
  have h7 := Bk.new w2 27 #[.int .i64 vx.1, .int .i64 vx.2.1, .string (B vx.2.2.1), .slice vx.2.2.2.1 vx.2.2.2.2.1 vx.2.2.2.2.2]
  try simp only [World.size_alloc] at h7
  have h7 := ((h7.alloc (.cells #[.int .i64 vx.1, .int .i64 vx.2.1, .string (B vx.2.2.1), .slice vx.2.2.2.1 vx.2.2.2.2.1 vx.2.2.2.2.2, .int .i64 vx.1, .int .i64 vx.2.1, .string (B vx.2.2.1), .slice vx.2.2.2.1 vx.2.2.2.2.1 vx.2.2.2.2.2] 27)).alloc (.cells #[.int .i64 9, .int .i64 0, .string ⟨#[]⟩, .slice (some ⟨w2.heap.size + 1, 0, none⟩) 2 2] 27))
  have RT := ((HW2.out.self.alloc (.cells #[.int .i64 vx.1, .int .i64 vx.2.1, .string (B vx.2.2.1), .slice vx.2.2.2.1 vx.2.2.2.2.1 vx.2.2.2.2.2] 27)).alloc (.cells #[.int .i64 vx.1, .int .i64 vx.2.1, .string (B vx.2.2.1), .slice vx.2.2.2.1 vx.2.2.2.2.1 vx.2.2.2.2.2, .int .i64 vx.1, .int .i64 vx.2.1, .string (B vx.2.2.1), .slice vx.2.2.2.1 vx.2.2.2.2.1 vx.2.2.2.2.2] 27)).alloc (.cells #[.int .i64 9, .int .i64 0, .string ⟨#[]⟩, .slice (some ⟨w2.heap.size + 1, 0, none⟩) 2 2] 27)
  have hzt : (((w2.alloc (.cells #[.int .i64 vx.1, .int .i64 vx.2.1, .string (B vx.2.2.1), .slice vx.2.2.2.1 vx.2.2.2.2.1 vx.2.2.2.2.2] 27)).alloc (.cells #[.int .i64 vx.1, .int .i64 vx.2.1, .string (B vx.2.2.1), .slice vx.2.2.2.1 vx.2.2.2.2.1 vx.2.2.2.2.2, .int .i64 vx.1, .int .i64 vx.2.1, .string (B vx.2.2.1), .slice vx.2.2.2.1 vx.2.2.2.2.1 vx.2.2.2.2.2] 27)).alloc (.cells #[.int .i64 9, .int .i64 0, .string ⟨#[]⟩, .slice (some ⟨w2.heap.size + 1, 0, none⟩) 2 2] 27)).heap.size = w2.heap.size + 3 := by simp only [World.size_alloc]
  have HS0 := Lib.hid (show ∃ (v : El) (X : Ex), Bk (((w2.alloc (.cells #[.int .i64 vx.1, .int .i64 vx.2.1, .string (B vx.2.2.1), .slice vx.2.2.2.1 vx.2.2.2.2.1 vx.2.2.2.2.2] 27)).alloc (.cells #[.int .i64 vx.1, .int .i64 vx.2.1, .string (B vx.2.2.1), .slice vx.2.2.2.1 vx.2.2.2.2.1 vx.2.2.2.2.2, .int .i64 vx.1, .int .i64 vx.2.1, .string (B vx.2.2.1), .slice vx.2.2.2.1 vx.2.2.2.2.1 vx.2.2.2.2.2] 27)).alloc (.cells #[.int .i64 9, .int .i64 0, .string ⟨#[]⟩, .slice (some ⟨w2.heap.size + 1, 0, none⟩) 2 2] 27)) w2.heap.size 27 #[.int .i64 v.1, .int .i64 v.2.1, .string (B v.2.2.1), .slice v.2.2.2.1 v.2.2.2.2.1 v.2.2.2.2.2] ∧ Bk (((w2.alloc (.cells #[.int .i64 vx.1, .int .i64 vx.2.1, .string (B vx.2.2.1), .slice vx.2.2.2.1 vx.2.2.2.2.1 vx.2.2.2.2.2] 27)).alloc (.cells #[.int .i64 vx.1, .int .i64 vx.2.1, .string (B vx.2.2.1), .slice vx.2.2.2.1 vx.2.2.2.2.1 vx.2.2.2.2.2, .int .i64 vx.1, .int .i64 vx.2.1, .string (B vx.2.2.1), .slice vx.2.2.2.1 vx.2.2.2.2.1 vx.2.2.2.2.2] 27)).alloc (.cells #[.int .i64 9, .int .i64 0, .string ⟨#[]⟩, .slice (some ⟨w2.heap.size + 1, 0, none⟩) 2 2] 27)) (w2.heap.size + 1 + 1) 27 #[.int .i64 9, .int .i64 0, .string ⟨#[]⟩, .slice (some ⟨w2.heap.size + 1, 0, none⟩) 2 2] ∧ Bk (((w2.alloc (.cells #[.int .i64 vx.1, .int .i64 vx.2.1, .string (B vx.2.2.1), .slice vx.2.2.2.1 vx.2.2.2.2.1 vx.2.2.2.2.2] 27)).alloc (.cells #[.int .i64 vx.1, .int .i64 vx.2.1, .string (B vx.2.2.1), .slice vx.2.2.2.1 vx.2.2.2.2.1 vx.2.2.2.2.2, .int .i64 vx.1, .int .i64 vx.2.1, .string (B vx.2.2.1), .slice vx.2.2.2.1 vx.2.2.2.2.1 vx.2.2.2.2.2] 27)).alloc (.cells #[.int .i64 9, .int .i64 0, .string ⟨#[]⟩, .slice (some ⟨w2.heap.size + 1, 0, none⟩) 2 2] 27)) w.heap.size 27 #[.int .i64 0, .int .i64 0, .string ⟨#[]⟩, .slice none 0 0] ∧ ExAt (Out3 w.heap.size w2.heap.size) (((w2.alloc (.cells #[.int .i64 vx.1, .int .i64 vx.2.1, .string (B vx.2.2.1), .slice vx.2.2.2.1 vx.2.2.2.2.1 vx.2.2.2.2.2] 27)).alloc (.cells #[.int .i64 vx.1, .int .i64 vx.2.1, .string (B vx.2.2.1), .slice vx.2.2.2.1 vx.2.2.2.2.1 vx.2.2.2.2.2, .int .i64 vx.1, .int .i64 vx.2.1, .string (B vx.2.2.1), .slice vx.2.2.2.1 vx.2.2.2.2.1 vx.2.2.2.2.2] 27)).alloc (.cells #[.int .i64 9, .int .i64 0, .string ⟨#[]⟩, .slice (some ⟨w2.heap.size + 1, 0, none⟩) 2 2] 27)) v X ∧ mins (m - 0) X = mins m x ∧ Rel w (((w2.alloc (.cells #[.int .i64 vx.1, .int .i64 vx.2.1, .string (B vx.2.2.1), .slice vx.2.2.2.1 vx.2.2.2.2.1 vx.2.2.2.2.2] 27)).alloc (.cells #[.int .i64 vx.1, .int .i64 vx.2.1, .string (B vx.2.2.1), .slice vx.2.2.2.1 vx.2.2.2.2.1 vx.2.2.2.2.2, .int .i64 vx.1, .int .i64 vx.2.1, .string (B vx.2.2.1), .slice vx.2.2.2.1 vx.2.2.2.2.1 vx.2.2.2.2.2] 27)).alloc (.cells #[.int .i64 9, .int .i64 0, .string ⟨#[]⟩, .slice (some ⟨w2.heap.size + 1, 0, none⟩) 2 2] 27)) ∧ w2.heap.size + 3 ≤ (((w2.alloc (.cells #[.int .i64 vx.1, .int .i64 vx.2.1, .string (B vx.2.2.1), .slice vx.2.2.2.1 vx.2.2.2.2.1 vx.2.2.2.2.2] 27)).alloc (.cells #[.int .i64 vx.1, .int .i64 vx.2.1, .string (B vx.2.2.1), .slice vx.2.2.2.1 vx.2.2.2.2.1 vx.2.2.2.2.2, .int .i64 vx.1, .int .i64 vx.2.1, .string (B vx.2.2.1), .slice vx.2.2.2.1 vx.2.2.2.2.1 vx.2.2.2.2.2] 27)).alloc (.cells #[.int .i64 9, .int .i64 0, .string ⟨#[]⟩, .slice (some ⟨w2.heap.size + 1, 0, none⟩) 2 2] 27)).heap.size from
    ⟨vx, x, h7, h8, HZ2.out.rel RT, (EX.out.rel RT).weak (fun q hq => ⟨hq.1, by omega, by omega⟩), rfl, HW2.out.trans RT, by omega⟩)
  clear h8 h7 RT
  go_wp2_with (fail)
  obtain ⟨Wt, hWt⟩ : ∃ Wt, (((w2.alloc (.cells #[.int .i64 vx.1, .int .i64 vx.2.1, .string (B vx.2.2.1), .slice vx.2.2.2.1 vx.2.2.2.2.1 vx.2.2.2.2.2] 27)).alloc (.cells #[.int .i64 vx.1, .int .i64 vx.2.1, .string (B vx.2.2.1), .slice vx.2.2.2.1 vx.2.2.2.2.1 vx.2.2.2.2.2, .int .i64 vx.1, .int .i64 vx.2.1, .string (B vx.2.2.1), .slice vx.2.2.2.1 vx.2.2.2.2.1 vx.2.2.2.2.2] 27)).alloc (.cells #[.int .i64 9, .int .i64 0, .string ⟨#[]⟩, .slice (some ⟨w2.heap.size + 1, 0, none⟩) 2 2] 27)) = Wt := ⟨_, rfl⟩
  rw [hWt] at HS0 hzt ⊢
  clear hWt HZ2 HW2 EX
  go_loopw [11] (fun i wr => ∃ (j : Nat), i = .int .i64 (j : Int) ∧ j ≤ m ∧ Hid (∃ (v : El) (X : Ex), Bk wr w2.heap.size 27 #[.int .i64 v.1, .int .i64 v.2.1, .string (B v.2.2.1), .slice v.2.2.2.1 v.2.2.2.2.1 v.2.2.2.2.2] ∧ Bk wr (w2.heap.size + 1 + 1) 27 #[.int .i64 9, .int .i64 0, .string ⟨#[]⟩, .slice (some ⟨w2.heap.size + 1, 0, none⟩) 2 2] ∧ Bk wr w.heap.size 27 #[.int .i64 0, .int .i64 0, .string ⟨#[]⟩, .slice none 0 0] ∧ ExAt (Out3 w.heap.size w2.heap.size) wr v X ∧ mins (m - j) X = mins m x ∧ Rel w wr ∧ w2.heap.size + 3 ≤ wr.heap.size)) (fun i _ => m - (RowKit.intOf i).toNat)
  case atStart => exact ⟨0, rfl, by omega, HS0⟩
  case round =>
    obtain ⟨j, rfl, hj, HS⟩ := hrel
    obtain ⟨v, X, h7, h8, h0, he, hc, hrw, hzw⟩ := HS.out
    by_cases hlt : j < m
    · obtain ⟨⟨c0, c1, c2, c3⟩, f0, f1, f2, f3⟩ := h7.four
      obtain ⟨⟨d0, d1, d2, d3⟩, g0, g1, g2, g3⟩ := (h7.alloc (.cells #[.int .i64 v.1, .int .i64 v.2.1, .string (B v.2.2.1), .slice v.2.2.2.1 v.2.2.2.2.1 v.2.2.2.2.2, .int .i64 v.1, .int .i64 v.2.1, .string (B v.2.2.1), .slice v.2.2.2.1 v.2.2.2.2.1 v.2.2.2.2.2] 27)).four
      have hjm : (j : Int) < (m : Int) := by omega
      go_wp2_with (go_at_call 24; (with_reducible refine (pk_as y 7 (m : Int) HM y1 y2 (by omega) (by omega) _).mono ?_); rintro e w' ⟨rfl, rfl⟩)
      have hal := hrw.self.alloc (.cells #[.int .i64 v.1, .int .i64 v.2.1, .string (B v.2.2.1), .slice v.2.2.2.1 v.2.2.2.2.1 v.2.2.2.2.2, .int .i64 v.1, .int .i64 v.2.1, .string (B v.2.2.1), .slice v.2.2.2.1 v.2.2.2.2.1 v.2.2.2.2.2] 27)
      have gp := put4_grown (wr.alloc (.cells #[.int .i64 v.1, .int .i64 v.2.1, .string (B v.2.2.1), .slice v.2.2.2.1 v.2.2.2.2.1 v.2.2.2.2.2, .int .i64 v.1, .int .i64 v.2.1, .string (B v.2.2.1), .slice v.2.2.2.1 v.2.2.2.2.1 v.2.2.2.2.2] 27)) w2.heap.size (.int .i64 7) (.int .i64 0) (.string ⟨#[]⟩) (.slice (some ⟨wr.heap.size, 0, none⟩) 2 2)
      have hgz := gp.size
      rw [World.size_alloc] at hgz
      have hS : Out3 w.heap.size w2.heap.size wr.heap.size := ⟨by omega, by omega, by omega⟩
      have hrow := (Bk.new wr 27 #[.int .i64 v.1, .int .i64 v.2.1, .string (B v.2.2.1), .slice v.2.2.2.1 v.2.2.2.2.1 v.2.2.2.2.2, .int .i64 v.1, .int .i64 v.2.1, .string (B v.2.2.1), .slice v.2.2.2.1 v.2.2.2.2.1 v.2.2.2.2.2]).grown gp (fun e => by have e := Option.some.inj e; omega)
      have hev := (he.rel hal).grown gp (fun q hq => ⟨hq, fun e => hq.2.1 (Option.some.inj e)⟩)
      have hc2 : mins (m - (j + 1)) (.mk 7 0 [] [X, X]) = mins m x := by
        rw [show m - j = (m - (j + 1)) + 1 by omega] at hc
        exact hc
      have h7' := (h7.alloc (.cells #[.int .i64 v.1, .int .i64 v.2.1, .string (B v.2.2.1), .slice v.2.2.2.1 v.2.2.2.2.1 v.2.2.2.2.2, .int .i64 v.1, .int .i64 v.2.1, .string (B v.2.2.1), .slice v.2.2.2.1 v.2.2.2.2.1 v.2.2.2.2.2] 27)).put4 (.int .i64 7) (.int .i64 0) (.string ⟨#[]⟩) (.slice (some ⟨wr.heap.size, 0, none⟩) 2 2)
      have h8' := (h8.alloc (.cells #[.int .i64 v.1, .int .i64 v.2.1, .string (B v.2.2.1), .slice v.2.2.2.1 v.2.2.2.2.1 v.2.2.2.2.2, .int .i64 v.1, .int .i64 v.2.1, .string (B v.2.2.1), .slice v.2.2.2.1 v.2.2.2.2.1 v.2.2.2.2.2] 27)).grown gp (fun e => by have e := Option.some.inj e; omega)
      have h0' := (h0.alloc (.cells #[.int .i64 v.1, .int .i64 v.2.1, .string (B v.2.2.1), .slice v.2.2.2.1 v.2.2.2.2.1 v.2.2.2.2.2, .int .i64 v.1, .int .i64 v.2.1, .string (B v.2.2.1), .slice v.2.2.2.1 v.2.2.2.2.1 v.2.2.2.2.2] 27)).grown gp (fun e => by have e := Option.some.inj e; omega)
      have hr' := Rel.grown (hrw.alloc (.cells #[.int .i64 v.1, .int .i64 v.2.1, .string (B v.2.2.1), .slice v.2.2.2.1 v.2.2.2.2.1 v.2.2.2.2.2, .int .i64 v.1, .int .i64 v.2.1, .string (B v.2.2.1), .slice v.2.2.2.1 v.2.2.2.2.1 v.2.2.2.2.2] 27)) gp (fun k e => by have e := Option.some.inj e; omega)
      have hx' := ExAt.two (a := v) (b := v) (k := 7) (n := 0) (nm := []) (c := 2) (ok64 (by decide) (by decide)) (ok64 (by decide) (by decide)) (Nat.zero_le _) hrow hS hev hev
      go_roundw
      case rel => exact ⟨j + 1, by go_num, by omega, Lib.hid ⟨(7, 0, [], some ⟨wr.heap.size, 0, none⟩, 2, 2), _, h7', h8', h0', hx', hc2, hr', by omega⟩⟩
      case measure => simp [RowKit.intOf]; omega
    · obtain rfl : j = m := by omega
      rw [Nat.sub_self] at hc
      have hX2 : X = mins j x := hc
      have hjm : ¬ (j : Int) < (j : Int) := by omega
      obtain ⟨⟨c0, c1, c2, c3⟩, _⟩ := h7.four
      obtain ⟨⟨d0, d1, d2, d3⟩, f0, f1, f2, f3⟩ := h8.four
      go_upto_region 35 with (go_at_call 24; (with_reducible refine (pk_as y 7 (j : Int) HM y1 y2 (by omega) (by omega) _).mono ?_); rintro e w' ⟨rfl, rfl⟩)
      have gp := put4_grown wr (w2.heap.size + 1 + 1) (.int .i64 v.1) (.int .i64 v.2.1) (.string (B v.2.2.1)) (.slice v.2.2.2.1 v.2.2.2.2.1 v.2.2.2.2.2)
      have H8 := Lib.hid (h8.put4 (.int .i64 v.1) (.int .i64 v.2.1) (.string (B v.2.2.1)) (.slice v.2.2.2.1 v.2.2.2.2.1 v.2.2.2.2.2))
      have H0 := Lib.hid (h0.grown gp (fun e => by have e := Option.some.inj e; omega))
      have HRt := Lib.hid (Rel.grown hrw gp (fun k e => by have e := Option.some.inj e; omega))
      have HE := Lib.hid (he.grown gp (fun q hq => ⟨hq, fun e => hq.2.2 (Option.some.inj e)⟩))
      rw [hX2, ← HX] at HE
      obtain ⟨Wt, hWt⟩ : ∃ Wt, ((((wr.setCell ⟨w2.heap.size + 1 + 1, 0, none⟩ (.int .i64 v.1)).setCell ⟨w2.heap.size + 1 + 1, 1, none⟩ (.int .i64 v.2.1)).setCell ⟨w2.heap.size + 1 + 1, 2, none⟩ (.string (B v.2.2.1))).setCell ⟨w2.heap.size + 1 + 1, 3, none⟩ (.slice v.2.2.2.1 v.2.2.2.2.1 v.2.2.2.2.2)) = Wt := ⟨_, rfl⟩
      rw [hWt] at H8 H0 HRt HE ⊢
      clear hWt gp c0 c1 c2 c3 d0 d1 d2 d3 f0 f1 f2 f3
      obtain ⟨⟨c0, c1, c2, c3⟩, _⟩ := H8.out.four
      obtain ⟨_, f0, f1, f2, f3⟩ := H0.out.four
      go_wp2_with (fail)
      obtain ⟨⟨t0, t1, t2, t3⟩, _⟩ := (H0.out.put4 (.int .i64 v.1) (.int .i64 v.2.1) (.string (B v.2.2.1)) (.slice v.2.2.2.1 v.2.2.2.2.1 v.2.2.2.2.2)).four
      have gp := put4_grown Wt w.heap.size (.int .i64 v.1) (.int .i64 v.2.1) (.string (B v.2.2.1)) (.slice v.2.2.2.1 v.2.2.2.2.1 v.2.2.2.2.2)
      refine bodyPost_ret (v := .agg #[.int .i64 v.1, .int .i64 v.2.1, .string (B v.2.2.1), .slice v.2.2.2.1 v.2.2.2.2.1 v.2.2.2.2.2]) (by simp [results, Tryd.results10, go_sem, t0, t1, t2, t3]) rfl ⟨v, rfl, ?_, ?_⟩
      · exact HE.out.grown gp (fun q hq => ⟨trivial, fun e => by injection e with e; have := hq.1; omega⟩)
      · exact HR.out.trans (Rel.grown HRt.out gp (fun k e => by cases e; exact Nat.le_refl _))
theorem size_cuts : ∀ (m : Nat) (x : Ex), size (cuts m x) = size x + m
  | 0, _ => rfl
  | m + 1, x => by rw [cuts, size_cuts m, size_mk, sizes_cons, sizes_nil]; omega
theorem size_mins : ∀ (m : Nat) (x : Ex), size (mins m x) + 1 = 2 ^ m * (size x + 1)
  | 0, _ => by rw [mins]; omega
  | m + 1, x => by rw [mins, size_mins m, size_mk, sizes_cons, sizes_cons, sizes_nil, Nat.pow_succ, Nat.mul_assoc]; congr 1; omega
theorem wild_size (x : Ex) (hx : size x ≤ 1024) (what y : Int) : size (wildX x what y) ≤ 70000 := by
  have hp := size_pos x
  unfold wildX
  simp only
  have h36 := pk_bd y 36 (by omega)
  have h7 := pk_bd y 7 (by omega)
  have l0 : ∀ k n nm, size (.mk k n nm []) = 1 := fun k n nm => by rw [size_mk, sizes_nil]
  have l1 : ∀ k n nm a, size (.mk k n nm [a]) = 1 + size a := fun k n nm a => by rw [size_mk, sizes_cons, sizes_nil]; omega
  have l2 : ∀ k n nm a b, size (.mk k n nm [a, b]) = 1 + size a + size b := fun k n nm a b => by rw [size_mk, sizes_cons, sizes_cons, sizes_nil]; omega
  split
  · rw [l2]; omega
  split
  · rw [l2]; omega
  split
  · rw [l2]; omega
  split
  · rw [l1]; omega
  split
  · rw [l2, l0]; omega
  split
  · rw [size_mk, sizes_cons, sizes_cons, sizes_cons, sizes_nil]; omega
  split
  · rw [l0]; omega
  split
  · split
    · rw [l0]; omega
    · rw [l1]; omega
  split
  · rw [size_cuts]; omega
  · have h := size_mins (pk y 7).toNat x
    have hm : 2 ^ (pk y 7).toNat ≤ 64 := Nat.pow_le_pow_right (n := 2) (by omega) (show (pk y 7).toNat ≤ 6 by omega)
    have := Nat.mul_le_mul_right (size x + 1) hm
    omega
theorem wild_any (A : Option Addr) (c : Nat) (L : List Int) (what y : Int) (hw : i64 what) (hy : i64 y) (w0 w : World) (hr : Rel w0 w) (hi : IntsIn w A c L) :
    Calls Tryd.prog 10 #[.slice A L.length c, .int .i64 what, .int .i64 y] w fun e w' => ∃ v : El, e = .returned (EV v) ∧ ExAt (fun _ => True) w' v (wildX (strat L) what y) ∧ Rel w0 w' := by
  have h10 := pk_bd what 10 (by omega)
  have h4 := pk_bd what 4 (by omega)
  have h5 := pk_bd y 5 (by omega)
  have hu : pk what 10 = 0 ∨ pk what 10 = 1 ∨ pk what 10 = 2 ∨ pk what 10 = 3 ∨ pk what 10 = 4 ∨ pk what 10 = 5 ∨ pk what 10 = 6 ∨ pk what 10 = 7 ∨ pk what 10 = 8 ∨ pk what 10 = 9 := by omega
  have hv : pk what 4 = 0 ∨ pk what 4 = 1 ∨ pk what 4 = 2 ∨ pk what 4 = 3 := by omega
  have hn : pk y 5 = 0 ∨ pk y 5 = 1 ∨ pk y 5 = 2 ∨ pk y 5 = 3 ∨ pk y 5 = 4 := by omega
  rcases hu with h | h | h | h | h | h | h | h | h | h
  · exact wild_0 A c L what y hw hy h w0 w hr hi
  · exact wild_1 A c L what y hw hy h w0 w hr hi
  · exact wild_2 A c L what y hw hy h w0 w hr hi
  · exact wild_3 A c L what y hw hy h w0 w hr hi
  · exact wild_4 A c L what y hw hy h w0 w hr hi
  · exact wild_5 A c L what y hw hy h w0 w hr hi
  · rcases hn with q | q | q | q | q
    · exact wild_6_0 A c L what y hw hy h q w0 w hr hi
    · exact wild_6_1 A c L what y hw hy h q w0 w hr hi
    · exact wild_6_2 A c L what y hw hy h q w0 w hr hi
    · exact wild_6_3 A c L what y hw hy h q w0 w hr hi
    · exact wild_6_4 A c L what y hw hy h q w0 w hr hi
  · rcases hv with q | q | q | q
    · exact wild_7_0 A c L what y hw hy h q w0 w hr hi
    · exact wild_7_1 A c L what y hw hy h q w0 w hr hi
    · exact wild_7_2 A c L what y hw hy h q w0 w hr hi
    · exact wild_7_3 A c L what y hw hy h q w0 w hr hi
  · exact wild_8 A c L what y hw hy h w0 w hr hi
  · exact wild_9 A c L what y hw hy h w0 w hr hi
end Go.Proofs.YtldopbkjchgcnaaDoor
