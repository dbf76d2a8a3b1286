/- The landed operations of layer 11 that take two. -/
import Derived.Test.YtcckemhelockaaaGreatDoorZL
import Derived.Test.YtcckemhelockaaaGreatDoorZ00
import Derived.Test.YtcckemhelockaaaGreatDoorZ01
import Derived.Test.YtcckemhelockaaaGreatDoorZ02
import Derived.Test.YtcckemhelockaaaGreatDoorZ03
import Derived.Test.YtcckemhelockaaaGreatDoorZ04
import Derived.Test.YtcckemhelockaaaGreatDoorZ05
namespace Go.Proofs.YtcckemhelockaaaGreatDoor
open Go.RowKit Go.Lib
set_option linter.unusedVariables false
set_option linter.unusedSimpArgs false
set_option maxRecDepth 100000 in
set_option maxHeartbeats 4000000 in
theorem ltwo_none (b D : Nat) (ov : Value) (nx st : Int) (w0 w : World) (hr : Rel w0 w) (h : Mh w w0.heap.size D b ov nx st []) :
    Calls Tryz.prog 120 #[.pointer (some ⟨b, 0, none⟩)] w fun r w' => r = .returned (.tuple #[.agg #[.int .i64 0, .bool false], .agg #[.int .i64 0, .bool false], .int .i64 100]) ∧ Rel w w' := by
  have hne : w.heap.size ≠ w.heap.size + 1 := by omega
  have hDw := h.2.2.1
  have hlt := h.lt
  have hw0 : w0.heap.size ≤ w.heap.size := hr.size
  have HA := Lib.hid ((hr.self.alloc (.cells #[.int .i64 0, .bool false] 64)).alloc (.cells #[.int .i64 0, .bool false] 64))
  have HK := Lib.hid (((Kt.refl b w).alloc (.cells #[.int .i64 0, .bool false] 64)).alloc (.cells #[.int .i64 0, .bool false] 64))
  have HX2 := Lib.hid ((Bk.new w 64 #[.int .i64 0, .bool false]).alloc (.cells #[.int .i64 0, .bool false] 64))
  have HX3 := Lib.hid (Bk.snd w #[.int .i64 0, .bool false] #[.int .i64 0, .bool false] 64 64)
  have HM := Lib.hid (h.rel HA.out)
  have HR := Lib.hid (hr.trans HA.out)
  obtain ⟨W, hW⟩ : ∃ W, (w.alloc (.cells #[.int .i64 0, .bool false] 64)).alloc (.cells #[.int .i64 0, .bool false] 64) = W := ⟨_, rfl⟩
  rw [hW] at HA HK HX2 HX3 HM HR
  clear hr h
  go_enter Tryz.func120, Tryz.ntmps120
  go_upto_region 4 with (go_at_call 117; (with_reducible refine (ltake_nil b D ov nx st w0 W HR.out HM.out).mono ?_); rintro e w1 ⟨rfl, h1⟩; have R1 := Lib.hid (HA.out.trans h1); have Y2 := Lib.hid (HX2.out.rel h1); have Y3 := Lib.hid (HX3.out.rel h1); obtain ⟨⟨c0, c1⟩, c2, c3⟩ := (HX3.out.rel h1).two; obtain ⟨⟨d0, d1⟩, d2, d3⟩ := (HX2.out.rel h1).two; clear h1)
  have Z3 := Lib.hid (Y3.out.put (.int .i64 0) (.bool false))
  have Z2 := Lib.hid ((Y2.out.far (p := ⟨w.heap.size + 1, 0, none⟩) hne (.int .i64 0)).far (p := ⟨w.heap.size + 1, 1, none⟩) hne (.bool false))
  have RV := Lib.hid (R1.out.box (g := w.heap.size + 1) (by omega) (.int .i64 0) (.bool false))
  obtain ⟨V, hV⟩ : ∃ V, (w1.setCell ⟨w.heap.size + 1, 0, none⟩ (.int .i64 0)).setCell ⟨w.heap.size + 1, 1, none⟩ (.bool false) = V := ⟨_, rfl⟩
  rw [hV] at Z3 Z2 RV
  try rw [hV]
  clear hV c0 c1 c2 c3 d0 d1 d2 d3
  obtain ⟨⟨v0, v1⟩, v2, v3⟩ := Z2.out.two
  obtain ⟨⟨u0, u1⟩, u2, u3⟩ := Z3.out.two
  refine wp_region_held_drew (S := (fun w' => Bk w' w.heap.size 64 #[.int .i64 0, .bool false] ∧ Bk w' (w.heap.size + 1) 64 #[.int .i64 0, .bool false])) (by kernel_rfl) ⟨Z2.out, Z3.out⟩ (fun hHeld => ?_)
  refine held_take (i := 0) (v := ?_) (some 17) rfl rfl (by kernel_rfl) (by kernel_rfl) (by kernel_rfl) (fun _ _ _ h => h) (Or.inl ⟨by rfl, ?_⟩) hHeld ?_
  rotate_left 1
  · intro w' (h : Bk w' w.heap.size 64 #[.int .i64 0, .bool false] ∧ Bk w' (w.heap.size + 1) 64 #[.int .i64 0, .bool false]); obtain ⟨⟨z0, z1⟩, _⟩ := h.1.two; obtain ⟨⟨y0, y1⟩, _⟩ := h.2.two; go_simp; try with_reducible rfl
  try simp only [Act.put, List.setIfInBounds_toArray, List.set_cons_zero, List.set_cons_succ]
  refine held_take (i := 1) (v := ?_) (some 18) rfl rfl (by kernel_rfl) (by kernel_rfl) (by kernel_rfl) (fun _ _ _ h => h) (Or.inl ⟨by rfl, ?_⟩) hHeld ?_
  rotate_left 1
  · intro w' (h : Bk w' w.heap.size 64 #[.int .i64 0, .bool false] ∧ Bk w' (w.heap.size + 1) 64 #[.int .i64 0, .bool false]); obtain ⟨⟨z0, z1⟩, _⟩ := h.1.two; obtain ⟨⟨y0, y1⟩, _⟩ := h.2.two; go_simp; try with_reducible rfl
  try simp only [Act.put, List.setIfInBounds_toArray, List.set_cons_zero, List.set_cons_succ]
  refine held_take (i := 2) (v := ?_) (some 19) rfl rfl (by kernel_rfl) (by kernel_rfl) (by kernel_rfl) (fun _ _ _ h => h) (Or.inl ⟨by rfl, ?_⟩) hHeld ?_
  rotate_left 1
  · intro w' (h : Bk w' w.heap.size 64 #[.int .i64 0, .bool false] ∧ Bk w' (w.heap.size + 1) 64 #[.int .i64 0, .bool false]); obtain ⟨⟨z0, z1⟩, _⟩ := h.1.two; obtain ⟨⟨y0, y1⟩, _⟩ := h.2.two; go_simp; try with_reducible rfl
  try simp only [Act.put, List.setIfInBounds_toArray, List.set_cons_zero, List.set_cons_succ]
  obtain ⟨⟨z0, z1⟩, z2, z3⟩ := hHeld.1.two
  obtain ⟨⟨y0, y1⟩, y2, y3⟩ := hHeld.2.two
  refine held_one (j := 3) (by kernel_rfl) rfl (fun K hK => ?_)
  try simp only [List.getElem_toArray, List.getElem_cons_succ, List.getElem_cons_zero]
  rw [if_pos (by rfl)]
  go_simp
  refine hK.out _ _ ⟨hHeld.1.put _ _, (hHeld.2.far (p := ⟨w.heap.size, 0, none⟩) hne.symm _).far (p := ⟨w.heap.size, 1, none⟩) hne.symm _⟩ (fun hHeld => ?_)
  clear hK K
  clear z0 z1 z2 z3 y0 y1 y2 y3
  try simp only [Act.put, List.setIfInBounds_toArray, List.set_cons_zero, List.set_cons_succ]
  obtain ⟨⟨z0, z1⟩, z2, z3⟩ := hHeld.1.two
  obtain ⟨⟨y0, y1⟩, y2, y3⟩ := hHeld.2.two
  refine held_one (j := 4) (by kernel_rfl) rfl (fun K hK => ?_)
  try simp only [List.getElem_toArray, List.getElem_cons_succ, List.getElem_cons_zero]
  rw [if_pos (by rfl)]
  go_simp
  refine hK.out _ _ ⟨(hHeld.1.far (p := ⟨(w.heap.size + 1), 0, none⟩) hne _).far (p := ⟨(w.heap.size + 1), 1, none⟩) hne _, hHeld.2.put _ _⟩ (fun hHeld => ?_)
  clear hK K
  clear z0 z1 z2 z3 y0 y1 y2 y3
  try simp only [Act.put, List.setIfInBounds_toArray, List.set_cons_zero, List.set_cons_succ]
  refine held_take (i := 5) (v := ?_) (some 4) rfl rfl (by kernel_rfl) (by kernel_rfl) (by kernel_rfl) (fun _ _ _ h => h) (Or.inl ⟨by rfl, ?_⟩) hHeld ?_
  rotate_left 1
  · intro w' (h : Bk w' w.heap.size 64 #[.int .i64 0, .bool false] ∧ Bk w' (w.heap.size + 1) 64 #[.int .i64 0, .bool false]); obtain ⟨⟨z0, z1⟩, _⟩ := h.1.two; obtain ⟨⟨y0, y1⟩, _⟩ := h.2.two; go_simp; try with_reducible rfl
  try simp only [Act.put, List.setIfInBounds_toArray, List.set_cons_zero, List.set_cons_succ]
  refine wpAnyH_done (by kernel_rfl) ?_ _
  obtain ⟨⟨r0, r1⟩, _⟩ := hHeld.1.two
  obtain ⟨⟨s0, s1⟩, _⟩ := hHeld.2.two
  go_wp2_with (fail)
  exact bodyPost_ret (v := .tuple #[.agg #[.int .i64 0, .bool false], .agg #[.int .i64 0, .bool false], .int .i64 100]) (by simp [results, Tryz.results120, go_sem, r0, r1, s0, s1]) rfl ⟨rfl, (RV.out.drew.box (Nat.le_refl _) _ _).box (by omega) _ _⟩
set_option maxRecDepth 100000 in
set_option maxHeartbeats 4000000 in
theorem ltwo_one (b D : Nat) (ov : Value) (nx st : Int)  (y : Ce) (p : Int) (q : Bool) (hv : Hid (CV1 y = .agg #[.int .i64 p, .bool q])) (w0 w : World) (hr : Rel w0 w) (h : Mh w w0.heap.size D b ov nx st ([] ++ [y])) :
    Calls Tryz.prog 120 #[.pointer (some ⟨b, 0, none⟩)] w fun r w' => r = .returned (.tuple #[.agg #[.int .i64 0, .bool false], .agg #[.int .i64 p, .bool q], .int .i64 100]) ∧ Mh w' w0.heap.size D b ov nx st [] ∧ Rel w0 w' ∧ Kt b w w' := by
  have hne : w.heap.size ≠ w.heap.size + 1 := by omega
  have hDw := h.2.2.1
  have hlt := h.lt
  have hw0 : w0.heap.size ≤ w.heap.size := hr.size
  have HA := Lib.hid ((hr.self.alloc (.cells #[.int .i64 0, .bool false] 64)).alloc (.cells #[.int .i64 0, .bool false] 64))
  have HK := Lib.hid (((Kt.refl b w).alloc (.cells #[.int .i64 0, .bool false] 64)).alloc (.cells #[.int .i64 0, .bool false] 64))
  have HX2 := Lib.hid ((Bk.new w 64 #[.int .i64 0, .bool false]).alloc (.cells #[.int .i64 0, .bool false] 64))
  have HX3 := Lib.hid (Bk.snd w #[.int .i64 0, .bool false] #[.int .i64 0, .bool false] 64 64)
  have HM := Lib.hid (h.rel HA.out)
  have HR := Lib.hid (hr.trans HA.out)
  obtain ⟨W, hW⟩ : ∃ W, (w.alloc (.cells #[.int .i64 0, .bool false] 64)).alloc (.cells #[.int .i64 0, .bool false] 64) = W := ⟨_, rfl⟩
  rw [hW] at HA HK HX2 HX3 HM HR
  clear hr h
  go_enter Tryz.func120, Tryz.ntmps120
  go_upto_region 4 with (first
    | (go_at_call 117; (with_reducible refine (ltake_as b D ov nx st [] y p q hv w0 W HR.out HM.out).mono ?_); rintro e w1 ⟨rfl, m1, r1, k1⟩; have R1 := Lib.hid (r1.box (g := w.heap.size + 1) (by omega) (.int .i64 p) (.bool q)); have M1 := Lib.hid ((m1.far (p := ⟨w.heap.size + 1, 0, none⟩) (Nat.le_succ_of_le hDw) (.int .i64 p)).far (p := ⟨w.heap.size + 1, 1, none⟩) (Nat.le_succ_of_le hDw) (.bool q)); have K1 := Lib.hid ((HK.out.trans k1).box (g := w.heap.size + 1) (Nat.le_succ _) (.int .i64 p) (.bool q)); have Y2 := Lib.hid (((k1.bk HX2.out (by omega)).far (p := ⟨w.heap.size + 1, 0, none⟩) hne (.int .i64 p)).far (p := ⟨w.heap.size + 1, 1, none⟩) hne (.bool q)); have Y3 := Lib.hid ((k1.bk HX3.out (by omega)).put (.int .i64 p) (.bool q)); obtain ⟨⟨c0, c1⟩, c2, c3⟩ := (k1.bk HX3.out (by omega)).two; clear m1 r1 k1)
    | (go_at_call 117; (with_reducible refine (ltake_nil b D ov nx st w0 _ R1.out M1.out).mono ?_); rintro e w3 ⟨rfl, h3⟩; have R3 := Lib.hid (R1.out.trans h3); have M3 := Lib.hid (M1.out.rel h3); have K3 := Lib.hid (K1.out.trans (Kt.rel h3)); have Z2 := Lib.hid (Y2.out.rel h3); have Z3 := Lib.hid (Y3.out.rel h3); obtain ⟨⟨d0, d1⟩, d2, d3⟩ := (Y2.out.rel h3).two; clear h3))
  have Z2 := Lib.hid (Z2.out.put (.int .i64 0) (.bool false))
  have Z3 := Lib.hid ((Z3.out.far (p := ⟨w.heap.size, 0, none⟩) hne.symm (.int .i64 0)).far (p := ⟨w.heap.size, 1, none⟩) hne.symm (.bool false))
  have RV := Lib.hid (R3.out.box (g := w.heap.size) hw0 (.int .i64 0) (.bool false))
  have MV := Lib.hid ((M3.out.far (p := ⟨w.heap.size, 0, none⟩) hDw (.int .i64 0)).far (p := ⟨w.heap.size, 1, none⟩) hDw (.bool false))
  have KV := Lib.hid (K3.out.box (g := w.heap.size) (Nat.le_refl _) (.int .i64 0) (.bool false))
  obtain ⟨V, hV⟩ : ∃ V, (w3.setCell ⟨w.heap.size, 0, none⟩ (.int .i64 0)).setCell ⟨w.heap.size, 1, none⟩ (.bool false) = V := ⟨_, rfl⟩
  rw [hV] at Z3 Z2 RV MV KV
  try rw [hV]
  clear hV c0 c1 c2 c3 d0 d1 d2 d3
  obtain ⟨⟨v0, v1⟩, v2, v3⟩ := Z2.out.two
  obtain ⟨⟨u0, u1⟩, u2, u3⟩ := Z3.out.two
  refine wp_region_held_drew (S := (fun w' => Bk w' w.heap.size 64 #[.int .i64 0, .bool false] ∧ Bk w' (w.heap.size + 1) 64 #[.int .i64 p, .bool q])) (by kernel_rfl) ⟨Z2.out, Z3.out⟩ (fun hHeld => ?_)
  refine held_take (i := 0) (v := ?_) (some 17) rfl rfl (by kernel_rfl) (by kernel_rfl) (by kernel_rfl) (fun _ _ _ h => h) (Or.inl ⟨by rfl, ?_⟩) hHeld ?_
  rotate_left 1
  · intro w' (h : Bk w' w.heap.size 64 #[.int .i64 0, .bool false] ∧ Bk w' (w.heap.size + 1) 64 #[.int .i64 p, .bool q]); obtain ⟨⟨z0, z1⟩, _⟩ := h.1.two; obtain ⟨⟨y0, y1⟩, _⟩ := h.2.two; go_simp; try with_reducible rfl
  try simp only [Act.put, List.setIfInBounds_toArray, List.set_cons_zero, List.set_cons_succ]
  refine held_take (i := 1) (v := ?_) (some 18) rfl rfl (by kernel_rfl) (by kernel_rfl) (by kernel_rfl) (fun _ _ _ h => h) (Or.inl ⟨by rfl, ?_⟩) hHeld ?_
  rotate_left 1
  · intro w' (h : Bk w' w.heap.size 64 #[.int .i64 0, .bool false] ∧ Bk w' (w.heap.size + 1) 64 #[.int .i64 p, .bool q]); obtain ⟨⟨z0, z1⟩, _⟩ := h.1.two; obtain ⟨⟨y0, y1⟩, _⟩ := h.2.two; go_simp; try with_reducible rfl
  try simp only [Act.put, List.setIfInBounds_toArray, List.set_cons_zero, List.set_cons_succ]
  refine held_take (i := 2) (v := ?_) (some 19) rfl rfl (by kernel_rfl) (by kernel_rfl) (by kernel_rfl) (fun _ _ _ h => h) (Or.inl ⟨by rfl, ?_⟩) hHeld ?_
  rotate_left 1
  · intro w' (h : Bk w' w.heap.size 64 #[.int .i64 0, .bool false] ∧ Bk w' (w.heap.size + 1) 64 #[.int .i64 p, .bool q]); obtain ⟨⟨z0, z1⟩, _⟩ := h.1.two; obtain ⟨⟨y0, y1⟩, _⟩ := h.2.two; go_simp; try with_reducible rfl
  try simp only [Act.put, List.setIfInBounds_toArray, List.set_cons_zero, List.set_cons_succ]
  obtain ⟨⟨z0, z1⟩, z2, z3⟩ := hHeld.1.two
  obtain ⟨⟨y0, y1⟩, y2, y3⟩ := hHeld.2.two
  refine held_one (j := 3) (by kernel_rfl) rfl (fun K hK => ?_)
  try simp only [List.getElem_toArray, List.getElem_cons_succ, List.getElem_cons_zero]
  rw [if_pos (by rfl)]
  go_simp
  refine hK.out _ _ ⟨hHeld.1.put _ _, (hHeld.2.far (p := ⟨w.heap.size, 0, none⟩) hne.symm _).far (p := ⟨w.heap.size, 1, none⟩) hne.symm _⟩ (fun hHeld => ?_)
  clear hK K
  clear z0 z1 z2 z3 y0 y1 y2 y3
  try simp only [Act.put, List.setIfInBounds_toArray, List.set_cons_zero, List.set_cons_succ]
  obtain ⟨⟨z0, z1⟩, z2, z3⟩ := hHeld.1.two
  obtain ⟨⟨y0, y1⟩, y2, y3⟩ := hHeld.2.two
  refine held_one (j := 4) (by kernel_rfl) rfl (fun K hK => ?_)
  try simp only [List.getElem_toArray, List.getElem_cons_succ, List.getElem_cons_zero]
  rw [if_pos (by rfl)]
  go_simp
  refine hK.out _ _ ⟨(hHeld.1.far (p := ⟨(w.heap.size + 1), 0, none⟩) hne _).far (p := ⟨(w.heap.size + 1), 1, none⟩) hne _, hHeld.2.put _ _⟩ (fun hHeld => ?_)
  clear hK K
  clear z0 z1 z2 z3 y0 y1 y2 y3
  try simp only [Act.put, List.setIfInBounds_toArray, List.set_cons_zero, List.set_cons_succ]
  refine held_take (i := 5) (v := ?_) (some 4) rfl rfl (by kernel_rfl) (by kernel_rfl) (by kernel_rfl) (fun _ _ _ h => h) (Or.inl ⟨by rfl, ?_⟩) hHeld ?_
  rotate_left 1
  · intro w' (h : Bk w' w.heap.size 64 #[.int .i64 0, .bool false] ∧ Bk w' (w.heap.size + 1) 64 #[.int .i64 p, .bool q]); obtain ⟨⟨z0, z1⟩, _⟩ := h.1.two; obtain ⟨⟨y0, y1⟩, _⟩ := h.2.two; go_simp; try with_reducible rfl
  try simp only [Act.put, List.setIfInBounds_toArray, List.set_cons_zero, List.set_cons_succ]
  refine wpAnyH_done (by kernel_rfl) ?_ _
  obtain ⟨⟨r0, r1⟩, _⟩ := hHeld.1.two
  obtain ⟨⟨s0, s1⟩, _⟩ := hHeld.2.two
  go_wp2_with (fail)
  exact bodyPost_ret (v := .tuple #[.agg #[.int .i64 0, .bool false], .agg #[.int .i64 p, .bool q], .int .i64 100]) (by simp [results, Tryz.results120, go_sem, r0, r1, s0, s1]) rfl ⟨rfl, ((((MV.out.rel (RV.out.self.drew)).far (p := ⟨w.heap.size, 0, none⟩) hDw _).far (p := ⟨w.heap.size, 1, none⟩) hDw _).far (p := ⟨w.heap.size + 1, 0, none⟩) (Nat.le_succ_of_le hDw) _).far (p := ⟨w.heap.size + 1, 1, none⟩) (Nat.le_succ_of_le hDw) _, (RV.out.drew.box (g := w.heap.size) hw0 _ _).box (g := w.heap.size + 1) (by omega) _ _, ((KV.out.drew).box (g := w.heap.size) (Nat.le_refl _) _ _).box (g := w.heap.size + 1) (Nat.le_succ _) _ _⟩
set_option maxRecDepth 100000 in
set_option maxHeartbeats 4000000 in
theorem ltwo_two (b D : Nat) (ov : Value) (nx st : Int) (R : List Ce) (x : Ce) (m : Int) (v : Bool) (hu : Hid (CV1 x = .agg #[.int .i64 m, .bool v])) (y : Ce) (p : Int) (q : Bool) (hv : Hid (CV1 y = .agg #[.int .i64 p, .bool q])) (w0 w : World) (hr : Rel w0 w) (h : Mh w w0.heap.size D b ov nx st ((R ++ [x]) ++ [y])) :
    Calls Tryz.prog 120 #[.pointer (some ⟨b, 0, none⟩)] w fun r w' => r = .returned (.tuple #[.agg #[.int .i64 m, .bool v], .agg #[.int .i64 p, .bool q], .int .i64 0]) ∧ Mh w' w0.heap.size D b ov nx st R ∧ Rel w0 w' ∧ Kt b w w' := by
  have hne : w.heap.size ≠ w.heap.size + 1 := by omega
  have hDw := h.2.2.1
  have hlt := h.lt
  have hw0 : w0.heap.size ≤ w.heap.size := hr.size
  have HA := Lib.hid ((hr.self.alloc (.cells #[.int .i64 0, .bool false] 64)).alloc (.cells #[.int .i64 0, .bool false] 64))
  have HK := Lib.hid (((Kt.refl b w).alloc (.cells #[.int .i64 0, .bool false] 64)).alloc (.cells #[.int .i64 0, .bool false] 64))
  have HX2 := Lib.hid ((Bk.new w 64 #[.int .i64 0, .bool false]).alloc (.cells #[.int .i64 0, .bool false] 64))
  have HX3 := Lib.hid (Bk.snd w #[.int .i64 0, .bool false] #[.int .i64 0, .bool false] 64 64)
  have HM := Lib.hid (h.rel HA.out)
  have HR := Lib.hid (hr.trans HA.out)
  obtain ⟨W, hW⟩ : ∃ W, (w.alloc (.cells #[.int .i64 0, .bool false] 64)).alloc (.cells #[.int .i64 0, .bool false] 64) = W := ⟨_, rfl⟩
  rw [hW] at HA HK HX2 HX3 HM HR
  clear hr h
  go_enter Tryz.func120, Tryz.ntmps120
  go_upto_region 4 with (first
    | (go_at_call 117; (with_reducible refine (ltake_as b D ov nx st (R ++ [x]) y p q hv w0 W HR.out HM.out).mono ?_); rintro e w1 ⟨rfl, m1, r1, k1⟩; have R1 := Lib.hid (r1.box (g := w.heap.size + 1) (by omega) (.int .i64 p) (.bool q)); have M1 := Lib.hid ((m1.far (p := ⟨w.heap.size + 1, 0, none⟩) (Nat.le_succ_of_le hDw) (.int .i64 p)).far (p := ⟨w.heap.size + 1, 1, none⟩) (Nat.le_succ_of_le hDw) (.bool q)); have K1 := Lib.hid ((HK.out.trans k1).box (g := w.heap.size + 1) (Nat.le_succ _) (.int .i64 p) (.bool q)); have Y2 := Lib.hid (((k1.bk HX2.out (by omega)).far (p := ⟨w.heap.size + 1, 0, none⟩) hne (.int .i64 p)).far (p := ⟨w.heap.size + 1, 1, none⟩) hne (.bool q)); have Y3 := Lib.hid ((k1.bk HX3.out (by omega)).put (.int .i64 p) (.bool q)); obtain ⟨⟨c0, c1⟩, c2, c3⟩ := (k1.bk HX3.out (by omega)).two; clear m1 r1 k1)
    | (go_at_call 117; (with_reducible refine (ltake_as b D ov nx st R x m v hu w0 _ R1.out M1.out).mono ?_); rintro e w3 ⟨rfl, m3, r3, k3⟩; have R3 := Lib.hid r3; have M3 := Lib.hid m3; have K3 := Lib.hid (K1.out.trans k3); have Z2 := Lib.hid (k3.bk Y2.out (by omega)); have Z3 := Lib.hid (k3.bk Y3.out (by omega)); obtain ⟨⟨d0, d1⟩, d2, d3⟩ := (k3.bk Y2.out (by omega)).two; clear m3 r3 k3))
  have Z2 := Lib.hid (Z2.out.put (.int .i64 m) (.bool v))
  have Z3 := Lib.hid ((Z3.out.far (p := ⟨w.heap.size, 0, none⟩) hne.symm (.int .i64 m)).far (p := ⟨w.heap.size, 1, none⟩) hne.symm (.bool v))
  have RV := Lib.hid (R3.out.box (g := w.heap.size) hw0 (.int .i64 m) (.bool v))
  have MV := Lib.hid ((M3.out.far (p := ⟨w.heap.size, 0, none⟩) hDw (.int .i64 m)).far (p := ⟨w.heap.size, 1, none⟩) hDw (.bool v))
  have KV := Lib.hid (K3.out.box (g := w.heap.size) (Nat.le_refl _) (.int .i64 m) (.bool v))
  obtain ⟨V, hV⟩ : ∃ V, (w3.setCell ⟨w.heap.size, 0, none⟩ (.int .i64 m)).setCell ⟨w.heap.size, 1, none⟩ (.bool v) = V := ⟨_, rfl⟩
  rw [hV] at Z3 Z2 RV MV KV
  try rw [hV]
  clear hV c0 c1 c2 c3 d0 d1 d2 d3
  obtain ⟨⟨v0, v1⟩, v2, v3⟩ := Z2.out.two
  obtain ⟨⟨u0, u1⟩, u2, u3⟩ := Z3.out.two
  refine wp_region_held_drew (S := (fun w' => Bk w' w.heap.size 64 #[.int .i64 m, .bool v] ∧ Bk w' (w.heap.size + 1) 64 #[.int .i64 p, .bool q])) (by kernel_rfl) ⟨Z2.out, Z3.out⟩ (fun hHeld => ?_)
  refine held_take (i := 0) (v := ?_) (some 17) rfl rfl (by kernel_rfl) (by kernel_rfl) (by kernel_rfl) (fun _ _ _ h => h) (Or.inl ⟨by rfl, ?_⟩) hHeld ?_
  rotate_left 1
  · intro w' (h : Bk w' w.heap.size 64 #[.int .i64 m, .bool v] ∧ Bk w' (w.heap.size + 1) 64 #[.int .i64 p, .bool q]); obtain ⟨⟨z0, z1⟩, _⟩ := h.1.two; obtain ⟨⟨y0, y1⟩, _⟩ := h.2.two; go_simp; try with_reducible rfl
  try simp only [Act.put, List.setIfInBounds_toArray, List.set_cons_zero, List.set_cons_succ]
  refine held_take (i := 1) (v := ?_) (some 18) rfl rfl (by kernel_rfl) (by kernel_rfl) (by kernel_rfl) (fun _ _ _ h => h) (Or.inl ⟨by rfl, ?_⟩) hHeld ?_
  rotate_left 1
  · intro w' (h : Bk w' w.heap.size 64 #[.int .i64 m, .bool v] ∧ Bk w' (w.heap.size + 1) 64 #[.int .i64 p, .bool q]); obtain ⟨⟨z0, z1⟩, _⟩ := h.1.two; obtain ⟨⟨y0, y1⟩, _⟩ := h.2.two; go_simp; try with_reducible rfl
  try simp only [Act.put, List.setIfInBounds_toArray, List.set_cons_zero, List.set_cons_succ]
  refine held_take (i := 2) (v := ?_) (some 19) rfl rfl (by kernel_rfl) (by kernel_rfl) (by kernel_rfl) (fun _ _ _ h => h) (Or.inl ⟨by rfl, ?_⟩) hHeld ?_
  rotate_left 1
  · intro w' (h : Bk w' w.heap.size 64 #[.int .i64 m, .bool v] ∧ Bk w' (w.heap.size + 1) 64 #[.int .i64 p, .bool q]); obtain ⟨⟨z0, z1⟩, _⟩ := h.1.two; obtain ⟨⟨y0, y1⟩, _⟩ := h.2.two; go_simp; try with_reducible rfl
  try simp only [Act.put, List.setIfInBounds_toArray, List.set_cons_zero, List.set_cons_succ]
  obtain ⟨⟨z0, z1⟩, z2, z3⟩ := hHeld.1.two
  obtain ⟨⟨y0, y1⟩, y2, y3⟩ := hHeld.2.two
  refine held_one (j := 3) (by kernel_rfl) rfl (fun K hK => ?_)
  try simp only [List.getElem_toArray, List.getElem_cons_succ, List.getElem_cons_zero]
  rw [if_pos (by rfl)]
  go_simp
  refine hK.out _ _ ⟨hHeld.1.put _ _, (hHeld.2.far (p := ⟨w.heap.size, 0, none⟩) hne.symm _).far (p := ⟨w.heap.size, 1, none⟩) hne.symm _⟩ (fun hHeld => ?_)
  clear hK K
  clear z0 z1 z2 z3 y0 y1 y2 y3
  try simp only [Act.put, List.setIfInBounds_toArray, List.set_cons_zero, List.set_cons_succ]
  obtain ⟨⟨z0, z1⟩, z2, z3⟩ := hHeld.1.two
  obtain ⟨⟨y0, y1⟩, y2, y3⟩ := hHeld.2.two
  refine held_one (j := 4) (by kernel_rfl) rfl (fun K hK => ?_)
  try simp only [List.getElem_toArray, List.getElem_cons_succ, List.getElem_cons_zero]
  rw [if_pos (by rfl)]
  go_simp
  refine hK.out _ _ ⟨(hHeld.1.far (p := ⟨(w.heap.size + 1), 0, none⟩) hne _).far (p := ⟨(w.heap.size + 1), 1, none⟩) hne _, hHeld.2.put _ _⟩ (fun hHeld => ?_)
  clear hK K
  clear z0 z1 z2 z3 y0 y1 y2 y3
  try simp only [Act.put, List.setIfInBounds_toArray, List.set_cons_zero, List.set_cons_succ]
  refine held_take (i := 5) (v := ?_) (some 4) rfl rfl (by kernel_rfl) (by kernel_rfl) (by kernel_rfl) (fun _ _ _ h => h) (Or.inl ⟨by rfl, ?_⟩) hHeld ?_
  rotate_left 1
  · intro w' (h : Bk w' w.heap.size 64 #[.int .i64 m, .bool v] ∧ Bk w' (w.heap.size + 1) 64 #[.int .i64 p, .bool q]); obtain ⟨⟨z0, z1⟩, _⟩ := h.1.two; obtain ⟨⟨y0, y1⟩, _⟩ := h.2.two; go_simp; try with_reducible rfl
  try simp only [Act.put, List.setIfInBounds_toArray, List.set_cons_zero, List.set_cons_succ]
  refine wpAnyH_done (by kernel_rfl) ?_ _
  obtain ⟨⟨r0, r1⟩, _⟩ := hHeld.1.two
  obtain ⟨⟨s0, s1⟩, _⟩ := hHeld.2.two
  go_wp2_with (fail)
  exact bodyPost_ret (v := .tuple #[.agg #[.int .i64 m, .bool v], .agg #[.int .i64 p, .bool q], .int .i64 0]) (by simp [results, Tryz.results120, go_sem, r0, r1, s0, s1]) rfl ⟨rfl, ((((MV.out.rel (RV.out.self.drew)).far (p := ⟨w.heap.size, 0, none⟩) hDw _).far (p := ⟨w.heap.size, 1, none⟩) hDw _).far (p := ⟨w.heap.size + 1, 0, none⟩) (Nat.le_succ_of_le hDw) _).far (p := ⟨w.heap.size + 1, 1, none⟩) (Nat.le_succ_of_le hDw) _, (RV.out.drew.box (g := w.heap.size) hw0 _ _).box (g := w.heap.size + 1) (by omega) _ _, ((KV.out.drew).box (g := w.heap.size) (Nat.le_refl _) _ _).box (g := w.heap.size + 1) (Nat.le_succ _) _ _⟩
end Go.Proofs.YtcckemhelockaaaGreatDoor
