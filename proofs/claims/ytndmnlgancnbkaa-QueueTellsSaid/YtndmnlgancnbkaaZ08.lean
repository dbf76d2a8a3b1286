/- Layer 16, the landed code: which of two is more urgent; two that change places. -/
import Derived.Test.YtndmnlgancnbkaaZL
import Derived.Test.YtndmnlgancnbkaaZ00
import Derived.Test.YtndmnlgancnbkaaZ01
import Derived.Test.YtndmnlgancnbkaaZ02
import Derived.Test.YtndmnlgancnbkaaZ07
namespace Go.Proofs.Ytndmnlgancnbkaa
open Go.RowKit Go.Lib
set_option linter.unusedVariables false
set_option linter.unusedSimpArgs false
set_option maxRecDepth 100000 in
set_option maxHeartbeats 4000000 in
theorem ahead_any (x y : It) (w : World) (hr : Rel w w) :
    Calls Try.prog 67 #[.agg #[.int .i64 x.1, .int .i64 x.2], .agg #[.int .i64 y.1, .int .i64 y.2]] w fun e w' => e = .returned (.bool (urgB x y)) ∧ Rel w w' := by
  obtain ⟨a, p⟩ := x
  obtain ⟨c, q⟩ := y
  have HU := Lib.hid (show urgB (a, p) (c, q) = decide (q < p ∨ q = p ∧ a < c) from rfl)
  simp only at HU ⊢
  have HR := Lib.hid ((hr.alloc (.cells #[.int .i64 a, .int .i64 p] 64)).alloc (.cells #[.int .i64 c, .int .i64 q] 64))
  clear hr
  by_cases h1 : p = q
  · subst h1
    by_cases h2 : a < c
    · go_enter Try.func67, Try.ntmps67
      go_wp2_with (fail)
      go_ret
      exact ⟨by rw [HU.out]; simp [h2], HR.out⟩
    · go_enter Try.func67, Try.ntmps67
      go_wp2_with (fail)
      go_ret
      exact ⟨by rw [HU.out]; simp [h2], HR.out⟩
  · have h3 : ¬ q = p := fun e => h1 e.symm
    by_cases h2 : q < p
    · go_enter Try.func67, Try.ntmps67
      go_wp2_with (fail)
      go_ret
      exact ⟨by rw [HU.out]; simp [h2], HR.out⟩
    · go_enter Try.func67, Try.ntmps67
      go_wp2_with (fail)
      go_ret
      exact ⟨by rw [HU.out]; simp [h2, h3], HR.out⟩
set_option maxRecDepth 100000 in
set_option maxHeartbeats 4000000 in
theorem swap_any {w : World} {g b : Nat} {m : Int} {v : Value} {l : List It} (h : Hb w g b m v l) {i j : Nat} (hi : i < l.length) (hj : j < l.length) :
    Calls Try.prog 61 #[.pointer (some ⟨g, 0, none⟩), .int .i64 (i : Int), .int .i64 (j : Int)] w fun e w' => e = .returned (.tuple #[]) ∧ Hb w' g b m v (swpI l i j) ∧ Ke (SoF g b v) w w' := by
  rcases h.form with ⟨_, e⟩ | ⟨q, c, rfl, hlc, hc, hq, hat, hf⟩
  · subst e; simp at hi
  obtain ⟨n, hn⟩ : ∃ n, l.length = n := ⟨_, rfl⟩
  obtain ⟨⟨k0, k1, k2⟩, f0, f1, f2⟩ := h.box.three
  obtain ⟨x0, x1⟩ := hat i hi
  obtain ⟨y0, y1⟩ := hat j hj
  have fi0 := hf (i * 2)
  have fi1 := hf (i * 2 + 1)
  have fj0 := hf (j * 2)
  have fj1 := hf (j * 2 + 1)
  have HI := Lib.hid hi
  have HJ := Lib.hid hj
  rw [hn] at h k1 hlc hi hj ⊢
  have hi' : (i : Int) < (n : Int) := by omega
  have hj' : (j : Int) < (n : Int) := by omega
  have HN := Lib.hid hn
  clear hat hf hn
  have HH := Lib.hid h
  obtain ⟨xk, hxk⟩ : ∃ xk, (atI l i).1 = xk := ⟨_, rfl⟩
  obtain ⟨xp, hxp⟩ : ∃ xp, (atI l i).2 = xp := ⟨_, rfl⟩
  obtain ⟨yk, hyk⟩ : ∃ yk, (atI l j).1 = yk := ⟨_, rfl⟩
  obtain ⟨yp, hyp⟩ : ∃ yp, (atI l j).2 = yp := ⟨_, rfl⟩
  have HX := Lib.hid (show atI l i = (xk, xp) by rw [← hxk, ← hxp])
  have HY := Lib.hid (show atI l j = (yk, yp) by rw [← hyk, ← hyp])
  rw [hxk] at x0
  rw [hxp] at x1
  rw [hyk] at y0
  rw [hyp] at y1
  clear h hxk hxp hyk hyp
  go_enter Try.func61, Try.ntmps61
  go_upto_region 0 with (fail)
  refine wp_region_any (by kernel_rfl) ?_
  refine any_of_late (S := fun w' => w'.cell? ⟨g, 1, none⟩ = some (.slice (some ⟨q, 0, none⟩) n c) ∧ w'.cell? ⟨q, i * 2, none⟩ = some (.int .i64 xk) ∧ w'.cell? ⟨q, i * 2 + 1, none⟩ = some (.int .i64 xp) ∧ w'.cell? ⟨q, j * 2, none⟩ = some (.int .i64 yk) ∧ w'.cell? ⟨q, j * 2 + 1, none⟩ = some (.int .i64 yp)) (late := fun j => ![1, 2, 3, 8, 11, 12, 13, 15, 16, 20, 23].contains j) _ _ _ _ ?_
  refine late_pure (i := 0) (v := ?_) (some 6) rfl rfl (by kernel_rfl) (by kernel_rfl) (by kernel_rfl) (fun _ _ _ h => h) rfl (Or.inl ⟨by rfl, ?_⟩) ?_
  rotate_left 1
  · intro w' _; go_simp; try with_reducible rfl
  try simp only [Act.put, List.setIfInBounds_toArray, List.set_cons_zero, List.set_cons_succ]
  refine late_pure (i := 4) (v := ?_) (some 10) rfl rfl (by kernel_rfl) (by kernel_rfl) (by kernel_rfl) (fun _ _ _ h => h) rfl (Or.inl ⟨by rfl, ?_⟩) ?_
  rotate_left 1
  · intro w' _; go_simp; try with_reducible rfl
  try simp only [Act.put, List.setIfInBounds_toArray, List.set_cons_zero, List.set_cons_succ]
  refine late_pure (i := 5) (v := ?_) (some 11) rfl rfl (by kernel_rfl) (by kernel_rfl) (by kernel_rfl) (fun _ _ _ h => h) rfl (Or.inl ⟨by rfl, ?_⟩) ?_
  rotate_left 1
  · intro w' _; go_simp; try with_reducible rfl
  try simp only [Act.put, List.setIfInBounds_toArray, List.set_cons_zero, List.set_cons_succ]
  refine late_pure (i := 6) (v := ?_) (some 12) rfl rfl (by kernel_rfl) (by kernel_rfl) (by kernel_rfl) (fun _ _ _ h => h) rfl (Or.inl ⟨by rfl, ?_⟩) ?_
  rotate_left 1
  · intro w' _; go_simp; try with_reducible rfl
  try simp only [Act.put, List.setIfInBounds_toArray, List.set_cons_zero, List.set_cons_succ]
  refine late_pure (i := 7) (v := ?_) (some 13) rfl rfl (by kernel_rfl) (by kernel_rfl) (by kernel_rfl) (fun _ _ _ h => h) rfl (Or.inl ⟨by rfl, ?_⟩) ?_
  rotate_left 1
  · intro w' _; go_simp; try with_reducible rfl
  try simp only [Act.put, List.setIfInBounds_toArray, List.set_cons_zero, List.set_cons_succ]
  refine late_pure (i := 9) (v := ?_) (some 15) rfl rfl (by kernel_rfl) (by kernel_rfl) (by kernel_rfl) (fun _ _ _ h => h) rfl (Or.inl ⟨by rfl, ?_⟩) ?_
  rotate_left 1
  · intro w' _; go_simp; try with_reducible rfl
  try simp only [Act.put, List.setIfInBounds_toArray, List.set_cons_zero, List.set_cons_succ]
  refine late_pure (i := 10) (v := ?_) (some 16) rfl rfl (by kernel_rfl) (by kernel_rfl) (by kernel_rfl) (fun _ _ _ h => h) rfl (Or.inl ⟨by rfl, ?_⟩) ?_
  rotate_left 1
  · intro w' _; go_simp; try with_reducible rfl
  try simp only [Act.put, List.setIfInBounds_toArray, List.set_cons_zero, List.set_cons_succ]
  refine late_pure (i := 14) (v := ?_) (some 20) rfl rfl (by kernel_rfl) (by kernel_rfl) (by kernel_rfl) (fun _ _ _ h => h) rfl (Or.inl ⟨by rfl, ?_⟩) ?_
  rotate_left 1
  · intro w' _; go_simp; try with_reducible rfl
  try simp only [Act.put, List.setIfInBounds_toArray, List.set_cons_zero, List.set_cons_succ]
  refine late_pure (i := 17) (v := ?_) (some 23) rfl rfl (by kernel_rfl) (by kernel_rfl) (by kernel_rfl) (fun _ _ _ h => h) rfl (Or.inl ⟨by rfl, ?_⟩) ?_
  rotate_left 1
  · intro w' _; go_simp; try with_reducible rfl
  try simp only [Act.put, List.setIfInBounds_toArray, List.set_cons_zero, List.set_cons_succ]
  refine late_pure (i := 18) (v := ?_) (some 24) rfl rfl (by kernel_rfl) (by kernel_rfl) (by kernel_rfl) (fun _ _ _ h => h) rfl (Or.inl ⟨by rfl, ?_⟩) ?_
  rotate_left 1
  · intro w' _; go_simp; try with_reducible rfl
  try simp only [Act.put, List.setIfInBounds_toArray, List.set_cons_zero, List.set_cons_succ]
  refine late_pure (i := 19) (v := ?_) (some 25) rfl rfl (by kernel_rfl) (by kernel_rfl) (by kernel_rfl) (fun _ _ _ h => h) rfl (Or.inl ⟨by rfl, ?_⟩) ?_
  rotate_left 1
  · intro w' _; go_simp; try with_reducible rfl
  try simp only [Act.put, List.setIfInBounds_toArray, List.set_cons_zero, List.set_cons_succ]
  refine late_pure (i := 21) (v := ?_) (some 27) rfl rfl (by kernel_rfl) (by kernel_rfl) (by kernel_rfl) (fun _ _ _ h => h) rfl (Or.inl ⟨by rfl, ?_⟩) ?_
  rotate_left 1
  · intro w' _; go_simp; try with_reducible rfl
  try simp only [Act.put, List.setIfInBounds_toArray, List.set_cons_zero, List.set_cons_succ]
  refine late_load (i := 20) (v := ?_) (some 26) rfl rfl (by kernel_rfl) (by kernel_rfl) (by kernel_rfl) (fun _ _ _ h => h) (by kernel_rfl) (Or.inl ⟨by rfl, ?_⟩) ⟨k1, x0, x1, y0, y1⟩ ?_
  rotate_left 1
  · intro w' hSw; obtain ⟨s0, s1, s2, s3, s4⟩ := hSw; go_simp; try with_reducible rfl
  try simp only [Act.put, List.setIfInBounds_toArray, List.set_cons_zero, List.set_cons_succ]
  refine late_pure (i := 22) (v := ?_) (some 28) rfl rfl (by kernel_rfl) (by kernel_rfl) (by kernel_rfl) (fun _ _ _ h => h) rfl (Or.inl ⟨by rfl, ?_⟩) ?_
  rotate_left 1
  · intro w' _; go_simp; try with_reducible rfl
  try simp only [Act.put, List.setIfInBounds_toArray, List.set_cons_zero, List.set_cons_succ]
  refine late_load (i := 1) (v := ?_) (some 7) rfl rfl (by kernel_rfl) (by kernel_rfl) (by kernel_rfl) (fun _ _ _ h => h) (by kernel_rfl) (Or.inl ⟨by rfl, ?_⟩) ⟨k1, x0, x1, y0, y1⟩ ?_
  rotate_left 1
  · intro w' hSw; obtain ⟨s0, s1, s2, s3, s4⟩ := hSw; go_simp; try with_reducible rfl
  try simp only [Act.put, List.setIfInBounds_toArray, List.set_cons_zero, List.set_cons_succ]
  refine late_load (i := 2) (v := ?_) (some 8) rfl rfl (by kernel_rfl) (by kernel_rfl) (by kernel_rfl) (fun _ _ _ h => h) (by kernel_rfl) (Or.inl ⟨by rfl, ?_⟩) ⟨k1, x0, x1, y0, y1⟩ ?_
  rotate_left 1
  · intro w' hSw; obtain ⟨s0, s1, s2, s3, s4⟩ := hSw; go_simp; try with_reducible rfl
  try simp only [Act.put, List.setIfInBounds_toArray, List.set_cons_zero, List.set_cons_succ]
  refine late_load (i := 3) (v := ?_) (some 9) rfl rfl (by kernel_rfl) (by kernel_rfl) (by kernel_rfl) (fun _ _ _ h => h) (by kernel_rfl) (Or.inl ⟨by rfl, ?_⟩) ⟨k1, x0, x1, y0, y1⟩ ?_
  rotate_left 1
  · intro w' hSw; obtain ⟨s0, s1, s2, s3, s4⟩ := hSw; go_simp; try with_reducible rfl
  try simp only [Act.put, List.setIfInBounds_toArray, List.set_cons_zero, List.set_cons_succ]
  refine late_load (i := 8) (v := ?_) (some 14) rfl rfl (by kernel_rfl) (by kernel_rfl) (by kernel_rfl) (fun _ _ _ h => h) (by kernel_rfl) (Or.inl ⟨by rfl, ?_⟩) ⟨k1, x0, x1, y0, y1⟩ ?_
  rotate_left 1
  · intro w' hSw; obtain ⟨s0, s1, s2, s3, s4⟩ := hSw; go_simp; try with_reducible rfl
  try simp only [Act.put, List.setIfInBounds_toArray, List.set_cons_zero, List.set_cons_succ]
  refine late_load (i := 11) (v := ?_) (some 17) rfl rfl (by kernel_rfl) (by kernel_rfl) (by kernel_rfl) (fun _ _ _ h => h) (by kernel_rfl) (Or.inl ⟨by rfl, ?_⟩) ⟨k1, x0, x1, y0, y1⟩ ?_
  rotate_left 1
  · intro w' hSw; obtain ⟨s0, s1, s2, s3, s4⟩ := hSw; go_simp; try with_reducible rfl
  try simp only [Act.put, List.setIfInBounds_toArray, List.set_cons_zero, List.set_cons_succ]
  refine late_load (i := 12) (v := ?_) (some 18) rfl rfl (by kernel_rfl) (by kernel_rfl) (by kernel_rfl) (fun _ _ _ h => h) (by kernel_rfl) (Or.inl ⟨by rfl, ?_⟩) ⟨k1, x0, x1, y0, y1⟩ ?_
  rotate_left 1
  · intro w' hSw; obtain ⟨s0, s1, s2, s3, s4⟩ := hSw; go_simp; try with_reducible rfl
  try simp only [Act.put, List.setIfInBounds_toArray, List.set_cons_zero, List.set_cons_succ]
  refine late_load (i := 13) (v := ?_) (some 19) rfl rfl (by kernel_rfl) (by kernel_rfl) (by kernel_rfl) (fun _ _ _ h => h) (by kernel_rfl) (Or.inl ⟨by rfl, ?_⟩) ⟨k1, x0, x1, y0, y1⟩ ?_
  rotate_left 1
  · intro w' hSw; obtain ⟨s0, s1, s2, s3, s4⟩ := hSw; go_simp; try with_reducible rfl
  try simp only [Act.put, List.setIfInBounds_toArray, List.set_cons_zero, List.set_cons_succ]
  refine late_load (i := 15) (v := ?_) (some 21) rfl rfl (by kernel_rfl) (by kernel_rfl) (by kernel_rfl) (fun _ _ _ h => h) (by kernel_rfl) (Or.inl ⟨by rfl, ?_⟩) ⟨k1, x0, x1, y0, y1⟩ ?_
  rotate_left 1
  · intro w' hSw; obtain ⟨s0, s1, s2, s3, s4⟩ := hSw; go_simp; try with_reducible rfl
  try simp only [Act.put, List.setIfInBounds_toArray, List.set_cons_zero, List.set_cons_succ]
  refine late_load (i := 16) (v := ?_) (some 22) rfl rfl (by kernel_rfl) (by kernel_rfl) (by kernel_rfl) (fun _ _ _ h => h) (by kernel_rfl) (Or.inl ⟨by rfl, ?_⟩) ⟨k1, x0, x1, y0, y1⟩ ?_
  rotate_left 1
  · intro w' hSw; obtain ⟨s0, s1, s2, s3, s4⟩ := hSw; go_simp; try with_reducible rfl
  try simp only [Act.put, List.setIfInBounds_toArray, List.set_cons_zero, List.set_cons_succ]
  refine late_load (i := 23) (v := ?_) (some 29) rfl rfl (by kernel_rfl) (by kernel_rfl) (by kernel_rfl) (fun _ _ _ h => h) (by kernel_rfl) (Or.inl ⟨by rfl, ?_⟩) ⟨k1, x0, x1, y0, y1⟩ ?_
  rotate_left 1
  · intro w' hSw; obtain ⟨s0, s1, s2, s3, s4⟩ := hSw; go_simp; try with_reducible rfl
  try simp only [Act.put, List.setIfInBounds_toArray, List.set_cons_zero, List.set_cons_succ]
  refine late_one (j := 24) (by kernel_rfl) rfl rfl (fun K hK => ?_)
  try simp only [List.getElem_toArray, List.getElem_cons_succ, List.getElem_cons_zero]
  try rw [if_pos (by rfl)]
  go_simp
  refine hK.out _ _ ?_
  clear hK K
  try simp only [Act.put, List.setIfInBounds_toArray, List.set_cons_zero, List.set_cons_succ]
  refine late_one (j := 25) (by kernel_rfl) rfl rfl (fun K hK => ?_)
  try simp only [List.getElem_toArray, List.getElem_cons_succ, List.getElem_cons_zero]
  try rw [if_pos (by rfl)]
  go_simp
  refine hK.out _ _ ?_
  clear hK K
  try simp only [Act.put, List.setIfInBounds_toArray, List.set_cons_zero, List.set_cons_succ]
  obtain ⟨HM1, HK1⟩ := (HH.out.hm).put HI.out HN.out yk yp
  obtain ⟨W1, hW1⟩ : ∃ W1, (w.setCell ⟨q, i * 2, none⟩ (.int .i64 yk)).setCell ⟨q, i * 2 + 1, none⟩ (.int .i64 yp) = W1 := ⟨_, rfl⟩
  rw [hW1] at HM1 HK1 ⊢
  clear hW1
  have HM1 := Lib.hid HM1
  have HK1 := Lib.hid HK1
  obtain ⟨⟨u0, u1⟩, hu⟩ : ∃ u, atI (l.set i (yk, yp)) j = u := ⟨_, rfl⟩
  obtain ⟨z0, z1, z2, z3⟩ := HM1.out.at (by rw [List.length_set]; exact HJ.out) hu
  have z4 := z2
  have z5 := z3
  refine late_one (j := 26) (by kernel_rfl) rfl rfl (fun K hK => ?_)
  try simp only [List.getElem_toArray, List.getElem_cons_succ, List.getElem_cons_zero]
  try rw [if_pos (by rfl)]
  go_simp
  refine hK.out _ _ ?_
  clear hK K
  try simp only [Act.put, List.setIfInBounds_toArray, List.set_cons_zero, List.set_cons_succ]
  refine late_one (j := 27) (by kernel_rfl) rfl rfl (fun K hK => ?_)
  try simp only [List.getElem_toArray, List.getElem_cons_succ, List.getElem_cons_zero]
  try rw [if_pos (by rfl)]
  go_simp
  refine hK.out _ _ ?_
  clear hK K
  try simp only [Act.put, List.setIfInBounds_toArray, List.set_cons_zero, List.set_cons_succ]
  obtain ⟨HM2, HK2⟩ := HM1.out.put (by rw [List.length_set]; exact HJ.out) (by rw [List.length_set]; exact HN.out) xk xp
  obtain ⟨W2, hW2⟩ : ∃ W2, (W1.setCell ⟨q, j * 2, none⟩ (.int .i64 xk)).setCell ⟨q, j * 2 + 1, none⟩ (.int .i64 xp) = W2 := ⟨_, rfl⟩
  rw [hW2] at HM2 HK2 ⊢
  clear hW2 z0 z1 z2 z3 z4 z5 hu
  refine late_done (by kernel_rfl) ?_ _
  have HSw := Lib.hid (show (l.set i (yk, yp)).set j (xk, xp) = swpI l i j by unfold swpI; rw [HX.out, HY.out])
  rw [HSw.out] at HM2
  have HLn := Lib.hid (show (swpI l i j).length = n by rw [swp_len]; exact HN.out)
  have HM2 := Lib.hid HM2.drew
  have HK2 := Lib.hid (HK1.out.on HK2.drew)
  clear HK1 HM1 k0 k1 k2 f0 f1 f2 x0 x1 y0 y1 fi0 fi1 fj0 fj1
  obtain ⟨⟨k0, k1, k2⟩, f0, f1, f2⟩ := HM2.out.box.three
  have HA := Lib.hid (show atI (swpI l i j) i = (yk, yp) by rw [at_swp_i HI.out HJ.out, HY.out])
  have HB := Lib.hid (show atI (swpI l i j) j = (xk, xp) by rw [at_swp_j HI.out HJ.out, HX.out])
  have hle : n ≤ 1000 := by rw [← HN.out]; exact HH.out.cap
  have HF := Lib.hid (HH.out.fit_at HI.out)
  have HG := Lib.hid (HH.out.fit_at HJ.out)
  rw [HX.out] at HF
  rw [HY.out] at HG
  obtain ⟨v0, v1, v2, v3⟩ := HM2.out.at (by rw [HLn.out]; exact hi) HA.out
  obtain ⟨W, hW⟩ : ∃ W, W2.drew = W := ⟨_, rfl⟩
  rw [hW] at HM2 HK2 k0 k1 k2 f0 f1 f2 v0 v1 v2 v3
  try rw [hW]
  clear hW
  go_upto_region 1 with (fail)
  go_still_tail 13, (by kernel_rfl)
  have HP := Lib.hid (show PlAt W.drew b (posf l) n by have := HM2.out.pl; rw [HN.out] at this; exact this)
  have hq1 : (posf l yk).isSome = true := by rw [pos_some HH.out.dst HJ.out (by rw [HY.out])]; rfl
  have HQ1 := Lib.hid hq1
  refine wp_place _ rfl _ _ _ rfl b n (posf l) rfl HP.out (by unfold maxLen; omega) yk (i : Int) rfl HG.out.1 rfl ?_
  intro w3 p3 g3
  rw [if_pos HQ1.out] at p3
  obtain ⟨HM3, HK3⟩ := HM2.out.drew.mapped p3 g3
  have HM3 := Lib.hid HM3
  have HK3 := Lib.hid (HK2.out.drew.on HK3)
  clear p3 g3 HP HM2 HK2 hq1 k0 k1 k2 f0 f1 f2 v0 v1 v2 v3
  obtain ⟨⟨k0, k1, k2⟩, f0, f1, f2⟩ := HM3.out.box.three
  obtain ⟨v0, v1, v2, v3⟩ := HM3.out.at (by rw [HLn.out]; exact hj) HB.out
  go_upto_region 2 with (fail)
  go_still_tail 13, (by kernel_rfl)
  have HP := Lib.hid (show PlAt w3.drew b (upf (posf l) yk i) n from HM3.out.pl)
  have hq2 : (upf (posf l) yk i xk).isSome = true := by
    unfold upf
    split
    · rfl
    · rw [pos_some HH.out.dst HI.out (by rw [HX.out])]; rfl
  have HQ2 := Lib.hid hq2
  clear hq2
  refine wp_place _ rfl _ _ _ rfl b n (upf (posf l) yk i) rfl HP.out (by unfold maxLen; omega) xk (j : Int) rfl HF.out.1 rfl ?_
  intro w4 p4 g4
  rw [if_pos HQ2.out] at p4
  obtain ⟨HM4, HK4⟩ := HM3.out.drew.mapped p4 g4
  have HK4 := HK3.out.drew.on HK4
  have e1 : upf (upf (posf l) yk i) xk j = posf (swpI l i j) := by
    have := pos_swp HH.out.dst HI.out HJ.out
    rw [HX.out, HY.out] at this
    exact this
  rw [e1] at HM4
  have HZ := Lib.hid (HM4.done rfl HLn.out.symm (dst_swp HH.out.dst HI.out HJ.out) (fun x hx => HH.out.fit x ((swp_mem HI.out HJ.out x).1 hx)) (by rw [HLn.out]; exact hle))
  have HK4 := Lib.hid HK4
  clear HM4 p4 g4 e1 k0 k1 k2 f0 f1 f2 v0 v1 v2 v3
  go_wp2_with (fail)
  go_end0
  exact ⟨rfl, HZ.out, HK4.out⟩
end Go.Proofs.Ytndmnlgancnbkaa
