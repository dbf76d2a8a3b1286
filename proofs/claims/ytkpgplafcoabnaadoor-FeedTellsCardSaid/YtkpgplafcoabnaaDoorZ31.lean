/- FeedTells, over what the program is asked. -/
import Derived.Test.YtkpgplafcoabnaaDoorZL
import Derived.Test.YtkpgplafcoabnaaDoorZ00
import Derived.Test.YtkpgplafcoabnaaDoorZ01
import Derived.Test.YtkpgplafcoabnaaDoorZ02
import Derived.Test.YtkpgplafcoabnaaDoorZ03
import Derived.Test.YtkpgplafcoabnaaDoorZ11
import Derived.Test.YtkpgplafcoabnaaDoorZ12
import Derived.Test.YtkpgplafcoabnaaDoorZ13
import Derived.Test.YtkpgplafcoabnaaDoorZ16
import Derived.Test.YtkpgplafcoabnaaDoorZ19
import Derived.Test.YtkpgplafcoabnaaDoorZ20
import Derived.Test.YtkpgplafcoabnaaDoorZ30
namespace Go.Proofs.YtkpgplafcoabnaaDoor
open Go.RowKit Go.Lib
set_option linter.unusedVariables false
set_option linter.unusedSimpArgs false
theorem renc_at (f : Fd) (hf : FdFit f) (v : Value) (hv : FV f = v) (s : ByteArray) (hs : B (encT f) = s) (e : Int) (he : encE f = e) (w : World) (hr : Rel w w) :
    Calls Tryd.prog 12 #[v] w fun r w' => r = .returned (.tuple #[.string s, .int .i64 e]) ∧ Rel w w' := by
  rw [← hv, ← hs, ← he]; exact rfencode_any f hf w w hr
theorem rrig_at (f : Fd) (hf : FdFit f) (v : Value) (hv : FV f = v) (b : Bool) (hb : rightF f = b) (w : World) (hr : Rel w w) :
    Calls Tryd.prog 14 #[v] w fun r w' => r = .returned (.bool b) ∧ Rel w w' := by
  rw [← hv, ← hb]; exact rfright_any f hf w w hr
theorem rdec_at (s : List UInt8) (t : ByteArray) (ht : B s = t) (hl : s.length ≤ 9223372036854775807) (v : Value) (hv : FV (decV s) = v) (e n : Int) (he : decE s = e) (hn : decN s = n) (w : World) (hr : Rel w w) :
    Calls Tryd.prog 17 #[.string t] w fun r w' => r = .returned (.tuple #[v, .int .i64 e, .int .i64 n]) ∧ Rel w w' := by
  rw [← ht, ← hv, ← he, ← hn]; exact rfdecode_any s hl w w hr
set_option maxRecDepth 100000 in
set_option maxHeartbeats 4000000 in
theorem FeedTells_at (H : FeedOk) (g : Fd) (hg : FdFit g) (r0 r1 r2 r3 r4 : Int) (s0 : ByteArray) (at' : Int) (M : ByteArray) (hf : RawFit (r0, r1, r2, r3, r4)) (hat : i64 at') (hs0 : s0.size ≤ 140737488351232) (hM : M.size ≤ 140737488351232) (w : World) (hr : Rel w w) :
    Calls Tryd.prog 3 #[FV g, .agg #[.int .i64 r0, .int .i64 r1, .int .i64 r2, .int .i64 r3, .int .i64 r4], .string s0, .int .i64 at', .string M] w fun e w' => e = .returned (.bool true) ∧ Rel w w' := by
  obtain ⟨f, hff⟩ : ∃ f, lineF (r0, r1, r2, r3, r4) = f := ⟨_, rfl⟩
  have rf : rightF f = true := by rw [← hff]; exact line_right _
  obtain ⟨xa, xc, xd, xn, xp, hx, x0, x1, x2, x3, x4⟩ := mk5 f
  obtain ⟨ya, yc, yd, yn, yp, hy, y0, y1, y2, y3, y4⟩ := mk5 g
  rw [hy]
  have HL1 := Lib.hid (show ∀ w1 : World, Rel w1 w1 → Calls Tryd.prog 10 #[.agg #[.int .i64 r0, .int .i64 r1, .int .i64 r2, .int .i64 r3, .int .i64 r4]] w1 fun e w' => e = .returned (.agg #[.string xa, .int .i64 xn, .string xc, .string xd, .int .i64 xp]) ∧ Rel w1 w' from fun w1 h => line_at (r0, r1, r2, r3, r4) hf (.agg #[.string xa, .int .i64 xn, .string xc, .string xd, .int .i64 xp]) (by rw [hff, hx]) w1 h)
  obtain ⟨S, hS⟩ : ∃ S, B (encT f) = S := ⟨_, rfl⟩
  have zS : S.size ≤ 69 := by rw [← hS, B_size, (encT_yes rf).1]; exact fdtext_len rf
  have HE1 := Lib.hid (fun (w1 : World) (h : Rel w1 w1) => enc_at H f (right_fit rf) _ hx S hS 0 (encT_yes rf).2 w1 h)
  have HF1 := Lib.hid (fun (w1 : World) (h : Rel w1 w1) => renc_at f (right_fit rf) _ hx S hS 0 (encT_yes rf).2 w1 h)
  have HR1 := Lib.hid (fun (w1 : World) (hr1 : Rel w1 w1) => rig_at H f (right_fit rf) _ hx true rf w1 hr1)
  have HQ1 := Lib.hid (fun (w1 : World) (hr1 : Rel w1 w1) => rrig_at f (right_fit rf) _ hx true rf w1 hr1)
  obtain ⟨U, hU⟩ : ∃ U, B (encT g) = U := ⟨_, rfl⟩
  obtain ⟨ue, hue⟩ : ∃ U, encE g = U := ⟨_, rfl⟩
  obtain ⟨ub, hub⟩ : ∃ U, rightF g = U := ⟨_, rfl⟩
  have HE2 := Lib.hid (fun (w1 : World) (h : Rel w1 w1) => enc_at H g hg _ hy U hU ue hue w1 h)
  have HF2 := Lib.hid (fun (w1 : World) (h : Rel w1 w1) => renc_at g hg _ hy U hU ue hue w1 h)
  have HR2 := Lib.hid (fun (w1 : World) (hr1 : Rel w1 w1) => rig_at H g hg _ hy ub hub w1 hr1)
  have HQ2 := Lib.hid (fun (w1 : World) (hr1 : Rel w1 w1) => rrig_at g hg _ hy ub hub w1 hr1)
  obtain ⟨p, hp⟩ : ∃ p, pk at' ((S.size : Int) + 1) = p := ⟨_, rfl⟩
  obtain ⟨p0, p1⟩ := pk_bd at' ((S.size : Int) + 1) (by omega)
  rw [hp] at p0 p1
  have HP := Lib.hid hp
  simp only [i64] at hat
  have HR := Lib.hid hr
  have HAw := Lib.hid (fun (w1 : World) (h : Rel w1 w1) => awake12_any H w1 w1 h)
  have HA0 := Lib.hid ((hr.alloc (.cells #[.string ya, .int .i64 yn, .string yc, .string yd, .int .i64 yp] 23)).alloc (.cells #[.int .i64 r0, .int .i64 r1, .int .i64 r2, .int .i64 r3, .int .i64 r4] 24))
  have HX0 := Lib.hid (show Bk ((w.alloc (.cells #[.string ya, .int .i64 yn, .string yc, .string yd, .int .i64 yp] 23)).alloc (.cells #[.int .i64 r0, .int .i64 r1, .int .i64 r2, .int .i64 r3, .int .i64 r4] 24)) (w.heap.size + 1) 24 #[.int .i64 r0, .int .i64 r1, .int .i64 r2, .int .i64 r3, .int .i64 r4] from by have := Bk.new (w.alloc (.cells #[.string ya, .int .i64 yn, .string yc, .string yd, .int .i64 yp] 23)) 24 #[.int .i64 r0, .int .i64 r1, .int .i64 r2, .int .i64 r3, .int .i64 r4]; rw [World.size_alloc] at this; exact this)
  have HY0 := Lib.hid ((Bk.new w 23 #[.string ya, .int .i64 yn, .string yc, .string yd, .int .i64 yp]).alloc (.cells #[.int .i64 r0, .int .i64 r1, .int .i64 r2, .int .i64 r3, .int .i64 r4] 24))
  obtain ⟨W0, hW0⟩ : ∃ W0, (w.alloc (.cells #[.string ya, .int .i64 yn, .string yc, .string yd, .int .i64 yp] 23)).alloc (.cells #[.int .i64 r0, .int .i64 r1, .int .i64 r2, .int .i64 r3, .int .i64 r4] 24) = W0 := ⟨_, rfl⟩
  rw [hW0] at HA0 HX0 HY0
  have HH := Lib.hid H
  clear hr hf hg hff hS hx hy hU hue hub hp x0 x1 x2 x3 x4 y0 y1 y2 y3 y4 H
  go_enter Tryd.func3, Tryd.ntmps3
  go_upto_region 1 with (fail)
  try rw [hW0]
  clear hW0
  go_upto_region 2 with (go_at_call 9; (with_reducible refine (HAw.out _ HA0.out.self).mono ?_); rintro e0 W1 ⟨rfl, h1⟩; have HW1 := Lib.hid h1; have HX1 := Lib.hid (HX0.out.rel h1); have HY1 := Lib.hid (HY0.out.rel h1); clear h1)
  go_cut [33, 34, 35] (fun s n i wx => ∃ (V : World) (gs : Nat), V = wx ∧ s = .slice (some ⟨gs, 0, none⟩) 2 2 ∧ n = .int .i64 2 ∧ i = .int .i64 0 ∧ Hid (Rel W1 V) ∧ Hid (Bk V gs 23 #[.string ya, .int .i64 yn, .string yc, .string yd, .int .i64 yp, .string xa, .int .i64 xn, .string xc, .string xd, .int .i64 xp]))
  case first =>
    refine wp_region_held_drew (S := (fun w' => Rel W1 w')) (by kernel_rfl) HW1.out.self.drew (fun hHeld => ?_)
    refine held_take (i := 0) (v := ?_) (some 30) rfl rfl (by kernel_rfl) (by kernel_rfl) (by kernel_rfl) (fun _ _ _ h => h) (Or.inl ⟨by rfl, ?_⟩) hHeld ?_
    rotate_left 1
    · intro w' (h : Rel W1 w'); obtain ⟨⟨c0, c1, c2, c3, c4⟩, _⟩ := five_of (HX1.out.rel h); obtain ⟨⟨d0, d1, d2, d3, d4⟩, _⟩ := five_of (HY1.out.rel h); go_simp; try with_reducible rfl
    try simp only [Act.put, List.setIfInBounds_toArray, List.set_cons_zero, List.set_cons_succ]
    refine held_take (i := 1) (v := ?_) (some 31) rfl rfl (by kernel_rfl) (by kernel_rfl) (by kernel_rfl) (fun _ _ _ h => h) (Or.inl ⟨by rfl, ?_⟩) hHeld ?_
    rotate_left 1
    · intro w' (h : Rel W1 w'); obtain ⟨⟨c0, c1, c2, c3, c4⟩, _⟩ := five_of (HX1.out.rel h); obtain ⟨⟨d0, d1, d2, d3, d4⟩, _⟩ := five_of (HY1.out.rel h); go_simp; try with_reducible rfl
    try simp only [Act.put, List.setIfInBounds_toArray, List.set_cons_zero, List.set_cons_succ]
    refine held_take (i := 5) (v := ?_) (some 35) rfl rfl (by kernel_rfl) (by kernel_rfl) (by kernel_rfl) (fun _ _ _ h => h) (Or.inl ⟨by rfl, ?_⟩) hHeld ?_
    rotate_left 1
    · intro w' (h : Rel W1 w'); obtain ⟨⟨c0, c1, c2, c3, c4⟩, _⟩ := five_of (HX1.out.rel h); obtain ⟨⟨d0, d1, d2, d3, d4⟩, _⟩ := five_of (HY1.out.rel h); go_simp; try with_reducible rfl
    try simp only [Act.put, List.setIfInBounds_toArray, List.set_cons_zero, List.set_cons_succ]
    refine held_one (j := 2) (by kernel_rfl) rfl (fun K hK => ?_)
    try simp only [List.getElem_toArray, List.getElem_cons_succ, List.getElem_cons_zero]
    rw [if_pos (by rfl)]
    go_simp
    go_at_call 10
    (with_reducible refine (HL1.out _ hHeld.self).mono ?_)
    rintro e0 w2 ⟨rfl, h2⟩
    refine hK.out _ _ (hHeld.trans h2) (fun hHeld => ?_)
    clear hK K
    try simp only [Act.put, List.setIfInBounds_toArray, List.set_cons_zero, List.set_cons_succ]
    refine held_one (j := 3) (by kernel_rfl) rfl (fun K hK => ?_)
    try simp only [List.getElem_toArray, List.getElem_cons_succ, List.getElem_cons_zero]
    rw [if_pos (by rfl)]
    go_simp
    refine hK.out _ _ (hHeld.alloc _) (fun hHeld => ?_)
    clear hK K
    try simp only [Act.put, List.setIfInBounds_toArray, List.set_cons_zero, List.set_cons_succ]
    refine held_take (i := 4) (v := ?_) (some 34) rfl rfl (by kernel_rfl) (by kernel_rfl) (by kernel_rfl) (fun _ _ _ h => h) (Or.inl ⟨by rfl, ?_⟩) hHeld ?_
    rotate_left 1
    · intro w' (h : Rel W1 w'); obtain ⟨⟨c0, c1, c2, c3, c4⟩, _⟩ := five_of (HX1.out.rel h); obtain ⟨⟨d0, d1, d2, d3, d4⟩, _⟩ := five_of (HY1.out.rel h); go_simp; try with_reducible rfl
    try simp only [Act.put, List.setIfInBounds_toArray, List.set_cons_zero, List.set_cons_succ]
    refine wpAnyH_done (by kernel_rfl) ?_ _
    go_wp2_with (fail)
    go_meet
    exact ⟨_, w2.heap.size, rfl, rfl, by rfl, rfl, Lib.hid hHeld, Lib.hid (Bk.new w2 23 #[.string ya, .int .i64 yn, .string yc, .string yd, .int .i64 yp, .string xa, .int .i64 xn, .string xc, .string xd, .int .i64 xp])⟩
  obtain ⟨V, gs, rfl, rfl, rfl, rfl, R2, HSl⟩ := hcut
  go_upto_block 0 with (fail)
  go_cut [] (fun wx => ∃ (V2 : World), V2 = wx ∧ Hid (Rel V V2))
  case first =>
    go_wp2_with (fail)
    go_loopw [35] (fun i wr => ∃ j : Nat, j ≤ 2 ∧ i = .int .i64 (j : Int) ∧ Hid (Rel V wr)) (fun i _ => 2 - (RowKit.intOf i).toNat)
    case atStart => exact ⟨0, by omega, rfl, Lib.hid R2.out.self⟩
    case round =>
      obtain ⟨j, hj, rfl, HRw⟩ := hrel
      have ways : j = 0 ∨ j = 1 ∨ j = 2 := by omega
      rcases ways with rfl | rfl | rfl
      · skip
        have k0 : wr.cell? ⟨gs, 0, none⟩ = some (.string ya) := (HSl.out.rel HRw.out).cell 0
        have k1 : wr.cell? ⟨gs, 1, none⟩ = some (.int .i64 yn) := (HSl.out.rel HRw.out).cell 1
        have k2 : wr.cell? ⟨gs, 2, none⟩ = some (.string yc) := (HSl.out.rel HRw.out).cell 2
        have k3 : wr.cell? ⟨gs, 3, none⟩ = some (.string yd) := (HSl.out.rel HRw.out).cell 3
        have k4 : wr.cell? ⟨gs, 4, none⟩ = some (.int .i64 yp) := (HSl.out.rel HRw.out).cell 4
        go_upto_region 5 with (fail)
        have G1 := Lib.hid ((HRw.out).alloc (.cells #[.string ya, .int .i64 yn, .string yc, .string yd, .int .i64 yp] 23))
        have HB1 := Lib.hid (Bk.new wr 23 #[.string ya, .int .i64 yn, .string yc, .string yd, .int .i64 yp])
        obtain ⟨gb, hgb⟩ : ∃ g, wr.heap.size = g := ⟨_, rfl⟩
        obtain ⟨V1, hV1⟩ : ∃ V1, wr.alloc (.cells #[.string ya, .int .i64 yn, .string yc, .string yd, .int .i64 yp] 23) = V1 := ⟨_, rfl⟩
        rw [hV1] at G1 HB1
        rw [hgb] at HB1
        try rw [hV1]
        try rw [hgb]
        clear hV1 hgb k0 k1 k2 k3 k4
        obtain ⟨⟨b0, b1, b2, b3, b4⟩, _⟩ := five_of HB1.out
        go_upto_region 7 with (first
          | (go_at_call 11; (with_reducible refine (HE2.out _ G1.out.self).mono ?_); rintro e0 w3 ⟨rfl, h3⟩; have G3 := Lib.hid (G1.out.trans h3); have HB3 := Lib.hid (HB1.out.rel h3); obtain ⟨⟨b0, b1, b2, b3, b4⟩, _⟩ := five_of (HB1.out.rel h3); clear h3)
          | (go_at_call 12; (with_reducible refine (HF2.out _ G3.out.self).mono ?_); rintro e0 W4 ⟨rfl, h4⟩; have HW4 := Lib.hid (G3.out.trans h4); have HB4 := Lib.hid (HB3.out.rel h4); clear h4))
        clear b0 b1 b2 b3 b4
        refine wp_region_held_drew (S := (fun w' => Rel W4 w')) (by kernel_rfl) HW4.out.self.drew (fun hHeld => ?_)
        refine held_take (i := 0) (v := ?_) (some 49) rfl rfl (by kernel_rfl) (by kernel_rfl) (by kernel_rfl) (fun _ _ _ h => h) (Or.inl ⟨by rfl, ?_⟩) hHeld ?_
        rotate_left 1
        · intro w' (h : Rel W4 w'); obtain ⟨⟨b0, b1, b2, b3, b4⟩, _⟩ := five_of (HB4.out.rel h); go_simp; try with_reducible rfl
        try simp only [Act.put, List.setIfInBounds_toArray, List.set_cons_zero, List.set_cons_succ]
        refine held_take (i := 1) (v := ?_) (some 50) rfl rfl (by kernel_rfl) (by kernel_rfl) (by kernel_rfl) (fun _ _ _ h => h) (Or.inl ⟨by rfl, ?_⟩) hHeld ?_
        rotate_left 1
        · intro w' (h : Rel W4 w'); obtain ⟨⟨b0, b1, b2, b3, b4⟩, _⟩ := five_of (HB4.out.rel h); go_simp; try with_reducible rfl
        try simp only [Act.put, List.setIfInBounds_toArray, List.set_cons_zero, List.set_cons_succ]
        refine held_take (i := 2) (v := ?_) (some 51) rfl rfl (by kernel_rfl) (by kernel_rfl) (by kernel_rfl) (fun _ _ _ h => h) (Or.inl ⟨by rfl, ?_⟩) hHeld ?_
        rotate_left 1
        · intro w' (h : Rel W4 w'); obtain ⟨⟨b0, b1, b2, b3, b4⟩, _⟩ := five_of (HB4.out.rel h); go_simp; try with_reducible rfl
        try simp only [Act.put, List.setIfInBounds_toArray, List.set_cons_zero, List.set_cons_succ]
        refine held_take (i := 3) (v := ?_) (some 52) rfl rfl (by kernel_rfl) (by kernel_rfl) (by kernel_rfl) (fun _ _ _ h => h) (Or.inl ⟨by rfl, ?_⟩) hHeld ?_
        rotate_left 1
        · intro w' (h : Rel W4 w'); obtain ⟨⟨b0, b1, b2, b3, b4⟩, _⟩ := five_of (HB4.out.rel h); go_simp; try with_reducible rfl
        try simp only [Act.put, List.setIfInBounds_toArray, List.set_cons_zero, List.set_cons_succ]
        refine held_take (i := 4) (v := ?_) (some 53) rfl rfl (by kernel_rfl) (by kernel_rfl) (by kernel_rfl) (fun _ _ _ h => h) (Or.inl ⟨by rfl, ?_⟩) hHeld ?_
        rotate_left 1
        · intro w' (h : Rel W4 w'); obtain ⟨⟨b0, b1, b2, b3, b4⟩, _⟩ := five_of (HB4.out.rel h); go_simp; try with_reducible rfl
        try simp only [Act.put, List.setIfInBounds_toArray, List.set_cons_zero, List.set_cons_succ]
        refine held_take (i := 5) (v := ?_) (some 54) rfl rfl (by kernel_rfl) (by kernel_rfl) (by kernel_rfl) (fun _ _ _ h => h) (Or.inl ⟨by rfl, ?_⟩) hHeld ?_
        rotate_left 1
        · intro w' (h : Rel W4 w'); obtain ⟨⟨b0, b1, b2, b3, b4⟩, _⟩ := five_of (HB4.out.rel h); go_simp; try with_reducible rfl
        try simp only [Act.put, List.setIfInBounds_toArray, List.set_cons_zero, List.set_cons_succ]
        refine held_take (i := 6) (v := ?_) (some 55) rfl rfl (by kernel_rfl) (by kernel_rfl) (by kernel_rfl) (fun _ _ _ h => h) (Or.inl ⟨by rfl, ?_⟩) hHeld ?_
        rotate_left 1
        · intro w' (h : Rel W4 w'); obtain ⟨⟨b0, b1, b2, b3, b4⟩, _⟩ := five_of (HB4.out.rel h); go_simp; try with_reducible rfl
        try simp only [Act.put, List.setIfInBounds_toArray, List.set_cons_zero, List.set_cons_succ]
        refine held_take (i := 7) (v := ?_) (some 56) rfl rfl (by kernel_rfl) (by kernel_rfl) (by kernel_rfl) (fun _ _ _ h => h) (Or.inl ⟨by rfl, ?_⟩) hHeld ?_
        rotate_left 1
        · intro w' (h : Rel W4 w'); obtain ⟨⟨b0, b1, b2, b3, b4⟩, _⟩ := five_of (HB4.out.rel h); go_simp; try with_reducible rfl
        try simp only [Act.put, List.setIfInBounds_toArray, List.set_cons_zero, List.set_cons_succ]
        refine held_take (i := 8) (v := ?_) (some 57) rfl rfl (by kernel_rfl) (by kernel_rfl) (by kernel_rfl) (fun _ _ _ h => h) (Or.inl ⟨by rfl, ?_⟩) hHeld ?_
        rotate_left 1
        · intro w' (h : Rel W4 w'); obtain ⟨⟨b0, b1, b2, b3, b4⟩, _⟩ := five_of (HB4.out.rel h); go_simp; try with_reducible rfl
        try simp only [Act.put, List.setIfInBounds_toArray, List.set_cons_zero, List.set_cons_succ]
        refine held_take (i := 9) (v := ?_) (some 58) rfl rfl (by kernel_rfl) (by kernel_rfl) (by kernel_rfl) (fun _ _ _ h => h) (Or.inl ⟨by rfl, ?_⟩) hHeld ?_
        rotate_left 1
        · intro w' (h : Rel W4 w'); obtain ⟨⟨b0, b1, b2, b3, b4⟩, _⟩ := five_of (HB4.out.rel h); go_simp; try with_reducible rfl
        try simp only [Act.put, List.setIfInBounds_toArray, List.set_cons_zero, List.set_cons_succ]
        refine held_take (i := 11) (v := ?_) (some 60) rfl rfl (by kernel_rfl) (by kernel_rfl) (by kernel_rfl) (fun _ _ _ h => h) (Or.inl ⟨by rfl, ?_⟩) hHeld ?_
        rotate_left 1
        · intro w' (h : Rel W4 w'); obtain ⟨⟨b0, b1, b2, b3, b4⟩, _⟩ := five_of (HB4.out.rel h); go_simp; try with_reducible rfl
        try simp only [Act.put, List.setIfInBounds_toArray, List.set_cons_zero, List.set_cons_succ]
        refine held_one (j := 10) (by kernel_rfl) rfl (fun K hK => ?_)
        try simp only [List.getElem_toArray, List.getElem_cons_succ, List.getElem_cons_zero]
        rw [if_pos (by rfl)]
        go_simp
        go_at_call 13
        (with_reducible refine (HR2.out _ hHeld.self).mono ?_)
        rintro e5 w5 ⟨rfl, h5⟩
        refine hK.out _ _ (hHeld.trans h5) (fun hHeld => ?_)
        clear hK K
        try simp only [Act.put, List.setIfInBounds_toArray, List.set_cons_zero, List.set_cons_succ]
        refine held_one (j := 12) (by kernel_rfl) rfl (fun K hK => ?_)
        try simp only [List.getElem_toArray, List.getElem_cons_succ, List.getElem_cons_zero]
        rw [if_pos (by rfl)]
        go_simp
        go_at_call 14
        (with_reducible refine (HQ2.out _ hHeld.self).mono ?_)
        rintro e6 w6 ⟨rfl, h6⟩
        refine hK.out _ _ (hHeld.trans h6) (fun hHeld => ?_)
        clear hK K
        try simp only [Act.put, List.setIfInBounds_toArray, List.set_cons_zero, List.set_cons_succ]
        refine held_take (i := 13) (v := ?_) (some 62) rfl rfl (by kernel_rfl) (by kernel_rfl) (by kernel_rfl) (fun _ _ _ h => h) (Or.inl ⟨by rfl, ?_⟩) hHeld ?_
        rotate_left 1
        · intro w' (h : Rel W4 w'); obtain ⟨⟨b0, b1, b2, b3, b4⟩, _⟩ := five_of (HB4.out.rel h); go_simp; try with_reducible rfl
        try simp only [Act.put, List.setIfInBounds_toArray, List.set_cons_zero, List.set_cons_succ]
        refine held_take (i := 14) (v := ?_) (some 63) rfl rfl (by kernel_rfl) (by kernel_rfl) (by kernel_rfl) (fun _ _ _ h => h) (Or.inl ⟨by rfl, ?_⟩) hHeld ?_
        rotate_left 1
        · intro w' (h : Rel W4 w'); obtain ⟨⟨b0, b1, b2, b3, b4⟩, _⟩ := five_of (HB4.out.rel h); go_simp; try with_reducible rfl
        try simp only [Act.put, List.setIfInBounds_toArray, List.set_cons_zero, List.set_cons_succ]
        refine wpAnyH_done (by kernel_rfl) ?_ _
        go_wp2_with (fail)
        go_roundw
        case rel => exact ⟨1, by omega, rfl, Lib.hid (HW4.out.trans hHeld)⟩
        case measure => simp [RowKit.intOf]
      · skip
        have k0 : wr.cell? ⟨gs, 5, none⟩ = some (.string xa) := (HSl.out.rel HRw.out).cell 5
        have k1 : wr.cell? ⟨gs, 6, none⟩ = some (.int .i64 xn) := (HSl.out.rel HRw.out).cell 6
        have k2 : wr.cell? ⟨gs, 7, none⟩ = some (.string xc) := (HSl.out.rel HRw.out).cell 7
        have k3 : wr.cell? ⟨gs, 8, none⟩ = some (.string xd) := (HSl.out.rel HRw.out).cell 8
        have k4 : wr.cell? ⟨gs, 9, none⟩ = some (.int .i64 xp) := (HSl.out.rel HRw.out).cell 9
        go_upto_region 5 with (fail)
        have G1 := Lib.hid ((HRw.out).alloc (.cells #[.string xa, .int .i64 xn, .string xc, .string xd, .int .i64 xp] 23))
        have HB1 := Lib.hid (Bk.new wr 23 #[.string xa, .int .i64 xn, .string xc, .string xd, .int .i64 xp])
        obtain ⟨gb, hgb⟩ : ∃ g, wr.heap.size = g := ⟨_, rfl⟩
        obtain ⟨V1, hV1⟩ : ∃ V1, wr.alloc (.cells #[.string xa, .int .i64 xn, .string xc, .string xd, .int .i64 xp] 23) = V1 := ⟨_, rfl⟩
        rw [hV1] at G1 HB1
        rw [hgb] at HB1
        try rw [hV1]
        try rw [hgb]
        clear hV1 hgb k0 k1 k2 k3 k4
        obtain ⟨⟨b0, b1, b2, b3, b4⟩, _⟩ := five_of HB1.out
        go_upto_region 7 with (first
          | (go_at_call 11; (with_reducible refine (HE1.out _ G1.out.self).mono ?_); rintro e0 w3 ⟨rfl, h3⟩; have G3 := Lib.hid (G1.out.trans h3); have HB3 := Lib.hid (HB1.out.rel h3); obtain ⟨⟨b0, b1, b2, b3, b4⟩, _⟩ := five_of (HB1.out.rel h3); clear h3)
          | (go_at_call 12; (with_reducible refine (HF1.out _ G3.out.self).mono ?_); rintro e0 W4 ⟨rfl, h4⟩; have HW4 := Lib.hid (G3.out.trans h4); have HB4 := Lib.hid (HB3.out.rel h4); clear h4))
        clear b0 b1 b2 b3 b4
        refine wp_region_held_drew (S := (fun w' => Rel W4 w')) (by kernel_rfl) HW4.out.self.drew (fun hHeld => ?_)
        refine held_take (i := 0) (v := ?_) (some 49) rfl rfl (by kernel_rfl) (by kernel_rfl) (by kernel_rfl) (fun _ _ _ h => h) (Or.inl ⟨by rfl, ?_⟩) hHeld ?_
        rotate_left 1
        · intro w' (h : Rel W4 w'); obtain ⟨⟨b0, b1, b2, b3, b4⟩, _⟩ := five_of (HB4.out.rel h); go_simp; try with_reducible rfl
        try simp only [Act.put, List.setIfInBounds_toArray, List.set_cons_zero, List.set_cons_succ]
        refine held_take (i := 1) (v := ?_) (some 50) rfl rfl (by kernel_rfl) (by kernel_rfl) (by kernel_rfl) (fun _ _ _ h => h) (Or.inl ⟨by rfl, ?_⟩) hHeld ?_
        rotate_left 1
        · intro w' (h : Rel W4 w'); obtain ⟨⟨b0, b1, b2, b3, b4⟩, _⟩ := five_of (HB4.out.rel h); go_simp; try with_reducible rfl
        try simp only [Act.put, List.setIfInBounds_toArray, List.set_cons_zero, List.set_cons_succ]
        refine held_take (i := 2) (v := ?_) (some 51) rfl rfl (by kernel_rfl) (by kernel_rfl) (by kernel_rfl) (fun _ _ _ h => h) (Or.inl ⟨by rfl, ?_⟩) hHeld ?_
        rotate_left 1
        · intro w' (h : Rel W4 w'); obtain ⟨⟨b0, b1, b2, b3, b4⟩, _⟩ := five_of (HB4.out.rel h); go_simp; try with_reducible rfl
        try simp only [Act.put, List.setIfInBounds_toArray, List.set_cons_zero, List.set_cons_succ]
        refine held_take (i := 3) (v := ?_) (some 52) rfl rfl (by kernel_rfl) (by kernel_rfl) (by kernel_rfl) (fun _ _ _ h => h) (Or.inl ⟨by rfl, ?_⟩) hHeld ?_
        rotate_left 1
        · intro w' (h : Rel W4 w'); obtain ⟨⟨b0, b1, b2, b3, b4⟩, _⟩ := five_of (HB4.out.rel h); go_simp; try with_reducible rfl
        try simp only [Act.put, List.setIfInBounds_toArray, List.set_cons_zero, List.set_cons_succ]
        refine held_take (i := 4) (v := ?_) (some 53) rfl rfl (by kernel_rfl) (by kernel_rfl) (by kernel_rfl) (fun _ _ _ h => h) (Or.inl ⟨by rfl, ?_⟩) hHeld ?_
        rotate_left 1
        · intro w' (h : Rel W4 w'); obtain ⟨⟨b0, b1, b2, b3, b4⟩, _⟩ := five_of (HB4.out.rel h); go_simp; try with_reducible rfl
        try simp only [Act.put, List.setIfInBounds_toArray, List.set_cons_zero, List.set_cons_succ]
        refine held_take (i := 5) (v := ?_) (some 54) rfl rfl (by kernel_rfl) (by kernel_rfl) (by kernel_rfl) (fun _ _ _ h => h) (Or.inl ⟨by rfl, ?_⟩) hHeld ?_
        rotate_left 1
        · intro w' (h : Rel W4 w'); obtain ⟨⟨b0, b1, b2, b3, b4⟩, _⟩ := five_of (HB4.out.rel h); go_simp; try with_reducible rfl
        try simp only [Act.put, List.setIfInBounds_toArray, List.set_cons_zero, List.set_cons_succ]
        refine held_take (i := 6) (v := ?_) (some 55) rfl rfl (by kernel_rfl) (by kernel_rfl) (by kernel_rfl) (fun _ _ _ h => h) (Or.inl ⟨by rfl, ?_⟩) hHeld ?_
        rotate_left 1
        · intro w' (h : Rel W4 w'); obtain ⟨⟨b0, b1, b2, b3, b4⟩, _⟩ := five_of (HB4.out.rel h); go_simp; try with_reducible rfl
        try simp only [Act.put, List.setIfInBounds_toArray, List.set_cons_zero, List.set_cons_succ]
        refine held_take (i := 7) (v := ?_) (some 56) rfl rfl (by kernel_rfl) (by kernel_rfl) (by kernel_rfl) (fun _ _ _ h => h) (Or.inl ⟨by rfl, ?_⟩) hHeld ?_
        rotate_left 1
        · intro w' (h : Rel W4 w'); obtain ⟨⟨b0, b1, b2, b3, b4⟩, _⟩ := five_of (HB4.out.rel h); go_simp; try with_reducible rfl
        try simp only [Act.put, List.setIfInBounds_toArray, List.set_cons_zero, List.set_cons_succ]
        refine held_take (i := 8) (v := ?_) (some 57) rfl rfl (by kernel_rfl) (by kernel_rfl) (by kernel_rfl) (fun _ _ _ h => h) (Or.inl ⟨by rfl, ?_⟩) hHeld ?_
        rotate_left 1
        · intro w' (h : Rel W4 w'); obtain ⟨⟨b0, b1, b2, b3, b4⟩, _⟩ := five_of (HB4.out.rel h); go_simp; try with_reducible rfl
        try simp only [Act.put, List.setIfInBounds_toArray, List.set_cons_zero, List.set_cons_succ]
        refine held_take (i := 9) (v := ?_) (some 58) rfl rfl (by kernel_rfl) (by kernel_rfl) (by kernel_rfl) (fun _ _ _ h => h) (Or.inl ⟨by rfl, ?_⟩) hHeld ?_
        rotate_left 1
        · intro w' (h : Rel W4 w'); obtain ⟨⟨b0, b1, b2, b3, b4⟩, _⟩ := five_of (HB4.out.rel h); go_simp; try with_reducible rfl
        try simp only [Act.put, List.setIfInBounds_toArray, List.set_cons_zero, List.set_cons_succ]
        refine held_take (i := 11) (v := ?_) (some 60) rfl rfl (by kernel_rfl) (by kernel_rfl) (by kernel_rfl) (fun _ _ _ h => h) (Or.inl ⟨by rfl, ?_⟩) hHeld ?_
        rotate_left 1
        · intro w' (h : Rel W4 w'); obtain ⟨⟨b0, b1, b2, b3, b4⟩, _⟩ := five_of (HB4.out.rel h); go_simp; try with_reducible rfl
        try simp only [Act.put, List.setIfInBounds_toArray, List.set_cons_zero, List.set_cons_succ]
        refine held_one (j := 10) (by kernel_rfl) rfl (fun K hK => ?_)
        try simp only [List.getElem_toArray, List.getElem_cons_succ, List.getElem_cons_zero]
        rw [if_pos (by rfl)]
        go_simp
        go_at_call 13
        (with_reducible refine (HR1.out _ hHeld.self).mono ?_)
        rintro e5 w5 ⟨rfl, h5⟩
        refine hK.out _ _ (hHeld.trans h5) (fun hHeld => ?_)
        clear hK K
        try simp only [Act.put, List.setIfInBounds_toArray, List.set_cons_zero, List.set_cons_succ]
        refine held_one (j := 12) (by kernel_rfl) rfl (fun K hK => ?_)
        try simp only [List.getElem_toArray, List.getElem_cons_succ, List.getElem_cons_zero]
        rw [if_pos (by rfl)]
        go_simp
        go_at_call 14
        (with_reducible refine (HQ1.out _ hHeld.self).mono ?_)
        rintro e6 w6 ⟨rfl, h6⟩
        refine hK.out _ _ (hHeld.trans h6) (fun hHeld => ?_)
        clear hK K
        try simp only [Act.put, List.setIfInBounds_toArray, List.set_cons_zero, List.set_cons_succ]
        refine held_take (i := 13) (v := ?_) (some 62) rfl rfl (by kernel_rfl) (by kernel_rfl) (by kernel_rfl) (fun _ _ _ h => h) (Or.inl ⟨by rfl, ?_⟩) hHeld ?_
        rotate_left 1
        · intro w' (h : Rel W4 w'); obtain ⟨⟨b0, b1, b2, b3, b4⟩, _⟩ := five_of (HB4.out.rel h); go_simp; try with_reducible rfl
        try simp only [Act.put, List.setIfInBounds_toArray, List.set_cons_zero, List.set_cons_succ]
        refine held_take (i := 14) (v := ?_) (some 63) rfl rfl (by kernel_rfl) (by kernel_rfl) (by kernel_rfl) (fun _ _ _ h => h) (Or.inl ⟨by rfl, ?_⟩) hHeld ?_
        rotate_left 1
        · intro w' (h : Rel W4 w'); obtain ⟨⟨b0, b1, b2, b3, b4⟩, _⟩ := five_of (HB4.out.rel h); go_simp; try with_reducible rfl
        try simp only [Act.put, List.setIfInBounds_toArray, List.set_cons_zero, List.set_cons_succ]
        refine wpAnyH_done (by kernel_rfl) ?_ _
        go_wp2_with (fail)
        go_roundw
        case rel => exact ⟨2, by omega, rfl, Lib.hid (HW4.out.trans hHeld)⟩
        case measure => simp [RowKit.intOf]
      · go_wp2_with (fail)
        go_meet
        exact ⟨_, rfl, Lib.hid HRw.out⟩
  obtain ⟨V2, rfl, R3⟩ := hcut
  have HW3 := Lib.hid (R2.out.trans R3.out)
  obtain ⟨⟨d0, d1, d2, d3, d4⟩, _⟩ := five_of (HX1.out.rel HW3.out)
  go_upto_region 12 with (first
    | (go_at_call 10; (with_reducible refine (HL1.out _ HW3.out.self).mono ?_); rintro e0 w2 ⟨rfl, h2⟩; have HW2 := Lib.hid (HW3.out.trans h2); clear h2)
    | (go_at_call 12; (with_reducible refine (HF1.out _ HW2.out.self).mono ?_); rintro e0 w3 ⟨rfl, h3⟩; have HW5 := Lib.hid (HW2.out.trans h3); clear h3)
    | (go_at_call 15; (with_reducible refine (pick12_as at' ((S.size : Int) + 1) p HP hat.1 hat.2 (by omega) (by omega) _).mono ?_); rintro e w4 ⟨rfl, rfl⟩))
  obtain ⟨k, rfl⟩ : ∃ k : Nat, p = k := ⟨p.toNat, by omega⟩
  have hk : k ≤ S.size := by omega
  obtain ⟨P, E1⟩ : ∃ P, S.extract 0 k = P := ⟨_, rfl⟩
  obtain ⟨Q, E2⟩ : ∃ Q, P ++ M = Q := ⟨_, rfl⟩
  obtain ⟨R', E5⟩ : ∃ R, S.extract k S.size = R := ⟨_, rfl⟩
  obtain ⟨X3, E6⟩ : ∃ X, Q ++ R' = X := ⟨_, rfl⟩
  have zP : P.size ≤ 100 := by rw [← E1, ByteArray.size_extract]; omega
  have zQ : Q.size ≤ 140737488351332 := by rw [← E2, ByteArray.size_append]; omega
  have zR' : R'.size ≤ 100 := by rw [← E5, ByteArray.size_extract]; omega
  have zX3 : X3.size ≤ 140737488351432 := by rw [← E6, ByteArray.size_append]; omega
  obtain ⟨m, hm⟩ : ∃ m : Nat, (if (S.size : Int) < (k : Int) + (M.size : Int) then (S.size : Int) else (k : Int) + (M.size : Int)) = (m : Int) := ⟨min S.size (k + M.size), by split <;> omega⟩
  have hmS : m ≤ S.size := by split at hm <;> omega
  have hm2 : min ((k : Int) + (M.size : Int)) (S.size : Int) = (m : Int) := by split at hm <;> omega
  obtain ⟨R, E3⟩ : ∃ R, S.extract m S.size = R := ⟨_, rfl⟩
  obtain ⟨X2, E4⟩ : ∃ X, Q ++ R = X := ⟨_, rfl⟩
  have zR : R.size ≤ 100 := by rw [← E3, ByteArray.size_extract]; omega
  have zX2 : X2.size ≤ 140737488351432 := by rw [← E4, ByteArray.size_append]; omega
  have hk1 : (k : Int) ≤ (S.size : Int) := by omega
  have hm1 : (m : Int) ≤ (S.size : Int) := by omega
  have c1 : ¬ 9223372036854775807 < P.size + M.size := by omega
  have c2 : ¬ 9223372036854775807 < Q.size + R.size := by omega
  have c3 : ¬ 9223372036854775807 < Q.size + R'.size := by omega
  have hw : IntKind.i64.wrap ((k : Int) + (M.size : Int)) = (k : Int) + (M.size : Int) := by rw [IntKind.wrap_i64]; omega
  have zP5 : P.size ≤ 140737488351432 := by omega
  clear zP zQ zR zR' d0 d1 d2 d3 d4
  go_cut [105, 106, 107] (fun s n i wx => ∃ (V : World) (gs : Nat), V = wx ∧ s = .slice (some ⟨gs, 0, none⟩) 5 5 ∧ n = .int .i64 5 ∧ i = .int .i64 0 ∧ Hid (Rel w3 V) ∧ Hid (Bk V gs 9 #[.string s0, .string S, .string X2, .string X3, .string P]))
  case first =>
    go_region_law (fail)
    go_wp2_with (fail)
    try simp only [Act.put, List.getElem_toArray, List.getElem_cons_succ, List.getElem_cons_zero, List.setIfInBounds_toArray, List.set_cons_zero, List.set_cons_succ]
    go_meet
    exact ⟨_, w3.heap.size, rfl, rfl, rfl, rfl, Lib.hid (HW5.out.self.alloc _).drew, Lib.hid (Bk.new w3 9 #[.string s0, .string S, .string X2, .string X3, .string P]).drew⟩
  obtain ⟨V5, g5, rfl, rfl, rfl, rfl, R5, HS5⟩ := hcut
  obtain ⟨Xs, hXs⟩ : ∃ X : Nat → ByteArray, X = fun j => [s0, S, X2, X3, P].getD j ⟨#[]⟩ := ⟨_, rfl⟩
  have HC := Lib.hid (show ∀ j, j < 5 → V5.cell? ⟨g5, j, none⟩ = some (.string (Xs j)) ∧ (Xs j).size ≤ 140737488351432 from fun j hj => by
    subst hXs
    obtain ⟨⟨b0, b1, b2, b3, b4⟩, _⟩ := five_of HS5.out
    have ways : j = 0 ∨ j = 1 ∨ j = 2 ∨ j = 3 ∨ j = 4 := by omega
    rcases ways with rfl | rfl | rfl | rfl | rfl
    · exact ⟨b0, by show s0.size ≤ _; omega⟩
    · exact ⟨b1, by show S.size ≤ _; omega⟩
    · exact ⟨b2, zX2⟩
    · exact ⟨b3, zX3⟩
    · exact ⟨b4, zP5⟩)
  have HA := Lib.hid (((HA0.out.trans HW1.out).trans HW5.out).trans R5.out)
  clear hXs E1 E2 E3 E4 E5 E6 c1 c2 c3 hw hm hm2 hk1 hm1 zX2 zX3 zP5
  go_upto_block 2 with (fail)
  go_wp2_with (fail)
  go_loopw [107] (fun i wr => ∃ j : Nat, j ≤ 5 ∧ i = .int .i64 (j : Int) ∧ Hid (Rel V5 wr)) (fun i _ => 5 - (RowKit.intOf i).toNat)
  case atStart => exact ⟨0, by omega, rfl, Lib.hid R5.out.self⟩
  case round =>
    obtain ⟨j, hj, rfl, HRw⟩ := hrel
    by_cases hlt : j < 5
    · obtain ⟨hc0, hsz⟩ := HC.out j hlt
      have hc := (HRw.out.2.cell (p := ⟨g5, j, none⟩) HS5.out.lt).trans hc0
      obtain ⟨x, hxx⟩ : ∃ x, Xs j = x := ⟨_, rfl⟩
      rw [hxx] at hc hsz
      clear hc0 hxx
      obtain ⟨l, hl⟩ : ∃ l, x.data.toList = l := ⟨_, rfl⟩
      have hlx : B l = x := by rw [← hl, B_of]
      have hll : l.length ≤ 9223372036854775807 := by have := B_size l; rw [hlx] at this; omega
      obtain ⟨za, zc, zd, zn, zp, hz, _⟩ := mk5 (decV l)
      obtain ⟨de, hde⟩ : ∃ e, decE l = e := ⟨_, rfl⟩
      obtain ⟨dn, hdn⟩ : ∃ e, decN l = e := ⟨_, rfl⟩
      have HD1 := Lib.hid (fun (w1 : World) (hr1 : Rel w1 w1) => dec_at HH.out l x hlx hll _ hz de dn hde hdn w1 hr1)
      have HD2 := Lib.hid (fun (w1 : World) (hr1 : Rel w1 w1) => rdec_at l x hlx hll _ hz de dn hde hdn w1 hr1)
      have EQ : ∀ W : World, (Op.equalIn 10000 23 (.agg #[.string za, .int .i64 zn, .string zc, .string zd, .int .i64 zp]) (.agg #[.string za, .int .i64 zn, .string zc, .string zd, .int .i64 zp])).run Tryd.prog W = .ok true W := fun W => by have := feed_is (decV l) (decV l) za zc zd za zc zd zn zp zn zp hz hz W; simpa using this
      clear hl hlx hll hz hde hdn hsz
      go_upto_region 17 with (first
        | (go_at_call 16; (with_reducible refine (HD1.out _ HRw.out.self).mono ?_); rintro e0 w4 ⟨rfl, h4⟩; have G4 := Lib.hid ((HRw.out.trans h4).alloc (.cells #[.string za, .int .i64 zn, .string zc, .string zd, .int .i64 zp] 23)); have HB4 := Lib.hid (Bk.new w4 23 #[.string za, .int .i64 zn, .string zc, .string zd, .int .i64 zp]); clear h4)
        | (go_at_call 17; (with_reducible refine (HD2.out _ G4.out.self).mono ?_); rintro e0 w5 ⟨rfl, h5⟩; have G5 := Lib.hid ((G4.out.trans h5).alloc (.cells #[.string za, .int .i64 zn, .string zc, .string zd, .int .i64 zp] 23)); have HB5 := Lib.hid ((HB4.out.rel h5).alloc (.cells #[.string za, .int .i64 zn, .string zc, .string zd, .int .i64 zp] 23)); have HC5 := Lib.hid (Bk.new w5 23 #[.string za, .int .i64 zn, .string zc, .string zd, .int .i64 zp]); clear h5))
      obtain ⟨⟨b0, b1, b2, b3, b4⟩, _⟩ := five_of HB5.out
      obtain ⟨⟨a0, a1, a2, a3, a4⟩, _⟩ := five_of HC5.out
      go_wp2_with (fail)
      go_roundw
      case rel => exact ⟨j + 1, by omega, by go_num, Lib.hid G5.out⟩
      case measure => simp [RowKit.intOf]; omega
    · obtain rfl : j = 5 := by omega
      go_wp2_with (fail)
      go_ret
      exact ⟨rfl, HA.out.trans HRw.out⟩
end Go.Proofs.YtkpgplafcoabnaaDoor
