/- FeedBack, over what the program is asked. -/
import Derived.Test.YtkpgplafcoabnaaDoorZL
import Derived.Test.YtkpgplafcoabnaaDoorZ00
import Derived.Test.YtkpgplafcoabnaaDoorZ01
import Derived.Test.YtkpgplafcoabnaaDoorZ02
import Derived.Test.YtkpgplafcoabnaaDoorZ03
import Derived.Test.YtkpgplafcoabnaaDoorZ06
import Derived.Test.YtkpgplafcoabnaaDoorZ11
import Derived.Test.YtkpgplafcoabnaaDoorZ12
import Derived.Test.YtkpgplafcoabnaaDoorZ13
import Derived.Test.YtkpgplafcoabnaaDoorZ15
import Derived.Test.YtkpgplafcoabnaaDoorZ16
namespace Go.Proofs.YtkpgplafcoabnaaDoor
open Go.RowKit Go.Lib
set_option linter.unusedVariables false
set_option linter.unusedSimpArgs false
set_option maxRecDepth 100000 in
set_option maxHeartbeats 4000000 in
theorem FeedBack_at (H : FeedOk) (r0 r1 r2 r3 r4 : Int) (hf : RawFit (r0, r1, r2, r3, r4)) (g : Fd) (hg : FdFit g) (w : World) (hr : Rel w w) :
    Calls Tryd.prog 4 #[.agg #[.int .i64 r0, .int .i64 r1, .int .i64 r2, .int .i64 r3, .int .i64 r4], FV g] w fun e w' => e = .returned (.bool true) ∧ Rel w w' := by
  obtain ⟨f, hff⟩ : ∃ f, lineF (r0, r1, r2, r3, r4) = f := ⟨_, rfl⟩
  have rf : rightF f = true := by rw [← hff]; exact line_right _
  obtain ⟨xa, xc, xd, xn, xp, hx, x0, x1, x2, x3, x4⟩ := mk5 f
  obtain ⟨ya, yc, yd, yn, yp, hy, y0, y1, y2, y3, y4⟩ := mk5 g
  rw [hy]
  have HL1 := Lib.hid (show ∀ w1 : World, Rel w1 w1 → Calls Tryd.prog 10 #[.agg #[.int .i64 r0, .int .i64 r1, .int .i64 r2, .int .i64 r3, .int .i64 r4]] w1 fun e w' => e = .returned (.agg #[.string xa, .int .i64 xn, .string xc, .string xd, .int .i64 xp]) ∧ Rel w1 w' from fun w1 h => line_at (r0, r1, r2, r3, r4) hf (.agg #[.string xa, .int .i64 xn, .string xc, .string xd, .int .i64 xp]) (by rw [hff, hx]) w1 h)
  obtain ⟨S, hS⟩ : ∃ S, B (encT f) = S := ⟨_, rfl⟩
  have HE1 := Lib.hid (fun (w1 : World) (h : Rel w1 w1) => enc_at H f (right_fit rf) _ hx S hS 0 (encT_yes rf).2 w1 h)
  have hd1 := decV_ok (dec_text rf)
  have HD1 := Lib.hid (fun (w1 : World) (hr1 : Rel w1 w1) => dec_at H (textF f) S (by rw [← hS, (encT_yes rf).1]) (by have := fdtext_len rf; omega) _ ((congrArg FV hd1.1).trans hx) 0 0 hd1.2.1 hd1.2.2 w1 hr1)
  have HR1 := Lib.hid (fun (w1 : World) (hr1 : Rel w1 w1) => rig_at H f (right_fit rf) _ hx true rf w1 hr1)
  have HQ1 := Lib.hid (show ∀ W : World, (Op.equalIn 10000 23 (.agg #[.string xa, .int .i64 xn, .string xc, .string xd, .int .i64 xp]) (.agg #[.string xa, .int .i64 xn, .string xc, .string xd, .int .i64 xp])).run Tryd.prog W = .ok true W from fun W => by have := feed_is f f xa xc xd xa xc xd xn xp xn xp hx hx W; simpa using this)
  have HR := Lib.hid hr
  have HAw := Lib.hid (fun (w1 : World) (h : Rel w1 w1) => awake12_any H w1 w1 h)
  have HA0 := Lib.hid ((hr.alloc (.cells #[.int .i64 r0, .int .i64 r1, .int .i64 r2, .int .i64 r3, .int .i64 r4] 24)).alloc (.cells #[.string ya, .int .i64 yn, .string yc, .string yd, .int .i64 yp] 23))
  have HY0 := Lib.hid (show Bk ((w.alloc (.cells #[.int .i64 r0, .int .i64 r1, .int .i64 r2, .int .i64 r3, .int .i64 r4] 24)).alloc (.cells #[.string ya, .int .i64 yn, .string yc, .string yd, .int .i64 yp] 23)) (w.heap.size + 1) 23 #[.string ya, .int .i64 yn, .string yc, .string yd, .int .i64 yp] from by have := Bk.new (w.alloc (.cells #[.int .i64 r0, .int .i64 r1, .int .i64 r2, .int .i64 r3, .int .i64 r4] 24)) 23 #[.string ya, .int .i64 yn, .string yc, .string yd, .int .i64 yp]; rw [World.size_alloc] at this; exact this)
  have HX0 := Lib.hid ((Bk.new w 24 #[.int .i64 r0, .int .i64 r1, .int .i64 r2, .int .i64 r3, .int .i64 r4]).alloc (.cells #[.string ya, .int .i64 yn, .string yc, .string yd, .int .i64 yp] 23))
  obtain ⟨W0, hW0⟩ : ∃ W0, (w.alloc (.cells #[.int .i64 r0, .int .i64 r1, .int .i64 r2, .int .i64 r3, .int .i64 r4] 24)).alloc (.cells #[.string ya, .int .i64 yn, .string yc, .string yd, .int .i64 yp] 23) = W0 := ⟨_, rfl⟩
  rw [hW0] at HA0 HX0 HY0
  have HY2 := Lib.hid hy
  clear hr hf hff hS hx hy hd1 x0 x1 x2 x3 x4 y0 y1 y2 y3 y4
  go_enter Tryd.func4, Tryd.ntmps4
  go_upto_region 1 with (fail)
  try rw [hW0]
  clear hW0
  go_upto_region 2 with (go_at_call 9; (with_reducible refine (HAw.out _ HA0.out.self).mono ?_); rintro e0 W1 ⟨rfl, h1⟩; have HW1 := Lib.hid h1; have HX1 := Lib.hid (HX0.out.rel h1); have HY1 := Lib.hid (HY0.out.rel h1); clear h1)
  go_cut [17, 18, 19] (fun s n i wx => ∃ (V : World) (gs : Nat), V = wx ∧ s = .slice (some ⟨gs, 0, none⟩) 2 2 ∧ n = .int .i64 2 ∧ i = .int .i64 0 ∧ Hid (Rel W1 V) ∧ Hid (Bk V gs 23 #[.string xa, .int .i64 xn, .string xc, .string xd, .int .i64 xp, .string ya, .int .i64 yn, .string yc, .string yd, .int .i64 yp]))
  case first =>
    refine wp_region_held_drew (S := (fun w' => Rel W1 w')) (by kernel_rfl) HW1.out.self.drew (fun hHeld => ?_)
    refine held_take (i := 0) (v := ?_) (some 14) rfl rfl (by kernel_rfl) (by kernel_rfl) (by kernel_rfl) (fun _ _ _ h => h) (Or.inl ⟨by rfl, ?_⟩) hHeld ?_
    rotate_left 1
    · intro w' (h : Rel W1 w'); obtain ⟨⟨c0, c1, c2, c3, c4⟩, _⟩ := five_of (HX1.out.rel h); obtain ⟨⟨d0, d1, d2, d3, d4⟩, _⟩ := five_of (HY1.out.rel h); go_simp; try with_reducible rfl
    try simp only [Act.put, List.setIfInBounds_toArray, List.set_cons_zero, List.set_cons_succ]
    refine held_take (i := 2) (v := ?_) (some 16) rfl rfl (by kernel_rfl) (by kernel_rfl) (by kernel_rfl) (fun _ _ _ h => h) (Or.inl ⟨by rfl, ?_⟩) hHeld ?_
    rotate_left 1
    · intro w' (h : Rel W1 w'); obtain ⟨⟨c0, c1, c2, c3, c4⟩, _⟩ := five_of (HX1.out.rel h); obtain ⟨⟨d0, d1, d2, d3, d4⟩, _⟩ := five_of (HY1.out.rel h); go_simp; try with_reducible rfl
    try simp only [Act.put, List.setIfInBounds_toArray, List.set_cons_zero, List.set_cons_succ]
    refine held_take (i := 5) (v := ?_) (some 19) rfl rfl (by kernel_rfl) (by kernel_rfl) (by kernel_rfl) (fun _ _ _ h => h) (Or.inl ⟨by rfl, ?_⟩) hHeld ?_
    rotate_left 1
    · intro w' (h : Rel W1 w'); obtain ⟨⟨c0, c1, c2, c3, c4⟩, _⟩ := five_of (HX1.out.rel h); obtain ⟨⟨d0, d1, d2, d3, d4⟩, _⟩ := five_of (HY1.out.rel h); go_simp; try with_reducible rfl
    try simp only [Act.put, List.setIfInBounds_toArray, List.set_cons_zero, List.set_cons_succ]
    refine held_one (j := 1) (by kernel_rfl) rfl (fun K hK => ?_)
    try simp only [List.getElem_toArray, List.getElem_cons_succ, List.getElem_cons_zero]
    rw [if_pos (by rfl)]
    go_simp
    go_at_call 10
    (with_reducible refine (HL1.out _ hHeld.self).mono ?_)
    rintro e0 w2 ⟨rfl, h2⟩
    refine hK.out _ _ (hHeld.trans h2) (fun hHeld => ?_)
    clear hK K
    try simp only [Act.put, List.setIfInBounds_toArray, List.set_cons_zero, List.set_cons_succ]
    refine held_one (j := 3) (by kernel_rfl) rfl (fun K hK => ?_)
    try simp only [List.getElem_toArray, List.getElem_cons_succ, List.getElem_cons_zero]
    rw [if_pos (by rfl)]
    go_simp
    refine hK.out _ _ (hHeld.alloc _) (fun hHeld => ?_)
    clear hK K
    try simp only [Act.put, List.setIfInBounds_toArray, List.set_cons_zero, List.set_cons_succ]
    refine held_take (i := 4) (v := ?_) (some 18) rfl rfl (by kernel_rfl) (by kernel_rfl) (by kernel_rfl) (fun _ _ _ h => h) (Or.inl ⟨by rfl, ?_⟩) hHeld ?_
    rotate_left 1
    · intro w' (h : Rel W1 w'); obtain ⟨⟨c0, c1, c2, c3, c4⟩, _⟩ := five_of (HX1.out.rel h); obtain ⟨⟨d0, d1, d2, d3, d4⟩, _⟩ := five_of (HY1.out.rel h); go_simp; try with_reducible rfl
    try simp only [Act.put, List.setIfInBounds_toArray, List.set_cons_zero, List.set_cons_succ]
    refine wpAnyH_done (by kernel_rfl) ?_ _
    go_wp2_with (fail)
    go_meet
    exact ⟨_, w2.heap.size, rfl, rfl, by rfl, rfl, Lib.hid hHeld, Lib.hid (Bk.new w2 23 #[.string xa, .int .i64 xn, .string xc, .string xd, .int .i64 xp, .string ya, .int .i64 yn, .string yc, .string yd, .int .i64 yp])⟩
  obtain ⟨V, gs, rfl, rfl, rfl, rfl, R2, HSl⟩ := hcut
  go_upto_block 0 with (fail)
  go_wp2_with (fail)
  go_loopw [19] (fun i wr => ∃ j : Nat, j ≤ 2 ∧ i = .int .i64 (j : Int) ∧ Hid (Rel V wr)) (fun i _ => 2 - (RowKit.intOf i).toNat)
  case atStart => exact ⟨0, by omega, rfl, Lib.hid R2.out.self⟩
  case round =>
    obtain ⟨j, hj, rfl, HRw⟩ := hrel
    have ways : j = 0 ∨ j = 1 ∨ j = 2 := by omega
    rcases ways with rfl | rfl | rfl
    · skip
      have k0 : wr.cell? ⟨gs, 0, none⟩ = some (.string xa) := (HSl.out.rel HRw.out).cell 0
      have k1 : wr.cell? ⟨gs, 1, none⟩ = some (.int .i64 xn) := (HSl.out.rel HRw.out).cell 1
      have k2 : wr.cell? ⟨gs, 2, none⟩ = some (.string xc) := (HSl.out.rel HRw.out).cell 2
      have k3 : wr.cell? ⟨gs, 3, none⟩ = some (.string xd) := (HSl.out.rel HRw.out).cell 3
      have k4 : wr.cell? ⟨gs, 4, none⟩ = some (.int .i64 xp) := (HSl.out.rel HRw.out).cell 4
      have EQ := HQ1.out
      go_upto_region 5 with (fail)
      have G1 := Lib.hid ((HRw.out).alloc (.cells #[.string xa, .int .i64 xn, .string xc, .string xd, .int .i64 xp] 23))
      have HB1 := Lib.hid (Bk.new wr 23 #[.string xa, .int .i64 xn, .string xc, .string xd, .int .i64 xp])
      obtain ⟨gb, hgb⟩ : ∃ g, wr.heap.size = g := ⟨_, rfl⟩
      obtain ⟨V1, hV1⟩ : ∃ V1, wr.alloc (.cells #[.string xa, .int .i64 xn, .string xc, .string xd, .int .i64 xp] 23) = V1 := ⟨_, rfl⟩
      rw [hV1] at G1 HB1
      rw [hgb] at HB1
      try rw [hV1]
      try rw [hgb]
      clear hV1 hgb k0 k1 k2 k3 k4
      obtain ⟨⟨b0, b1, b2, b3, b4⟩, _⟩ := five_of HB1.out
      go_upto_region 10 with (first
        | (go_at_call 11; (with_reducible refine (HE1.out _ G1.out.self).mono ?_); rintro e0 w3 ⟨rfl, h3⟩; have G3 := Lib.hid (G1.out.trans h3); have HB3 := Lib.hid (HB1.out.rel h3); obtain ⟨⟨b0, b1, b2, b3, b4⟩, _⟩ := five_of (HB1.out.rel h3); clear h3)
        | (go_at_call 16; (with_reducible refine (HD1.out _ G3.out.self).mono ?_); rintro e0 w4 ⟨rfl, h4⟩; have G4 := Lib.hid ((G3.out.trans h4).alloc (.cells #[.string xa, .int .i64 xn, .string xc, .string xd, .int .i64 xp] 23)); have HB4 := Lib.hid ((HB3.out.rel h4).alloc (.cells #[.string xa, .int .i64 xn, .string xc, .string xd, .int .i64 xp] 23)); have HC4 := Lib.hid (Bk.new w4 23 #[.string xa, .int .i64 xn, .string xc, .string xd, .int .i64 xp]); clear h4))
      obtain ⟨gc, hgc⟩ : ∃ g, w4.heap.size = g := ⟨_, rfl⟩
      obtain ⟨V4, hV4⟩ : ∃ V4, w4.alloc (.cells #[.string xa, .int .i64 xn, .string xc, .string xd, .int .i64 xp] 23) = V4 := ⟨_, rfl⟩
      rw [hV4] at G4 HB4 HC4
      rw [hgc] at HC4
      try rw [hV4]
      try rw [hgc]
      clear hV4 hgc b0 b1 b2 b3 b4
      obtain ⟨⟨b0, b1, b2, b3, b4⟩, _⟩ := five_of HB4.out
      obtain ⟨⟨a0, a1, a2, a3, a4⟩, _⟩ := five_of HC4.out
      go_wp2_with (go_at_call 13; (with_reducible refine (HR1.out _ G4.out.self).mono ?_); rintro e0 w5 ⟨rfl, h5⟩; have G5 := Lib.hid (G4.out.trans h5); clear h5)
      go_roundw
      case rel => exact ⟨1, by omega, rfl, Lib.hid G5.out⟩
      case measure => simp [RowKit.intOf]
    · cases rg : rightF g with
      | true =>
        obtain ⟨U, hU⟩ : ∃ U, B (encT g) = U := ⟨_, rfl⟩
        have HE2 := Lib.hid (fun (w1 : World) (h : Rel w1 w1) => enc_at H g (right_fit rg) _ HY2.out U hU 0 (encT_yes rg).2 w1 h)
        have hd1 := decV_ok (dec_text rg)
        have HD2 := Lib.hid (fun (w1 : World) (hr1 : Rel w1 w1) => dec_at H (textF g) U (by rw [← hU, (encT_yes rg).1]) (by have := fdtext_len rg; omega) _ ((congrArg FV hd1.1).trans HY2.out) 0 0 hd1.2.1 hd1.2.2 w1 hr1)
        have HR2 := Lib.hid (fun (w1 : World) (hr1 : Rel w1 w1) => rig_at H g (right_fit rg) _ HY2.out true rg w1 hr1)
        have HQ2 := Lib.hid (show ∀ W : World, (Op.equalIn 10000 23 (.agg #[.string ya, .int .i64 yn, .string yc, .string yd, .int .i64 yp]) (.agg #[.string ya, .int .i64 yn, .string yc, .string yd, .int .i64 yp])).run Tryd.prog W = .ok true W from fun W => by have := feed_is g g ya yc yd ya yc yd yn yp yn yp HY2.out HY2.out W; simpa using this)
        clear hU hd1 rg
        have k0 : wr.cell? ⟨gs, 5, none⟩ = some (.string ya) := (HSl.out.rel HRw.out).cell 5
        have k1 : wr.cell? ⟨gs, 6, none⟩ = some (.int .i64 yn) := (HSl.out.rel HRw.out).cell 6
        have k2 : wr.cell? ⟨gs, 7, none⟩ = some (.string yc) := (HSl.out.rel HRw.out).cell 7
        have k3 : wr.cell? ⟨gs, 8, none⟩ = some (.string yd) := (HSl.out.rel HRw.out).cell 8
        have k4 : wr.cell? ⟨gs, 9, none⟩ = some (.int .i64 yp) := (HSl.out.rel HRw.out).cell 9
        have EQ := HQ2.out
        go_upto_region 5 with (fail)
        have G1 := Lib.hid ((HRw.out).alloc (.cells #[.string ya, .int .i64 yn, .string yc, .string yd, .int .i64 yp] 23))
        have HB1 := Lib.hid (Bk.new wr 23 #[.string ya, .int .i64 yn, .string yc, .string yd, .int .i64 yp])
        obtain ⟨gb, hgb⟩ : ∃ g, wr.heap.size = g := ⟨_, rfl⟩
        obtain ⟨V1, hV1⟩ : ∃ V1, wr.alloc (.cells #[.string ya, .int .i64 yn, .string yc, .string yd, .int .i64 yp] 23) = V1 := ⟨_, rfl⟩
        rw [hV1] at G1 HB1
        rw [hgb] at HB1
        try rw [hV1]
        try rw [hgb]
        clear hV1 hgb k0 k1 k2 k3 k4
        obtain ⟨⟨b0, b1, b2, b3, b4⟩, _⟩ := five_of HB1.out
        go_upto_region 10 with (first
          | (go_at_call 11; (with_reducible refine (HE2.out _ G1.out.self).mono ?_); rintro e0 w3 ⟨rfl, h3⟩; have G3 := Lib.hid (G1.out.trans h3); have HB3 := Lib.hid (HB1.out.rel h3); obtain ⟨⟨b0, b1, b2, b3, b4⟩, _⟩ := five_of (HB1.out.rel h3); clear h3)
          | (go_at_call 16; (with_reducible refine (HD2.out _ G3.out.self).mono ?_); rintro e0 w4 ⟨rfl, h4⟩; have G4 := Lib.hid ((G3.out.trans h4).alloc (.cells #[.string ya, .int .i64 yn, .string yc, .string yd, .int .i64 yp] 23)); have HB4 := Lib.hid ((HB3.out.rel h4).alloc (.cells #[.string ya, .int .i64 yn, .string yc, .string yd, .int .i64 yp] 23)); have HC4 := Lib.hid (Bk.new w4 23 #[.string ya, .int .i64 yn, .string yc, .string yd, .int .i64 yp]); clear h4))
        obtain ⟨gc, hgc⟩ : ∃ g, w4.heap.size = g := ⟨_, rfl⟩
        obtain ⟨V4, hV4⟩ : ∃ V4, w4.alloc (.cells #[.string ya, .int .i64 yn, .string yc, .string yd, .int .i64 yp] 23) = V4 := ⟨_, rfl⟩
        rw [hV4] at G4 HB4 HC4
        rw [hgc] at HC4
        try rw [hV4]
        try rw [hgc]
        clear hV4 hgc b0 b1 b2 b3 b4
        obtain ⟨⟨b0, b1, b2, b3, b4⟩, _⟩ := five_of HB4.out
        obtain ⟨⟨a0, a1, a2, a3, a4⟩, _⟩ := five_of HC4.out
        go_wp2_with (go_at_call 13; (with_reducible refine (HR2.out _ G4.out.self).mono ?_); rintro e0 w5 ⟨rfl, h5⟩; have G5 := Lib.hid (G4.out.trans h5); clear h5)
        go_roundw
        case rel => exact ⟨2, by omega, rfl, Lib.hid G5.out⟩
        case measure => simp [RowKit.intOf]
      | false =>
        have HE2 := Lib.hid (fun (w1 : World) (h : Rel w1 w1) => enc_at H g hg _ HY2.out ⟨#[]⟩ (by rw [(encT_no rg).1]; rfl) 1 (encT_no rg).2 w1 h)
        have HR2 := Lib.hid (fun (w1 : World) (hr1 : Rel w1 w1) => rig_at H g hg _ HY2.out false rg w1 hr1)
        clear rg
        have k0 : wr.cell? ⟨gs, 5, none⟩ = some (.string ya) := (HSl.out.rel HRw.out).cell 5
        have k1 : wr.cell? ⟨gs, 6, none⟩ = some (.int .i64 yn) := (HSl.out.rel HRw.out).cell 6
        have k2 : wr.cell? ⟨gs, 7, none⟩ = some (.string yc) := (HSl.out.rel HRw.out).cell 7
        have k3 : wr.cell? ⟨gs, 8, none⟩ = some (.string yd) := (HSl.out.rel HRw.out).cell 8
        have k4 : wr.cell? ⟨gs, 9, none⟩ = some (.int .i64 yp) := (HSl.out.rel HRw.out).cell 9
        go_upto_region 5 with (fail)
        have G1 := Lib.hid ((HRw.out).alloc (.cells #[.string ya, .int .i64 yn, .string yc, .string yd, .int .i64 yp] 23))
        have HB1 := Lib.hid (Bk.new wr 23 #[.string ya, .int .i64 yn, .string yc, .string yd, .int .i64 yp])
        obtain ⟨gb, hgb⟩ : ∃ g, wr.heap.size = g := ⟨_, rfl⟩
        obtain ⟨V1, hV1⟩ : ∃ V1, wr.alloc (.cells #[.string ya, .int .i64 yn, .string yc, .string yd, .int .i64 yp] 23) = V1 := ⟨_, rfl⟩
        rw [hV1] at G1 HB1
        rw [hgb] at HB1
        try rw [hV1]
        try rw [hgb]
        clear hV1 hgb k0 k1 k2 k3 k4
        obtain ⟨⟨b0, b1, b2, b3, b4⟩, _⟩ := five_of HB1.out
        go_wp2_with (first
          | (go_at_call 11; (with_reducible refine (HE2.out _ G1.out.self).mono ?_); rintro e0 w3 ⟨rfl, h3⟩; have G3 := Lib.hid (G1.out.trans h3); obtain ⟨⟨b0, b1, b2, b3, b4⟩, _⟩ := five_of (HB1.out.rel h3); clear h3)
          | (go_at_call 13; (with_reducible refine (HR2.out _ G3.out.self).mono ?_); rintro e0 w5 ⟨rfl, h5⟩; have G5 := Lib.hid (G3.out.trans h5); clear h5))
        go_roundw
        case rel => exact ⟨2, by omega, rfl, Lib.hid G5.out⟩
        case measure => simp [RowKit.intOf]
    · go_wp2_with (fail)
      go_ret
      exact ⟨rfl, ((HA0.out.trans HW1.out).trans R2.out).trans HRw.out⟩
end Go.Proofs.YtkpgplafcoabnaaDoor
