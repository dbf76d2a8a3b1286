/- FeedNumbers, over what the program is asked. -/
import Derived.Test.YtkpgplafcoabnaaDoorZL
import Derived.Test.YtkpgplafcoabnaaDoorZ00
import Derived.Test.YtkpgplafcoabnaaDoorZ01
import Derived.Test.YtkpgplafcoabnaaDoorZ02
import Derived.Test.YtkpgplafcoabnaaDoorZ03
import Derived.Test.YtkpgplafcoabnaaDoorZ06
import Derived.Test.YtkpgplafcoabnaaDoorZ11
import Derived.Test.YtkpgplafcoabnaaDoorZ13
import Derived.Test.YtkpgplafcoabnaaDoorZ15
import Derived.Test.YtkpgplafcoabnaaDoorZ17
import Derived.Test.YtkpgplafcoabnaaDoorZ21
namespace Go.Proofs.YtkpgplafcoabnaaDoor
open Go.RowKit Go.Lib
set_option linter.unusedVariables false
set_option linter.unusedSimpArgs false
def NumS (W w : World) (g g' : Nat) (X : Array Value) (xa xc xd : ByteArray) (xp : Int) : Prop := Rel W w ∧ Bk w g 23 X ∧ ∃ u, Bk w g' 23 #[.string xa, u, .string xc, .string xd, .int .i64 xp]
theorem NumS.drew {W w : World} {g g' : Nat} {X : Array Value} {xa xc xd : ByteArray} {xp : Int} (h : NumS W w g g' X xa xc xd xp) : NumS W w.drew g g' X xa xc xd xp := by
  obtain ⟨h1, h2, u, h3⟩ := h
  exact ⟨h1.drew, h2.drew, u, h3.drew⟩
theorem NumS.put {W w : World} {g g' : Nat} {X : Array Value} {xa xc xd : ByteArray} {xp : Int} (h : NumS W w g g' X xa xc xd xp) (ne : g ≠ g') (lz : W.heap.size ≤ g') (v : Value) : NumS W (w.setCell ⟨g', 1, none⟩ v) g g' X xa xc xd xp := by
  obtain ⟨h1, h2, u, h3⟩ := h
  exact ⟨h1.setCell (p := ⟨g', 1, none⟩) lz v, h2.far (p := ⟨g', 1, none⟩) ne v, v, h3.set_ 1 v⟩
set_option maxRecDepth 100000 in
set_option maxHeartbeats 4000000 in
theorem FeedNumbers_at (H : FeedOk) (r0 r1 r2 r3 r4 k : Int) (hf : RawFit (r0, r1, r2, r3, r4)) (hk : i64 k) (w : World) (hr : Rel w w) :
    Calls Tryd.prog 8 #[.agg #[.int .i64 r0, .int .i64 r1, .int .i64 r2, .int .i64 r3, .int .i64 r4], .int .i64 k] w fun e w' => e = .returned (.bool true) ∧ Rel w w' := by
  obtain ⟨f, hff⟩ : ∃ f, lineF (r0, r1, r2, r3, r4) = f := ⟨_, rfl⟩
  have rf : rightF f = true := by rw [← hff]; exact line_right _
  have hn : 1 ≤ f.2.1 ∧ f.2.1 ≤ 60 := by
    have := pk_bd r1 60 (by omega)
    rw [← hff]
    show 1 ≤ 1 + pk r1 60 ∧ 1 + pk r1 60 ≤ 60
    omega
  obtain ⟨xa, xc, xd, xn, xp, hx, x0, x1, x2, x3, x4⟩ := mk5 f
  rw [x1] at hn
  have HL1 := Lib.hid (show ∀ w1 : World, Rel w1 w1 → Calls Tryd.prog 10 #[.agg #[.int .i64 r0, .int .i64 r1, .int .i64 r2, .int .i64 r3, .int .i64 r4]] w1 fun e w' => e = .returned (.agg #[.string xa, .int .i64 xn, .string xc, .string xd, .int .i64 xp]) ∧ Rel w1 w' from fun w1 h => line_at (r0, r1, r2, r3, r4) hf (.agg #[.string xa, .int .i64 xn, .string xc, .string xd, .int .i64 xp]) (by rw [hff, hx]) w1 h)
  obtain ⟨S, hS⟩ : ∃ S, B (encT f) = S := ⟨_, rfl⟩
  have HE1 := Lib.hid (fun (w1 : World) (h : Rel w1 w1) => enc_at H f (right_fit rf) _ hx S hS 0 (encT_yes rf).2 w1 h)
  obtain ⟨k3, hk3⟩ : ∃ q, pk k 1000 = q := ⟨_, rfl⟩
  have P1 := Lib.hid hk3
  have b3 := pk_bd k 1000 (by omega)
  rw [hk3] at b3
  simp only [i64] at hk
  obtain ⟨h, hh⟩ : ∃ h : Fd, h = (f.1, xn + 1 + k3, f.2.2.1, f.2.2.2.1, f.2.2.2.2) := ⟨_, rfl⟩
  have rh : rightF h = true := by
    obtain ⟨a1, a2, a3, a4, a5⟩ := rightF_iff.1 rf
    rw [hh]
    exact rightF_iff.2 ⟨a1, a2, a3, by show 1 ≤ xn + 1 + k3 ∧ xn + 1 + k3 ≤ 1000000000000; omega, a5⟩
  have hz : FV h = .agg #[.string xa, .int .i64 (xn + 1 + k3), .string xc, .string xd, .int .i64 xp] := by rw [hh, ← x0, ← x2, ← x3, ← x4]
  obtain ⟨U, hU⟩ : ∃ U, B (encT h) = U := ⟨_, rfl⟩
  have HE2 := Lib.hid (fun (w1 : World) (hr1 : Rel w1 w1) => enc_at H h (right_fit rh) _ hz U hU 0 (encT_yes rh).2 w1 hr1)
  have hd1 := decV_ok (dec_text rf)
  have hd2 := decV_ok (dec_text rh)
  have HD1 := Lib.hid (fun (w1 : World) (hr1 : Rel w1 w1) => dec_at H (textF f) S (by rw [← hS, (encT_yes rf).1]) (by have := fdtext_len rf; omega) _ ((congrArg FV hd1.1).trans hx) 0 0 hd1.2.1 hd1.2.2 w1 hr1)
  have HD2 := Lib.hid (fun (w1 : World) (hr1 : Rel w1 w1) => dec_at H (textF h) U (by rw [← hU, (encT_yes rh).1]) (by have := fdtext_len rh; omega) _ ((congrArg FV hd2.1).trans hz) 0 0 hd2.2.1 hd2.2.2 w1 hr1)
  have SQ := Lib.hid (show (S.toList == U.toList) = false from by
    rw [bt_is, ← hS, ← hU, (encT_yes rf).1, (encT_yes rh).1, decide_eq_false_iff_not]
    intro e
    have e2 := (textF_inj rf rh).1 (B_inj2.1 e)
    have e3 := congrArg (fun x : Fd => x.2.1) e2
    try simp only at e3
    rw [x1, hh] at e3
    try simp only at e3
    omega)
  have hw1 : IntKind.i64.wrap (xn + 1) = xn + 1 := IntWalk.i64_in _ (by omega)
  have hw2 : IntKind.i64.wrap (xn + 1 + k3) = xn + 1 + k3 := IntWalk.i64_in _ (by omega)
  have HR := Lib.hid hr
  have HAw := Lib.hid (fun (w1 : World) (h : Rel w1 w1) => awake12_any H w1 w1 h)
  have HA0 := Lib.hid (hr.alloc (.cells #[.int .i64 r0, .int .i64 r1, .int .i64 r2, .int .i64 r3, .int .i64 r4] 24))
  have HX0 := Lib.hid (Bk.new w 24 #[.int .i64 r0, .int .i64 r1, .int .i64 r2, .int .i64 r3, .int .i64 r4])
  obtain ⟨W0, hW0⟩ : ∃ W0, w.alloc (.cells #[.int .i64 r0, .int .i64 r1, .int .i64 r2, .int .i64 r3, .int .i64 r4] 24) = W0 := ⟨_, rfl⟩
  rw [hW0] at HA0 HX0
  clear hr hk3 hf hS hU hff x0 x1 x2 x3 x4 hx hz hh hd1 hd2
  go_enter Tryd.func8, Tryd.ntmps8
  go_upto_region 1 with (fail)
  try rw [hW0]
  clear hW0
  obtain ⟨⟨c0, c1, c2, c3, c4⟩, _⟩ := five_of HX0.out
  go_upto_region 3 with (first
    | (go_at_call 9; (with_reducible refine (HAw.out _ HA0.out.self).mono ?_); rintro e0 w1 ⟨rfl, h1⟩; have G1 := Lib.hid h1; obtain ⟨⟨c0, c1, c2, c3, c4⟩, _⟩ := five_of (HX0.out.rel h1); clear h1)
    | (go_at_call 10; (with_reducible refine (HL1.out _ G1.out.self).mono ?_); rintro e0 w2 ⟨rfl, h2⟩; have G2 := Lib.hid (G1.out.trans h2); clear h2))
  have G3 := Lib.hid (G2.out.alloc (.cells #[.string xa, .int .i64 xn, .string xc, .string xd, .int .i64 xp] 23))
  have HF3 := Lib.hid (Bk.new w2 23 #[.string xa, .int .i64 xn, .string xc, .string xd, .int .i64 xp])
  have lf0 : W0.heap.size ≤ w2.heap.size := G2.out.size
  obtain ⟨gf, hgf⟩ : ∃ g, w2.heap.size = g := ⟨_, rfl⟩
  obtain ⟨W3, hW3⟩ : ∃ W3, w2.alloc (.cells #[.string xa, .int .i64 xn, .string xc, .string xd, .int .i64 xp] 23) = W3 := ⟨_, rfl⟩
  rw [hW3] at G3 HF3
  rw [hgf] at HF3 lf0
  try rw [hW3]
  try rw [hgf]
  clear hW3 hgf c0 c1 c2 c3 c4
  obtain ⟨⟨f0, f1, f2, f3, f4⟩, _⟩ := five_of HF3.out
  go_upto_region 4 with (fail)
  have G4 := Lib.hid (G3.out.alloc (.cells #[.string xa, .int .i64 xn, .string xc, .string xd, .int .i64 xp] 23))
  have HF4 := Lib.hid (HF3.out.alloc (.cells #[.string xa, .int .i64 xn, .string xc, .string xd, .int .i64 xp] 23))
  have HG4 := Lib.hid (Bk.new W3 23 #[.string xa, .int .i64 xn, .string xc, .string xd, .int .i64 xp])
  have lg : gf < W3.heap.size := HF3.out.lt
  have lz1 : W0.heap.size ≤ W3.heap.size := G3.out.size
  obtain ⟨gg, hgg⟩ : ∃ g, W3.heap.size = g := ⟨_, rfl⟩
  obtain ⟨W4, hW4⟩ : ∃ W4, W3.alloc (.cells #[.string xa, .int .i64 xn, .string xc, .string xd, .int .i64 xp] 23) = W4 := ⟨_, rfl⟩
  rw [hW4] at G4 HF4 HG4
  rw [hgg] at HG4 lg lz1
  try rw [hW4]
  try rw [hgg]
  clear hW4 hgg f0 f1 f2 f3 f4
  have ne1 : gf ≠ gg := by omega
  have HS := Lib.hid (show NumS W0 W4 gf gg #[.string xa, .int .i64 xn, .string xc, .string xd, .int .i64 xp] xa xc xd xp from ⟨G4.out, HF4.out, _, HG4.out⟩)
  go_cut [] (fun wx => ∃ V : World, V = wx ∧ Hid (Rel W0 V) ∧ Hid (Bk V gf 23 #[.string xa, .int .i64 xn, .string xc, .string xd, .int .i64 xp]) ∧ Hid (Bk V gg 23 #[.string xa, .int .i64 (xn + 1 + k3), .string xc, .string xd, .int .i64 xp]))
  case first =>
    refine wp_region_held_drew (S := (fun w' => NumS W0 w' gf gg #[.string xa, .int .i64 xn, .string xc, .string xd, .int .i64 xp] xa xc xd xp)) (by kernel_rfl) HS.out.drew (fun hHeld => ?_)
    refine held_take (i := 0) (v := ?_) (some 22) rfl rfl (by kernel_rfl) (by kernel_rfl) (by kernel_rfl) (fun _ _ _ h => h) (Or.inl ⟨by rfl, ?_⟩) hHeld ?_
    rotate_left 1
    · intro w' (h : NumS W0 w' gf gg #[.string xa, .int .i64 xn, .string xc, .string xd, .int .i64 xp] xa xc xd xp); obtain ⟨⟨c0, c1, c2, c3, c4⟩, _⟩ := five_of h.2.1; go_simp; try with_reducible rfl
    try simp only [Act.put, List.setIfInBounds_toArray, List.set_cons_zero, List.set_cons_succ]
    refine held_take (i := 1) (v := ?_) (some 23) rfl rfl (by kernel_rfl) (by kernel_rfl) (by kernel_rfl) (fun _ _ _ h => h) (Or.inl ⟨by rfl, ?_⟩) hHeld ?_
    rotate_left 1
    · intro w' (h : NumS W0 w' gf gg #[.string xa, .int .i64 xn, .string xc, .string xd, .int .i64 xp] xa xc xd xp); obtain ⟨⟨c0, c1, c2, c3, c4⟩, _⟩ := five_of h.2.1; go_simp; try with_reducible rfl
    try simp only [Act.put, List.setIfInBounds_toArray, List.set_cons_zero, List.set_cons_succ]
    refine held_take (i := 2) (v := ?_) (some 24) rfl rfl (by kernel_rfl) (by kernel_rfl) (by kernel_rfl) (fun _ _ _ h => h) (Or.inl ⟨by rfl, ?_⟩) hHeld ?_
    rotate_left 1
    · intro w' (h : NumS W0 w' gf gg #[.string xa, .int .i64 xn, .string xc, .string xd, .int .i64 xp] xa xc xd xp); obtain ⟨⟨c0, c1, c2, c3, c4⟩, _⟩ := five_of h.2.1; go_simp; try with_reducible rfl
    try simp only [Act.put, List.setIfInBounds_toArray, List.set_cons_zero, List.set_cons_succ]
    refine held_take (i := 3) (v := ?_) (some 25) rfl rfl (by kernel_rfl) (by kernel_rfl) (by kernel_rfl) (fun _ _ _ h => h) (Or.inl ⟨by rfl, ?_⟩) hHeld ?_
    rotate_left 1
    · intro w' (h : NumS W0 w' gf gg #[.string xa, .int .i64 xn, .string xc, .string xd, .int .i64 xp] xa xc xd xp); obtain ⟨⟨c0, c1, c2, c3, c4⟩, _⟩ := five_of h.2.1; go_simp; try with_reducible rfl
    try simp only [Act.put, List.setIfInBounds_toArray, List.set_cons_zero, List.set_cons_succ]
    refine held_one (j := 4) (by kernel_rfl) rfl (fun K hK => ?_)
    try simp only [List.getElem_toArray, List.getElem_cons_succ, List.getElem_cons_zero]
    rw [if_pos (by rfl)]
    go_simp
    go_at_call 15
    (with_reducible refine (pick12_as k 1000 k3 P1 hk.1 hk.2 (by omega) (by omega) _).mono ?_)
    rintro e0 w' ⟨rfl, rfl⟩
    refine hK.out _ _ hHeld (fun hHeld => ?_)
    clear hK K
    try simp only [Act.put, List.setIfInBounds_toArray, List.set_cons_zero, List.set_cons_succ]
    refine held_take (i := 5) (v := ?_) (some 27) rfl rfl (by kernel_rfl) (by kernel_rfl) (by kernel_rfl) (fun _ _ _ h => h) (Or.inl ⟨by rfl, ?_⟩) hHeld ?_
    rotate_left 1
    · intro w' (h : NumS W0 w' gf gg #[.string xa, .int .i64 xn, .string xc, .string xd, .int .i64 xp] xa xc xd xp); obtain ⟨⟨c0, c1, c2, c3, c4⟩, _⟩ := five_of h.2.1; go_simp; try with_reducible rfl
    try simp only [Act.put, List.setIfInBounds_toArray, List.set_cons_zero, List.set_cons_succ]
    refine held_take (i := 6) (v := ?_) (some 28) rfl rfl (by kernel_rfl) (by kernel_rfl) (by kernel_rfl) (fun _ _ _ h => h) (Or.inl ⟨by rfl, ?_⟩) hHeld ?_
    rotate_left 1
    · intro w' (h : NumS W0 w' gf gg #[.string xa, .int .i64 xn, .string xc, .string xd, .int .i64 xp] xa xc xd xp); obtain ⟨⟨c0, c1, c2, c3, c4⟩, _⟩ := five_of h.2.1; go_simp; try with_reducible rfl
    try simp only [Act.put, List.setIfInBounds_toArray, List.set_cons_zero, List.set_cons_succ]
    refine held_one (j := 7) (by kernel_rfl) rfl (fun K hK => ?_)
    try simp only [List.getElem_toArray, List.getElem_cons_succ, List.getElem_cons_zero]
    rw [if_pos (by rfl)]
    obtain ⟨u, hb⟩ := hHeld.2.2
    have HQ := Lib.hid (hb.set_ 1 (.int .i64 (xn + 1 + k3)))
    obtain ⟨⟨y0, y1, y2, y3, y4⟩, y5, y6, y7, y8, y9⟩ := five_of hb
    clear hb
    go_simp
    refine hK.out _ _ (hHeld.put ne1 lz1 _) (fun hHeld => ?_)
    clear hK K
    try simp only [Act.put, List.setIfInBounds_toArray, List.set_cons_zero, List.set_cons_succ]
    refine wpAnyH_done (by kernel_rfl) ?_ _
    go_wp2_with (fail)
    go_meet
    exact ⟨_, rfl, Lib.hid hHeld.1, Lib.hid hHeld.2.1, Lib.hid HQ.out⟩
  obtain ⟨V, rfl, R5, HF5, HG5⟩ := hcut
  clear HS hw1 hw2
  obtain ⟨⟨f0, f1, f2, f3, f4⟩, _⟩ := five_of HF5.out
  go_upto_region 9 with (first
    | (go_at_call 11; (with_reducible refine (HE1.out _ R5.out.self).mono ?_); rintro e0 w6 ⟨rfl, h6⟩; have G6 := Lib.hid (R5.out.trans h6); have HF6 := Lib.hid (HF5.out.rel h6); have HG6 := Lib.hid (HG5.out.rel h6); obtain ⟨⟨v0, v1, v2, v3, v4⟩, _⟩ := five_of (HG5.out.rel h6); clear h6)
    | (go_at_call 11; (with_reducible refine (HE2.out _ G6.out.self).mono ?_); rintro e0 w7 ⟨rfl, h7⟩; have G7 := Lib.hid (G6.out.trans h7); have HF7 := Lib.hid (HF6.out.rel h7); have HG7 := Lib.hid (HG6.out.rel h7); clear h7)
    | (go_at_call 16; (with_reducible refine (HD1.out _ G7.out.self).mono ?_); rintro e0 w8 ⟨rfl, h8⟩; have G8 := Lib.hid ((G7.out.trans h8).alloc (.cells #[.string xa, .int .i64 xn, .string xc, .string xd, .int .i64 xp] 23)); have HF8 := Lib.hid ((HF7.out.rel h8).alloc (.cells #[.string xa, .int .i64 xn, .string xc, .string xd, .int .i64 xp] 23)); have HG8 := Lib.hid ((HG7.out.rel h8).alloc (.cells #[.string xa, .int .i64 xn, .string xc, .string xd, .int .i64 xp] 23)); have HA8 := Lib.hid (Bk.new w8 23 #[.string xa, .int .i64 xn, .string xc, .string xd, .int .i64 xp]); clear h8)
    | (go_at_call 16; (with_reducible refine (HD2.out _ G8.out.self).mono ?_); rintro e0 w9 ⟨rfl, h9⟩; have G9 := Lib.hid ((G8.out.trans h9).alloc (.cells #[.string xa, .int .i64 (xn + 1 + k3), .string xc, .string xd, .int .i64 xp] 23)); have HF9 := Lib.hid ((HF8.out.rel h9).alloc (.cells #[.string xa, .int .i64 (xn + 1 + k3), .string xc, .string xd, .int .i64 xp] 23)); have HG9 := Lib.hid ((HG8.out.rel h9).alloc (.cells #[.string xa, .int .i64 (xn + 1 + k3), .string xc, .string xd, .int .i64 xp] 23)); have HA9 := Lib.hid ((HA8.out.rel h9).alloc (.cells #[.string xa, .int .i64 (xn + 1 + k3), .string xc, .string xd, .int .i64 xp] 23)); have HB9 := Lib.hid (Bk.new w9 23 #[.string xa, .int .i64 (xn + 1 + k3), .string xc, .string xd, .int .i64 xp]); clear h9))
  obtain ⟨⟨f0, f1, f2, f3, f4⟩, _⟩ := five_of HF9.out
  obtain ⟨⟨v0, v1, v2, v3, v4⟩, _⟩ := five_of HG9.out
  obtain ⟨⟨a0, a1, a2, a3, a4⟩, _⟩ := five_of HA9.out
  obtain ⟨⟨b0, b1, b2, b3, b4⟩, _⟩ := five_of HB9.out
  have SQ := SQ.out
  try simp only [List.append_eq, List.cons_append, List.nil_append]
  go_wp2_with (fail)
  go_ret
  exact ⟨by simp, HA0.out.trans G9.out⟩
end Go.Proofs.YtkpgplafcoabnaaDoor
