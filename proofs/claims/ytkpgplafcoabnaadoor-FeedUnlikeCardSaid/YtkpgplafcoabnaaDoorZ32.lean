/- What the laws of layer 12 share; FeedUnlike, over what the program is asked. -/
import Derived.Test.YtkpgplafcoabnaaDoorZL
import Derived.Test.YtkpgplafcoabnaaDoorZ00
import Derived.Test.YtkpgplafcoabnaaDoorZ01
import Derived.Test.YtkpgplafcoabnaaDoorZ02
import Derived.Test.YtkpgplafcoabnaaDoorZ03
import Derived.Test.YtkpgplafcoabnaaDoorZ12
import Derived.Test.YtkpgplafcoabnaaDoorZ13
import Derived.Test.YtkpgplafcoabnaaDoorZ21
namespace Go.Proofs.YtkpgplafcoabnaaDoor
open Go.RowKit Go.Lib
set_option linter.unusedVariables false
set_option linter.unusedSimpArgs false
theorem Bk.far5 {w : World} {g g' : Nat} {t : TypeId} {cs : Array Value} (h : Bk w g t cs) (hp : g ≠ g') (a b c d e : Value) : Bk (((((w.setCell ⟨g', 0, none⟩ a).setCell ⟨g', 1, none⟩ b).setCell ⟨g', 2, none⟩ c).setCell ⟨g', 3, none⟩ d).setCell ⟨g', 4, none⟩ e) g t cs :=
  ((((h.far (p := ⟨g', 0, none⟩) hp a).far (p := ⟨g', 1, none⟩) hp b).far (p := ⟨g', 2, none⟩) hp c).far (p := ⟨g', 3, none⟩) hp d).far (p := ⟨g', 4, none⟩) hp e
set_option maxRecDepth 100000 in
set_option maxHeartbeats 8000000 in
theorem FeedUnlike_at (H : FeedOk) (r0 r1 r2 r3 r4 q0 q1 q2 q3 q4 k : Int) (hf : RawFit (r0, r1, r2, r3, r4)) (hg : RawFit (q0, q1, q2, q3, q4)) (hk : i64 k) (w : World) (hr : Rel w w) :
    Calls Tryd.prog 7 #[.agg #[.int .i64 r0, .int .i64 r1, .int .i64 r2, .int .i64 r3, .int .i64 r4], .agg #[.int .i64 q0, .int .i64 q1, .int .i64 q2, .int .i64 q3, .int .i64 q4], .int .i64 k] w fun e w' => e = .returned (.bool true) ∧ Rel w w' := by
  have HW := Lib.hid (awake12_any H w)
  obtain ⟨f, hff⟩ : ∃ f, lineF (r0, r1, r2, r3, r4) = f := ⟨_, rfl⟩
  obtain ⟨g, hgg⟩ : ∃ g, lineF (q0, q1, q2, q3, q4) = g := ⟨_, rfl⟩
  have rf : rightF f = true := by rw [← hff]; exact line_right _
  have rg : rightF g = true := by rw [← hgg]; exact line_right _
  obtain ⟨xa, xc, xd, xn, xp, hx, x0, x1, x2, x3, x4⟩ := mk5 f
  obtain ⟨ya, yc, yd, yn, yp, hy, y0, y1, y2, y3, y4⟩ := mk5 g
  have HLf := Lib.hid (fun (w1 : World) (h : Rel w1 w1) => line_at (r0, r1, r2, r3, r4) hf (.agg #[.string xa, .int .i64 xn, .string xc, .string xd, .int .i64 xp]) (by rw [hff, hx]) w1 h)
  have HLg := Lib.hid (fun (w1 : World) (h : Rel w1 w1) => line_at (q0, q1, q2, q3, q4) hg (.agg #[.string ya, .int .i64 yn, .string yc, .string yd, .int .i64 yp]) (by rw [hgg, hy]) w1 h)
  have HL1 := Lib.hid (show ∀ w1 : World, Rel w1 w1 → Calls Tryd.prog 10 #[.agg #[.int .i64 r0, .int .i64 r1, .int .i64 r2, .int .i64 r3, .int .i64 r4]] w1 fun e w' => e = .returned (.agg #[.string xa, .int .i64 xn, .string xc, .string xd, .int .i64 xp]) ∧ Rel w1 w' from HLf.out)
  have HL2 := Lib.hid (show ∀ w1 : World, Rel w1 w1 → Calls Tryd.prog 10 #[.agg #[.int .i64 q0, .int .i64 q1, .int .i64 q2, .int .i64 q3, .int .i64 q4]] w1 fun e w' => e = .returned (.agg #[.string ya, .int .i64 yn, .string yc, .string yd, .int .i64 yp]) ∧ Rel w1 w' from HLg.out)
  obtain ⟨S, hS⟩ : ∃ S, B (encT f) = S := ⟨_, rfl⟩
  have HS := Lib.hid hS
  have HE1 := Lib.hid (fun (w1 : World) (h : Rel w1 w1) => enc_at H f (right_fit rf) _ hx S hS 0 (encT_yes rf).2 w1 h)
  obtain ⟨k3, hk3⟩ : ∃ q, pk k 3 = q := ⟨_, rfl⟩
  have P1 := Lib.hid hk3
  obtain ⟨k2, hk2⟩ : ∃ q, pk q4 2 = q := ⟨_, rfl⟩
  have P2 := Lib.hid hk2
  have b2 := pk_bd q4 2 (by omega)
  rw [hk2] at b2
  simp only [i64] at hk
  obtain ⟨_, _, _, _, i4⟩ := hg
  simp only [i64] at i4
  have HR := Lib.hid hr
  have HAw := Lib.hid (fun (w1 : World) (h : Rel w1 w1) => awake12_any H w1 w1 h)
  have HA0 := Lib.hid ((hr.alloc (.cells #[.int .i64 r0, .int .i64 r1, .int .i64 r2, .int .i64 r3, .int .i64 r4] 24)).alloc (.cells #[.int .i64 q0, .int .i64 q1, .int .i64 q2, .int .i64 q3, .int .i64 q4] 24))
  have HY0 := Lib.hid (show Bk ((w.alloc (.cells #[.int .i64 r0, .int .i64 r1, .int .i64 r2, .int .i64 r3, .int .i64 r4] 24)).alloc (.cells #[.int .i64 q0, .int .i64 q1, .int .i64 q2, .int .i64 q3, .int .i64 q4] 24)) (w.heap.size + 1) 24 #[.int .i64 q0, .int .i64 q1, .int .i64 q2, .int .i64 q3, .int .i64 q4] from by have := Bk.new (w.alloc (.cells #[.int .i64 r0, .int .i64 r1, .int .i64 r2, .int .i64 r3, .int .i64 r4] 24)) 24 #[.int .i64 q0, .int .i64 q1, .int .i64 q2, .int .i64 q3, .int .i64 q4]; rw [World.size_alloc] at this; exact this)
  have HX0 := Lib.hid ((Bk.new w 24 #[.int .i64 r0, .int .i64 r1, .int .i64 r2, .int .i64 r3, .int .i64 r4]).alloc (.cells #[.int .i64 q0, .int .i64 q1, .int .i64 q2, .int .i64 q3, .int .i64 q4] 24))
  obtain ⟨W0, hW0⟩ : ∃ W0, (w.alloc (.cells #[.int .i64 r0, .int .i64 r1, .int .i64 r2, .int .i64 r3, .int .i64 r4] 24)).alloc (.cells #[.int .i64 q0, .int .i64 q1, .int .i64 q2, .int .i64 q3, .int .i64 q4] 24) = W0 := ⟨_, rfl⟩
  rw [hW0] at HA0 HX0 HY0
  have HEQ := Lib.hid (fun W => feed_is f g xa xc xd ya yc yd xn xp yn yp hx hy W)
  clear hr hk3 hk2 hf hS HLf HLg
  go_enter Tryd.func7, Tryd.ntmps7
  go_upto_region 1 with (fail)
  try rw [hW0]
  clear hW0
  obtain ⟨⟨c0, c1, c2, c3, c4⟩, _⟩ := five_of HX0.out
  go_upto_region 3 with (first
    | (go_at_call 9; (with_reducible refine (HAw.out _ HA0.out.self).mono ?_); rintro e0 w1 ⟨rfl, h1⟩; have G1 := Lib.hid h1; obtain ⟨⟨c0, c1, c2, c3, c4⟩, _⟩ := five_of (HX0.out.rel h1); clear h1)
    | (go_at_call 10; (with_reducible refine (HL1.out _ G1.out.self).mono ?_); rintro e0 w2 ⟨rfl, h2⟩; have G2 := Lib.hid (G1.out.trans h2); clear h2))
  have G3 := Lib.hid (G2.out.alloc (.cells #[.string xa, .int .i64 xn, .string xc, .string xd, .int .i64 xp] 23))
  have HF3 := Lib.hid (Bk.new w2 23 #[.string xa, .int .i64 xn, .string xc, .string xd, .int .i64 xp])
  obtain ⟨gf, hgf⟩ : ∃ g, w2.heap.size = g := ⟨_, rfl⟩
  obtain ⟨W3, hW3⟩ : ∃ W3, w2.alloc (.cells #[.string xa, .int .i64 xn, .string xc, .string xd, .int .i64 xp] 23) = W3 := ⟨_, rfl⟩
  rw [hW3] at G3 HF3
  rw [hgf] at HF3
  try rw [hW3]
  try rw [hgf]
  clear hW3 hgf c0 c1 c2 c3 c4
  obtain ⟨⟨d0, d1, d2, d3, d4⟩, _⟩ := five_of (HY0.out.rel G3.out)
  go_upto_region 4 with (go_at_call 10; (with_reducible refine (HL2.out _ G3.out.self).mono ?_); rintro e0 w4 ⟨rfl, h4⟩; have G4 := Lib.hid h4; clear h4)
  have HF5 := Lib.hid ((HF3.out.rel G4.out).alloc (.cells #[.string ya, .int .i64 yn, .string yc, .string yd, .int .i64 yp] 23))
  have G5 := Lib.hid ((G3.out.trans G4.out).alloc (.cells #[.string ya, .int .i64 yn, .string yc, .string yd, .int .i64 yp] 23))
  have HG5 := Lib.hid (Bk.new w4 23 #[.string ya, .int .i64 yn, .string yc, .string yd, .int .i64 yp])
  have lg : gf < w4.heap.size := (HF3.out.rel G4.out).lt
  have l0 : W0.heap.size ≤ w4.heap.size := (G3.out.trans G4.out).size
  obtain ⟨gg, hgg2⟩ : ∃ g, w4.heap.size = g := ⟨_, rfl⟩
  obtain ⟨W5, hW5⟩ : ∃ W5, w4.alloc (.cells #[.string ya, .int .i64 yn, .string yc, .string yd, .int .i64 yp] 23) = W5 := ⟨_, rfl⟩
  rw [hW5] at G5 HF5 HG5
  rw [hgg2] at HG5 lg l0
  try rw [hW5]
  try rw [hgg2]
  clear hW5 hgg2 d0 d1 d2 d3 d4
  obtain ⟨⟨d0, d1, d2, d3, d4⟩, _⟩ := five_of (HY0.out.rel G5.out)
  obtain ⟨⟨f0, f1, f2, f3, f4⟩, _⟩ := five_of HF5.out
  obtain ⟨⟨v0, v1, v2, v3, v4⟩, v5, v6, v7, v8, v9⟩ := five_of HG5.out
  by_cases h3 : k3 = 0
  · subst h3
    obtain ⟨h, hh⟩ : ∃ h : Fd, h = (f.1, f.2.1, f.2.2.1, f.2.2.2.1, k2) := ⟨_, rfl⟩
    have rh : rightF h = true := by
      obtain ⟨a1, a2, a3, a4, a5⟩ := rightF_iff.1 rf
      rw [hh]
      exact rightF_iff.2 ⟨a1, a2, a3, a4, by show 0 ≤ k2 ∧ k2 ≤ 1000000000000; omega⟩
    have hz : FV h = .agg #[.string xa, .int .i64 xn, .string xc, .string xd, .int .i64 k2] := by rw [hh, ← x0, ← x1, ← x2, ← x3]
    obtain ⟨U, hU⟩ : ∃ U, B (encT h) = U := ⟨_, rfl⟩
    have HE2 := Lib.hid (fun (w1 : World) (hr1 : Rel w1 w1) => enc_at H h (right_fit rh) _ hz U hU 0 (encT_yes rh).2 w1 hr1)
    obtain ⟨q, hq⟩ : ∃ q, decide (f = h) = q := ⟨_, rfl⟩
    have SQ := Lib.hid (show (S.toList == U.toList) = q from by rw [bt_is, ← HS.out, ← hU, ← hq, (encT_yes rf).1, (encT_yes rh).1, decide_eq_decide]; exact (B_inj2.trans (textF_inj rf rh)))
    have HEQ2 := Lib.hid (fun W => feed_is f h xa xc xd xa xc xd xn xp xn k2 hx hz W)
    rw [hq] at HEQ2
    have hgW : W0.heap.size ≤ gg := by omega
    have hgz : w.heap.size + 1 < gg := by have := HY0.out.lt; omega
    clear hh hU hq
    go_upto_region 6 with (go_at_call 15; (with_reducible refine (pick12_as k 3 0 P1 hk.1 hk.2 (by omega) (by omega) _).mono ?_); rintro e0 w' ⟨rfl, rfl⟩)
    have R6 := Lib.hid (G5.out.put5 hgW (.string xa) (.int .i64 xn) (.string xc) (.string xd) (.int .i64 xp))
    have HG6 := Lib.hid (HG5.out.put5 (.string xa) (.int .i64 xn) (.string xc) (.string xd) (.int .i64 xp))
    have HF6 := Lib.hid (HF5.out.far5 (show gf ≠ gg by omega) (.string xa) (.int .i64 xn) (.string xc) (.string xd) (.int .i64 xp))
    obtain ⟨W6, hW6⟩ : ∃ W6, ((((W5.setCell ⟨gg, 0, none⟩ (.string xa)).setCell ⟨gg, 1, none⟩ (.int .i64 xn)).setCell ⟨gg, 2, none⟩ (.string xc)).setCell ⟨gg, 3, none⟩ (.string xd)).setCell ⟨gg, 4, none⟩ (.int .i64 xp) = W6 := ⟨_, rfl⟩
    rw [hW6] at R6 HG6 HF6
    try rw [hW6]
    clear hW6 d0 d1 d2 d3 d4 f0 f1 f2 f3 f4 v0 v1 v2 v3 v4 v5 v6 v7 v8 v9
    obtain ⟨⟨d0, d1, d2, d3, d4⟩, _⟩ := five_of (HY0.out.rel R6.out)
    obtain ⟨⟨v0, v1, v2, v3, v4⟩, v5, v6, v7, v8, v9⟩ := five_of HG6.out
    go_upto_region 7 with (go_at_call 15; (with_reducible refine (pick12_as q4 2 k2 P2 i4.1 i4.2 (by omega) (by omega) _).mono ?_); rintro e0 w' ⟨rfl, rfl⟩)
    have R7 := Lib.hid (R6.out.setCell (p := ⟨gg, 4, none⟩) hgW (.int .i64 k2))
    have HG7 := Lib.hid (HG6.out.set_ 4 (.int .i64 k2))
    have HF7 := Lib.hid (HF6.out.far (p := ⟨gg, 4, none⟩) (show gf ≠ gg by omega) (.int .i64 k2))
    obtain ⟨W7, hW7⟩ : ∃ W7, W6.setCell ⟨gg, 4, none⟩ (.int .i64 k2) = W7 := ⟨_, rfl⟩
    rw [hW7] at R7 HG7 HF7
    try rw [hW7]
    clear hW7 d0 d1 d2 d3 d4 v0 v1 v2 v3 v4 v5 v6 v7 v8 v9
    have HG7 := Lib.hid (show Bk W7 gg 23 #[.string xa, .int .i64 xn, .string xc, .string xd, .int .i64 k2] from HG7.out)
    obtain ⟨⟨f0, f1, f2, f3, f4⟩, _⟩ := five_of HF7.out
    have EQ := HEQ2.out
    go_upto_region 9 with (first
      | (go_at_call 11; (with_reducible refine (HE1.out _ R7.out.self).mono ?_); rintro e0 w8 ⟨rfl, h8⟩; have G8 := Lib.hid h8; obtain ⟨⟨v0, v1, v2, v3, v4⟩, _⟩ := five_of (HG7.out.rel h8); clear h8)
      | (go_at_call 11; (with_reducible refine (HE2.out _ G8.out.self).mono ?_); rintro e0 w9 ⟨rfl, h9⟩; have G9 := Lib.hid h9; obtain ⟨⟨f0, f1, f2, f3, f4⟩, _⟩ := five_of ((HF7.out.rel G8.out).rel h9); obtain ⟨⟨v0, v1, v2, v3, v4⟩, _⟩ := five_of ((HG7.out.rel G8.out).rel h9); clear h9))
    have SQ := SQ.out
    go_wp2_with (fail)
    go_ret
    exact ⟨by simp, ((HA0.out.trans R7.out).trans G8.out).trans G9.out⟩
  · have hb3 : (k3 == 0) = false := by simpa using h3
    obtain ⟨U, hU⟩ : ∃ U, B (encT g) = U := ⟨_, rfl⟩
    have HE2 := Lib.hid (fun (w1 : World) (h : Rel w1 w1) => enc_at H g (right_fit rg) _ hy U hU 0 (encT_yes rg).2 w1 h)
    obtain ⟨q, hq⟩ : ∃ q, decide (f = g) = q := ⟨_, rfl⟩
    have SQ : (S.toList == U.toList) = q := by rw [bt_is, ← HS.out, ← hU, ← hq, (encT_yes rf).1, (encT_yes rg).1, decide_eq_decide]; exact (B_inj2.trans (textF_inj rf rg))
    rw [hq] at HEQ
    have EQ := HEQ.out
    have HF6 := HF5
    clear h3 hU hq
    go_wp2_with (first
      | (go_at_call 15; (with_reducible refine (pick12_as k 3 k3 P1 hk.1 hk.2 (by omega) (by omega) _).mono ?_); rintro e0 w' ⟨rfl, rfl⟩)
      | (go_at_call 11; (with_reducible refine (HE1.out _ G5.out.self).mono ?_); rintro e0 w6 ⟨rfl, h6⟩; have G6 := Lib.hid h6; obtain ⟨⟨f0, f1, f2, f3, f4⟩, _⟩ := five_of (HF5.out.rel h6); obtain ⟨⟨v0, v1, v2, v3, v4⟩, _⟩ := five_of (HG5.out.rel h6); clear h6)
      | (go_at_call 11; (with_reducible refine (HE2.out _ G6.out.self).mono ?_); rintro e0 w7 ⟨rfl, h7⟩; have G7 := Lib.hid h7; obtain ⟨⟨f0, f1, f2, f3, f4⟩, _⟩ := five_of ((HF5.out.rel G6.out).rel h7); obtain ⟨⟨v0, v1, v2, v3, v4⟩, _⟩ := five_of ((HG5.out.rel G6.out).rel h7); clear h7))
    go_ret
    exact ⟨by simp, ((HA0.out.trans G5.out).trans G6.out).trans G7.out⟩
end Go.Proofs.YtkpgplafcoabnaaDoor
