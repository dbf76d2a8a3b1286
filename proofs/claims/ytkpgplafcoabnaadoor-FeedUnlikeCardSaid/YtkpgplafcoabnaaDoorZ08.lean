/- The landed package feed: Right, Encode, Decode; all that the laws ask. -/
import Derived.Test.YtkpgplafcoabnaaDoorZL
import Derived.Test.YtkpgplafcoabnaaDoorZ00
import Derived.Test.YtkpgplafcoabnaaDoorZ01
import Derived.Test.YtkpgplafcoabnaaDoorZ02
import Derived.Test.YtkpgplafcoabnaaDoorZ03
import Derived.Test.YtkpgplafcoabnaaDoorZ06
import Derived.Test.YtkpgplafcoabnaaDoorZ07
namespace Go.Proofs.YtkpgplafcoabnaaDoor
open Go.RowKit Go.Lib
set_option linter.unusedVariables false
set_option linter.unusedSimpArgs false
set_option maxRecDepth 100000 in
set_option maxHeartbeats 4000000 in
theorem fright_any (f : Fd) (hf : FdFit f) (w0 w : World) (hr : Rel w0 w) :
    Calls Tryd.prog 13 #[FV f] w fun r w' => r = .returned (.bool (rightF f)) ∧ Rel w0 w' := by
  have HE := Lib.hid (right_none f)
  obtain ⟨a, n, c, d, p⟩ := f
  have HCt := Lib.hid (fun (w1 : World) (g : Nat) (h : Bk w1 g 45 #[.string (B (nmT a)), .string (B (sqT n)), .string (B (nmT c)), .string (B (nmT d)), .string (B (prT p))]) => lcontains_any (nmT a) (sqT n) (nmT c) (nmT d) (prT p) g 45 w1 h)
  obtain ⟨q, hq⟩ : ∃ q, ([nmT a, sqT n, nmT c, nmT d, prT p].any fun x => decide (x = noneL)) = q := ⟨_, rfl⟩
  have HE := Lib.hid (show rightF (a, n, c, d, p) = !q from by rw [HE.out, ← hq]; rfl)
  rw [hq] at HCt
  have HW := Lib.hid (show ∀ w1 : World, Rel w1 w1 → Calls Tryd.prog 20 #[.agg #[.string (B a), .int .i64 n, .string (B c), .string (B d), .int .i64 p]] w1 fun r w' => r = .returned (.agg #[.string (B (nmT a)), .string (B (sqT n)), .string (B (nmT c)), .string (B (nmT d)), .string (B (prT p))]) ∧ Rel w1 w' from fun w1 h => fwritten_any (a, n, c, d, p) hf w1 w1 h)
  obtain ⟨x0, hx0⟩ : ∃ x, B (nmT a) = x := ⟨_, rfl⟩
  obtain ⟨x1, hx1⟩ : ∃ x, B (sqT n) = x := ⟨_, rfl⟩
  obtain ⟨x2, hx2⟩ : ∃ x, B (nmT c) = x := ⟨_, rfl⟩
  obtain ⟨x3, hx3⟩ : ∃ x, B (nmT d) = x := ⟨_, rfl⟩
  obtain ⟨x4, hx4⟩ : ∃ x, B (prT p) = x := ⟨_, rfl⟩
  rw [hx0, hx1, hx2, hx3, hx4] at HW HCt
  have HA := Lib.hid (hr.alloc (.cells #[.string (B a), .int .i64 n, .string (B c), .string (B d), .int .i64 p] 23))
  have HX := Lib.hid (Bk.new w 23 #[.string (B a), .int .i64 n, .string (B c), .string (B d), .int .i64 p])
  obtain ⟨W, hW⟩ : ∃ W, w.alloc (.cells #[.string (B a), .int .i64 n, .string (B c), .string (B d), .int .i64 p] 23) = W := ⟨_, rfl⟩
  rw [hW] at HA HX
  obtain ⟨⟨c0, c1, c2, c3, c4⟩, _⟩ := five_of HX.out
  clear hr hf hq hx0 hx1 hx2 hx3 hx4
  go_enter Tryd.func13, Tryd.ntmps13
  go_upto_region 1 with (fail)
  try rw [hW]
  clear hW
  go_upto_region 2 with (go_at_call 20; (with_reducible refine (HW.out _ HA.out.self).mono ?_); rintro e1 w1 ⟨rfl, h1⟩; have R1 := Lib.hid h1; clear h1)
  have HL := Lib.hid (Bk.new w1 45 #[.string x0, .string x1, .string x2, .string x3, .string x4])
  have R2 := Lib.hid (R1.out.alloc (.cells #[.string x0, .string x1, .string x2, .string x3, .string x4] 45))
  go_wp2_with (go_at_call 24; (with_reducible refine (HCt.out _ _ HL.out).mono ?_); rintro e2 w2 ⟨rfl, rfl⟩)
  go_ret
  exact ⟨ret_bool HE.out.symm, HA.out.trans R2.out⟩
set_option maxRecDepth 100000 in
set_option maxHeartbeats 4000000 in
theorem fencode_any (f : Fd) (hf : FdFit f) (w0 w : World) (hr : Rel w0 w) :
    Calls Tryd.prog 11 #[FV f] w fun r w' => r = .returned (.tuple #[.string (B (encT f)), .int .i64 (encE f)]) ∧ Rel w0 w' := by
  have HQ := Lib.hid (fun (w1 : World) (h : Rel w1 w1) => fright_any f hf w1 w1 h)
  cases hR : rightF f with
  | false =>
    rw [hR] at HQ
    obtain ⟨e1, e2⟩ := encT_no hR
    rw [e1, e2]
    obtain ⟨a, n, c, d, p⟩ := f
    have HQ := Lib.hid (show ∀ w1 : World, Rel w1 w1 → Calls Tryd.prog 13 #[.agg #[.string (B a), .int .i64 n, .string (B c), .string (B d), .int .i64 p]] w1 fun r w' => r = .returned (.bool false) ∧ Rel w1 w' from HQ.out)
    have HA := Lib.hid (hr.alloc (.cells #[.string (B a), .int .i64 n, .string (B c), .string (B d), .int .i64 p] 23))
    have HX := Lib.hid (Bk.new w 23 #[.string (B a), .int .i64 n, .string (B c), .string (B d), .int .i64 p])
    obtain ⟨W, hW⟩ : ∃ W, w.alloc (.cells #[.string (B a), .int .i64 n, .string (B c), .string (B d), .int .i64 p] 23) = W := ⟨_, rfl⟩
    rw [hW] at HA HX
    obtain ⟨⟨c0, c1, c2, c3, c4⟩, _⟩ := five_of HX.out
    clear hr hf hR e1 e2
    go_enter Tryd.func11, Tryd.ntmps11
    go_upto_region 1 with (fail)
    try rw [hW]
    clear hW
    go_wp2_with (go_at_call 13; (with_reducible refine (HQ.out _ HA.out.self).mono ?_); rintro e w1 ⟨rfl, h1⟩)
    go_ret2
    exact ⟨rfl, HA.out.trans h1⟩
  | true =>
    rw [hR] at HQ
    obtain ⟨e1, e2⟩ := encT_yes hR
    rw [e1, e2]
    have hj := join_right hR
    have hl := fdtext_len hR
    obtain ⟨a, n, c, d, p⟩ := f
    have HQ := Lib.hid (show ∀ w1 : World, Rel w1 w1 → Calls Tryd.prog 13 #[.agg #[.string (B a), .int .i64 n, .string (B c), .string (B d), .int .i64 p]] w1 fun r w' => r = .returned (.bool true) ∧ Rel w1 w' from HQ.out)
    have HJ := Lib.hid (fun (w1 : World) (g : Nat) (hh : Rel w1 w1) (h : Bk w1 g 45 #[.string (B (nmT a)), .string (B (sqT n)), .string (B (nmT c)), .string (B (nmT d)), .string (B (prT p))]) => ljoin_any (nmT a) (sqT n) (nmT c) (nmT d) (prT p) (by have e : joinF [nmT a, sqT n, nmT c, nmT d, prT p] = textF (a, n, c, d, p) := hj; rw [e]; omega) g 45 w1 w1 hh h)
    rw [show joinF [nmT a, sqT n, nmT c, nmT d, prT p] = textF (a, n, c, d, p) from hj] at HJ
    have HW := Lib.hid (show ∀ w1 : World, Rel w1 w1 → Calls Tryd.prog 20 #[.agg #[.string (B a), .int .i64 n, .string (B c), .string (B d), .int .i64 p]] w1 fun r w' => r = .returned (.agg #[.string (B (nmT a)), .string (B (sqT n)), .string (B (nmT c)), .string (B (nmT d)), .string (B (prT p))]) ∧ Rel w1 w' from fun w1 h => fwritten_any (a, n, c, d, p) hf w1 w1 h)
    obtain ⟨x0, hx0⟩ : ∃ x, B (nmT a) = x := ⟨_, rfl⟩
    obtain ⟨x1, hx1⟩ : ∃ x, B (sqT n) = x := ⟨_, rfl⟩
    obtain ⟨x2, hx2⟩ : ∃ x, B (nmT c) = x := ⟨_, rfl⟩
    obtain ⟨x3, hx3⟩ : ∃ x, B (nmT d) = x := ⟨_, rfl⟩
    obtain ⟨x4, hx4⟩ : ∃ x, B (prT p) = x := ⟨_, rfl⟩
    rw [hx0, hx1, hx2, hx3, hx4] at HW HJ
    obtain ⟨S, hS⟩ : ∃ S, B (textF (a, n, c, d, p)) = S := ⟨_, rfl⟩
    rw [hS] at HJ
    have HS := Lib.hid hS
    have HA := Lib.hid (hr.alloc (.cells #[.string (B a), .int .i64 n, .string (B c), .string (B d), .int .i64 p] 23))
    have HX := Lib.hid (Bk.new w 23 #[.string (B a), .int .i64 n, .string (B c), .string (B d), .int .i64 p])
    obtain ⟨W, hW⟩ : ∃ W, w.alloc (.cells #[.string (B a), .int .i64 n, .string (B c), .string (B d), .int .i64 p] 23) = W := ⟨_, rfl⟩
    rw [hW] at HA HX
    obtain ⟨⟨c0, c1, c2, c3, c4⟩, _⟩ := five_of HX.out
    clear hr hf hR e1 e2 hj hl hx0 hx1 hx2 hx3 hx4 hS
    go_enter Tryd.func11, Tryd.ntmps11
    go_upto_region 1 with (fail)
    try rw [hW]
    clear hW
    go_upto_region 4 with (first
      | (go_at_call 13; (with_reducible refine (HQ.out _ HA.out.self).mono ?_); rintro e w1 ⟨rfl, h1⟩; have R1 := Lib.hid h1; obtain ⟨⟨c0, c1, c2, c3, c4⟩, _⟩ := five_of (HX.out.rel h1); clear h1)
      | (go_at_call 20; (with_reducible refine (HW.out _ R1.out.self).mono ?_); rintro e1 w2 ⟨rfl, h2⟩; have R2 := Lib.hid h2; clear h2))
    have HL := Lib.hid (Bk.new w2 45 #[.string x0, .string x1, .string x2, .string x3, .string x4])
    have R3 := Lib.hid (R2.out.alloc (.cells #[.string x0, .string x1, .string x2, .string x3, .string x4] 45))
    go_wp2_with (go_at_call 21; (with_reducible refine (HJ.out _ _ R3.out.self HL.out).mono ?_); rintro e2 w3 ⟨rfl, h3⟩; have R4 := Lib.hid h3; clear h3)
    go_ret2
    exact ⟨by rw [HS.out]; rfl, ((HA.out.trans R1.out).trans R3.out).trans R4.out⟩
end Go.Proofs.YtkpgplafcoabnaaDoor
