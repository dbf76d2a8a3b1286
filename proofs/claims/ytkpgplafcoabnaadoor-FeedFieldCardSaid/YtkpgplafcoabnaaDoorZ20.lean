/- The document's own answers of layer 12: a line's text. -/
import Derived.Test.YtkpgplafcoabnaaDoorZL
import Derived.Test.YtkpgplafcoabnaaDoorZ00
import Derived.Test.YtkpgplafcoabnaaDoorZ01
import Derived.Test.YtkpgplafcoabnaaDoorZ02
import Derived.Test.YtkpgplafcoabnaaDoorZ19
namespace Go.Proofs.YtkpgplafcoabnaaDoor
open Go.RowKit Go.Lib
set_option linter.unusedVariables false
set_option linter.unusedSimpArgs false
theorem cat_text (a c d P : List UInt8) (n : Int) : B a ++ (⟨#[32]⟩ : ByteArray) ++ B (itoa n) ++ (⟨#[32]⟩ : ByteArray) ++ B c ++ (⟨#[32]⟩ : ByteArray) ++ B d ++ (⟨#[32]⟩ : ByteArray) ++ B P = B (a ++ 32 :: (itoa n ++ 32 :: (c ++ 32 :: (d ++ 32 :: P)))) := by
  rw [show (⟨#[32]⟩ : ByteArray) = B [32] from rfl]
  simp only [B_append]
  simp
theorem rnumber12 (n : Int) (h0 : 0 ≤ n) (h1 : n ≤ 9223372036854775807) (w0 w : World) (hr : Rel w0 w) :
    Calls Tryd.prog 23 #[.int .i64 n] w fun e w' => e = .returned (.string (B (itoa n))) ∧ Rel w0 w' := by
  have HC := Lib.hid (digits_any n h0 h1 w0 w hr)
  rw [← itoa_eq n h0] at HC
  go_enter Tryd.func23, Tryd.ntmps23
  go_wp2_with (go_at_call 42; (with_reducible refine HC.out.mono ?_); rintro e w1 ⟨rfl, h1⟩)
  go_ret
  exact ⟨rfl, h1⟩
set_option maxRecDepth 100000 in
set_option maxHeartbeats 8000000 in
theorem rfencode_any (f : Fd) (hf : FdFit f) (w0 w : World) (hr : Rel w0 w) :
    Calls Tryd.prog 12 #[FV f] w fun r w' => r = .returned (.tuple #[.string (B (encT f)), .int .i64 (encE f)]) ∧ Rel w0 w' := by
  obtain ⟨a, n, c, d, p⟩ := f
  have HA := Lib.hid (hr.alloc (.cells #[.string (B a), .int .i64 n, .string (B c), .string (B d), .int .i64 p] 23))
  have HX := Lib.hid (Bk.new w 23 #[.string (B a), .int .i64 n, .string (B c), .string (B d), .int .i64 p])
  obtain ⟨W, hW⟩ : ∃ W, w.alloc (.cells #[.string (B a), .int .i64 n, .string (B c), .string (B d), .int .i64 p] 23) = W := ⟨_, rfl⟩
  rw [hW] at HA HX
  have HQ := Lib.hid (show ∀ w1 : World, Rel W w1 → Calls Tryd.prog 14 #[.agg #[.string (B a), .int .i64 n, .string (B c), .string (B d), .int .i64 p]] w1 fun r w' => r = .returned (.bool (rightF (a, n, c, d, p))) ∧ Rel W w' from fun w1 h1 => rfright_any (a, n, c, d, p) hf W w1 h1)
  obtain ⟨⟨x0, x1, x2, x3, x4⟩, _⟩ := five_of HX.out
  cases hR : rightF (a, n, c, d, p) with
  | false =>
    rw [hR] at HQ
    obtain ⟨e1, e2⟩ := encT_no hR
    rw [e1, e2]
    clear hr hf hR e1 e2
    go_enter Tryd.func12, Tryd.ntmps12
    go_wp2_with (go_at_call 14; (with_reducible refine (HQ.out _ HA.out.self).mono ?_); rintro e w1 ⟨rfl, h1⟩)
    go_ret2
    exact ⟨rfl, HA.out.trans h1⟩
  | true =>
    rw [hR] at HQ
    obtain ⟨e1, e2⟩ := encT_yes hR
    rw [e1, e2]
    obtain ⟨h1, h2, h3, h4, h5⟩ := rightF_iff.1 hR
    simp only at h1 h2 h3 h4 h5
    have la := name_len h1
    have lc := name_len h2
    have ld := name_len h3
    have ln : (itoa n).length ≤ 13 := by rw [itoa_eq n (by omega)]; exact dd_len13 _ (by omega)
    have HN := Lib.hid (fun (w1 : World) (hh : Rel W w1) => rnumber12 n (by omega) (by omega) W w1 hh)
    obtain ⟨N, hN⟩ : ∃ N, itoa n = N := ⟨_, rfl⟩
    have HC := Lib.hid (fun P => cat_text a c d P n)
    have HE := Lib.hid (show textF (a, n, c, d, p) = a ++ 32 :: (itoa n ++ 32 :: (c ++ 32 :: (d ++ 32 :: priceT p))) from rfl)
    rw [hN] at HN HC HE ln
    have sa := B_size a
    have sc := B_size c
    have sd := B_size d
    have sn := B_size N
    clear hr hf hR e1 e2 h1 h2 h3 hN
    by_cases hp : 0 < p
    · have HT := Lib.hid (fun (w1 : World) (hh : Rel W w1) => rtext_any p (by omega) (by omega) W w1 hh)
      have hP : priceT p = txt p := by unfold priceT; rw [if_pos hp]
      have lP : (txt p).length ≤ 16 := by rw [← hP]; exact price_len h5.1 h5.2
      rw [hP] at HE
      obtain ⟨P, hPP⟩ : ∃ P, txt p = P := ⟨_, rfl⟩
      have htx : tx p = B P := by rw [← hPP]; rfl
      rw [hPP] at HE lP
      rw [htx] at HT
      have sp := B_size P
      clear hP hPP htx
      have z0 : ¬ 9223372036854775807 < a.length + 1 := by omega
      have z1 : ¬ 9223372036854775807 < a.length + 1 + N.length := by omega
      have z2 : ¬ 9223372036854775807 < a.length + 1 + N.length + 1 := by omega
      have z3 : ¬ 9223372036854775807 < a.length + 1 + N.length + 1 + c.length := by omega
      have z4 : ¬ 9223372036854775807 < a.length + 1 + N.length + 1 + c.length + 1 := by omega
      have z5 : ¬ 9223372036854775807 < a.length + 1 + N.length + 1 + c.length + 1 + d.length := by omega
      have z6 : ¬ 9223372036854775807 < a.length + 1 + N.length + 1 + c.length + 1 + d.length + 1 := by omega
      have z7 : ¬ 9223372036854775807 < a.length + 1 + N.length + 1 + c.length + 1 + d.length + 1 + P.length := by omega
      go_enter Tryd.func12, Tryd.ntmps12
      go_upto_region 7 with (first
        | (go_at_call 14; (with_reducible refine (HQ.out _ HA.out.self).mono ?_); rintro e w1 ⟨rfl, h1⟩; have Q1 := Lib.hid h1; obtain ⟨⟨x0, x1, x2, x3, x4⟩, _⟩ := five_of (HX.out.rel h1); clear h1)
        | (go_at_call 22; (with_reducible refine (HT.out _ Q1.out).mono ?_); rintro e w2 ⟨rfl, h2⟩; have Q2 := Lib.hid h2; obtain ⟨⟨x0, x1, x2, x3, x4⟩, _⟩ := five_of (HX.out.rel h2); clear h2))
      refine wp_region_held_drew (S := (fun w' => Rel W w')) (by kernel_rfl) Q2.out.drew (fun hHeld => ?_)
      refine held_take (i := 0) (v := ?_) (some 16) rfl rfl (by kernel_rfl) (by kernel_rfl) (by kernel_rfl) (fun _ _ _ h => h) (Or.inl ⟨by rfl, ?_⟩) hHeld ?_
      rotate_left 1
      · intro w' (h : Rel W w'); obtain ⟨⟨x0, x1, x2, x3, x4⟩, _⟩ := five_of (HX.out.rel h); go_simp; try with_reducible rfl
      try simp only [Act.put, List.setIfInBounds_toArray, List.set_cons_zero, List.set_cons_succ]
      refine held_take (i := 1) (v := ?_) (some 17) rfl rfl (by kernel_rfl) (by kernel_rfl) (by kernel_rfl) (fun _ _ _ h => h) (Or.inl ⟨by rfl, ?_⟩) hHeld ?_
      rotate_left 1
      · intro w' (h : Rel W w'); obtain ⟨⟨x0, x1, x2, x3, x4⟩, _⟩ := five_of (HX.out.rel h); go_simp; try with_reducible rfl
      try simp only [Act.put, List.setIfInBounds_toArray, List.set_cons_zero, List.set_cons_succ]
      refine held_take (i := 2) (v := ?_) (some 18) rfl rfl (by kernel_rfl) (by kernel_rfl) (by kernel_rfl) (fun _ _ _ h => h) (Or.inl ⟨by rfl, ?_⟩) hHeld ?_
      rotate_left 1
      · intro w' (h : Rel W w'); obtain ⟨⟨x0, x1, x2, x3, x4⟩, _⟩ := five_of (HX.out.rel h); go_simp; try with_reducible rfl
      try simp only [Act.put, List.setIfInBounds_toArray, List.set_cons_zero, List.set_cons_succ]
      refine held_take (i := 3) (v := ?_) (some 19) rfl rfl (by kernel_rfl) (by kernel_rfl) (by kernel_rfl) (fun _ _ _ h => h) (Or.inl ⟨by rfl, ?_⟩) hHeld ?_
      rotate_left 1
      · intro w' (h : Rel W w'); obtain ⟨⟨x0, x1, x2, x3, x4⟩, _⟩ := five_of (HX.out.rel h); go_simp; try with_reducible rfl
      try simp only [Act.put, List.setIfInBounds_toArray, List.set_cons_zero, List.set_cons_succ]
      refine held_take (i := 4) (v := ?_) (some 20) rfl rfl (by kernel_rfl) (by kernel_rfl) (by kernel_rfl) (fun _ _ _ h => h) (Or.inl ⟨by rfl, ?_⟩) hHeld ?_
      rotate_left 1
      · intro w' (h : Rel W w'); obtain ⟨⟨x0, x1, x2, x3, x4⟩, _⟩ := five_of (HX.out.rel h); go_simp; try with_reducible rfl
      try simp only [Act.put, List.setIfInBounds_toArray, List.set_cons_zero, List.set_cons_succ]
      refine held_take (i := 8) (v := ?_) (some 24) rfl rfl (by kernel_rfl) (by kernel_rfl) (by kernel_rfl) (fun _ _ _ h => h) (Or.inl ⟨by rfl, ?_⟩) hHeld ?_
      rotate_left 1
      · intro w' (h : Rel W w'); obtain ⟨⟨x0, x1, x2, x3, x4⟩, _⟩ := five_of (HX.out.rel h); go_simp; try with_reducible rfl
      try simp only [Act.put, List.setIfInBounds_toArray, List.set_cons_zero, List.set_cons_succ]
      refine held_take (i := 9) (v := ?_) (some 25) rfl rfl (by kernel_rfl) (by kernel_rfl) (by kernel_rfl) (fun _ _ _ h => h) (Or.inl ⟨by rfl, ?_⟩) hHeld ?_
      rotate_left 1
      · intro w' (h : Rel W w'); obtain ⟨⟨x0, x1, x2, x3, x4⟩, _⟩ := five_of (HX.out.rel h); go_simp; try with_reducible rfl
      try simp only [Act.put, List.setIfInBounds_toArray, List.set_cons_zero, List.set_cons_succ]
      refine held_take (i := 12) (v := ?_) (some 28) rfl rfl (by kernel_rfl) (by kernel_rfl) (by kernel_rfl) (fun _ _ _ h => h) (Or.inl ⟨by rfl, ?_⟩) hHeld ?_
      rotate_left 1
      · intro w' (h : Rel W w'); obtain ⟨⟨x0, x1, x2, x3, x4⟩, _⟩ := five_of (HX.out.rel h); go_simp; try with_reducible rfl
      try simp only [Act.put, List.setIfInBounds_toArray, List.set_cons_zero, List.set_cons_succ]
      refine held_take (i := 13) (v := ?_) (some 29) rfl rfl (by kernel_rfl) (by kernel_rfl) (by kernel_rfl) (fun _ _ _ h => h) (Or.inl ⟨by rfl, ?_⟩) hHeld ?_
      rotate_left 1
      · intro w' (h : Rel W w'); obtain ⟨⟨x0, x1, x2, x3, x4⟩, _⟩ := five_of (HX.out.rel h); go_simp; try with_reducible rfl
      try simp only [Act.put, List.setIfInBounds_toArray, List.set_cons_zero, List.set_cons_succ]
      refine held_take (i := 16) (v := ?_) (some 32) rfl rfl (by kernel_rfl) (by kernel_rfl) (by kernel_rfl) (fun _ _ _ h => h) (Or.inl ⟨by rfl, ?_⟩) hHeld ?_
      rotate_left 1
      · intro w' (h : Rel W w'); obtain ⟨⟨x0, x1, x2, x3, x4⟩, _⟩ := five_of (HX.out.rel h); go_simp; try with_reducible rfl
      try simp only [Act.put, List.setIfInBounds_toArray, List.set_cons_zero, List.set_cons_succ]
      refine held_one (j := 5) (by kernel_rfl) rfl (fun K hK => ?_)
      try simp only [List.getElem_toArray, List.getElem_cons_succ, List.getElem_cons_zero]
      rw [if_pos (by rfl)]
      go_simp
      go_at_call 23
      (with_reducible refine (HN.out _ hHeld).mono ?_)
      rintro e w3 ⟨rfl, h3⟩
      refine hK.out _ _ h3 (fun hHeld => ?_)
      clear hK K
      try simp only [Act.put, List.setIfInBounds_toArray, List.set_cons_zero, List.set_cons_succ]
      refine held_take (i := 6) (v := ?_) (some 22) rfl rfl (by kernel_rfl) (by kernel_rfl) (by kernel_rfl) (fun _ _ _ h => h) (Or.inl ⟨by rfl, ?_⟩) hHeld ?_
      rotate_left 1
      · intro w' (h : Rel W w'); obtain ⟨⟨x0, x1, x2, x3, x4⟩, _⟩ := five_of (HX.out.rel h); go_simp; try with_reducible rfl
      try simp only [Act.put, List.setIfInBounds_toArray, List.set_cons_zero, List.set_cons_succ]
      refine held_take (i := 7) (v := ?_) (some 23) rfl rfl (by kernel_rfl) (by kernel_rfl) (by kernel_rfl) (fun _ _ _ h => h) (Or.inl ⟨by rfl, ?_⟩) hHeld ?_
      rotate_left 1
      · intro w' (h : Rel W w'); obtain ⟨⟨x0, x1, x2, x3, x4⟩, _⟩ := five_of (HX.out.rel h); go_simp; try with_reducible rfl
      try simp only [Act.put, List.setIfInBounds_toArray, List.set_cons_zero, List.set_cons_succ]
      refine held_take (i := 10) (v := ?_) (some 26) rfl rfl (by kernel_rfl) (by kernel_rfl) (by kernel_rfl) (fun _ _ _ h => h) (Or.inl ⟨by rfl, ?_⟩) hHeld ?_
      rotate_left 1
      · intro w' (h : Rel W w'); obtain ⟨⟨x0, x1, x2, x3, x4⟩, _⟩ := five_of (HX.out.rel h); go_simp; try with_reducible rfl
      try simp only [Act.put, List.setIfInBounds_toArray, List.set_cons_zero, List.set_cons_succ]
      refine held_take (i := 11) (v := ?_) (some 27) rfl rfl (by kernel_rfl) (by kernel_rfl) (by kernel_rfl) (fun _ _ _ h => h) (Or.inl ⟨by rfl, ?_⟩) hHeld ?_
      rotate_left 1
      · intro w' (h : Rel W w'); obtain ⟨⟨x0, x1, x2, x3, x4⟩, _⟩ := five_of (HX.out.rel h); go_simp; try with_reducible rfl
      try simp only [Act.put, List.setIfInBounds_toArray, List.set_cons_zero, List.set_cons_succ]
      refine held_take (i := 14) (v := ?_) (some 30) rfl rfl (by kernel_rfl) (by kernel_rfl) (by kernel_rfl) (fun _ _ _ h => h) (Or.inl ⟨by rfl, ?_⟩) hHeld ?_
      rotate_left 1
      · intro w' (h : Rel W w'); obtain ⟨⟨x0, x1, x2, x3, x4⟩, _⟩ := five_of (HX.out.rel h); go_simp; try with_reducible rfl
      try simp only [Act.put, List.setIfInBounds_toArray, List.set_cons_zero, List.set_cons_succ]
      refine held_take (i := 15) (v := ?_) (some 31) rfl rfl (by kernel_rfl) (by kernel_rfl) (by kernel_rfl) (fun _ _ _ h => h) (Or.inl ⟨by rfl, ?_⟩) hHeld ?_
      rotate_left 1
      · intro w' (h : Rel W w'); obtain ⟨⟨x0, x1, x2, x3, x4⟩, _⟩ := five_of (HX.out.rel h); go_simp; try with_reducible rfl
      try simp only [Act.put, List.setIfInBounds_toArray, List.set_cons_zero, List.set_cons_succ]
      refine held_take (i := 17) (v := ?_) (some 33) rfl rfl (by kernel_rfl) (by kernel_rfl) (by kernel_rfl) (fun _ _ _ h => h) (Or.inl ⟨by rfl, ?_⟩) hHeld ?_
      rotate_left 1
      · intro w' (h : Rel W w'); obtain ⟨⟨x0, x1, x2, x3, x4⟩, _⟩ := five_of (HX.out.rel h); go_simp; try with_reducible rfl
      try simp only [Act.put, List.setIfInBounds_toArray, List.set_cons_zero, List.set_cons_succ]
      refine held_take (i := 18) (v := ?_) (some 2) rfl rfl (by kernel_rfl) (by kernel_rfl) (by kernel_rfl) (fun _ _ _ h => h) (Or.inl ⟨by rfl, ?_⟩) hHeld ?_
      rotate_left 1
      · intro w' (h : Rel W w'); obtain ⟨⟨x0, x1, x2, x3, x4⟩, _⟩ := five_of (HX.out.rel h); go_simp; try with_reducible rfl
      try simp only [Act.put, List.setIfInBounds_toArray, List.set_cons_zero, List.set_cons_succ]
      refine held_take (i := 19) (v := ?_) (some 3) rfl rfl (by kernel_rfl) (by kernel_rfl) (by kernel_rfl) (fun _ _ _ h => h) (Or.inl ⟨by rfl, ?_⟩) hHeld ?_
      rotate_left 1
      · intro w' (h : Rel W w'); obtain ⟨⟨x0, x1, x2, x3, x4⟩, _⟩ := five_of (HX.out.rel h); go_simp; try with_reducible rfl
      try simp only [Act.put, List.setIfInBounds_toArray, List.set_cons_zero, List.set_cons_succ]
      refine wpAnyH_done (by kernel_rfl) ?_ _
      go_wp2_with (fail)
      go_ret2
      exact ⟨by (rw [HE.out, ← HC.out P]; try rfl), HA.out.trans hHeld⟩
    · have hP : priceT p = goneL := by unfold priceT; rw [if_neg hp]
      have hp' : p ≤ 0 := by omega
      have z0 : ¬ 9223372036854775807 < a.length + 1 := by omega
      have z1 : ¬ 9223372036854775807 < a.length + 1 + N.length := by omega
      have z2 : ¬ 9223372036854775807 < a.length + 1 + N.length + 1 := by omega
      have z3 : ¬ 9223372036854775807 < a.length + 1 + N.length + 1 + c.length := by omega
      have z4 : ¬ 9223372036854775807 < a.length + 1 + N.length + 1 + c.length + 1 := by omega
      have z5 : ¬ 9223372036854775807 < a.length + 1 + N.length + 1 + c.length + 1 + d.length := by omega
      have z6 : ¬ 9223372036854775807 < a.length + 1 + N.length + 1 + c.length + 1 + d.length + 1 := by omega
      have z7 : ¬ 9223372036854775807 < a.length + 1 + N.length + 1 + c.length + 1 + d.length + 1 + 4 := by omega
      rw [hP] at HE
      clear hP
      go_enter Tryd.func12, Tryd.ntmps12
      go_upto_region 7 with (go_at_call 14; (with_reducible refine (HQ.out _ HA.out.self).mono ?_); rintro e w1 ⟨rfl, h1⟩; have Q1 := Lib.hid h1; obtain ⟨⟨x0, x1, x2, x3, x4⟩, _⟩ := five_of (HX.out.rel h1); clear h1)
      refine wp_region_held_drew (S := (fun w' => Rel W w')) (by kernel_rfl) Q1.out.drew (fun hHeld => ?_)
      refine held_take (i := 0) (v := ?_) (some 16) rfl rfl (by kernel_rfl) (by kernel_rfl) (by kernel_rfl) (fun _ _ _ h => h) (Or.inl ⟨by rfl, ?_⟩) hHeld ?_
      rotate_left 1
      · intro w' (h : Rel W w'); obtain ⟨⟨x0, x1, x2, x3, x4⟩, _⟩ := five_of (HX.out.rel h); go_simp; try with_reducible rfl
      try simp only [Act.put, List.setIfInBounds_toArray, List.set_cons_zero, List.set_cons_succ]
      refine held_take (i := 1) (v := ?_) (some 17) rfl rfl (by kernel_rfl) (by kernel_rfl) (by kernel_rfl) (fun _ _ _ h => h) (Or.inl ⟨by rfl, ?_⟩) hHeld ?_
      rotate_left 1
      · intro w' (h : Rel W w'); obtain ⟨⟨x0, x1, x2, x3, x4⟩, _⟩ := five_of (HX.out.rel h); go_simp; try with_reducible rfl
      try simp only [Act.put, List.setIfInBounds_toArray, List.set_cons_zero, List.set_cons_succ]
      refine held_take (i := 2) (v := ?_) (some 18) rfl rfl (by kernel_rfl) (by kernel_rfl) (by kernel_rfl) (fun _ _ _ h => h) (Or.inl ⟨by rfl, ?_⟩) hHeld ?_
      rotate_left 1
      · intro w' (h : Rel W w'); obtain ⟨⟨x0, x1, x2, x3, x4⟩, _⟩ := five_of (HX.out.rel h); go_simp; try with_reducible rfl
      try simp only [Act.put, List.setIfInBounds_toArray, List.set_cons_zero, List.set_cons_succ]
      refine held_take (i := 3) (v := ?_) (some 19) rfl rfl (by kernel_rfl) (by kernel_rfl) (by kernel_rfl) (fun _ _ _ h => h) (Or.inl ⟨by rfl, ?_⟩) hHeld ?_
      rotate_left 1
      · intro w' (h : Rel W w'); obtain ⟨⟨x0, x1, x2, x3, x4⟩, _⟩ := five_of (HX.out.rel h); go_simp; try with_reducible rfl
      try simp only [Act.put, List.setIfInBounds_toArray, List.set_cons_zero, List.set_cons_succ]
      refine held_take (i := 4) (v := ?_) (some 20) rfl rfl (by kernel_rfl) (by kernel_rfl) (by kernel_rfl) (fun _ _ _ h => h) (Or.inl ⟨by rfl, ?_⟩) hHeld ?_
      rotate_left 1
      · intro w' (h : Rel W w'); obtain ⟨⟨x0, x1, x2, x3, x4⟩, _⟩ := five_of (HX.out.rel h); go_simp; try with_reducible rfl
      try simp only [Act.put, List.setIfInBounds_toArray, List.set_cons_zero, List.set_cons_succ]
      refine held_take (i := 8) (v := ?_) (some 24) rfl rfl (by kernel_rfl) (by kernel_rfl) (by kernel_rfl) (fun _ _ _ h => h) (Or.inl ⟨by rfl, ?_⟩) hHeld ?_
      rotate_left 1
      · intro w' (h : Rel W w'); obtain ⟨⟨x0, x1, x2, x3, x4⟩, _⟩ := five_of (HX.out.rel h); go_simp; try with_reducible rfl
      try simp only [Act.put, List.setIfInBounds_toArray, List.set_cons_zero, List.set_cons_succ]
      refine held_take (i := 9) (v := ?_) (some 25) rfl rfl (by kernel_rfl) (by kernel_rfl) (by kernel_rfl) (fun _ _ _ h => h) (Or.inl ⟨by rfl, ?_⟩) hHeld ?_
      rotate_left 1
      · intro w' (h : Rel W w'); obtain ⟨⟨x0, x1, x2, x3, x4⟩, _⟩ := five_of (HX.out.rel h); go_simp; try with_reducible rfl
      try simp only [Act.put, List.setIfInBounds_toArray, List.set_cons_zero, List.set_cons_succ]
      refine held_take (i := 12) (v := ?_) (some 28) rfl rfl (by kernel_rfl) (by kernel_rfl) (by kernel_rfl) (fun _ _ _ h => h) (Or.inl ⟨by rfl, ?_⟩) hHeld ?_
      rotate_left 1
      · intro w' (h : Rel W w'); obtain ⟨⟨x0, x1, x2, x3, x4⟩, _⟩ := five_of (HX.out.rel h); go_simp; try with_reducible rfl
      try simp only [Act.put, List.setIfInBounds_toArray, List.set_cons_zero, List.set_cons_succ]
      refine held_take (i := 13) (v := ?_) (some 29) rfl rfl (by kernel_rfl) (by kernel_rfl) (by kernel_rfl) (fun _ _ _ h => h) (Or.inl ⟨by rfl, ?_⟩) hHeld ?_
      rotate_left 1
      · intro w' (h : Rel W w'); obtain ⟨⟨x0, x1, x2, x3, x4⟩, _⟩ := five_of (HX.out.rel h); go_simp; try with_reducible rfl
      try simp only [Act.put, List.setIfInBounds_toArray, List.set_cons_zero, List.set_cons_succ]
      refine held_take (i := 16) (v := ?_) (some 32) rfl rfl (by kernel_rfl) (by kernel_rfl) (by kernel_rfl) (fun _ _ _ h => h) (Or.inl ⟨by rfl, ?_⟩) hHeld ?_
      rotate_left 1
      · intro w' (h : Rel W w'); obtain ⟨⟨x0, x1, x2, x3, x4⟩, _⟩ := five_of (HX.out.rel h); go_simp; try with_reducible rfl
      try simp only [Act.put, List.setIfInBounds_toArray, List.set_cons_zero, List.set_cons_succ]
      refine held_one (j := 5) (by kernel_rfl) rfl (fun K hK => ?_)
      try simp only [List.getElem_toArray, List.getElem_cons_succ, List.getElem_cons_zero]
      rw [if_pos (by rfl)]
      go_simp
      go_at_call 23
      (with_reducible refine (HN.out _ hHeld).mono ?_)
      rintro e w3 ⟨rfl, h3⟩
      refine hK.out _ _ h3 (fun hHeld => ?_)
      clear hK K
      try simp only [Act.put, List.setIfInBounds_toArray, List.set_cons_zero, List.set_cons_succ]
      refine held_take (i := 6) (v := ?_) (some 22) rfl rfl (by kernel_rfl) (by kernel_rfl) (by kernel_rfl) (fun _ _ _ h => h) (Or.inl ⟨by rfl, ?_⟩) hHeld ?_
      rotate_left 1
      · intro w' (h : Rel W w'); obtain ⟨⟨x0, x1, x2, x3, x4⟩, _⟩ := five_of (HX.out.rel h); go_simp; try with_reducible rfl
      try simp only [Act.put, List.setIfInBounds_toArray, List.set_cons_zero, List.set_cons_succ]
      refine held_take (i := 7) (v := ?_) (some 23) rfl rfl (by kernel_rfl) (by kernel_rfl) (by kernel_rfl) (fun _ _ _ h => h) (Or.inl ⟨by rfl, ?_⟩) hHeld ?_
      rotate_left 1
      · intro w' (h : Rel W w'); obtain ⟨⟨x0, x1, x2, x3, x4⟩, _⟩ := five_of (HX.out.rel h); go_simp; try with_reducible rfl
      try simp only [Act.put, List.setIfInBounds_toArray, List.set_cons_zero, List.set_cons_succ]
      refine held_take (i := 10) (v := ?_) (some 26) rfl rfl (by kernel_rfl) (by kernel_rfl) (by kernel_rfl) (fun _ _ _ h => h) (Or.inl ⟨by rfl, ?_⟩) hHeld ?_
      rotate_left 1
      · intro w' (h : Rel W w'); obtain ⟨⟨x0, x1, x2, x3, x4⟩, _⟩ := five_of (HX.out.rel h); go_simp; try with_reducible rfl
      try simp only [Act.put, List.setIfInBounds_toArray, List.set_cons_zero, List.set_cons_succ]
      refine held_take (i := 11) (v := ?_) (some 27) rfl rfl (by kernel_rfl) (by kernel_rfl) (by kernel_rfl) (fun _ _ _ h => h) (Or.inl ⟨by rfl, ?_⟩) hHeld ?_
      rotate_left 1
      · intro w' (h : Rel W w'); obtain ⟨⟨x0, x1, x2, x3, x4⟩, _⟩ := five_of (HX.out.rel h); go_simp; try with_reducible rfl
      try simp only [Act.put, List.setIfInBounds_toArray, List.set_cons_zero, List.set_cons_succ]
      refine held_take (i := 14) (v := ?_) (some 30) rfl rfl (by kernel_rfl) (by kernel_rfl) (by kernel_rfl) (fun _ _ _ h => h) (Or.inl ⟨by rfl, ?_⟩) hHeld ?_
      rotate_left 1
      · intro w' (h : Rel W w'); obtain ⟨⟨x0, x1, x2, x3, x4⟩, _⟩ := five_of (HX.out.rel h); go_simp; try with_reducible rfl
      try simp only [Act.put, List.setIfInBounds_toArray, List.set_cons_zero, List.set_cons_succ]
      refine held_take (i := 15) (v := ?_) (some 31) rfl rfl (by kernel_rfl) (by kernel_rfl) (by kernel_rfl) (fun _ _ _ h => h) (Or.inl ⟨by rfl, ?_⟩) hHeld ?_
      rotate_left 1
      · intro w' (h : Rel W w'); obtain ⟨⟨x0, x1, x2, x3, x4⟩, _⟩ := five_of (HX.out.rel h); go_simp; try with_reducible rfl
      try simp only [Act.put, List.setIfInBounds_toArray, List.set_cons_zero, List.set_cons_succ]
      refine held_take (i := 17) (v := ?_) (some 33) rfl rfl (by kernel_rfl) (by kernel_rfl) (by kernel_rfl) (fun _ _ _ h => h) (Or.inl ⟨by rfl, ?_⟩) hHeld ?_
      rotate_left 1
      · intro w' (h : Rel W w'); obtain ⟨⟨x0, x1, x2, x3, x4⟩, _⟩ := five_of (HX.out.rel h); go_simp; try with_reducible rfl
      try simp only [Act.put, List.setIfInBounds_toArray, List.set_cons_zero, List.set_cons_succ]
      refine held_take (i := 18) (v := ?_) (some 2) rfl rfl (by kernel_rfl) (by kernel_rfl) (by kernel_rfl) (fun _ _ _ h => h) (Or.inl ⟨by rfl, ?_⟩) hHeld ?_
      rotate_left 1
      · intro w' (h : Rel W w'); obtain ⟨⟨x0, x1, x2, x3, x4⟩, _⟩ := five_of (HX.out.rel h); go_simp; try with_reducible rfl
      try simp only [Act.put, List.setIfInBounds_toArray, List.set_cons_zero, List.set_cons_succ]
      refine held_take (i := 19) (v := ?_) (some 3) rfl rfl (by kernel_rfl) (by kernel_rfl) (by kernel_rfl) (fun _ _ _ h => h) (Or.inl ⟨by rfl, ?_⟩) hHeld ?_
      rotate_left 1
      · intro w' (h : Rel W w'); obtain ⟨⟨x0, x1, x2, x3, x4⟩, _⟩ := five_of (HX.out.rel h); go_simp; try with_reducible rfl
      try simp only [Act.put, List.setIfInBounds_toArray, List.set_cons_zero, List.set_cons_succ]
      refine wpAnyH_done (by kernel_rfl) ?_ _
      go_wp2_with (fail)
      go_ret2
      exact ⟨by (rw [HE.out, ← HC.out goneL]; try rfl), HA.out.trans hHeld⟩
end Go.Proofs.YtkpgplafcoabnaaDoor
