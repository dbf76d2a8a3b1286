/- The document's own answers of layer 12: what a text says. -/
import Derived.Test.YtkpgplafcoabnaaDoorZL
import Derived.Test.YtkpgplafcoabnaaDoorZ00
import Derived.Test.YtkpgplafcoabnaaDoorZ01
import Derived.Test.YtkpgplafcoabnaaDoorZ19
import Derived.Test.YtkpgplafcoabnaaDoorZ29
namespace Go.Proofs.YtkpgplafcoabnaaDoor
open Go.RowKit Go.Lib
set_option linter.unusedVariables false
set_option linter.unusedSimpArgs false
theorem first5_bad {a b c d e : List UInt8} {Q : Nat → Bool} (hQ : Q 0 = okF 0 a ∧ Q 1 = okF 1 b ∧ Q 2 = okF 2 c ∧ Q 3 = okF 3 d ∧ Q 4 = okF 4 e) {j : Nat} (hj : j < 5) (h : ∀ k, k < j → Q k = true) (hb : Q j = false) : firstF 0 [a, b, c, d, e] = some j := by
  obtain ⟨q0, q1, q2, q3, q4⟩ := hQ
  have ways : j = 0 ∨ j = 1 ∨ j = 2 ∨ j = 3 ∨ j = 4 := by omega
  simp only [firstF]
  rcases ways with rfl | rfl | rfl | rfl | rfl
  · rw [← q0, hb]; rfl
  · rw [← q0, h 0 (by omega), ← q1, hb]; rfl
  · rw [← q0, h 0 (by omega), ← q1, h 1 (by omega), ← q2, hb]; rfl
  · rw [← q0, h 0 (by omega), ← q1, h 1 (by omega), ← q2, h 2 (by omega), ← q3, hb]; rfl
  · rw [← q0, h 0 (by omega), ← q1, h 1 (by omega), ← q2, h 2 (by omega), ← q3, h 3 (by omega), ← q4, hb]; rfl
theorem first5_good {a b c d e : List UInt8} {Q : Nat → Bool} (hQ : Q 0 = okF 0 a ∧ Q 1 = okF 1 b ∧ Q 2 = okF 2 c ∧ Q 3 = okF 3 d ∧ Q 4 = okF 4 e) (h : ∀ k, k < 5 → Q k = true) : firstF 0 [a, b, c, d, e] = none := by
  obtain ⟨q0, q1, q2, q3, q4⟩ := hQ
  simp only [firstF]
  rw [← q0, h 0 (by omega), ← q1, h 1 (by omega), ← q2, h 2 (by omega), ← q3, h 3 (by omega), ← q4, h 4 (by omega)]; rfl
theorem q_more {Q : Nat → Bool} {j : Nat} (h : ∀ k, k < j → Q k = true) (hj : Q j = true) : ∀ k, k < j + 1 → Q k = true := fun k hk => by
  rcases Nat.lt_or_ge k j with h2 | h2
  · exact h k h2
  · obtain rfl : k = j := by omega
    exact hj
set_option maxRecDepth 100000 in
set_option maxHeartbeats 4000000 in
theorem rfdec_long (s : List UInt8) (hl : s.length ≤ 9223372036854775807) (h : 100 < s.length) (w0 w : World) (hr : Rel w0 w) :
    Calls Tryd.prog 17 #[.string (B s)] w (DecPost w0 s) := by
  have hd : decF s = .error (60, 0) := by unfold decF; rw [if_pos h]
  have HD := Lib.hid (decV_bad hd)
  have HA := Lib.hid (hr.alloc (.cells #[.string ⟨#[]⟩, .int .i64 0, .string ⟨#[]⟩, .string ⟨#[]⟩, .int .i64 0] 23))
  have HX := Lib.hid (Bk.new w 23 #[.string ⟨#[]⟩, .int .i64 0, .string ⟨#[]⟩, .string ⟨#[]⟩, .int .i64 0])
  have hz := hr.size
  have hs := B_size s
  obtain ⟨⟨r0, r1, r2, r3, r4⟩, _⟩ := five_of HX.out
  have t1 : decide ((100 : Int) < (s.length : Int)) = true := decide_eq_true (by omega)
  have h9 : (100 : Int) < (s.length : Int) := by omega
  clear hr hd h hl
  go_enter Tryd.func17, Tryd.ntmps17
  go_wp2_with (fail)
  exact bodyPost_ret (v := .tuple #[.agg #[.string ⟨#[]⟩, .int .i64 0, .string ⟨#[]⟩, .string ⟨#[]⟩, .int .i64 0], .int .i64 60, .int .i64 0]) (by simp [results, Tryd.results17, go_sem, r0, r1, r2, r3, r4]) rfl ⟨by rw [HD.out.1, HD.out.2.1, HD.out.2.2]; rfl, HA.out⟩
set_option maxRecDepth 100000 in
set_option maxHeartbeats 4000000 in
theorem rfdec_not (s : List UInt8) (h : s.length ≤ 100) (h5 : (fieldsF s).length ≠ 5) (w0 w : World) (hr : Rel w0 w) :
    Calls Tryd.prog 17 #[.string (B s)] w (DecPost w0 s) := by
  have hd : decF s = .error (111, 0) := by
    unfold decF
    rw [if_neg (by omega)]
    match hf : fieldsF s, h5 with
    | [], _ => rfl
    | [_], _ => rfl
    | [_, _], _ => rfl
    | [_, _, _], _ => rfl
    | [_, _, _, _], _ => rfl
    | [_, _, _, _, _], h => exact absurd rfl h
    | _ :: _ :: _ :: _ :: _ :: _ :: _, _ => rfl
  have HD := Lib.hid (decV_bad hd)
  have HA := Lib.hid (hr.alloc (.cells #[.string ⟨#[]⟩, .int .i64 0, .string ⟨#[]⟩, .string ⟨#[]⟩, .int .i64 0] 23))
  have HX := Lib.hid (Bk.new w 23 #[.string ⟨#[]⟩, .int .i64 0, .string ⟨#[]⟩, .string ⟨#[]⟩, .int .i64 0])
  have hz := hr.size
  obtain ⟨W, hW⟩ : ∃ W, w.alloc (.cells #[.string ⟨#[]⟩, .int .i64 0, .string ⟨#[]⟩, .string ⟨#[]⟩, .int .i64 0] 23) = W := ⟨_, rfl⟩
  rw [hW] at HA HX
  have HF := Lib.hid (rffields_any s h w0 W HA.out)
  have hs := B_size s
  obtain ⟨L, hL⟩ : ∃ L, (fieldsF s).length = L := ⟨_, rfl⟩
  rw [hL] at HF h5
  have hlb : ((L : Int) == 5) = false := by simp; omega
  have hln : ((L : Int) != 5) = true := by simp; omega
  have t1 : decide ((100 : Int) < (s.length : Int)) = false := decide_eq_false (by omega)
  clear hr hd hL
  go_enter Tryd.func17, Tryd.ntmps17
  go_wp2_with (go_at_call 28; (with_reducible refine HF.out.mono ?_); rintro e w1 ⟨A, c, rfl, _, h1⟩; have Q1 := Lib.hid h1; obtain ⟨⟨x0, x1, x2, x3, x4⟩, y0, y1, y2, y3, y4⟩ := five_of (HX.out.rel h1); clear h1)
  obtain ⟨⟨r0, r1, r2, r3, r4⟩, _⟩ := five_of ((HX.out.rel Q1.out).put5 (.string ⟨#[]⟩) (.int .i64 0) (.string ⟨#[]⟩) (.string ⟨#[]⟩) (.int .i64 0))
  exact bodyPost_ret (v := .tuple #[.agg #[.string ⟨#[]⟩, .int .i64 0, .string ⟨#[]⟩, .string ⟨#[]⟩, .int .i64 0], .int .i64 111, .int .i64 0]) (by simp [results, Tryd.results17, go_sem, r0, r1, r2, r3, r4]) rfl ⟨by rw [HD.out.1, HD.out.2.1, HD.out.2.2]; rfl, Rel.put5 (HA.out.trans Q1.out) hz _ _ _ _ _⟩
set_option maxRecDepth 100000 in
set_option maxHeartbeats 16000000 in
theorem rfdec_five (s a b c d e : List UInt8) (h : s.length ≤ 100) (hf : fieldsF s = [a, b, c, d, e]) (w0 w : World) (hr : Rel w0 w) :
    Calls Tryd.prog 17 #[.string (B s)] w (DecPost w0 s) := by
  have hd : decF s = match firstF 0 [a, b, c, d, e] with | some i => .error (112, i) | none => .ok (a, seqF b, c, d, priceF e) := by unfold decF; rw [if_neg (by omega), hf]; rfl
  have hlen : ∀ x ∈ fieldsF s, x.length ≤ 9223372036854775807 := fun x hx => by have := field_len s x hx; omega
  rw [hf] at hlen
  have la := hlen a (by simp)
  have lb := hlen b (by simp)
  have lc := hlen c (by simp)
  have ld := hlen d (by simp)
  have le := hlen e (by simp)
  clear hlen
  obtain ⟨q0, hq0⟩ : ∃ q, isName a = q := ⟨_, rfl⟩
  obtain ⟨q2, hq2⟩ : ∃ q, isName c = q := ⟨_, rfl⟩
  obtain ⟨q3, hq3⟩ : ∃ q, isName d = q := ⟨_, rfl⟩
  obtain ⟨sq, hsq⟩ : ∃ q, seqF b = q := ⟨_, rfl⟩
  obtain ⟨pr, hpr⟩ : ∃ q, priceF e = q := ⟨_, rfl⟩
  obtain ⟨q1, t1⟩ : ∃ q, decide (0 < sq) = q := ⟨_, rfl⟩
  obtain ⟨q4, t4⟩ : ∃ q, decide (0 ≤ pr) = q := ⟨_, rfl⟩
  obtain ⟨Q, hQ⟩ : ∃ Q : Nat → Bool, Q = fun j => [q0, q1, q2, q3, q4].getD j false := ⟨_, rfl⟩
  have hQQ : Q 0 = okF 0 a ∧ Q 1 = okF 1 b ∧ Q 2 = okF 2 c ∧ Q 3 = okF 3 d ∧ Q 4 = okF 4 e := by
    subst hQ
    refine ⟨hq0.symm, ?_, hq2.symm, hq3.symm, ?_⟩
    · show q1 = okF 1 b; unfold okF; rw [if_pos rfl, hsq, t1]
    · show q4 = okF 4 e; unfold okF; rw [if_neg (by decide), if_pos rfl, hpr, t4]
  have HBad := Lib.hid (show ∀ j, j < 5 → (∀ k, k < j → Q k = true) → Q j = false → decV s = noFd ∧ decE s = 112 ∧ decN s = (j : Int) from fun j hj h1 h2 => by
    rw [first5_bad hQQ hj h1 h2] at hd
    exact decV_bad hd)
  have HGood := Lib.hid (show (∀ k, k < 5 → Q k = true) → decV s = (a, sq, c, d, pr) ∧ decE s = 0 ∧ decN s = 0 from fun h1 => by
    rw [first5_good hQQ h1, hsq, hpr] at hd
    exact decV_ok hd)
  have HCell := Lib.hid (show ∀ (W : World) (g : Nat), Bk W g 4 #[.bool q0, .bool q1, .bool q2, .bool q3, .bool q4] → ∀ j, j < 5 → W.cell? ⟨g, j, none⟩ = some (.bool (Q j)) from fun W g hb j hj => by
    subst hQ
    have ways : j = 0 ∨ j = 1 ∨ j = 2 ∨ j = 3 ∨ j = 4 := by omega
    obtain ⟨⟨b0, b1, b2, b3, b4⟩, _⟩ := five_of hb
    rcases ways with rfl | rfl | rfl | rfl | rfl
    · exact b0
    · exact b1
    · exact b2
    · exact b3
    · exact b4)
  have HA := Lib.hid (hr.self.alloc (.cells #[.string ⟨#[]⟩, .int .i64 0, .string ⟨#[]⟩, .string ⟨#[]⟩, .int .i64 0] 23))
  have HR0 := Lib.hid hr
  have HX := Lib.hid (Bk.new w 23 #[.string ⟨#[]⟩, .int .i64 0, .string ⟨#[]⟩, .string ⟨#[]⟩, .int .i64 0])
  obtain ⟨W, hW⟩ : ∃ W, w.alloc (.cells #[.string ⟨#[]⟩, .int .i64 0, .string ⟨#[]⟩, .string ⟨#[]⟩, .int .i64 0] 23) = W := ⟨_, rfl⟩
  rw [hW] at HA HX
  have HF := Lib.hid (rffields_any s h W W HA.out.self)
  rw [hf] at HF
  have hs := B_size s
  have t9 : decide ((100 : Int) < (s.length : Int)) = false := decide_eq_false (by omega)
  clear hr hd hf hQQ hQ
  go_enter Tryd.func17, Tryd.ntmps17
  go_upto_region 6 with (go_at_call 28; (with_reducible refine HF.out.mono ?_); rintro e1 w1 ⟨A, cc, rfl, ho, h1⟩; have HO := Lib.hid ho; have Q1 := Lib.hid h1; clear h1 ho)
  have HV := Lib.hid (HA.out.trans Q1.out)
  have HX2 := Lib.hid (HX.out.rel Q1.out)
  obtain ⟨g, rfl, hgl, _, k0⟩ := HO.out.at 0 (by simp)
  have rowc : ∀ i, i < 5 → ∀ w', Rel w1 w' → w'.cell? ⟨g, i, none⟩ = w1.cell? ⟨g, i, none⟩ := fun i _ w' h => h.2.cell (p := ⟨g, i, none⟩) hgl
  have k1 : w1.cell? ⟨g, 1, none⟩ = some (.string (B b)) := by obtain ⟨g', e', _, _, k⟩ := HO.out.at 1 (by simp); injection e' with e'; injection e' with e'; subst e'; exact k
  have k2 : w1.cell? ⟨g, 2, none⟩ = some (.string (B c)) := by obtain ⟨g', e', _, _, k⟩ := HO.out.at 2 (by simp); injection e' with e'; injection e' with e'; subst e'; exact k
  have k3 : w1.cell? ⟨g, 3, none⟩ = some (.string (B d)) := by obtain ⟨g', e', _, _, k⟩ := HO.out.at 3 (by simp); injection e' with e'; injection e' with e'; subst e'; exact k
  have k4 : w1.cell? ⟨g, 4, none⟩ = some (.string (B e)) := by obtain ⟨g', e', _, _, k⟩ := HO.out.at 4 (by simp); injection e' with e'; injection e' with e'; subst e'; exact k
  have HC0 := Lib.hid (show ∀ w', Rel w1 w' → w'.cell? ⟨g, 0, none⟩ = some (.string (B a)) from fun w' h => (rowc 0 (by omega) w' h).trans k0)
  have HC1 := Lib.hid (show ∀ w', Rel w1 w' → w'.cell? ⟨g, 1, none⟩ = some (.string (B b)) from fun w' h => (rowc 1 (by omega) w' h).trans k1)
  have HC2 := Lib.hid (show ∀ w', Rel w1 w' → w'.cell? ⟨g, 2, none⟩ = some (.string (B c)) from fun w' h => (rowc 2 (by omega) w' h).trans k2)
  have HC3 := Lib.hid (show ∀ w', Rel w1 w' → w'.cell? ⟨g, 3, none⟩ = some (.string (B d)) from fun w' h => (rowc 3 (by omega) w' h).trans k3)
  have HC4 := Lib.hid (show ∀ w', Rel w1 w' → w'.cell? ⟨g, 4, none⟩ = some (.string (B e)) from fun w' h => (rowc 4 (by omega) w' h).trans k4)
  clear rowc k0 k1 k2 k3 k4 HO
  obtain ⟨V, hV⟩ : ∃ V, V = w1 := ⟨_, rfl⟩
  rw [← hV] at HV HX2 HC0 HC1 HC2 HC3 HC4
  rw [← hV]
  have HSq := Lib.hid (show ∀ w2 : World, Rel V w2 → Calls Tryd.prog 29 #[.string (B b)] w2 fun r w' => r = .returned (.int .i64 sq) ∧ Rel w2 w' from fun w2 h2 => by rw [← hsq]; exact rfseq_any b lb w2 w2 h2.self)
  have HPr := Lib.hid (show ∀ w2 : World, Rel V w2 → Calls Tryd.prog 30 #[.string (B e)] w2 fun r w' => r = .returned (.int .i64 pr) ∧ Rel w2 w' from fun w2 h2 => by rw [← hpr]; exact rfprice_any e le w2 w2 h2.self)
  have HN0 := Lib.hid (show ∀ w2 : World, Rel V w2 → Calls Tryd.prog 18 #[.string (B a)] w2 fun r w' => r = .returned (.bool q0) ∧ Rel w2 w' from fun w2 h2 => by rw [← hq0]; exact rname_list a la w2 w2 h2.self)
  have HN1 := Lib.hid (show ∀ w2 : World, Rel V w2 → Calls Tryd.prog 18 #[.string (B c)] w2 fun r w' => r = .returned (.bool q2) ∧ Rel w2 w' from fun w2 h2 => by rw [← hq2]; exact rname_list c lc w2 w2 h2.self)
  have HN2 := Lib.hid (show ∀ w2 : World, Rel V w2 → Calls Tryd.prog 18 #[.string (B d)] w2 fun r w' => r = .returned (.bool q3) ∧ Rel w2 w' from fun w2 h2 => by rw [← hq3]; exact rname_list d ld w2 w2 h2.self)
  clear hV hq0 hq2 hq3 hsq hpr la lb lc ld le
  have hgw : w.heap.size < V.heap.size := HX2.out.lt
  go_cut [6] (fun v wx => ∃ (V6 : World) (G6 : Nat), V6 = wx ∧ v = .pointer (some ⟨G6, 0, none⟩) ∧ Hid (Bk V6 G6 23 #[.string (B a), .int .i64 sq, .string (B c), .string (B d), .int .i64 pr]) ∧ Hid (Rel V V6))
  case first =>
    refine wp_region_held_drew (S := (fun w' => Rel V w')) (by kernel_rfl) HV.out.self.drew (fun hHeld => ?_)
    refine held_take (i := 0) (v := ?_) (some 19) rfl rfl (by kernel_rfl) (by kernel_rfl) (by kernel_rfl) (fun _ _ _ h => h) (Or.inl ⟨by rfl, ?_⟩) hHeld ?_
    rotate_left 1
    · intro w' (h : Rel V w'); have z0 := HC0.out w' h; have z1 := HC1.out w' h; have z2 := HC2.out w' h; have z3 := HC3.out w' h; have z4 := HC4.out w' h; go_simp; try with_reducible rfl
    try simp only [Act.put, List.setIfInBounds_toArray, List.set_cons_zero, List.set_cons_succ]
    refine held_take (i := 1) (v := ?_) (some 20) rfl rfl (by kernel_rfl) (by kernel_rfl) (by kernel_rfl) (fun _ _ _ h => h) (Or.inl ⟨by rfl, ?_⟩) hHeld ?_
    rotate_left 1
    · intro w' (h : Rel V w'); have z0 := HC0.out w' h; have z1 := HC1.out w' h; have z2 := HC2.out w' h; have z3 := HC3.out w' h; have z4 := HC4.out w' h; go_simp; try with_reducible rfl
    try simp only [Act.put, List.setIfInBounds_toArray, List.set_cons_zero, List.set_cons_succ]
    refine held_take (i := 2) (v := ?_) (some 21) rfl rfl (by kernel_rfl) (by kernel_rfl) (by kernel_rfl) (fun _ _ _ h => h) (Or.inl ⟨by rfl, ?_⟩) hHeld ?_
    rotate_left 1
    · intro w' (h : Rel V w'); have z0 := HC0.out w' h; have z1 := HC1.out w' h; have z2 := HC2.out w' h; have z3 := HC3.out w' h; have z4 := HC4.out w' h; go_simp; try with_reducible rfl
    try simp only [Act.put, List.setIfInBounds_toArray, List.set_cons_zero, List.set_cons_succ]
    refine held_take (i := 3) (v := ?_) (some 22) rfl rfl (by kernel_rfl) (by kernel_rfl) (by kernel_rfl) (fun _ _ _ h => h) (Or.inl ⟨by rfl, ?_⟩) hHeld ?_
    rotate_left 1
    · intro w' (h : Rel V w'); have z0 := HC0.out w' h; have z1 := HC1.out w' h; have z2 := HC2.out w' h; have z3 := HC3.out w' h; have z4 := HC4.out w' h; go_simp; try with_reducible rfl
    try simp only [Act.put, List.setIfInBounds_toArray, List.set_cons_zero, List.set_cons_succ]
    refine held_take (i := 4) (v := ?_) (some 23) rfl rfl (by kernel_rfl) (by kernel_rfl) (by kernel_rfl) (fun _ _ _ h => h) (Or.inl ⟨by rfl, ?_⟩) hHeld ?_
    rotate_left 1
    · intro w' (h : Rel V w'); have z0 := HC0.out w' h; have z1 := HC1.out w' h; have z2 := HC2.out w' h; have z3 := HC3.out w' h; have z4 := HC4.out w' h; go_simp; try with_reducible rfl
    try simp only [Act.put, List.setIfInBounds_toArray, List.set_cons_zero, List.set_cons_succ]
    refine held_take (i := 5) (v := ?_) (some 24) rfl rfl (by kernel_rfl) (by kernel_rfl) (by kernel_rfl) (fun _ _ _ h => h) (Or.inl ⟨by rfl, ?_⟩) hHeld ?_
    rotate_left 1
    · intro w' (h : Rel V w'); have z0 := HC0.out w' h; have z1 := HC1.out w' h; have z2 := HC2.out w' h; have z3 := HC3.out w' h; have z4 := HC4.out w' h; go_simp; try with_reducible rfl
    try simp only [Act.put, List.setIfInBounds_toArray, List.set_cons_zero, List.set_cons_succ]
    refine held_take (i := 7) (v := ?_) (some 26) rfl rfl (by kernel_rfl) (by kernel_rfl) (by kernel_rfl) (fun _ _ _ h => h) (Or.inl ⟨by rfl, ?_⟩) hHeld ?_
    rotate_left 1
    · intro w' (h : Rel V w'); have z0 := HC0.out w' h; have z1 := HC1.out w' h; have z2 := HC2.out w' h; have z3 := HC3.out w' h; have z4 := HC4.out w' h; go_simp; try with_reducible rfl
    try simp only [Act.put, List.setIfInBounds_toArray, List.set_cons_zero, List.set_cons_succ]
    refine held_take (i := 8) (v := ?_) (some 27) rfl rfl (by kernel_rfl) (by kernel_rfl) (by kernel_rfl) (fun _ _ _ h => h) (Or.inl ⟨by rfl, ?_⟩) hHeld ?_
    rotate_left 1
    · intro w' (h : Rel V w'); have z0 := HC0.out w' h; have z1 := HC1.out w' h; have z2 := HC2.out w' h; have z3 := HC3.out w' h; have z4 := HC4.out w' h; go_simp; try with_reducible rfl
    try simp only [Act.put, List.setIfInBounds_toArray, List.set_cons_zero, List.set_cons_succ]
    refine held_take (i := 9) (v := ?_) (some 28) rfl rfl (by kernel_rfl) (by kernel_rfl) (by kernel_rfl) (fun _ _ _ h => h) (Or.inl ⟨by rfl, ?_⟩) hHeld ?_
    rotate_left 1
    · intro w' (h : Rel V w'); have z0 := HC0.out w' h; have z1 := HC1.out w' h; have z2 := HC2.out w' h; have z3 := HC3.out w' h; have z4 := HC4.out w' h; go_simp; try with_reducible rfl
    try simp only [Act.put, List.setIfInBounds_toArray, List.set_cons_zero, List.set_cons_succ]
    refine held_take (i := 10) (v := ?_) (some 29) rfl rfl (by kernel_rfl) (by kernel_rfl) (by kernel_rfl) (fun _ _ _ h => h) (Or.inl ⟨by rfl, ?_⟩) hHeld ?_
    rotate_left 1
    · intro w' (h : Rel V w'); have z0 := HC0.out w' h; have z1 := HC1.out w' h; have z2 := HC2.out w' h; have z3 := HC3.out w' h; have z4 := HC4.out w' h; go_simp; try with_reducible rfl
    try simp only [Act.put, List.setIfInBounds_toArray, List.set_cons_zero, List.set_cons_succ]
    refine held_take (i := 11) (v := ?_) (some 30) rfl rfl (by kernel_rfl) (by kernel_rfl) (by kernel_rfl) (fun _ _ _ h => h) (Or.inl ⟨by rfl, ?_⟩) hHeld ?_
    rotate_left 1
    · intro w' (h : Rel V w'); have z0 := HC0.out w' h; have z1 := HC1.out w' h; have z2 := HC2.out w' h; have z3 := HC3.out w' h; have z4 := HC4.out w' h; go_simp; try with_reducible rfl
    try simp only [Act.put, List.setIfInBounds_toArray, List.set_cons_zero, List.set_cons_succ]
    refine held_take (i := 12) (v := ?_) (some 31) rfl rfl (by kernel_rfl) (by kernel_rfl) (by kernel_rfl) (fun _ _ _ h => h) (Or.inl ⟨by rfl, ?_⟩) hHeld ?_
    rotate_left 1
    · intro w' (h : Rel V w'); have z0 := HC0.out w' h; have z1 := HC1.out w' h; have z2 := HC2.out w' h; have z3 := HC3.out w' h; have z4 := HC4.out w' h; go_simp; try with_reducible rfl
    try simp only [Act.put, List.setIfInBounds_toArray, List.set_cons_zero, List.set_cons_succ]
    refine held_take (i := 13) (v := ?_) (some 32) rfl rfl (by kernel_rfl) (by kernel_rfl) (by kernel_rfl) (fun _ _ _ h => h) (Or.inl ⟨by rfl, ?_⟩) hHeld ?_
    rotate_left 1
    · intro w' (h : Rel V w'); have z0 := HC0.out w' h; have z1 := HC1.out w' h; have z2 := HC2.out w' h; have z3 := HC3.out w' h; have z4 := HC4.out w' h; go_simp; try with_reducible rfl
    try simp only [Act.put, List.setIfInBounds_toArray, List.set_cons_zero, List.set_cons_succ]
    refine held_take (i := 14) (v := ?_) (some 33) rfl rfl (by kernel_rfl) (by kernel_rfl) (by kernel_rfl) (fun _ _ _ h => h) (Or.inl ⟨by rfl, ?_⟩) hHeld ?_
    rotate_left 1
    · intro w' (h : Rel V w'); have z0 := HC0.out w' h; have z1 := HC1.out w' h; have z2 := HC2.out w' h; have z3 := HC3.out w' h; have z4 := HC4.out w' h; go_simp; try with_reducible rfl
    try simp only [Act.put, List.setIfInBounds_toArray, List.set_cons_zero, List.set_cons_succ]
    refine held_take (i := 15) (v := ?_) (some 34) rfl rfl (by kernel_rfl) (by kernel_rfl) (by kernel_rfl) (fun _ _ _ h => h) (Or.inl ⟨by rfl, ?_⟩) hHeld ?_
    rotate_left 1
    · intro w' (h : Rel V w'); have z0 := HC0.out w' h; have z1 := HC1.out w' h; have z2 := HC2.out w' h; have z3 := HC3.out w' h; have z4 := HC4.out w' h; go_simp; try with_reducible rfl
    try simp only [Act.put, List.setIfInBounds_toArray, List.set_cons_zero, List.set_cons_succ]
    refine held_two (j := 6) (k := 18) (by kernel_rfl) rfl rfl (fun K hK => ?_) (fun K hK => ?_)
    · skip
      try simp only [List.getElem_toArray, List.getElem_cons_succ, List.getElem_cons_zero]
      rw [if_pos (by rfl)]
      go_simp
      go_at_call 29
      (with_reducible refine (HSq.out _ hHeld).mono ?_)
      rintro e3 w3 ⟨rfl, h3⟩
      try have HZ := Lib.hid (HZ.out.rel h3)
      try (have hz9 := five_of HZ.out; obtain ⟨⟨y0, y1, y2, y3, y4⟩, y5, y6, y7, y8, y9⟩ := hz9)
      refine hK.out _ _ (hHeld.trans h3) (fun hHeld => ?_)
      clear hK K
      try simp only [Act.put, List.setIfInBounds_toArray, List.set_cons_zero, List.set_cons_succ]
      refine held_two (j := 16) (k := 18) (by kernel_rfl) rfl rfl (fun K hK => ?_) (fun K hK => ?_)
      · skip
        try simp only [List.getElem_toArray, List.getElem_cons_succ, List.getElem_cons_zero]
        rw [if_pos (by rfl)]
        go_simp
        go_at_call 30
        (with_reducible refine (HPr.out _ hHeld).mono ?_)
        rintro e4 w4 ⟨rfl, h4⟩
        try have HZ := Lib.hid (HZ.out.rel h4)
        try (have hz9 := five_of HZ.out; obtain ⟨⟨y0, y1, y2, y3, y4⟩, y5, y6, y7, y8, y9⟩ := hz9)
        refine hK.out _ _ (hHeld.trans h4) (fun hHeld => ?_)
        clear hK K
        try simp only [Act.put, List.setIfInBounds_toArray, List.set_cons_zero, List.set_cons_succ]
        refine held_take (i := 17) (v := ?_) (some 36) rfl rfl (by kernel_rfl) (by kernel_rfl) (by kernel_rfl) (fun _ _ _ h => h) (Or.inl ⟨by rfl, ?_⟩) hHeld ?_
        rotate_left 1
        · intro w' (h : Rel V w'); have z0 := HC0.out w' h; have z1 := HC1.out w' h; have z2 := HC2.out w' h; have z3 := HC3.out w' h; have z4 := HC4.out w' h; go_simp; try with_reducible rfl
        try simp only [Act.put, List.setIfInBounds_toArray, List.set_cons_zero, List.set_cons_succ]
        refine held_one (j := 18) (by kernel_rfl) rfl (fun K hK => ?_)
        try simp only [List.getElem_toArray, List.getElem_cons_succ, List.getElem_cons_zero]
        rw [if_pos (by rfl)]
        go_simp
        first | (have HZ := Lib.hid (Bk.new w4 23 #[.string ⟨#[]⟩, .int .i64 0, .string ⟨#[]⟩, .string ⟨#[]⟩, .int .i64 0]); obtain ⟨G6, hG6⟩ : ∃ q, w4.heap.size = q := ⟨_, rfl⟩; have hgz : V.heap.size ≤ G6 := (by rw [← hG6]; exact hHeld.size); rw [hG6] at HZ; try rw [hG6]) | (have HZ := Lib.hid (Bk.new w3 23 #[.string ⟨#[]⟩, .int .i64 0, .string ⟨#[]⟩, .string ⟨#[]⟩, .int .i64 0]); obtain ⟨G6, hG6⟩ : ∃ q, w3.heap.size = q := ⟨_, rfl⟩; have hgz : V.heap.size ≤ G6 := (by rw [← hG6]; exact hHeld.size); rw [hG6] at HZ; try rw [hG6]) | (have HZ := Lib.hid (show Bk (V.drew.alloc (.cells #[.string ⟨#[]⟩, .int .i64 0, .string ⟨#[]⟩, .string ⟨#[]⟩, .int .i64 0] 23)) V.heap.size 23 #[.string ⟨#[]⟩, .int .i64 0, .string ⟨#[]⟩, .string ⟨#[]⟩, .int .i64 0] from Bk.new V.drew 23 #[.string ⟨#[]⟩, .int .i64 0, .string ⟨#[]⟩, .string ⟨#[]⟩, .int .i64 0]); obtain ⟨G6, hG6⟩ : ∃ q, V.heap.size = q := ⟨_, rfl⟩; have hgz : V.heap.size ≤ G6 := (by rw [← hG6]; exact hHeld.size); rw [hG6] at HZ; try rw [hG6])
        try clear hG6
        obtain ⟨⟨y0, y1, y2, y3, y4⟩, y5, y6, y7, y8, y9⟩ := five_of HZ.out
        refine hK.out _ _ (hHeld.alloc _) (fun hHeld => ?_)
        clear hK K
        try simp only [Act.put, List.setIfInBounds_toArray, List.set_cons_zero, List.set_cons_succ]
        refine held_one (j := 19) (by kernel_rfl) rfl (fun K hK => ?_)
        try simp only [List.getElem_toArray, List.getElem_cons_succ, List.getElem_cons_zero]
        rw [if_pos (by rfl)]
        go_simp
        refine hK.out _ _ (Rel.put5 hHeld hgz _ _ _ _ _) (fun hHeld => ?_)
        clear hK K
        try simp only [Act.put, List.setIfInBounds_toArray, List.set_cons_zero, List.set_cons_succ]
        refine wpAnyH_done (by kernel_rfl) ?_ _
        go_wp2_with (fail)
        go_meet
        exact ⟨_, G6, rfl, rfl, Lib.hid (HZ.out.put5 (.string (B a)) (.int .i64 sq) (.string (B c)) (.string (B d)) (.int .i64 pr)), Lib.hid hHeld⟩
      · skip
        try simp only [List.getElem_toArray, List.getElem_cons_succ, List.getElem_cons_zero]
        rw [if_pos (by rfl)]
        go_simp
        first | (have HZ := Lib.hid (Bk.new w4 23 #[.string ⟨#[]⟩, .int .i64 0, .string ⟨#[]⟩, .string ⟨#[]⟩, .int .i64 0]); obtain ⟨G6, hG6⟩ : ∃ q, w4.heap.size = q := ⟨_, rfl⟩; have hgz : V.heap.size ≤ G6 := (by rw [← hG6]; exact hHeld.size); rw [hG6] at HZ; try rw [hG6]) | (have HZ := Lib.hid (Bk.new w3 23 #[.string ⟨#[]⟩, .int .i64 0, .string ⟨#[]⟩, .string ⟨#[]⟩, .int .i64 0]); obtain ⟨G6, hG6⟩ : ∃ q, w3.heap.size = q := ⟨_, rfl⟩; have hgz : V.heap.size ≤ G6 := (by rw [← hG6]; exact hHeld.size); rw [hG6] at HZ; try rw [hG6]) | (have HZ := Lib.hid (show Bk (V.drew.alloc (.cells #[.string ⟨#[]⟩, .int .i64 0, .string ⟨#[]⟩, .string ⟨#[]⟩, .int .i64 0] 23)) V.heap.size 23 #[.string ⟨#[]⟩, .int .i64 0, .string ⟨#[]⟩, .string ⟨#[]⟩, .int .i64 0] from Bk.new V.drew 23 #[.string ⟨#[]⟩, .int .i64 0, .string ⟨#[]⟩, .string ⟨#[]⟩, .int .i64 0]); obtain ⟨G6, hG6⟩ : ∃ q, V.heap.size = q := ⟨_, rfl⟩; have hgz : V.heap.size ≤ G6 := (by rw [← hG6]; exact hHeld.size); rw [hG6] at HZ; try rw [hG6])
        try clear hG6
        obtain ⟨⟨y0, y1, y2, y3, y4⟩, y5, y6, y7, y8, y9⟩ := five_of HZ.out
        refine hK.out _ _ (hHeld.alloc _) (fun hHeld => ?_)
        clear hK K
        try simp only [Act.put, List.setIfInBounds_toArray, List.set_cons_zero, List.set_cons_succ]
        refine held_one (j := 16) (by kernel_rfl) rfl (fun K hK => ?_)
        try simp only [List.getElem_toArray, List.getElem_cons_succ, List.getElem_cons_zero]
        rw [if_pos (by rfl)]
        go_simp
        go_at_call 30
        (with_reducible refine (HPr.out _ hHeld).mono ?_)
        rintro e4 w4 ⟨rfl, h4⟩
        try have HZ := Lib.hid (HZ.out.rel h4)
        try (have hz9 := five_of HZ.out; obtain ⟨⟨y0, y1, y2, y3, y4⟩, y5, y6, y7, y8, y9⟩ := hz9)
        refine hK.out _ _ (hHeld.trans h4) (fun hHeld => ?_)
        clear hK K
        try simp only [Act.put, List.setIfInBounds_toArray, List.set_cons_zero, List.set_cons_succ]
        refine held_take (i := 17) (v := ?_) (some 36) rfl rfl (by kernel_rfl) (by kernel_rfl) (by kernel_rfl) (fun _ _ _ h => h) (Or.inl ⟨by rfl, ?_⟩) hHeld ?_
        rotate_left 1
        · intro w' (h : Rel V w'); have z0 := HC0.out w' h; have z1 := HC1.out w' h; have z2 := HC2.out w' h; have z3 := HC3.out w' h; have z4 := HC4.out w' h; go_simp; try with_reducible rfl
        try simp only [Act.put, List.setIfInBounds_toArray, List.set_cons_zero, List.set_cons_succ]
        refine held_one (j := 19) (by kernel_rfl) rfl (fun K hK => ?_)
        try simp only [List.getElem_toArray, List.getElem_cons_succ, List.getElem_cons_zero]
        rw [if_pos (by rfl)]
        go_simp
        refine hK.out _ _ (Rel.put5 hHeld hgz _ _ _ _ _) (fun hHeld => ?_)
        clear hK K
        try simp only [Act.put, List.setIfInBounds_toArray, List.set_cons_zero, List.set_cons_succ]
        refine wpAnyH_done (by kernel_rfl) ?_ _
        go_wp2_with (fail)
        go_meet
        exact ⟨_, G6, rfl, rfl, Lib.hid (HZ.out.put5 (.string (B a)) (.int .i64 sq) (.string (B c)) (.string (B d)) (.int .i64 pr)), Lib.hid hHeld⟩
    · skip
      try simp only [List.getElem_toArray, List.getElem_cons_succ, List.getElem_cons_zero]
      rw [if_pos (by rfl)]
      go_simp
      first | (have HZ := Lib.hid (Bk.new w4 23 #[.string ⟨#[]⟩, .int .i64 0, .string ⟨#[]⟩, .string ⟨#[]⟩, .int .i64 0]); obtain ⟨G6, hG6⟩ : ∃ q, w4.heap.size = q := ⟨_, rfl⟩; have hgz : V.heap.size ≤ G6 := (by rw [← hG6]; exact hHeld.size); rw [hG6] at HZ; try rw [hG6]) | (have HZ := Lib.hid (Bk.new w3 23 #[.string ⟨#[]⟩, .int .i64 0, .string ⟨#[]⟩, .string ⟨#[]⟩, .int .i64 0]); obtain ⟨G6, hG6⟩ : ∃ q, w3.heap.size = q := ⟨_, rfl⟩; have hgz : V.heap.size ≤ G6 := (by rw [← hG6]; exact hHeld.size); rw [hG6] at HZ; try rw [hG6]) | (have HZ := Lib.hid (show Bk (V.drew.alloc (.cells #[.string ⟨#[]⟩, .int .i64 0, .string ⟨#[]⟩, .string ⟨#[]⟩, .int .i64 0] 23)) V.heap.size 23 #[.string ⟨#[]⟩, .int .i64 0, .string ⟨#[]⟩, .string ⟨#[]⟩, .int .i64 0] from Bk.new V.drew 23 #[.string ⟨#[]⟩, .int .i64 0, .string ⟨#[]⟩, .string ⟨#[]⟩, .int .i64 0]); obtain ⟨G6, hG6⟩ : ∃ q, V.heap.size = q := ⟨_, rfl⟩; have hgz : V.heap.size ≤ G6 := (by rw [← hG6]; exact hHeld.size); rw [hG6] at HZ; try rw [hG6])
      try clear hG6
      obtain ⟨⟨y0, y1, y2, y3, y4⟩, y5, y6, y7, y8, y9⟩ := five_of HZ.out
      refine hK.out _ _ (hHeld.alloc _) (fun hHeld => ?_)
      clear hK K
      try simp only [Act.put, List.setIfInBounds_toArray, List.set_cons_zero, List.set_cons_succ]
      refine held_one (j := 6) (by kernel_rfl) rfl (fun K hK => ?_)
      try simp only [List.getElem_toArray, List.getElem_cons_succ, List.getElem_cons_zero]
      rw [if_pos (by rfl)]
      go_simp
      go_at_call 29
      (with_reducible refine (HSq.out _ hHeld).mono ?_)
      rintro e3 w3 ⟨rfl, h3⟩
      try have HZ := Lib.hid (HZ.out.rel h3)
      try (have hz9 := five_of HZ.out; obtain ⟨⟨y0, y1, y2, y3, y4⟩, y5, y6, y7, y8, y9⟩ := hz9)
      refine hK.out _ _ (hHeld.trans h3) (fun hHeld => ?_)
      clear hK K
      try simp only [Act.put, List.setIfInBounds_toArray, List.set_cons_zero, List.set_cons_succ]
      refine held_one (j := 16) (by kernel_rfl) rfl (fun K hK => ?_)
      try simp only [List.getElem_toArray, List.getElem_cons_succ, List.getElem_cons_zero]
      rw [if_pos (by rfl)]
      go_simp
      go_at_call 30
      (with_reducible refine (HPr.out _ hHeld).mono ?_)
      rintro e4 w4 ⟨rfl, h4⟩
      try have HZ := Lib.hid (HZ.out.rel h4)
      try (have hz9 := five_of HZ.out; obtain ⟨⟨y0, y1, y2, y3, y4⟩, y5, y6, y7, y8, y9⟩ := hz9)
      refine hK.out _ _ (hHeld.trans h4) (fun hHeld => ?_)
      clear hK K
      try simp only [Act.put, List.setIfInBounds_toArray, List.set_cons_zero, List.set_cons_succ]
      refine held_take (i := 17) (v := ?_) (some 36) rfl rfl (by kernel_rfl) (by kernel_rfl) (by kernel_rfl) (fun _ _ _ h => h) (Or.inl ⟨by rfl, ?_⟩) hHeld ?_
      rotate_left 1
      · intro w' (h : Rel V w'); have z0 := HC0.out w' h; have z1 := HC1.out w' h; have z2 := HC2.out w' h; have z3 := HC3.out w' h; have z4 := HC4.out w' h; go_simp; try with_reducible rfl
      try simp only [Act.put, List.setIfInBounds_toArray, List.set_cons_zero, List.set_cons_succ]
      refine held_one (j := 19) (by kernel_rfl) rfl (fun K hK => ?_)
      try simp only [List.getElem_toArray, List.getElem_cons_succ, List.getElem_cons_zero]
      rw [if_pos (by rfl)]
      go_simp
      refine hK.out _ _ (Rel.put5 hHeld hgz _ _ _ _ _) (fun hHeld => ?_)
      clear hK K
      try simp only [Act.put, List.setIfInBounds_toArray, List.set_cons_zero, List.set_cons_succ]
      refine wpAnyH_done (by kernel_rfl) ?_ _
      go_wp2_with (fail)
      go_meet
      exact ⟨_, G6, rfl, rfl, Lib.hid (HZ.out.put5 (.string (B a)) (.int .i64 sq) (.string (B c)) (.string (B d)) (.int .i64 pr)), Lib.hid hHeld⟩
  obtain ⟨V6, G6, rfl, rfl, HB6, HV6⟩ := hcut
  go_upto_region 7 with (fail)
  go_cut [7] (fun v wx => ∃ (V7 : World) (GB : Nat), V7 = wx ∧ v = .slice (some ⟨GB, 0, none⟩) 5 5 ∧ Hid (Bk V7 GB 4 #[.bool q0, .bool q1, .bool q2, .bool q3, .bool q4]) ∧ Hid (Rel V V7) ∧ Hid (Bk V7 G6 23 #[.string (B a), .int .i64 sq, .string (B c), .string (B d), .int .i64 pr]))
  case first =>
    refine wp_region_held_drew (S := (fun w' => Rel V w' ∧ Bk w' G6 23 #[.string (B a), .int .i64 sq, .string (B c), .string (B d), .int .i64 pr])) (by kernel_rfl) ⟨HV6.out.drew, HB6.out.drew⟩ (fun hHeld => ?_)
    refine held_take (i := 0) (v := ?_) (some 37) rfl rfl (by kernel_rfl) (by kernel_rfl) (by kernel_rfl) (fun _ _ _ h => h) (Or.inl ⟨by rfl, ?_⟩) hHeld ?_
    rotate_left 1
    · intro w' (h : Rel V w' ∧ Bk w' G6 23 #[.string (B a), .int .i64 sq, .string (B c), .string (B d), .int .i64 pr]); obtain ⟨⟨x0, x1, x2, x3, x4⟩, _⟩ := five_of h.2; go_simp; try with_reducible rfl
    try simp only [Act.put, List.setIfInBounds_toArray, List.set_cons_zero, List.set_cons_succ]
    refine held_take (i := 1) (v := ?_) (some 38) rfl rfl (by kernel_rfl) (by kernel_rfl) (by kernel_rfl) (fun _ _ _ h => h) (Or.inl ⟨by rfl, ?_⟩) hHeld ?_
    rotate_left 1
    · intro w' (h : Rel V w' ∧ Bk w' G6 23 #[.string (B a), .int .i64 sq, .string (B c), .string (B d), .int .i64 pr]); obtain ⟨⟨x0, x1, x2, x3, x4⟩, _⟩ := five_of h.2; go_simp; try with_reducible rfl
    try simp only [Act.put, List.setIfInBounds_toArray, List.set_cons_zero, List.set_cons_succ]
    refine held_take (i := 3) (v := ?_) (some 40) rfl rfl (by kernel_rfl) (by kernel_rfl) (by kernel_rfl) (fun _ _ _ h => h) (Or.inl ⟨by rfl, ?_⟩) hHeld ?_
    rotate_left 1
    · intro w' (h : Rel V w' ∧ Bk w' G6 23 #[.string (B a), .int .i64 sq, .string (B c), .string (B d), .int .i64 pr]); obtain ⟨⟨x0, x1, x2, x3, x4⟩, _⟩ := five_of h.2; go_simp; try with_reducible rfl
    try simp only [Act.put, List.setIfInBounds_toArray, List.set_cons_zero, List.set_cons_succ]
    refine held_take (i := 4) (v := ?_) (some 41) rfl rfl (by kernel_rfl) (by kernel_rfl) (by kernel_rfl) (fun _ _ _ h => h) (Or.inl ⟨by rfl, ?_⟩) hHeld ?_
    rotate_left 1
    · intro w' (h : Rel V w' ∧ Bk w' G6 23 #[.string (B a), .int .i64 sq, .string (B c), .string (B d), .int .i64 pr]); obtain ⟨⟨x0, x1, x2, x3, x4⟩, _⟩ := five_of h.2; go_simp; try with_reducible rfl
    try simp only [Act.put, List.setIfInBounds_toArray, List.set_cons_zero, List.set_cons_succ]
    refine held_take (i := 5) (v := ?_) (some 42) rfl rfl (by kernel_rfl) (by kernel_rfl) (by kernel_rfl) (fun _ _ _ h => h) (Or.inl ⟨by rfl, ?_⟩) hHeld ?_
    rotate_left 1
    · intro w' (h : Rel V w' ∧ Bk w' G6 23 #[.string (B a), .int .i64 sq, .string (B c), .string (B d), .int .i64 pr]); obtain ⟨⟨x0, x1, x2, x3, x4⟩, _⟩ := five_of h.2; go_simp; try with_reducible rfl
    try simp only [Act.put, List.setIfInBounds_toArray, List.set_cons_zero, List.set_cons_succ]
    refine held_take (i := 6) (v := ?_) (some 43) rfl rfl (by kernel_rfl) (by kernel_rfl) (by kernel_rfl) (fun _ _ _ h => h) (Or.inl ⟨by rfl, ?_⟩) hHeld ?_
    rotate_left 1
    · intro w' (h : Rel V w' ∧ Bk w' G6 23 #[.string (B a), .int .i64 sq, .string (B c), .string (B d), .int .i64 pr]); obtain ⟨⟨x0, x1, x2, x3, x4⟩, _⟩ := five_of h.2; go_simp; try with_reducible rfl
    try simp only [Act.put, List.setIfInBounds_toArray, List.set_cons_zero, List.set_cons_succ]
    refine held_take (i := 7) (v := ?_) (some 44) rfl rfl (by kernel_rfl) (by kernel_rfl) (by kernel_rfl) (fun _ _ _ h => h) (Or.inl ⟨by rfl, ?_⟩) hHeld ?_
    rotate_left 1
    · intro w' (h : Rel V w' ∧ Bk w' G6 23 #[.string (B a), .int .i64 sq, .string (B c), .string (B d), .int .i64 pr]); obtain ⟨⟨x0, x1, x2, x3, x4⟩, _⟩ := five_of h.2; go_simp; try with_reducible rfl
    try simp only [Act.put, List.setIfInBounds_toArray, List.set_cons_zero, List.set_cons_succ]
    refine held_take (i := 9) (v := ?_) (some 46) rfl rfl (by kernel_rfl) (by kernel_rfl) (by kernel_rfl) (fun _ _ _ h => h) (Or.inl ⟨by rfl, ?_⟩) hHeld ?_
    rotate_left 1
    · intro w' (h : Rel V w' ∧ Bk w' G6 23 #[.string (B a), .int .i64 sq, .string (B c), .string (B d), .int .i64 pr]); obtain ⟨⟨x0, x1, x2, x3, x4⟩, _⟩ := five_of h.2; go_simp; try with_reducible rfl
    try simp only [Act.put, List.setIfInBounds_toArray, List.set_cons_zero, List.set_cons_succ]
    refine held_take (i := 10) (v := ?_) (some 47) rfl rfl (by kernel_rfl) (by kernel_rfl) (by kernel_rfl) (fun _ _ _ h => h) (Or.inl ⟨by rfl, ?_⟩) hHeld ?_
    rotate_left 1
    · intro w' (h : Rel V w' ∧ Bk w' G6 23 #[.string (B a), .int .i64 sq, .string (B c), .string (B d), .int .i64 pr]); obtain ⟨⟨x0, x1, x2, x3, x4⟩, _⟩ := five_of h.2; go_simp; try with_reducible rfl
    try simp only [Act.put, List.setIfInBounds_toArray, List.set_cons_zero, List.set_cons_succ]
    refine held_take (i := 12) (v := ?_) (some 49) rfl rfl (by kernel_rfl) (by kernel_rfl) (by kernel_rfl) (fun _ _ _ h => h) (Or.inl ⟨by rfl, ?_⟩) hHeld ?_
    rotate_left 1
    · intro w' (h : Rel V w' ∧ Bk w' G6 23 #[.string (B a), .int .i64 sq, .string (B c), .string (B d), .int .i64 pr]); obtain ⟨⟨x0, x1, x2, x3, x4⟩, _⟩ := five_of h.2; go_simp; try with_reducible rfl
    try simp only [Act.put, List.setIfInBounds_toArray, List.set_cons_zero, List.set_cons_succ]
    refine held_take (i := 13) (v := ?_) (some 50) rfl rfl (by kernel_rfl) (by kernel_rfl) (by kernel_rfl) (fun _ _ _ h => h) (Or.inl ⟨by rfl, ?_⟩) hHeld ?_
    rotate_left 1
    · intro w' (h : Rel V w' ∧ Bk w' G6 23 #[.string (B a), .int .i64 sq, .string (B c), .string (B d), .int .i64 pr]); obtain ⟨⟨x0, x1, x2, x3, x4⟩, _⟩ := five_of h.2; go_simp; try with_reducible rfl
    try simp only [Act.put, List.setIfInBounds_toArray, List.set_cons_zero, List.set_cons_succ]
    refine held_take (i := 14) (v := ?_) (some 51) rfl rfl (by kernel_rfl) (by kernel_rfl) (by kernel_rfl) (fun _ _ _ h => h) (Or.inl ⟨by rfl, ?_⟩) hHeld ?_
    rotate_left 1
    · intro w' (h : Rel V w' ∧ Bk w' G6 23 #[.string (B a), .int .i64 sq, .string (B c), .string (B d), .int .i64 pr]); obtain ⟨⟨x0, x1, x2, x3, x4⟩, _⟩ := five_of h.2; go_simp; try with_reducible rfl
    try simp only [Act.put, List.setIfInBounds_toArray, List.set_cons_zero, List.set_cons_succ]
    refine held_one (j := 2) (by kernel_rfl) rfl (fun K hK => ?_)
    try simp only [List.getElem_toArray, List.getElem_cons_succ, List.getElem_cons_zero]
    rw [if_pos (by rfl)]
    go_simp
    go_at_call 18
    (with_reducible refine (HN0.out _ hHeld.1).mono ?_)
    rintro e5 w5 ⟨rfl, h5⟩
    refine hK.out _ _ ⟨hHeld.1.trans h5, hHeld.2.rel h5⟩ (fun hHeld => ?_)
    clear hK K
    try simp only [Act.put, List.setIfInBounds_toArray, List.set_cons_zero, List.set_cons_succ]
    refine held_one (j := 8) (by kernel_rfl) rfl (fun K hK => ?_)
    try simp only [List.getElem_toArray, List.getElem_cons_succ, List.getElem_cons_zero]
    rw [if_pos (by rfl)]
    go_simp
    go_at_call 18
    (with_reducible refine (HN1.out _ hHeld.1).mono ?_)
    rintro e6 w6 ⟨rfl, h6⟩
    refine hK.out _ _ ⟨hHeld.1.trans h6, hHeld.2.rel h6⟩ (fun hHeld => ?_)
    clear hK K
    try simp only [Act.put, List.setIfInBounds_toArray, List.set_cons_zero, List.set_cons_succ]
    refine held_one (j := 11) (by kernel_rfl) rfl (fun K hK => ?_)
    try simp only [List.getElem_toArray, List.getElem_cons_succ, List.getElem_cons_zero]
    rw [if_pos (by rfl)]
    go_simp
    go_at_call 18
    (with_reducible refine (HN2.out _ hHeld.1).mono ?_)
    rintro e7 w7 ⟨rfl, h7⟩
    refine hK.out _ _ ⟨hHeld.1.trans h7, hHeld.2.rel h7⟩ (fun hHeld => ?_)
    clear hK K
    try simp only [Act.put, List.setIfInBounds_toArray, List.set_cons_zero, List.set_cons_succ]
    refine held_one (j := 15) (by kernel_rfl) rfl (fun K hK => ?_)
    try simp only [List.getElem_toArray, List.getElem_cons_succ, List.getElem_cons_zero]
    rw [if_pos (by rfl)]
    go_simp
    refine hK.out _ _ ⟨hHeld.1.alloc _, hHeld.2.alloc _⟩ (fun hHeld => ?_)
    clear hK K
    try simp only [Act.put, List.setIfInBounds_toArray, List.set_cons_zero, List.set_cons_succ]
    refine held_take (i := 16) (v := ?_) (some 7) rfl rfl (by kernel_rfl) (by kernel_rfl) (by kernel_rfl) (fun _ _ _ h => h) (Or.inl ⟨by rfl, ?_⟩) hHeld ?_
    rotate_left 1
    · intro w' (h : Rel V w' ∧ Bk w' G6 23 #[.string (B a), .int .i64 sq, .string (B c), .string (B d), .int .i64 pr]); obtain ⟨⟨x0, x1, x2, x3, x4⟩, _⟩ := five_of h.2; go_simp; try with_reducible rfl
    try simp only [Act.put, List.setIfInBounds_toArray, List.set_cons_zero, List.set_cons_succ]
    refine wpAnyH_done (by kernel_rfl) ?_ _
    go_wp2_with (fail)
    go_meet
    exact ⟨_, w7.heap.size, rfl, rfl, Lib.hid (Bk.new w7 4 #[.bool q0, .bool q1, .bool q2, .bool q3, .bool q4]), Lib.hid hHeld.1, Lib.hid hHeld.2⟩
  obtain ⟨V7, GB, rfl, rfl, HL7, HV7, HB7⟩ := hcut
  have HT2 := Lib.hid (HX2.out.rel HV7.out)
  obtain ⟨⟨p0, p1, p2, p3, p4⟩, p5, p6, p7, p8, p9⟩ := five_of HT2.out
  obtain ⟨⟨v0, v1, v2, v3, v4⟩, _⟩ := five_of HB7.out
  clear HSq HPr HN0 HN1 HN2 HC0 HC1 HC2 HC3 HC4 HF HX HA t1 t4
  go_wp2_with (fail)
  go_loopw [8] (fun i wr => ∃ j : Nat, j ≤ 5 ∧ i = .int .i64 (j : Int) ∧ Hid (∀ k, k < j → Q k = true) ∧ V7 = wr) (fun i _ => 5 - (RowKit.intOf i).toNat)
  case atStart => exact ⟨0, by omega, rfl, Lib.hid (fun k h => absurd h (by omega)), rfl⟩
  case round =>
    obtain ⟨j, hj, rfl, HJ, rfl⟩ := hrel
    by_cases hlt : j < 5
    · have hc := HCell.out V7 GB HL7.out j hlt
      obtain ⟨qj, hqj⟩ : ∃ qj, Q j = qj := ⟨_, rfl⟩
      rw [hqj] at hc
      have HQj := Lib.hid hqj
      clear hqj
      cases qj with
      | false =>
        obtain ⟨⟨r0, r1, r2, r3, r4⟩, _⟩ := five_of (HT2.out.put5 (.string ⟨#[]⟩) (.int .i64 0) (.string ⟨#[]⟩) (.string ⟨#[]⟩) (.int .i64 0))
        go_wp2_with (fail)
        exact bodyPost_ret (v := .tuple #[.agg #[.string ⟨#[]⟩, .int .i64 0, .string ⟨#[]⟩, .string ⟨#[]⟩, .int .i64 0], .int .i64 112, .int .i64 (j : Int)]) (by simp [results, Tryd.results17, go_sem, r0, r1, r2, r3, r4]) rfl ⟨by rw [(HBad.out j hlt HJ.out HQj.out).1, (HBad.out j hlt HJ.out HQj.out).2.1, (HBad.out j hlt HJ.out HQj.out).2.2]; rfl, HR0.out.trans (Rel.put5 (HV.out.trans HV7.out) (g := w.heap.size) (Nat.le_refl _) _ _ _ _ _)⟩
      | true =>
        go_wp2_with (fail)
        go_roundw
        case rel => exact ⟨j + 1, by omega, by go_num, Lib.hid (q_more HJ.out HQj.out), by first | exact rfl | exact trivial⟩
        case measure => simp [RowKit.intOf]; omega
    · obtain rfl : j = 5 := by omega
      obtain ⟨⟨r0, r1, r2, r3, r4⟩, _⟩ := five_of (HT2.out.put5 (.string (B a)) (.int .i64 sq) (.string (B c)) (.string (B d)) (.int .i64 pr))
      go_wp2_with (fail)
      exact bodyPost_ret (v := .tuple #[.agg #[.string (B a), .int .i64 sq, .string (B c), .string (B d), .int .i64 pr], .int .i64 0, .int .i64 0]) (by simp [results, Tryd.results17, go_sem, r0, r1, r2, r3, r4]) rfl ⟨by rw [(HGood.out HJ.out).1, (HGood.out HJ.out).2.1, (HGood.out HJ.out).2.2], HR0.out.trans (Rel.put5 (HV.out.trans HV7.out) (g := w.heap.size) (Nat.le_refl _) _ _ _ _ _)⟩
theorem rfdecode_any (s : List UInt8) (hl : s.length ≤ 9223372036854775807) (w0 w : World) (hr : Rel w0 w) :
    Calls Tryd.prog 17 #[.string (B s)] w (DecPost w0 s) := by
  rcases Nat.lt_or_ge 100 s.length with h | h
  · exact rfdec_long s hl h w0 w hr
  · by_cases h5 : (fieldsF s).length = 5
    · match hf : fieldsF s, h5 with
      | [a, b, c, d, e], _ => exact rfdec_five s a b c d e h hf w0 w hr
    · exact rfdec_not s h h5 w0 w hr
end Go.Proofs.YtkpgplafcoabnaaDoor
