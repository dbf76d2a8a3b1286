/- ValueCuts, over what the program is asked; The program's answers of layer 1 that layer 9 asks for. -/
import Derived.Test.YtpehlldgnbajjaaDoorZ13
import Derived.Test.YtpehlldgnbajjaaDoorZ14
import Derived.Test.YtpehlldgnbajjaaDoorZ10
import Derived.Test.YtpehlldgnbajjaaDoorZ08
namespace Go.Proofs.YtpehlldgnbajjaaDoor
open Go.RowKit Go.Lib
set_option linter.unusedVariables false
set_option linter.unusedSimpArgs false

theorem lw_eq : exLw = exLow := rfl
theorem lw_size9 : size exLow ≤ 90000 := by unfold exLow; rw [size_mk, sizes_nil]; omega
theorem one_size (k n : Int) : size (.mk k n [] [exLow]) ≤ 90000 := by unfold exLow; rw [size_mk, sizes_cons, sizes_nil, size_mk, sizes_nil]; omega
/-- An expression with one argument, the lowest offer, in a block that was just made. -/
theorem one_at (k n : Int) (hk : i64 k) (hn : i64 n) (w : World) : ExAt (fun _ => True) (w.alloc (.cells #[.int .i64 1, .int .i64 0, .string ⟨#[]⟩, .slice none 0 0] 27)) (k, n, [], some ⟨w.heap.size, 0, none⟩, 1, 1) (.mk k n [] [exLow]) :=
  ExAt.one (a := (1, 0, [], none, 0, 0)) hk hn (Nat.zero_le _) (Bk.new w _ _) trivial (ExAt.leaf _ _ 1 0 [] none 0 ⟨by decide, by decide⟩ ⟨by decide, by decide⟩ (Nat.zero_le _))
theorem low_at (w : World) : ExAt (fun _ => True) w (1, 0, [], none, 0, 0) exLow := ExAt.leaf _ _ 1 0 [] none 0 ⟨by decide, by decide⟩ ⟨by decide, by decide⟩ (Nat.zero_le _)
theorem one_drew (k n : Int) (hk : i64 k) (hn : i64 n) (w0 w : World) (h : Rel w0 w) : ExAt (fun _ => True) (w.alloc (.cells #[.int .i64 1, .int .i64 0, .string ⟨#[]⟩, .slice none 0 0] 27)).drew (k, n, [], some ⟨w.heap.size, 0, none⟩, 1, 1) (.mk k n [] [exLow]) := (one_at k n hk hn w).rel ((h.alloc _).self.drew)
/-- What the law's five calls tell. -/
theorem cuts_tell {os : List Of} (hok : offsOk os = true) {N M : Int} (hN : 0 ≤ N ∧ N < 10001) (hM : 0 ≤ M ∧ M < 5000) : ∃ (t : Bool) (a b c d : Int),
    RV (evalS os exLow) = .tuple #[.int .i64 a, .bool t, .int .i64 0] ∧ RV (evalS os (.mk 6 N [] [exLow])) = .tuple #[.int .i64 b, .bool t, .int .i64 0] ∧ RV (evalS os (.mk 5 M [] [exLow])) = .tuple #[.int .i64 c, .bool t, .int .i64 0] ∧
    RV (evalS os (.mk 6 0 [] [exLow])) = .tuple #[.int .i64 d, .bool t, .int .i64 0] ∧ RV (evalS os (.mk 6 10000 [] [exLow])) = .tuple #[.int .i64 0, .bool t, .int .i64 0] ∧ (t = true → 0 ≤ b ∧ b ≤ a ∧ a ≤ 1000000000000 ∧ c = a - M ∧ d = a) := by
  obtain ⟨r2, e2, n2, s2⟩ := eval_cutLow hok (n := N) hN.1 (by omega)
  obtain ⟨r4, e4, n4, s4⟩ := eval_cutLow hok (n := 0) (by omega) (by omega)
  obtain ⟨r5, e5, n5, s5⟩ := eval_cutLow hok (n := 10000) (by omega) (by omega)
  have e1 : evalS os exLow = .ok (rk os 0) := eval_low hok
  have e3 := eval_lessLow hok (n := M) hM.1 (by omega)
  unfold exCut at e2 e4 e5
  unfold exLess at e3
  rw [lw_eq] at e2 e3 e4 e5
  rw [e1, e2, e3, e4, e5]
  cases h : rk os 0 with
  | none =>
    rw [n2 h, n4 h, n5 h]
    exact ⟨false, 0, 0, 0, 0, rfl, rfl, rfl, rfl, rfl, fun h => by cases h⟩
  | some a =>
    obtain ⟨b2, rfl, p1, p2, _, _⟩ := s2 a h
    obtain ⟨b4, rfl, _, _, p3, _⟩ := s4 a h
    obtain ⟨b5, rfl, _, _, _, p4⟩ := s5 a h
    obtain rfl := p3 rfl
    obtain rfl := p4 rfl
    have := rk_mon hok h
    exact ⟨true, b4, b2, b4 - M, b4, rfl, rfl, rfl, rfl, rfl, fun _ => ⟨p1, p2, this.2, rfl, rfl⟩⟩
set_option maxRecDepth 100000 in
set_option maxHeartbeats 8000000 in
theorem ValueCuts_at (H : ValueOk) (A : Option Addr) (c : Nat) (zs : List (Int × Int)) (n m : Int) (hn : i64 n) (hm : i64 m) (w : World) (hr : Rel w w) (hz : PairsIn w A zs.length zs) :
    Calls Tryd.prog 7 #[.slice A zs.length c, .int .i64 n, .int .i64 m] w fun e w' => e = .returned (.bool true) ∧ Rel w w' := by
  have H := Lib.hid H
  have HR := Lib.hid hr
  have HZ := Lib.hid hz
  obtain ⟨os, hos⟩ : ∃ os, offS zs = os := ⟨_, rfl⟩
  have hOf := fun (w0 w : World) (hr : Rel w0 w) (hz : PairsIn w A zs.length zs) => offers_any A c zs w0 w hr hz
  rw [hos] at hOf
  have HOf := Lib.hid hOf
  have hok : offsOk os = true := by rw [← hos]; exact offS_ok zs
  have HOk := Lib.hid hok
  have h8 := offs_len hok
  have HFit := Lib.hid (offs_fit hok)
  have hnb := pk_bd n 10001 (by omega)
  have hmb := pk_bd m 5000 (by omega)
  obtain ⟨N, hN⟩ : ∃ N, pk n 10001 = N := ⟨_, rfl⟩
  obtain ⟨M, hM⟩ : ∃ M, pk m 5000 = M := ⟨_, rfl⟩
  rw [hN] at hnb
  rw [hM] at hmb
  have HN := Lib.hid hN
  have HM := Lib.hid hM
  clear hN hM hos hr hz hOf hok
  go_enter Tryd.func7, Tryd.ntmps7
  go_upto_region 3 with (first
    | (go_at_call 8; (with_reducible refine (awake9_any H.out _ _ HR.out).mono ?_); rintro e w1 ⟨rfl, h1⟩; have R1 := Lib.hid h1)
    | (go_at_call 10; (with_reducible refine (HOf.out _ _ R1.out (HZ.out.rel9 R1.out)).mono ?_); rintro e w2 ⟨A2, c2, rfl, hO, h2⟩; have R2 := Lib.hid h2; have HO := Lib.hid hO))
  go_upto_region 4 with (fail)
  have hR3 := R2.out.alloc (.cells #[.int .i64 1, .int .i64 0, .string ⟨#[]⟩, .slice none 0 0] 27)
  have HB := Lib.hid (Bk.new w2 27 #[.int .i64 1, .int .i64 0, .string ⟨#[]⟩, .slice none 0 0])
  have HOA := Lib.hid ((HO.out.arg HFit.out).rel (R2.out.self.alloc (.cells #[.int .i64 1, .int .i64 0, .string ⟨#[]⟩, .slice none 0 0] 27)))
  have RW := Lib.hid hR3
  obtain ⟨W, hW⟩ : ∃ W, w2.alloc (.cells #[.int .i64 1, .int .i64 0, .string ⟨#[]⟩, .slice none 0 0] 27) = W := ⟨_, rfl⟩
  rw [hW] at RW HB HOA ⊢
  clear hW hR3
  obtain ⟨t, a, b, c3, d, q1, q2, q3, q4, q5, hab⟩ := cuts_tell HOk.out hnb hmb
  have Q1 := Lib.hid q1
  have Q2 := Lib.hid q2
  have Q3 := Lib.hid q3
  have Q4 := Lib.hid q4
  have Q5 := Lib.hid q5
  have HAB := Lib.hid hab
  clear q1 q2 q3 q4 q5 hab
  have V1 : Hid (EV (1, 0, [], none, 0, 0) = .agg #[.int .i64 1, .int .i64 0, .string ⟨#[]⟩, .slice none 0 0]) := Lib.hid rfl
  have VX : Hid (∀ (k n : Int) (g : Nat), EV (k, n, [], some ⟨g, 0, none⟩, 1, 1) = .agg #[.int .i64 k, .int .i64 n, .string ⟨#[]⟩, .slice (some ⟨g, 0, none⟩) 1 1]) := Lib.hid (fun _ _ _ => rfl)
  obtain ⟨n0, n1⟩ := hn
  obtain ⟨m0, m1⟩ := hm
  obtain ⟨N0, N1⟩ := hnb
  obtain ⟨M0, M1⟩ := hmb
  have HNi : Hid (i64 N ∧ i64 M) := Lib.hid ⟨⟨by omega, by omega⟩, ⟨by omega, by omega⟩⟩
  obtain ⟨⟨b0, b1, b2, b3⟩, _⟩ := HB.out.four
  go_upto_region 5 with (go_at_call 11; (with_reducible refine (eval_as H.out exLow os a t 0 Q1 (fun _ => True) (1, 0, [], none, 0, 0) A2 c2 _ _ RW.out.self (low_at _) lw_size9 HOA.out _ _ V1 (Lib.hid rfl)).mono ?_); rintro e w4 ⟨rfl, h4⟩; have R4 := Lib.hid h4)
  have RB := Lib.hid R4.out
  have HE1 := Lib.hid (one_drew 6 N ⟨by decide, by decide⟩ HNi.out.1 _ w4 RB.out)
  have HE2 := Lib.hid (one_at 6 N ⟨by decide, by decide⟩ HNi.out.1 w4.drew)
  go_cut [13, 14, 15] (fun x y z wx => x = .int .i64 b ∧ y = .bool t ∧ z = .int .i64 0 ∧ Rel W wx)
  case first =>
    refine wp_region_held_drew (S := (fun w' => Rel w4 w')) (by kernel_rfl) RB.out.self.drew (fun hHeld => ?_)
    refine held_take (i := 0) (v := ?_) (some 37) rfl rfl (by kernel_rfl) (by kernel_rfl) (by kernel_rfl) (fun _ _ _ h => h) (Or.inl ⟨by rfl, ?_⟩) hHeld ?_
    rotate_left 1
    · intro w' (h : Rel w4 w'); obtain ⟨⟨x0, x1, x2, x3⟩, _⟩ := (HB.out.rel (RB.out.trans h)).four; go_simp; try with_reducible rfl
    try simp only [Act.put, List.setIfInBounds_toArray, List.set_cons_zero, List.set_cons_succ]
    refine held_take (i := 2) (v := ?_) (some 39) rfl rfl (by kernel_rfl) (by kernel_rfl) (by kernel_rfl) (fun _ _ _ h => h) (Or.inl ⟨by rfl, ?_⟩) hHeld ?_
    rotate_left 1
    · intro w' (h : Rel w4 w'); obtain ⟨⟨x0, x1, x2, x3⟩, _⟩ := (HB.out.rel (RB.out.trans h)).four; go_simp; try with_reducible rfl
    try simp only [Act.put, List.setIfInBounds_toArray, List.set_cons_zero, List.set_cons_succ]
    refine held_take (i := 5) (v := ?_) (some 42) rfl rfl (by kernel_rfl) (by kernel_rfl) (by kernel_rfl) (fun _ _ _ h => h) (Or.inl ⟨by rfl, ?_⟩) hHeld ?_
    rotate_left 1
    · intro w' (h : Rel w4 w'); obtain ⟨⟨x0, x1, x2, x3⟩, _⟩ := (HB.out.rel (RB.out.trans h)).four; go_simp; try with_reducible rfl
    try simp only [Act.put, List.setIfInBounds_toArray, List.set_cons_zero, List.set_cons_succ]
    refine held_two (j := 1) (k := 3) (by kernel_rfl) rfl rfl (fun K hK => ?_) (fun K hK => ?_)
    · skip
      try simp only [List.getElem_toArray, List.getElem_cons_succ, List.getElem_cons_zero]
      rw [if_pos (by rfl)]
      go_simp
      go_at_call 14
      (with_reducible refine (pk9_as n 10001 N HN n0 n1 (by omega) (by omega) _).mono ?_)
      rintro e w' ⟨rfl, rfl⟩
      refine hK.out _ _ hHeld (fun hHeld => ?_)
      clear hK K
      try simp only [Act.put, List.setIfInBounds_toArray, List.set_cons_zero, List.set_cons_succ]
      refine held_one (j := 3) (by kernel_rfl) rfl (fun K hK => ?_)
      try simp only [List.getElem_toArray, List.getElem_cons_succ, List.getElem_cons_zero]
      rw [if_pos (by rfl)]
      go_simp
      refine hK.out _ _ (hHeld.alloc _) (fun hHeld => ?_)
      clear hK K
      try simp only [Act.put, List.setIfInBounds_toArray, List.set_cons_zero, List.set_cons_succ]
      refine held_take (i := 4) (v := ?_) (some 41) rfl rfl (by kernel_rfl) (by kernel_rfl) (by kernel_rfl) (fun _ _ _ h => h) (Or.inl ⟨by rfl, ?_⟩) hHeld ?_
      rotate_left 1
      · intro w' (h : Rel w4 w'); obtain ⟨⟨x0, x1, x2, x3⟩, _⟩ := (HB.out.rel (RB.out.trans h)).four; go_simp; try with_reducible rfl
      try simp only [Act.put, List.setIfInBounds_toArray, List.set_cons_zero, List.set_cons_succ]
      refine held_one (j := 6) (by kernel_rfl) rfl (fun K hK => ?_)
      try simp only [List.getElem_toArray, List.getElem_cons_succ, List.getElem_cons_zero]
      rw [if_pos (by rfl)]
      go_simp
      go_at_call 11
      (with_reducible refine (eval_as H.out (.mk 6 N [] [exLow]) os b t 0 Q2 (fun _ => True) (6, N, [], some ⟨w4.heap.size, 0, none⟩, 1, 1) A2 c2 _ _ hHeld.self (by first | exact HE1.out | exact HE2.out) (one_size 6 N) (HOA.out.rel (RB.out.trans hHeld)) _ _ (Lib.hid (VX.out _ _ _)) (Lib.hid rfl)).mono ?_)
      rintro e w5 ⟨rfl, h9⟩
      refine hK.out _ _ (hHeld.trans h9) (fun hHeld => ?_)
      clear hK K
      try simp only [Act.put, List.setIfInBounds_toArray, List.set_cons_zero, List.set_cons_succ]
      refine held_take (i := 7) (v := ?_) (some 36) rfl rfl (by kernel_rfl) (by kernel_rfl) (by kernel_rfl) (fun _ _ _ h => h) (Or.inl ⟨by rfl, ?_⟩) hHeld ?_
      rotate_left 1
      · intro w' (h : Rel w4 w'); obtain ⟨⟨x0, x1, x2, x3⟩, _⟩ := (HB.out.rel (RB.out.trans h)).four; go_simp; try with_reducible rfl
      try simp only [Act.put, List.setIfInBounds_toArray, List.set_cons_zero, List.set_cons_succ]
      refine held_take (i := 8) (v := ?_) (some 44) rfl rfl (by kernel_rfl) (by kernel_rfl) (by kernel_rfl) (fun _ _ _ h => h) (Or.inl ⟨by rfl, ?_⟩) hHeld ?_
      rotate_left 1
      · intro w' (h : Rel w4 w'); obtain ⟨⟨x0, x1, x2, x3⟩, _⟩ := (HB.out.rel (RB.out.trans h)).four; go_simp; try with_reducible rfl
      try simp only [Act.put, List.setIfInBounds_toArray, List.set_cons_zero, List.set_cons_succ]
      refine held_take (i := 9) (v := ?_) (some 45) rfl rfl (by kernel_rfl) (by kernel_rfl) (by kernel_rfl) (fun _ _ _ h => h) (Or.inl ⟨by rfl, ?_⟩) hHeld ?_
      rotate_left 1
      · intro w' (h : Rel w4 w'); obtain ⟨⟨x0, x1, x2, x3⟩, _⟩ := (HB.out.rel (RB.out.trans h)).four; go_simp; try with_reducible rfl
      try simp only [Act.put, List.setIfInBounds_toArray, List.set_cons_zero, List.set_cons_succ]
      refine held_take (i := 10) (v := ?_) (some 46) rfl rfl (by kernel_rfl) (by kernel_rfl) (by kernel_rfl) (fun _ _ _ h => h) (Or.inl ⟨by rfl, ?_⟩) hHeld ?_
      rotate_left 1
      · intro w' (h : Rel w4 w'); obtain ⟨⟨x0, x1, x2, x3⟩, _⟩ := (HB.out.rel (RB.out.trans h)).four; go_simp; try with_reducible rfl
      try simp only [Act.put, List.setIfInBounds_toArray, List.set_cons_zero, List.set_cons_succ]
      refine held_take (i := 11) (v := ?_) (some 13) rfl rfl (by kernel_rfl) (by kernel_rfl) (by kernel_rfl) (fun _ _ _ h => h) (Or.inl ⟨by rfl, ?_⟩) hHeld ?_
      rotate_left 1
      · intro w' (h : Rel w4 w'); obtain ⟨⟨x0, x1, x2, x3⟩, _⟩ := (HB.out.rel (RB.out.trans h)).four; go_simp; try with_reducible rfl
      try simp only [Act.put, List.setIfInBounds_toArray, List.set_cons_zero, List.set_cons_succ]
      refine held_take (i := 12) (v := ?_) (some 14) rfl rfl (by kernel_rfl) (by kernel_rfl) (by kernel_rfl) (fun _ _ _ h => h) (Or.inl ⟨by rfl, ?_⟩) hHeld ?_
      rotate_left 1
      · intro w' (h : Rel w4 w'); obtain ⟨⟨x0, x1, x2, x3⟩, _⟩ := (HB.out.rel (RB.out.trans h)).four; go_simp; try with_reducible rfl
      try simp only [Act.put, List.setIfInBounds_toArray, List.set_cons_zero, List.set_cons_succ]
      refine held_take (i := 13) (v := ?_) (some 15) rfl rfl (by kernel_rfl) (by kernel_rfl) (by kernel_rfl) (fun _ _ _ h => h) (Or.inl ⟨by rfl, ?_⟩) hHeld ?_
      rotate_left 1
      · intro w' (h : Rel w4 w'); obtain ⟨⟨x0, x1, x2, x3⟩, _⟩ := (HB.out.rel (RB.out.trans h)).four; go_simp; try with_reducible rfl
      try simp only [Act.put, List.setIfInBounds_toArray, List.set_cons_zero, List.set_cons_succ]
      refine wpAnyH_done (by kernel_rfl) ?_ _
      go_wp2_with (fail)
      go_meet
      exact ⟨rfl, rfl, rfl, RB.out.trans hHeld⟩
    · skip
      try simp only [List.getElem_toArray, List.getElem_cons_succ, List.getElem_cons_zero]
      rw [if_pos (by rfl)]
      go_simp
      refine hK.out _ _ (hHeld.alloc _) (fun hHeld => ?_)
      clear hK K
      try simp only [Act.put, List.setIfInBounds_toArray, List.set_cons_zero, List.set_cons_succ]
      refine held_one (j := 1) (by kernel_rfl) rfl (fun K hK => ?_)
      try simp only [List.getElem_toArray, List.getElem_cons_succ, List.getElem_cons_zero]
      rw [if_pos (by rfl)]
      go_simp
      go_at_call 14
      (with_reducible refine (pk9_as n 10001 N HN n0 n1 (by omega) (by omega) _).mono ?_)
      rintro e w' ⟨rfl, rfl⟩
      refine hK.out _ _ hHeld (fun hHeld => ?_)
      clear hK K
      try simp only [Act.put, List.setIfInBounds_toArray, List.set_cons_zero, List.set_cons_succ]
      refine held_take (i := 4) (v := ?_) (some 41) rfl rfl (by kernel_rfl) (by kernel_rfl) (by kernel_rfl) (fun _ _ _ h => h) (Or.inl ⟨by rfl, ?_⟩) hHeld ?_
      rotate_left 1
      · intro w' (h : Rel w4 w'); obtain ⟨⟨x0, x1, x2, x3⟩, _⟩ := (HB.out.rel (RB.out.trans h)).four; go_simp; try with_reducible rfl
      try simp only [Act.put, List.setIfInBounds_toArray, List.set_cons_zero, List.set_cons_succ]
      refine held_one (j := 6) (by kernel_rfl) rfl (fun K hK => ?_)
      try simp only [List.getElem_toArray, List.getElem_cons_succ, List.getElem_cons_zero]
      rw [if_pos (by rfl)]
      go_simp
      go_at_call 11
      (with_reducible refine (eval_as H.out (.mk 6 N [] [exLow]) os b t 0 Q2 (fun _ => True) (6, N, [], some ⟨w4.heap.size, 0, none⟩, 1, 1) A2 c2 _ _ hHeld.self (by first | exact HE1.out | exact HE2.out) (one_size 6 N) (HOA.out.rel (RB.out.trans hHeld)) _ _ (Lib.hid (VX.out _ _ _)) (Lib.hid rfl)).mono ?_)
      rintro e w5 ⟨rfl, h9⟩
      refine hK.out _ _ (hHeld.trans h9) (fun hHeld => ?_)
      clear hK K
      try simp only [Act.put, List.setIfInBounds_toArray, List.set_cons_zero, List.set_cons_succ]
      refine held_take (i := 7) (v := ?_) (some 36) rfl rfl (by kernel_rfl) (by kernel_rfl) (by kernel_rfl) (fun _ _ _ h => h) (Or.inl ⟨by rfl, ?_⟩) hHeld ?_
      rotate_left 1
      · intro w' (h : Rel w4 w'); obtain ⟨⟨x0, x1, x2, x3⟩, _⟩ := (HB.out.rel (RB.out.trans h)).four; go_simp; try with_reducible rfl
      try simp only [Act.put, List.setIfInBounds_toArray, List.set_cons_zero, List.set_cons_succ]
      refine held_take (i := 8) (v := ?_) (some 44) rfl rfl (by kernel_rfl) (by kernel_rfl) (by kernel_rfl) (fun _ _ _ h => h) (Or.inl ⟨by rfl, ?_⟩) hHeld ?_
      rotate_left 1
      · intro w' (h : Rel w4 w'); obtain ⟨⟨x0, x1, x2, x3⟩, _⟩ := (HB.out.rel (RB.out.trans h)).four; go_simp; try with_reducible rfl
      try simp only [Act.put, List.setIfInBounds_toArray, List.set_cons_zero, List.set_cons_succ]
      refine held_take (i := 9) (v := ?_) (some 45) rfl rfl (by kernel_rfl) (by kernel_rfl) (by kernel_rfl) (fun _ _ _ h => h) (Or.inl ⟨by rfl, ?_⟩) hHeld ?_
      rotate_left 1
      · intro w' (h : Rel w4 w'); obtain ⟨⟨x0, x1, x2, x3⟩, _⟩ := (HB.out.rel (RB.out.trans h)).four; go_simp; try with_reducible rfl
      try simp only [Act.put, List.setIfInBounds_toArray, List.set_cons_zero, List.set_cons_succ]
      refine held_take (i := 10) (v := ?_) (some 46) rfl rfl (by kernel_rfl) (by kernel_rfl) (by kernel_rfl) (fun _ _ _ h => h) (Or.inl ⟨by rfl, ?_⟩) hHeld ?_
      rotate_left 1
      · intro w' (h : Rel w4 w'); obtain ⟨⟨x0, x1, x2, x3⟩, _⟩ := (HB.out.rel (RB.out.trans h)).four; go_simp; try with_reducible rfl
      try simp only [Act.put, List.setIfInBounds_toArray, List.set_cons_zero, List.set_cons_succ]
      refine held_take (i := 11) (v := ?_) (some 13) rfl rfl (by kernel_rfl) (by kernel_rfl) (by kernel_rfl) (fun _ _ _ h => h) (Or.inl ⟨by rfl, ?_⟩) hHeld ?_
      rotate_left 1
      · intro w' (h : Rel w4 w'); obtain ⟨⟨x0, x1, x2, x3⟩, _⟩ := (HB.out.rel (RB.out.trans h)).four; go_simp; try with_reducible rfl
      try simp only [Act.put, List.setIfInBounds_toArray, List.set_cons_zero, List.set_cons_succ]
      refine held_take (i := 12) (v := ?_) (some 14) rfl rfl (by kernel_rfl) (by kernel_rfl) (by kernel_rfl) (fun _ _ _ h => h) (Or.inl ⟨by rfl, ?_⟩) hHeld ?_
      rotate_left 1
      · intro w' (h : Rel w4 w'); obtain ⟨⟨x0, x1, x2, x3⟩, _⟩ := (HB.out.rel (RB.out.trans h)).four; go_simp; try with_reducible rfl
      try simp only [Act.put, List.setIfInBounds_toArray, List.set_cons_zero, List.set_cons_succ]
      refine held_take (i := 13) (v := ?_) (some 15) rfl rfl (by kernel_rfl) (by kernel_rfl) (by kernel_rfl) (fun _ _ _ h => h) (Or.inl ⟨by rfl, ?_⟩) hHeld ?_
      rotate_left 1
      · intro w' (h : Rel w4 w'); obtain ⟨⟨x0, x1, x2, x3⟩, _⟩ := (HB.out.rel (RB.out.trans h)).four; go_simp; try with_reducible rfl
      try simp only [Act.put, List.setIfInBounds_toArray, List.set_cons_zero, List.set_cons_succ]
      refine wpAnyH_done (by kernel_rfl) ?_ _
      go_wp2_with (fail)
      go_meet
      exact ⟨rfl, rfl, rfl, RB.out.trans hHeld⟩
  obtain ⟨rfl, rfl, rfl, hR5⟩ := hcut
  clear HE1 HE2 RB
  obtain ⟨wd, hwd⟩ : ∃ wd, wd = wc := ⟨_, rfl⟩
  subst hwd
  have RB := Lib.hid hR5
  go_upto_region 6 with (fail)
  have HE1 := Lib.hid (one_drew 5 M ⟨by decide, by decide⟩ HNi.out.2 _ wd RB.out)
  have HE2 := Lib.hid (one_at 5 M ⟨by decide, by decide⟩ HNi.out.2 wd.drew)
  go_cut [16, 17, 18] (fun x y z wx => x = .int .i64 c3 ∧ y = .bool t ∧ z = .int .i64 0 ∧ Rel W wx)
  case first =>
    refine wp_region_held_drew (S := (fun w' => Rel wd w')) (by kernel_rfl) RB.out.self.drew (fun hHeld => ?_)
    refine held_take (i := 0) (v := ?_) (some 48) rfl rfl (by kernel_rfl) (by kernel_rfl) (by kernel_rfl) (fun _ _ _ h => h) (Or.inl ⟨by rfl, ?_⟩) hHeld ?_
    rotate_left 1
    · intro w' (h : Rel wd w'); obtain ⟨⟨x0, x1, x2, x3⟩, _⟩ := (HB.out.rel (RB.out.trans h)).four; go_simp; try with_reducible rfl
    try simp only [Act.put, List.setIfInBounds_toArray, List.set_cons_zero, List.set_cons_succ]
    refine held_take (i := 2) (v := ?_) (some 50) rfl rfl (by kernel_rfl) (by kernel_rfl) (by kernel_rfl) (fun _ _ _ h => h) (Or.inl ⟨by rfl, ?_⟩) hHeld ?_
    rotate_left 1
    · intro w' (h : Rel wd w'); obtain ⟨⟨x0, x1, x2, x3⟩, _⟩ := (HB.out.rel (RB.out.trans h)).four; go_simp; try with_reducible rfl
    try simp only [Act.put, List.setIfInBounds_toArray, List.set_cons_zero, List.set_cons_succ]
    refine held_take (i := 5) (v := ?_) (some 53) rfl rfl (by kernel_rfl) (by kernel_rfl) (by kernel_rfl) (fun _ _ _ h => h) (Or.inl ⟨by rfl, ?_⟩) hHeld ?_
    rotate_left 1
    · intro w' (h : Rel wd w'); obtain ⟨⟨x0, x1, x2, x3⟩, _⟩ := (HB.out.rel (RB.out.trans h)).four; go_simp; try with_reducible rfl
    try simp only [Act.put, List.setIfInBounds_toArray, List.set_cons_zero, List.set_cons_succ]
    refine held_two (j := 1) (k := 3) (by kernel_rfl) rfl rfl (fun K hK => ?_) (fun K hK => ?_)
    · skip
      try simp only [List.getElem_toArray, List.getElem_cons_succ, List.getElem_cons_zero]
      rw [if_pos (by rfl)]
      go_simp
      go_at_call 14
      (with_reducible refine (pk9_as m 5000 M HM m0 m1 (by omega) (by omega) _).mono ?_)
      rintro e w' ⟨rfl, rfl⟩
      refine hK.out _ _ hHeld (fun hHeld => ?_)
      clear hK K
      try simp only [Act.put, List.setIfInBounds_toArray, List.set_cons_zero, List.set_cons_succ]
      refine held_one (j := 3) (by kernel_rfl) rfl (fun K hK => ?_)
      try simp only [List.getElem_toArray, List.getElem_cons_succ, List.getElem_cons_zero]
      rw [if_pos (by rfl)]
      go_simp
      refine hK.out _ _ (hHeld.alloc _) (fun hHeld => ?_)
      clear hK K
      try simp only [Act.put, List.setIfInBounds_toArray, List.set_cons_zero, List.set_cons_succ]
      refine held_take (i := 4) (v := ?_) (some 52) rfl rfl (by kernel_rfl) (by kernel_rfl) (by kernel_rfl) (fun _ _ _ h => h) (Or.inl ⟨by rfl, ?_⟩) hHeld ?_
      rotate_left 1
      · intro w' (h : Rel wd w'); obtain ⟨⟨x0, x1, x2, x3⟩, _⟩ := (HB.out.rel (RB.out.trans h)).four; go_simp; try with_reducible rfl
      try simp only [Act.put, List.setIfInBounds_toArray, List.set_cons_zero, List.set_cons_succ]
      refine held_one (j := 6) (by kernel_rfl) rfl (fun K hK => ?_)
      try simp only [List.getElem_toArray, List.getElem_cons_succ, List.getElem_cons_zero]
      rw [if_pos (by rfl)]
      go_simp
      go_at_call 11
      (with_reducible refine (eval_as H.out (.mk 5 M [] [exLow]) os c3 t 0 Q3 (fun _ => True) (5, M, [], some ⟨wd.heap.size, 0, none⟩, 1, 1) A2 c2 _ _ hHeld.self (by first | exact HE1.out | exact HE2.out) (one_size 5 M) (HOA.out.rel (RB.out.trans hHeld)) _ _ (Lib.hid (VX.out _ _ _)) (Lib.hid rfl)).mono ?_)
      rintro e w6 ⟨rfl, h9⟩
      refine hK.out _ _ (hHeld.trans h9) (fun hHeld => ?_)
      clear hK K
      try simp only [Act.put, List.setIfInBounds_toArray, List.set_cons_zero, List.set_cons_succ]
      refine held_take (i := 7) (v := ?_) (some 47) rfl rfl (by kernel_rfl) (by kernel_rfl) (by kernel_rfl) (fun _ _ _ h => h) (Or.inl ⟨by rfl, ?_⟩) hHeld ?_
      rotate_left 1
      · intro w' (h : Rel wd w'); obtain ⟨⟨x0, x1, x2, x3⟩, _⟩ := (HB.out.rel (RB.out.trans h)).four; go_simp; try with_reducible rfl
      try simp only [Act.put, List.setIfInBounds_toArray, List.set_cons_zero, List.set_cons_succ]
      refine held_take (i := 8) (v := ?_) (some 55) rfl rfl (by kernel_rfl) (by kernel_rfl) (by kernel_rfl) (fun _ _ _ h => h) (Or.inl ⟨by rfl, ?_⟩) hHeld ?_
      rotate_left 1
      · intro w' (h : Rel wd w'); obtain ⟨⟨x0, x1, x2, x3⟩, _⟩ := (HB.out.rel (RB.out.trans h)).four; go_simp; try with_reducible rfl
      try simp only [Act.put, List.setIfInBounds_toArray, List.set_cons_zero, List.set_cons_succ]
      refine held_take (i := 9) (v := ?_) (some 56) rfl rfl (by kernel_rfl) (by kernel_rfl) (by kernel_rfl) (fun _ _ _ h => h) (Or.inl ⟨by rfl, ?_⟩) hHeld ?_
      rotate_left 1
      · intro w' (h : Rel wd w'); obtain ⟨⟨x0, x1, x2, x3⟩, _⟩ := (HB.out.rel (RB.out.trans h)).four; go_simp; try with_reducible rfl
      try simp only [Act.put, List.setIfInBounds_toArray, List.set_cons_zero, List.set_cons_succ]
      refine held_take (i := 10) (v := ?_) (some 57) rfl rfl (by kernel_rfl) (by kernel_rfl) (by kernel_rfl) (fun _ _ _ h => h) (Or.inl ⟨by rfl, ?_⟩) hHeld ?_
      rotate_left 1
      · intro w' (h : Rel wd w'); obtain ⟨⟨x0, x1, x2, x3⟩, _⟩ := (HB.out.rel (RB.out.trans h)).four; go_simp; try with_reducible rfl
      try simp only [Act.put, List.setIfInBounds_toArray, List.set_cons_zero, List.set_cons_succ]
      refine held_take (i := 11) (v := ?_) (some 16) rfl rfl (by kernel_rfl) (by kernel_rfl) (by kernel_rfl) (fun _ _ _ h => h) (Or.inl ⟨by rfl, ?_⟩) hHeld ?_
      rotate_left 1
      · intro w' (h : Rel wd w'); obtain ⟨⟨x0, x1, x2, x3⟩, _⟩ := (HB.out.rel (RB.out.trans h)).four; go_simp; try with_reducible rfl
      try simp only [Act.put, List.setIfInBounds_toArray, List.set_cons_zero, List.set_cons_succ]
      refine held_take (i := 12) (v := ?_) (some 17) rfl rfl (by kernel_rfl) (by kernel_rfl) (by kernel_rfl) (fun _ _ _ h => h) (Or.inl ⟨by rfl, ?_⟩) hHeld ?_
      rotate_left 1
      · intro w' (h : Rel wd w'); obtain ⟨⟨x0, x1, x2, x3⟩, _⟩ := (HB.out.rel (RB.out.trans h)).four; go_simp; try with_reducible rfl
      try simp only [Act.put, List.setIfInBounds_toArray, List.set_cons_zero, List.set_cons_succ]
      refine held_take (i := 13) (v := ?_) (some 18) rfl rfl (by kernel_rfl) (by kernel_rfl) (by kernel_rfl) (fun _ _ _ h => h) (Or.inl ⟨by rfl, ?_⟩) hHeld ?_
      rotate_left 1
      · intro w' (h : Rel wd w'); obtain ⟨⟨x0, x1, x2, x3⟩, _⟩ := (HB.out.rel (RB.out.trans h)).four; go_simp; try with_reducible rfl
      try simp only [Act.put, List.setIfInBounds_toArray, List.set_cons_zero, List.set_cons_succ]
      refine wpAnyH_done (by kernel_rfl) ?_ _
      go_wp2_with (fail)
      go_meet
      exact ⟨rfl, rfl, rfl, RB.out.trans hHeld⟩
    · skip
      try simp only [List.getElem_toArray, List.getElem_cons_succ, List.getElem_cons_zero]
      rw [if_pos (by rfl)]
      go_simp
      refine hK.out _ _ (hHeld.alloc _) (fun hHeld => ?_)
      clear hK K
      try simp only [Act.put, List.setIfInBounds_toArray, List.set_cons_zero, List.set_cons_succ]
      refine held_one (j := 1) (by kernel_rfl) rfl (fun K hK => ?_)
      try simp only [List.getElem_toArray, List.getElem_cons_succ, List.getElem_cons_zero]
      rw [if_pos (by rfl)]
      go_simp
      go_at_call 14
      (with_reducible refine (pk9_as m 5000 M HM m0 m1 (by omega) (by omega) _).mono ?_)
      rintro e w' ⟨rfl, rfl⟩
      refine hK.out _ _ hHeld (fun hHeld => ?_)
      clear hK K
      try simp only [Act.put, List.setIfInBounds_toArray, List.set_cons_zero, List.set_cons_succ]
      refine held_take (i := 4) (v := ?_) (some 52) rfl rfl (by kernel_rfl) (by kernel_rfl) (by kernel_rfl) (fun _ _ _ h => h) (Or.inl ⟨by rfl, ?_⟩) hHeld ?_
      rotate_left 1
      · intro w' (h : Rel wd w'); obtain ⟨⟨x0, x1, x2, x3⟩, _⟩ := (HB.out.rel (RB.out.trans h)).four; go_simp; try with_reducible rfl
      try simp only [Act.put, List.setIfInBounds_toArray, List.set_cons_zero, List.set_cons_succ]
      refine held_one (j := 6) (by kernel_rfl) rfl (fun K hK => ?_)
      try simp only [List.getElem_toArray, List.getElem_cons_succ, List.getElem_cons_zero]
      rw [if_pos (by rfl)]
      go_simp
      go_at_call 11
      (with_reducible refine (eval_as H.out (.mk 5 M [] [exLow]) os c3 t 0 Q3 (fun _ => True) (5, M, [], some ⟨wd.heap.size, 0, none⟩, 1, 1) A2 c2 _ _ hHeld.self (by first | exact HE1.out | exact HE2.out) (one_size 5 M) (HOA.out.rel (RB.out.trans hHeld)) _ _ (Lib.hid (VX.out _ _ _)) (Lib.hid rfl)).mono ?_)
      rintro e w6 ⟨rfl, h9⟩
      refine hK.out _ _ (hHeld.trans h9) (fun hHeld => ?_)
      clear hK K
      try simp only [Act.put, List.setIfInBounds_toArray, List.set_cons_zero, List.set_cons_succ]
      refine held_take (i := 7) (v := ?_) (some 47) rfl rfl (by kernel_rfl) (by kernel_rfl) (by kernel_rfl) (fun _ _ _ h => h) (Or.inl ⟨by rfl, ?_⟩) hHeld ?_
      rotate_left 1
      · intro w' (h : Rel wd w'); obtain ⟨⟨x0, x1, x2, x3⟩, _⟩ := (HB.out.rel (RB.out.trans h)).four; go_simp; try with_reducible rfl
      try simp only [Act.put, List.setIfInBounds_toArray, List.set_cons_zero, List.set_cons_succ]
      refine held_take (i := 8) (v := ?_) (some 55) rfl rfl (by kernel_rfl) (by kernel_rfl) (by kernel_rfl) (fun _ _ _ h => h) (Or.inl ⟨by rfl, ?_⟩) hHeld ?_
      rotate_left 1
      · intro w' (h : Rel wd w'); obtain ⟨⟨x0, x1, x2, x3⟩, _⟩ := (HB.out.rel (RB.out.trans h)).four; go_simp; try with_reducible rfl
      try simp only [Act.put, List.setIfInBounds_toArray, List.set_cons_zero, List.set_cons_succ]
      refine held_take (i := 9) (v := ?_) (some 56) rfl rfl (by kernel_rfl) (by kernel_rfl) (by kernel_rfl) (fun _ _ _ h => h) (Or.inl ⟨by rfl, ?_⟩) hHeld ?_
      rotate_left 1
      · intro w' (h : Rel wd w'); obtain ⟨⟨x0, x1, x2, x3⟩, _⟩ := (HB.out.rel (RB.out.trans h)).four; go_simp; try with_reducible rfl
      try simp only [Act.put, List.setIfInBounds_toArray, List.set_cons_zero, List.set_cons_succ]
      refine held_take (i := 10) (v := ?_) (some 57) rfl rfl (by kernel_rfl) (by kernel_rfl) (by kernel_rfl) (fun _ _ _ h => h) (Or.inl ⟨by rfl, ?_⟩) hHeld ?_
      rotate_left 1
      · intro w' (h : Rel wd w'); obtain ⟨⟨x0, x1, x2, x3⟩, _⟩ := (HB.out.rel (RB.out.trans h)).four; go_simp; try with_reducible rfl
      try simp only [Act.put, List.setIfInBounds_toArray, List.set_cons_zero, List.set_cons_succ]
      refine held_take (i := 11) (v := ?_) (some 16) rfl rfl (by kernel_rfl) (by kernel_rfl) (by kernel_rfl) (fun _ _ _ h => h) (Or.inl ⟨by rfl, ?_⟩) hHeld ?_
      rotate_left 1
      · intro w' (h : Rel wd w'); obtain ⟨⟨x0, x1, x2, x3⟩, _⟩ := (HB.out.rel (RB.out.trans h)).four; go_simp; try with_reducible rfl
      try simp only [Act.put, List.setIfInBounds_toArray, List.set_cons_zero, List.set_cons_succ]
      refine held_take (i := 12) (v := ?_) (some 17) rfl rfl (by kernel_rfl) (by kernel_rfl) (by kernel_rfl) (fun _ _ _ h => h) (Or.inl ⟨by rfl, ?_⟩) hHeld ?_
      rotate_left 1
      · intro w' (h : Rel wd w'); obtain ⟨⟨x0, x1, x2, x3⟩, _⟩ := (HB.out.rel (RB.out.trans h)).four; go_simp; try with_reducible rfl
      try simp only [Act.put, List.setIfInBounds_toArray, List.set_cons_zero, List.set_cons_succ]
      refine held_take (i := 13) (v := ?_) (some 18) rfl rfl (by kernel_rfl) (by kernel_rfl) (by kernel_rfl) (fun _ _ _ h => h) (Or.inl ⟨by rfl, ?_⟩) hHeld ?_
      rotate_left 1
      · intro w' (h : Rel wd w'); obtain ⟨⟨x0, x1, x2, x3⟩, _⟩ := (HB.out.rel (RB.out.trans h)).four; go_simp; try with_reducible rfl
      try simp only [Act.put, List.setIfInBounds_toArray, List.set_cons_zero, List.set_cons_succ]
      refine wpAnyH_done (by kernel_rfl) ?_ _
      go_wp2_with (fail)
      go_meet
      exact ⟨rfl, rfl, rfl, RB.out.trans hHeld⟩
  obtain ⟨rfl, rfl, rfl, hR6⟩ := hcut
  clear HE1 HE2 RB
  have RE := Lib.hid hR6
  obtain ⟨⟨e0, e1, e2, e3⟩, _⟩ := (HB.out.rel hR6).four
  have HE0 := Lib.hid (one_at 6 0 ⟨by decide, by decide⟩ ⟨by decide, by decide⟩)
  have HE1 := Lib.hid (one_at 6 10000 ⟨by decide, by decide⟩ ⟨by decide, by decide⟩)
  go_upto_region 9 with (first
    | (go_at_call 11; (with_reducible refine (eval_as H.out (.mk 6 0 [] [exLow]) os d t 0 Q4 (fun _ => True) (6, 0, [], some ⟨wc.heap.size, 0, none⟩, 1, 1) A2 c2 _ _ (RE.out.alloc _).self (HE0.out wc) (one_size 6 0) (HOA.out.rel (RE.out.alloc _)) _ _ (Lib.hid (VX.out _ _ _)) (Lib.hid rfl)).mono ?_); rintro e w7 ⟨rfl, h7⟩; have R7 := Lib.hid ((RE.out.alloc _).trans h7); obtain ⟨⟨f0, f1, f2, f3⟩, _⟩ := (HB.out.rel R7.out).four)
    | (go_at_call 11; (with_reducible refine (eval_as H.out (.mk 6 10000 [] [exLow]) os 0 t 0 Q5 (fun _ => True) (6, 10000, [], some ⟨w7.heap.size, 0, none⟩, 1, 1) A2 c2 _ _ (R7.out.alloc _).self (HE1.out w7) (one_size 6 10000) (HOA.out.rel (R7.out.alloc _)) _ _ (Lib.hid (VX.out _ _ _)) (Lib.hid rfl)).mono ?_); rintro e w8 ⟨rfl, h8'⟩; have R8 := Lib.hid ((R7.out.alloc _).trans h8')))
  cases t with
  | false =>
    clear Q1 Q2 Q3 Q4 Q5 HAB
    go_wp2_with (fail)
    go_ret
    exact ⟨rfl, RW.out.trans R8.out⟩
  | true =>
    obtain ⟨p0, p1, p2, rfl, rfl⟩ := HAB.out rfl
    clear Q1 Q2 Q3 Q4 Q5 HAB
    go_wp2_with (go_at_call 14; (with_reducible refine (pk9_as m 5000 M HM m0 m1 (by omega) (by omega) _).mono ?_); rintro e w' ⟨rfl, rfl⟩)
    go_ret
    exact ⟨rfl, RW.out.trans R8.out⟩
end Go.Proofs.YtpehlldgnbajjaaDoor

namespace Go.Proofs.YtpehlldgnbajjaaDoor
open Go.RowKit Go.Lib
set_option linter.unusedVariables false
set_option linter.unusedSimpArgs false

set_option maxHeartbeats 400000 in
theorem m9within_any (a l h : Int) (w : World) :
    Calls Tryd.prog 63 #[.int .i64 a, .int .i64 l, .int .i64 h] w fun e w' => e = .returned (.bool (wtM a l h)) ∧ w = w' := by
  by_cases h1 : l ≤ a <;> by_cases h2 : a ≤ h
  all_goals
    go_enter Tryd.func63, Tryd.ntmps63
    go_wp2
    all_goals
      go_ret
      exact ⟨ret_bool (by unfold wtM; rw [eq_comm]; first | exact decide_eq_true (by omega) | exact decide_eq_false (by omega)), rfl⟩
set_option maxHeartbeats 400000 in
theorem m9right_any (a : Int) (w : World) :
    Calls Tryd.prog 61 #[.int .i64 a] w fun e w' => e = .returned (.bool (rt a)) ∧ w = w' := by
  by_cases h1 : -1000000000000 ≤ a <;> by_cases h2 : a ≤ 1000000000000
  all_goals
    go_enter Tryd.func61, Tryd.ntmps61
    go_wp2
    all_goals
      go_ret
      exact ⟨ret_bool (by unfold rt; rw [eq_comm]; first | exact decide_eq_true (by omega) | exact decide_eq_false (by omega)), rfl⟩
set_option maxHeartbeats 400000 in
theorem m9checked_any (a : Int) (w : World) :
    Calls Tryd.prog 62 #[.int .i64 a] w fun e w' => Two e (told1 a) (told2 a) ∧ w = w' := by
  by_cases h1 : -1000000000000 ≤ a <;> by_cases h2 : a ≤ 1000000000000
  all_goals
    go_enter Tryd.func62, Tryd.ntmps62
    go_wp2
    go_ret2
    exact ⟨m9ret_two (by unfold told1 rt; simp only [decide_eq_true_eq]; split <;> omega) (by unfold told2 rt; simp only [decide_eq_true_eq]; split <;> omega), rfl⟩
set_option maxHeartbeats 400000 in
theorem m9sub_any (a b : Int) (w : World) :
    Calls Tryd.prog 51 #[.int .i64 a, .int .i64 b] w fun e w' => Two e (two1 a b (a - b)) (two2 a b (a - b)) ∧ w = w' := by
  by_cases h60 : -1000000000000 ≤ a
  · by_cases h50 : a ≤ 1000000000000
    · by_cases h40 : -1000000000000 ≤ b
      · by_cases h30 : b ≤ 1000000000000
        · by_cases h20 : -1000000000000 ≤ a - b
          · by_cases h10 : a - b ≤ 1000000000000
            · go_enter Tryd.func51, Tryd.ntmps51
              go_wp2
              go_ret2
              exact ⟨m9ret_two (by unfold two1 told1 rt; simp only [Bool.and_eq_true, decide_eq_true_eq]; (repeat' split) <;> omega) (by unfold two2 told2 rt; simp only [Bool.and_eq_true, decide_eq_true_eq]; (repeat' split) <;> omega), rfl⟩
            · go_enter Tryd.func51, Tryd.ntmps51
              go_wp2
              go_ret2
              exact ⟨m9ret_two (by unfold two1 told1 rt; simp only [Bool.and_eq_true, decide_eq_true_eq]; (repeat' split) <;> omega) (by unfold two2 told2 rt; simp only [Bool.and_eq_true, decide_eq_true_eq]; (repeat' split) <;> omega), rfl⟩
          · go_enter Tryd.func51, Tryd.ntmps51
            go_wp2
            go_ret2
            exact ⟨m9ret_two (by unfold two1 told1 rt; simp only [Bool.and_eq_true, decide_eq_true_eq]; (repeat' split) <;> omega) (by unfold two2 told2 rt; simp only [Bool.and_eq_true, decide_eq_true_eq]; (repeat' split) <;> omega), rfl⟩
        · go_enter Tryd.func51, Tryd.ntmps51
          go_wp2
          go_ret2
          exact ⟨m9ret_two (by unfold two1 told1 rt; simp only [Bool.and_eq_true, decide_eq_true_eq]; (repeat' split) <;> omega) (by unfold two2 told2 rt; simp only [Bool.and_eq_true, decide_eq_true_eq]; (repeat' split) <;> omega), rfl⟩
      · go_enter Tryd.func51, Tryd.ntmps51
        go_wp2
        go_ret2
        exact ⟨m9ret_two (by unfold two1 told1 rt; simp only [Bool.and_eq_true, decide_eq_true_eq]; (repeat' split) <;> omega) (by unfold two2 told2 rt; simp only [Bool.and_eq_true, decide_eq_true_eq]; (repeat' split) <;> omega), rfl⟩
    · go_enter Tryd.func51, Tryd.ntmps51
      go_wp2
      go_ret2
      exact ⟨m9ret_two (by unfold two1 told1 rt; simp only [Bool.and_eq_true, decide_eq_true_eq]; (repeat' split) <;> omega) (by unfold two2 told2 rt; simp only [Bool.and_eq_true, decide_eq_true_eq]; (repeat' split) <;> omega), rfl⟩
  · go_enter Tryd.func51, Tryd.ntmps51
    go_wp2
    go_ret2
    exact ⟨m9ret_two (by unfold two1 told1 rt; simp only [Bool.and_eq_true, decide_eq_true_eq]; (repeat' split) <;> omega) (by unfold two2 told2 rt; simp only [Bool.and_eq_true, decide_eq_true_eq]; (repeat' split) <;> omega), rfl⟩
set_option maxHeartbeats 400000 in
theorem m9floor_any (p : Int) (hp : -9223372036854775808 ≤ p) (hp' : p ≤ 9223372036854775807) (w : World) :
    Calls Tryd.prog 64 #[.int .i64 p] w fun e w' => e = .returned (.int .i64 (fl p)) ∧ w = w' := by
  have b1 : -922337203685477 ≤ p.tdiv 10000 := by have := tdt p 10000 (by omega); omega
  have b2 : p.tdiv 10000 ≤ 922337203685477 := by have := tdt p 10000 (by omega); omega
  by_cases h : p.tmod 10000 < 0
  all_goals
    go_enter Tryd.func64, Tryd.ntmps64
    go_wp2
    all_goals
      go_ret
      exact ⟨ret_int (by unfold fl; split <;> first | rfl | omega), rfl⟩
set_option maxHeartbeats 400000 in
theorem m9part_any (a b : Int) (up : Bool) (w : World) :
    Calls Tryd.prog 52 #[.int .i64 a, .int .i64 b, .bool up] w fun e w' => Two e (part1 a b up) (part2 a b up) ∧ w = w' := by
  cases ha : rt a
  · have r1 : part1 a b up = 0 := by simp [part1, ha]
    have r2 : part2 a b up = 10 := by simp [part2, ha]
    rw [r1, r2]; clear r1 r2
    go_enter Tryd.func52, Tryd.ntmps52
    go_wp2_with (first | (go_at_call 61; refine (m9right_any _ _).mono ?_; rintro e w' ⟨rfl, rfl⟩) | (go_at_call 63; refine (m9within_any _ _ _ _).mono ?_; rintro e w' ⟨rfl, rfl⟩))
    go_ret2
    exact ⟨rfl, rfl⟩
  · cases hb : wtM b (-100000) 100000
    · have r1 : part1 a b up = 0 := by simp [part1, hb]
      have r2 : part2 a b up = 10 := by simp [part2, hb]
      rw [r1, r2]; clear r1 r2
      go_enter Tryd.func52, Tryd.ntmps52
      go_wp2_with (first | (go_at_call 61; refine (m9right_any _ _).mono ?_; rintro e w' ⟨rfl, rfl⟩) | (go_at_call 63; refine (m9within_any _ _ _ _).mono ?_; rintro e w' ⟨rfl, rfl⟩))
      go_ret2
      exact ⟨rfl, rfl⟩
    · obtain ⟨a1, a2⟩ := m9rt_iff.1 ha
      obtain ⟨b1, b2⟩ := of_decide_eq_true hb
      obtain ⟨p1, p2⟩ : -100000000000000000 ≤ a * b ∧ a * b ≤ 100000000000000000 := m9prod_bd a1 a2 b1 b2
      have f1 := @m9fl_lt (a * b)
      have f2 := @m9fl_lt (-(a * b))
      obtain ⟨g1, g2⟩ : -100000000000000 ≤ fl (-(a * b)) ∧ fl (-(a * b)) ≤ 100000000000000 := by omega
      clear f1 f2
      cases up
      · have r1 : part1 a b false = told1 (fl (a * b)) := by simp [part1, ha, hb, prt]
        have r2 : part2 a b false = told2 (fl (a * b)) := by simp [part2, ha, hb, prt]
        rw [r1, r2]; clear r1 r2
        go_enter Tryd.func52, Tryd.ntmps52
        go_wp2_with (first | (go_at_call 61; refine (m9right_any _ _).mono ?_; rintro e w' ⟨rfl, rfl⟩) | (go_at_call 63; refine (m9within_any _ _ _ _).mono ?_; rintro e w' ⟨rfl, rfl⟩) | (go_at_call 64; refine (m9floor_any (a * b) (by omega) (by omega) w).mono ?_; rintro e w' ⟨rfl, rfl⟩) | (go_at_call 62; refine (m9checked_any _ _).mono ?_; rintro e w' ⟨rfl, rfl⟩))
        go_ret2
        exact ⟨rfl, rfl⟩
      · have r1 : part1 a b true = told1 (-(fl (-(a * b)))) := by simp [part1, ha, hb, prt]
        have r2 : part2 a b true = told2 (-(fl (-(a * b)))) := by simp [part2, ha, hb, prt]
        rw [r1, r2]; clear r1 r2
        go_enter Tryd.func52, Tryd.ntmps52
        go_wp2_with (first | (go_at_call 61; refine (m9right_any _ _).mono ?_; rintro e w' ⟨rfl, rfl⟩) | (go_at_call 63; refine (m9within_any _ _ _ _).mono ?_; rintro e w' ⟨rfl, rfl⟩) | (go_at_call 64; refine (m9floor_any (-(a * b)) (by omega) (by omega) w).mono ?_; rintro e w' ⟨rfl, rfl⟩) | (go_at_call 62; refine (m9checked_any _ _).mono ?_; rintro e w' ⟨rfl, rfl⟩))
        go_ret2
        exact ⟨rfl, rfl⟩
end Go.Proofs.YtpehlldgnbajjaaDoor
