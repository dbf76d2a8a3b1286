/- The document's own fine: a name, which has no arguments; The document's own fine, whole; Right and Print; The document's own Right and Print; What the laws ask of parse; the law's first calls; What is asked of the program, and the law's first calls; ParseBack, over what the program is asked; What the landed package tree tells of sizes and depths. -/
import Derived.Test.YtoajbbcjmalngaaGreatDoorZ23
import Derived.Test.YtoajbbcjmalngaaGreatDoorZ24
import Derived.Test.YtoajbbcjmalngaaGreatDoorZ20
import Derived.Test.YtoajbbcjmalngaaGreatDoorZ05
namespace Go.Proofs.YtoajbbcjmalngaaGreatDoor
open Go.RowKit Go.Lib
set_option linter.unusedVariables false
set_option linter.unusedSimpArgs false

set_option maxRecDepth 100000 in
set_option maxHeartbeats 4000000 in
theorem rfine_name (k n : Int) (l : List Ex) (A : Option Addr) (c : Nat) (d : Nat) (hd : d ≤ 40) (hl9 : l.length ≤ 1000000) (w0 w : World) (hr : Rel w0 w) (M1 M2 : Int) (HM1 : Hid (argsN k = M1)) (HM2 : Hid (mostN k = M2)) (NM : ByteArray) (zNM : NM.size ≤ 100) (q0 : decide ((d : Int) + 1 < 1) = false) (q1 : (M1 != (l.length : Int)) = false) (q1' : (M1 == (l.length : Int)) = true) (q2 : decide (n < 0) = false) (q3 : decide (M2 < n) = false) (q4 : (NM.toList != []) = true) (q4' : (NM.toList == []) = false) (q5 : (k == 3) = true) (HNb : Hid (isName NM.data.toList = true)) (hl0 : l.length = 0) :
    Calls Tryz.prog 47 #[.agg #[.int .i64 k, .int .i64 n, .string NM, .slice A l.length c], .int .i64 ((d : Int) + 1)] w fun e w' => e = .returned (.bool true) ∧ Rel w0 w' := by
  have HL0 := Lib.hid hl0
  clear hl0
  have HB := Lib.hid (Bk.new w 26 #[.int .i64 k, .int .i64 n, .string NM, .slice A l.length c])
  have HA := Lib.hid (hr.alloc (.cells #[.int .i64 k, .int .i64 n, .string NM, .slice A l.length c] 26))
  go_enter Tryz.func47, Tryz.ntmps47
  go_wp2_with (fail)
  obtain ⟨W, hW⟩ : ∃ W, w.alloc (.cells #[.int .i64 k, .int .i64 n, .string NM, .slice A l.length c] 26) = W := ⟨_, rfl⟩
  rw [hW] at HB HA ⊢
  clear hW
  obtain ⟨⟨c0, c1, c2, c3⟩, _⟩ := HB.out.four
  refine wp_region_held_drew (S := (fun w' => w'.cell? ⟨w.heap.size, 0, none⟩ = some (.int .i64 k) ∧ w'.cell? ⟨w.heap.size, 1, none⟩ = some (.int .i64 n) ∧ w'.cell? ⟨w.heap.size, 2, none⟩ = some (.string NM) ∧ w'.cell? ⟨w.heap.size, 3, none⟩ = some (.slice A l.length c))) (by kernel_rfl) ⟨c0, c1, c2, c3⟩ (fun hHeld => ?_)
  refine held_take (i := 0) (v := ?_) (some 6) rfl rfl (by kernel_rfl) (by kernel_rfl) (by kernel_rfl) (fun _ _ _ h => h) (Or.inl ⟨by rfl, ?_⟩) hHeld ?_
  rotate_left 1
  · rintro w' ⟨s0, s1, s2, s3⟩; go_simp; try with_reducible rfl
  try simp only [Act.put, List.setIfInBounds_toArray, List.set_cons_zero, List.set_cons_succ]
  refine held_take (i := 1) (v := ?_) (some 7) rfl rfl (by kernel_rfl) (by kernel_rfl) (by kernel_rfl) (fun _ _ _ h => h) (Or.inl ⟨by rfl, ?_⟩) hHeld ?_
  rotate_left 1
  · rintro w' ⟨s0, s1, s2, s3⟩; go_simp; try with_reducible rfl
  try simp only [Act.put, List.setIfInBounds_toArray, List.set_cons_zero, List.set_cons_succ]
  refine held_take (i := 2) (v := ?_) (some 8) rfl rfl (by kernel_rfl) (by kernel_rfl) (by kernel_rfl) (fun _ _ _ h => h) (Or.inl ⟨by rfl, ?_⟩) hHeld ?_
  rotate_left 1
  · rintro w' ⟨s0, s1, s2, s3⟩; go_simp; try with_reducible rfl
  try simp only [Act.put, List.setIfInBounds_toArray, List.set_cons_zero, List.set_cons_succ]
  refine held_take (i := 3) (v := ?_) (some 9) rfl rfl (by kernel_rfl) (by kernel_rfl) (by kernel_rfl) (fun _ _ _ h => h) (Or.inl ⟨by rfl, ?_⟩) hHeld ?_
  rotate_left 1
  · rintro w' ⟨s0, s1, s2, s3⟩; go_simp; try with_reducible rfl
  try simp only [Act.put, List.setIfInBounds_toArray, List.set_cons_zero, List.set_cons_succ]
  refine held_take (i := 4) (v := ?_) (some 10) rfl rfl (by kernel_rfl) (by kernel_rfl) (by kernel_rfl) (fun _ _ _ h => h) (Or.inl ⟨by rfl, ?_⟩) hHeld ?_
  rotate_left 1
  · rintro w' ⟨s0, s1, s2, s3⟩; go_simp; try with_reducible rfl
  try simp only [Act.put, List.setIfInBounds_toArray, List.set_cons_zero, List.set_cons_succ]
  refine held_take (i := 6) (v := ?_) (some 12) rfl rfl (by kernel_rfl) (by kernel_rfl) (by kernel_rfl) (fun _ _ _ h => h) (Or.inl ⟨by rfl, ?_⟩) hHeld ?_
  rotate_left 1
  · rintro w' ⟨s0, s1, s2, s3⟩; go_simp; try with_reducible rfl
  try simp only [Act.put, List.setIfInBounds_toArray, List.set_cons_zero, List.set_cons_succ]
  refine held_take (i := 7) (v := ?_) (some 13) rfl rfl (by kernel_rfl) (by kernel_rfl) (by kernel_rfl) (fun _ _ _ h => h) (Or.inl ⟨by rfl, ?_⟩) hHeld ?_
  rotate_left 1
  · rintro w' ⟨s0, s1, s2, s3⟩; go_simp; try with_reducible rfl
  try simp only [Act.put, List.setIfInBounds_toArray, List.set_cons_zero, List.set_cons_succ]
  refine held_take (i := 8) (v := ?_) (some 14) rfl rfl (by kernel_rfl) (by kernel_rfl) (by kernel_rfl) (fun _ _ _ h => h) (Or.inl ⟨by rfl, ?_⟩) hHeld ?_
  rotate_left 1
  · rintro w' ⟨s0, s1, s2, s3⟩; go_simp; try with_reducible rfl
  try simp only [Act.put, List.setIfInBounds_toArray, List.set_cons_zero, List.set_cons_succ]
  refine held_one (j := 5) (by kernel_rfl) rfl (fun K hK => ?_)
  try simp only [List.getElem_toArray, List.getElem_cons_succ, List.getElem_cons_zero]
  rw [if_pos (by rfl)]
  go_simp
  go_at_call 36
  (with_reducible refine (args_as k M1 HM1 _).mono ?_)
  rintro e w' ⟨rfl, rfl⟩
  refine hK.out _ _ hHeld (fun hHeld => ?_)
  clear hK K
  try simp only [Act.put, List.setIfInBounds_toArray, List.set_cons_zero, List.set_cons_succ]
  refine held_take (i := 9) (v := ?_) (some 15) rfl rfl (by kernel_rfl) (by kernel_rfl) (by kernel_rfl) (fun _ _ _ h => h) (Or.inl ⟨by rfl, ?_⟩) hHeld ?_
  rotate_left 1
  · rintro w' ⟨s0, s1, s2, s3⟩; go_simp; try with_reducible rfl
  try simp only [Act.put, List.setIfInBounds_toArray, List.set_cons_zero, List.set_cons_succ]
  refine held_take (i := 10) (v := ?_) (some 16) rfl rfl (by kernel_rfl) (by kernel_rfl) (by kernel_rfl) (fun _ _ _ h => h) (Or.inl ⟨by rfl, ?_⟩) hHeld ?_
  rotate_left 1
  · rintro w' ⟨s0, s1, s2, s3⟩; go_simp; try with_reducible rfl
  try simp only [Act.put, List.setIfInBounds_toArray, List.set_cons_zero, List.set_cons_succ]
  refine held_take (i := 11) (v := ?_) (some 17) rfl rfl (by kernel_rfl) (by kernel_rfl) (by kernel_rfl) (fun _ _ _ h => h) (Or.inl ⟨by rfl, ?_⟩) hHeld ?_
  rotate_left 1
  · rintro w' ⟨s0, s1, s2, s3⟩; go_simp; try with_reducible rfl
  try simp only [Act.put, List.setIfInBounds_toArray, List.set_cons_zero, List.set_cons_succ]
  refine held_take (i := 12) (v := ?_) (some 18) rfl rfl (by kernel_rfl) (by kernel_rfl) (by kernel_rfl) (fun _ _ _ h => h) (Or.inl ⟨by rfl, ?_⟩) hHeld ?_
  rotate_left 1
  · rintro w' ⟨s0, s1, s2, s3⟩; go_simp; try with_reducible rfl
  try simp only [Act.put, List.setIfInBounds_toArray, List.set_cons_zero, List.set_cons_succ]
  refine held_take (i := 13) (v := ?_) (some 19) rfl rfl (by kernel_rfl) (by kernel_rfl) (by kernel_rfl) (fun _ _ _ h => h) (Or.inl ⟨by rfl, ?_⟩) hHeld ?_
  rotate_left 1
  · rintro w' ⟨s0, s1, s2, s3⟩; go_simp; try with_reducible rfl
  try simp only [Act.put, List.setIfInBounds_toArray, List.set_cons_zero, List.set_cons_succ]
  refine held_take (i := 14) (v := ?_) (some 20) rfl rfl (by kernel_rfl) (by kernel_rfl) (by kernel_rfl) (fun _ _ _ h => h) (Or.inl ⟨by rfl, ?_⟩) hHeld ?_
  rotate_left 1
  · rintro w' ⟨s0, s1, s2, s3⟩; go_simp; try with_reducible rfl
  try simp only [Act.put, List.setIfInBounds_toArray, List.set_cons_zero, List.set_cons_succ]
  refine held_take (i := 15) (v := ?_) (some 21) rfl rfl (by kernel_rfl) (by kernel_rfl) (by kernel_rfl) (fun _ _ _ h => h) (Or.inl ⟨by rfl, ?_⟩) hHeld ?_
  rotate_left 1
  · rintro w' ⟨s0, s1, s2, s3⟩; go_simp; try with_reducible rfl
  try simp only [Act.put, List.setIfInBounds_toArray, List.set_cons_zero, List.set_cons_succ]
  refine held_take (i := 16) (v := ?_) (some 22) rfl rfl (by kernel_rfl) (by kernel_rfl) (by kernel_rfl) (fun _ _ _ h => h) (Or.inl ⟨by rfl, ?_⟩) hHeld ?_
  rotate_left 1
  · rintro w' ⟨s0, s1, s2, s3⟩; go_simp; try with_reducible rfl
  try simp only [Act.put, List.setIfInBounds_toArray, List.set_cons_zero, List.set_cons_succ]
  refine held_take (i := 17) (v := ?_) (some 23) rfl rfl (by kernel_rfl) (by kernel_rfl) (by kernel_rfl) (fun _ _ _ h => h) (Or.inl ⟨by rfl, ?_⟩) hHeld ?_
  rotate_left 1
  · rintro w' ⟨s0, s1, s2, s3⟩; go_simp; try with_reducible rfl
  try simp only [Act.put, List.setIfInBounds_toArray, List.set_cons_zero, List.set_cons_succ]
  refine held_take (i := 18) (v := ?_) (some 24) rfl rfl (by kernel_rfl) (by kernel_rfl) (by kernel_rfl) (fun _ _ _ h => h) (Or.inl ⟨by rfl, ?_⟩) hHeld ?_
  rotate_left 1
  · rintro w' ⟨s0, s1, s2, s3⟩; go_simp; try with_reducible rfl
  try simp only [Act.put, List.setIfInBounds_toArray, List.set_cons_zero, List.set_cons_succ]
  refine held_take (i := 19) (v := ?_) (some 25) rfl rfl (by kernel_rfl) (by kernel_rfl) (by kernel_rfl) (fun _ _ _ h => h) (Or.inl ⟨by rfl, ?_⟩) hHeld ?_
  rotate_left 1
  · rintro w' ⟨s0, s1, s2, s3⟩; go_simp; try with_reducible rfl
  try simp only [Act.put, List.setIfInBounds_toArray, List.set_cons_zero, List.set_cons_succ]
  refine held_take (i := 20) (v := ?_) (some 26) rfl rfl (by kernel_rfl) (by kernel_rfl) (by kernel_rfl) (fun _ _ _ h => h) (Or.inl ⟨by rfl, ?_⟩) hHeld ?_
  rotate_left 1
  · rintro w' ⟨s0, s1, s2, s3⟩; go_simp; try with_reducible rfl
  try simp only [Act.put, List.setIfInBounds_toArray, List.set_cons_zero, List.set_cons_succ]
  refine held_one (j := 21) (by kernel_rfl) rfl (fun K hK => ?_)
  try simp only [List.getElem_toArray, List.getElem_cons_succ, List.getElem_cons_zero]
  rw [if_pos (by rfl)]
  go_simp
  go_at_call 76
  (with_reducible refine (most_as k M2 HM2 _).mono ?_)
  rintro e w' ⟨rfl, rfl⟩
  refine hK.out _ _ hHeld (fun hHeld => ?_)
  clear hK K
  try simp only [Act.put, List.setIfInBounds_toArray, List.set_cons_zero, List.set_cons_succ]
  refine held_take (i := 22) (v := ?_) (some 28) rfl rfl (by kernel_rfl) (by kernel_rfl) (by kernel_rfl) (fun _ _ _ h => h) (Or.inl ⟨by rfl, ?_⟩) hHeld ?_
  rotate_left 1
  · rintro w' ⟨s0, s1, s2, s3⟩; go_simp; try with_reducible rfl
  try simp only [Act.put, List.setIfInBounds_toArray, List.set_cons_zero, List.set_cons_succ]
  refine held_take (i := 23) (v := ?_) (some 29) rfl rfl (by kernel_rfl) (by kernel_rfl) (by kernel_rfl) (fun _ _ _ h => h) (Or.inl ⟨by rfl, ?_⟩) hHeld ?_
  rotate_left 1
  · rintro w' ⟨s0, s1, s2, s3⟩; go_simp; try with_reducible rfl
  try simp only [Act.put, List.setIfInBounds_toArray, List.set_cons_zero, List.set_cons_succ]
  refine held_take (i := 24) (v := ?_) (some 30) rfl rfl (by kernel_rfl) (by kernel_rfl) (by kernel_rfl) (fun _ _ _ h => h) (Or.inl ⟨by rfl, ?_⟩) hHeld ?_
  rotate_left 1
  · rintro w' ⟨s0, s1, s2, s3⟩; go_simp; try with_reducible rfl
  try simp only [Act.put, List.setIfInBounds_toArray, List.set_cons_zero, List.set_cons_succ]
  refine held_take (i := 25) (v := ?_) (some 31) rfl rfl (by kernel_rfl) (by kernel_rfl) (by kernel_rfl) (fun _ _ _ h => h) (Or.inl ⟨by rfl, ?_⟩) hHeld ?_
  rotate_left 1
  · rintro w' ⟨s0, s1, s2, s3⟩; go_simp; try with_reducible rfl
  try simp only [Act.put, List.setIfInBounds_toArray, List.set_cons_zero, List.set_cons_succ]
  refine held_take (i := 26) (v := ?_) (some 32) rfl rfl (by kernel_rfl) (by kernel_rfl) (by kernel_rfl) (fun _ _ _ h => h) (Or.inl ⟨by rfl, ?_⟩) hHeld ?_
  rotate_left 1
  · rintro w' ⟨s0, s1, s2, s3⟩; go_simp; try with_reducible rfl
  try simp only [Act.put, List.setIfInBounds_toArray, List.set_cons_zero, List.set_cons_succ]
  refine held_take (i := 27) (v := ?_) (some 33) rfl rfl (by kernel_rfl) (by kernel_rfl) (by kernel_rfl) (fun _ _ _ h => h) (Or.inl ⟨by rfl, ?_⟩) hHeld ?_
  rotate_left 1
  · rintro w' ⟨s0, s1, s2, s3⟩; go_simp; try with_reducible rfl
  try simp only [Act.put, List.setIfInBounds_toArray, List.set_cons_zero, List.set_cons_succ]
  refine held_take (i := 28) (v := ?_) (some 34) rfl rfl (by kernel_rfl) (by kernel_rfl) (by kernel_rfl) (fun _ _ _ h => h) (Or.inl ⟨by rfl, ?_⟩) hHeld ?_
  rotate_left 1
  · rintro w' ⟨s0, s1, s2, s3⟩; go_simp; try with_reducible rfl
  try simp only [Act.put, List.setIfInBounds_toArray, List.set_cons_zero, List.set_cons_succ]
  refine held_take (i := 29) (v := ?_) (some 35) rfl rfl (by kernel_rfl) (by kernel_rfl) (by kernel_rfl) (fun _ _ _ h => h) (Or.inl ⟨by rfl, ?_⟩) hHeld ?_
  rotate_left 1
  · rintro w' ⟨s0, s1, s2, s3⟩; go_simp; try with_reducible rfl
  try simp only [Act.put, List.setIfInBounds_toArray, List.set_cons_zero, List.set_cons_succ]
  refine held_take (i := 30) (v := ?_) (some 36) rfl rfl (by kernel_rfl) (by kernel_rfl) (by kernel_rfl) (fun _ _ _ h => h) (Or.inl ⟨by rfl, ?_⟩) hHeld ?_
  rotate_left 1
  · rintro w' ⟨s0, s1, s2, s3⟩; go_simp; try with_reducible rfl
  try simp only [Act.put, List.setIfInBounds_toArray, List.set_cons_zero, List.set_cons_succ]
  refine held_take (i := 31) (v := ?_) (some 37) rfl rfl (by kernel_rfl) (by kernel_rfl) (by kernel_rfl) (fun _ _ _ h => h) (Or.inl ⟨by rfl, ?_⟩) hHeld ?_
  rotate_left 1
  · rintro w' ⟨s0, s1, s2, s3⟩; go_simp; try with_reducible rfl
  try simp only [Act.put, List.setIfInBounds_toArray, List.set_cons_zero, List.set_cons_succ]
  refine held_take (i := 32) (v := ?_) (some 38) rfl rfl (by kernel_rfl) (by kernel_rfl) (by kernel_rfl) (fun _ _ _ h => h) (Or.inl ⟨by rfl, ?_⟩) hHeld ?_
  rotate_left 1
  · rintro w' ⟨s0, s1, s2, s3⟩; go_simp; try with_reducible rfl
  try simp only [Act.put, List.setIfInBounds_toArray, List.set_cons_zero, List.set_cons_succ]
  refine held_take (i := 33) (v := ?_) (some 39) rfl rfl (by kernel_rfl) (by kernel_rfl) (by kernel_rfl) (fun _ _ _ h => h) (Or.inl ⟨by rfl, ?_⟩) hHeld ?_
  rotate_left 1
  · rintro w' ⟨s0, s1, s2, s3⟩; go_simp; try with_reducible rfl
  try simp only [Act.put, List.setIfInBounds_toArray, List.set_cons_zero, List.set_cons_succ]
  refine held_take (i := 34) (v := ?_) (some 40) rfl rfl (by kernel_rfl) (by kernel_rfl) (by kernel_rfl) (fun _ _ _ h => h) (Or.inl ⟨by rfl, ?_⟩) hHeld ?_
  rotate_left 1
  · rintro w' ⟨s0, s1, s2, s3⟩; go_simp; try with_reducible rfl
  try simp only [Act.put, List.setIfInBounds_toArray, List.set_cons_zero, List.set_cons_succ]
  refine held_take (i := 35) (v := ?_) (some 41) rfl rfl (by kernel_rfl) (by kernel_rfl) (by kernel_rfl) (fun _ _ _ h => h) (Or.inl ⟨by rfl, ?_⟩) hHeld ?_
  rotate_left 1
  · rintro w' ⟨s0, s1, s2, s3⟩; go_simp; try with_reducible rfl
  try simp only [Act.put, List.setIfInBounds_toArray, List.set_cons_zero, List.set_cons_succ]
  refine held_take (i := 36) (v := ?_) (some 42) rfl rfl (by kernel_rfl) (by kernel_rfl) (by kernel_rfl) (fun _ _ _ h => h) (Or.inl ⟨by rfl, ?_⟩) hHeld ?_
  rotate_left 1
  · rintro w' ⟨s0, s1, s2, s3⟩; go_simp; try with_reducible rfl
  try simp only [Act.put, List.setIfInBounds_toArray, List.set_cons_zero, List.set_cons_succ]
  refine held_take (i := 37) (v := ?_) (some 43) rfl rfl (by kernel_rfl) (by kernel_rfl) (by kernel_rfl) (fun _ _ _ h => h) (Or.inl ⟨by rfl, ?_⟩) hHeld ?_
  rotate_left 1
  · rintro w' ⟨s0, s1, s2, s3⟩; go_simp; try with_reducible rfl
  try simp only [Act.put, List.setIfInBounds_toArray, List.set_cons_zero, List.set_cons_succ]
  refine held_take (i := 38) (v := ?_) (some 44) rfl rfl (by kernel_rfl) (by kernel_rfl) (by kernel_rfl) (fun _ _ _ h => h) (Or.inl ⟨by rfl, ?_⟩) hHeld ?_
  rotate_left 1
  · rintro w' ⟨s0, s1, s2, s3⟩; go_simp; try with_reducible rfl
  try simp only [Act.put, List.setIfInBounds_toArray, List.set_cons_zero, List.set_cons_succ]
  refine held_take (i := 39) (v := ?_) (some 45) rfl rfl (by kernel_rfl) (by kernel_rfl) (by kernel_rfl) (fun _ _ _ h => h) (Or.inl ⟨by rfl, ?_⟩) hHeld ?_
  rotate_left 1
  · rintro w' ⟨s0, s1, s2, s3⟩; go_simp; try with_reducible rfl
  try simp only [Act.put, List.setIfInBounds_toArray, List.set_cons_zero, List.set_cons_succ]
  refine held_one (j := 40) (by kernel_rfl) rfl (fun K hK => ?_)
  try simp only [List.getElem_toArray, List.getElem_cons_succ, List.getElem_cons_zero]
  rw [if_pos (by rfl)]
  go_simp
  go_at_call 54
  (with_reducible refine (rname_as NM true HNb zNM _ _ HA.out.drew.self).mono ?_)
  rintro e w2 ⟨rfl, h2⟩
  obtain ⟨⟨d0, d1, d2, d3⟩, _⟩ := (HB.out.drew.rel h2).four
  refine hK.out _ _ ⟨d0, d1, d2, d3⟩ (fun hHeld => ?_)
  clear hK K
  try simp only [Act.put, List.setIfInBounds_toArray, List.set_cons_zero, List.set_cons_succ]
  refine held_take (i := 41) (v := ?_) (some 47) rfl rfl (by kernel_rfl) (by kernel_rfl) (by kernel_rfl) (fun _ _ _ h => h) (Or.inl ⟨by rfl, ?_⟩) hHeld ?_
  rotate_left 1
  · rintro w' ⟨s0, s1, s2, s3⟩; go_simp; try with_reducible rfl
  try simp only [Act.put, List.setIfInBounds_toArray, List.set_cons_zero, List.set_cons_succ]
  refine held_take (i := 42) (v := ?_) (some 48) rfl rfl (by kernel_rfl) (by kernel_rfl) (by kernel_rfl) (fun _ _ _ h => h) (Or.inl ⟨by rfl, ?_⟩) hHeld ?_
  rotate_left 1
  · rintro w' ⟨s0, s1, s2, s3⟩; go_simp; try with_reducible rfl
  try simp only [Act.put, List.setIfInBounds_toArray, List.set_cons_zero, List.set_cons_succ]
  refine held_take (i := 43) (v := ?_) (some 49) rfl rfl (by kernel_rfl) (by kernel_rfl) (by kernel_rfl) (fun _ _ _ h => h) (Or.inl ⟨by rfl, ?_⟩) hHeld ?_
  rotate_left 1
  · rintro w' ⟨s0, s1, s2, s3⟩; go_simp; try with_reducible rfl
  try simp only [Act.put, List.setIfInBounds_toArray, List.set_cons_zero, List.set_cons_succ]
  refine wpAnyH_done (by kernel_rfl) ?_ _
  have hl0 := HL0.out
  go_wp2_with (fail)
  go_loopw [5] (fun i wr => i = .int .i64 0 ∧ Rel w2 wr) (fun i _ => 0)
  case atStart => exact ⟨rfl, (HA.out.drew.trans h2).self⟩
  case round =>
    obtain ⟨rfl, hRw⟩ := hrel
    obtain ⟨⟨x0, x1, x2, x3⟩, _⟩ := ((HB.out.drew.rel h2).rel hRw).four
    have hl1 : ¬ (0 : Int) < (l.length : Int) := by omega
    have HRw := Lib.hid hRw
    clear hl0
    go_wp2_with (fail)
    go_ret
    exact ⟨rfl, (HA.out.drew.trans h2).trans HRw.out⟩
end Go.Proofs.YtoajbbcjmalngaaGreatDoor

namespace Go.Proofs.YtoajbbcjmalngaaGreatDoor
open Go.RowKit Go.Lib
set_option linter.unusedVariables false
set_option linter.unusedSimpArgs false

theorem str_empty (a : List UInt8) : ((B a).toList == []) = decide (a = []) := by
  rw [B_toList]; cases a <;> simp
theorem fine_all {d : Nat} {k : Int} {l : List Ex} : ((l.zipIdx).all fun p => (isCond p.1.k == (decide (k = 10) && decide (p.2 = 0))) && fine d p.1) = true ↔ ∀ i (h : i < l.length), okA d k l i h := by
  simp only [List.all_eq_true, Bool.and_eq_true, beq_iff_eq]
  constructor
  · intro h i hi
    exact h (l[i], i) (by rw [List.mem_iff_getElem]; exact ⟨i, by simpa using hi, by simp⟩)
  · rintro h ⟨y, i⟩ hy
    obtain ⟨j, hj, e⟩ := List.mem_iff_getElem.1 hy
    simp at hj e
    obtain ⟨rfl, rfl⟩ := e
    exact h j hj
theorem len_sizes : ∀ l : List Ex, l.length ≤ sizes l := fun l => by
  induction l with
  | nil => simp
  | cons x t ih => rw [sizes_cons, List.length_cons]; have := size_pos x; omega
set_option maxHeartbeats 2000000 in
theorem rfine_any : ∀ (d : Nat), d ≤ 40 → ∀ (x : Ex) (S : Nat → Prop) (e : El) (w0 w : World), Rel w0 w → ExAt S w e x → size x ≤ 1000000 →
    Calls Tryz.prog 47 #[EV e, .int .i64 (d : Int)] w fun r w' => r = .returned (.bool (fine d x)) ∧ Rel w0 w' := by
  intro d
  induction d with
  | zero =>
    intro _ x S e w0 w hr h hz
    cases x with
    | mk k n nm l =>
      obtain ⟨A, c, es, rfl, hk, hn, hm, hl, hrow, hsub⟩ := h.open
      rw [size_mk] at hz
      have := len_sizes l
      exact rfine_no0 k n l A c (by omega) w0 w hr (argsN k) (mostN k) (Lib.hid rfl) (Lib.hid rfl) (B nm) (by rw [B_size]; exact hm)
  | succ d ih =>
    intro hd x S e w0 w hr h hz
    cases x with
    | mk k n nm l =>
      obtain ⟨A, c, es, rfl, hk, hn, hm, hl, hrow, hsub⟩ := h.open
      rw [size_mk] at hz
      have hll := len_sizes l
      have hl9 : l.length ≤ 1000000 := by omega
      have zNM : (B nm).size ≤ 100 := by rw [B_size]; exact hm
      have q0 : decide ((d : Int) + 1 < 1) = false := by simp; omega
      have hcast : (((d + 1 : Nat) : Int)) = (d : Int) + 1 := by omega
      rw [hcast, fine_eq]
      by_cases d1 : argsN k = (l.length : Int)
      · have q1 : (argsN k != (l.length : Int)) = false := by simp [d1]
        have q1' : (argsN k == (l.length : Int)) = true := by simp [d1]
        by_cases d2 : n < 0
        · have hf : (decide (0 ≤ n ∧ n ≤ mostN k)) = false := by simp; omega
          rw [hf]
          simp only [Bool.and_false, Bool.false_and]
          exact rfine_no2 k n l A c d (by omega) hl9 w0 w hr _ _ (Lib.hid rfl) (Lib.hid rfl) (B nm) zNM q0 q1 q1' (by simpa using d2)
        · have q2 : decide (n < 0) = false := by simpa using d2
          by_cases d3 : mostN k < n
          · have hf : (decide (0 ≤ n ∧ n ≤ mostN k)) = false := by simp; omega
            rw [hf]
            simp only [Bool.and_false, Bool.false_and]
            exact rfine_no3 k n l A c d (by omega) hl9 w0 w hr _ _ (Lib.hid rfl) (Lib.hid rfl) (B nm) zNM q0 q1 q1' q2 (by simpa using d3)
          · have q3 : decide (mostN k < n) = false := by simpa using d3
            have hs := str_empty nm
            by_cases d4 : nm = []
            · have q4' : ((B nm).toList == []) = true := by rw [hs]; simpa using d4
              have q4 : ((B nm).toList != []) = false := by simp [bne, q4']
              by_cases d5 : k = 3
              · have hf : (decide (nm ≠ []) == decide (k = 3)) = false := by simp [d4, d5]
                rw [hf]
                simp only [Bool.and_false, Bool.false_and]
                exact rfine_no5 k n l A c d (by omega) hl9 w0 w hr _ _ (Lib.hid rfl) (Lib.hid rfl) (B nm) zNM q0 q1 q1' q2 q3 q4 q4' (by simpa using d5)
              · have q5 : (k == 3) = false := by simpa using d5
                obtain ⟨b, hb⟩ : ∃ b, ((l.zipIdx).all fun p => (isCond p.1.k == (decide (k = 10) && decide (p.2 = 0))) && fine d p.1) = b := ⟨_, rfl⟩
                have hbb := fine_all (d := d) (k := k) (l := l)
                rw [hb] at hbb
                have hf : (decide (argsN k = (l.length : Int)) && decide (0 ≤ n ∧ n ≤ mostN k) && (decide (nm ≠ []) == decide (k = 3)) && (decide (k ≠ 3) || isName nm)) = true := by
                  have e1 : 0 ≤ n ∧ n ≤ mostN k := ⟨by omega, by omega⟩
                  simp [d1, e1, d4, d5]
                rw [hf, hb, Bool.true_and]
                exact rfine_args k n l A c d (by omega) hl9 w0 w hr _ _ (Lib.hid rfl) (Lib.hid rfl) (B nm) zNM q0 q1 q1' q2 q3 q4 q4' q5 S es hl (Lib.hid hrow) (Lib.hid hsub) (by omega) (Lib.hid (ih (by omega))) b (Lib.hid hbb)
            · have q4' : ((B nm).toList == []) = false := by rw [hs]; simpa using d4
              have q4 : ((B nm).toList != []) = true := by simp [bne, q4']
              by_cases d5 : k = 3
              · have q5 : (k == 3) = true := by simpa using d5
                cases hnm : isName nm
                · have hf : (decide (k ≠ 3) || isName nm) = false := by simp [d5, hnm]
                  rw [hnm] at hf
                  rw [hf]
                  simp only [Bool.and_false, Bool.false_and]
                  exact rfine_no6 k n l A c d (by omega) hl9 w0 w hr _ _ (Lib.hid rfl) (Lib.hid rfl) (B nm) zNM q0 q1 q1' q2 q3 q4 q4' q5 (Lib.hid (by rw [B_list]; exact hnm))
                · have hl0 : l.length = 0 := by subst d5; have : argsN 3 = 0 := by decide
                                                omega
                  have hln : l = [] := List.length_eq_zero_iff.1 hl0
                  have hf : (decide (argsN k = (l.length : Int)) && decide (0 ≤ n ∧ n ≤ mostN k) && (decide (nm ≠ []) == decide (k = 3)) && (decide (k ≠ 3) || true)) = true := by
                    have e1 : 0 ≤ n ∧ n ≤ mostN k := ⟨by omega, by omega⟩
                    rw [decide_eq_true d1, decide_eq_true e1, decide_eq_true d4, decide_eq_true d5]; simp
                  rw [hf, hln]
                  simp only [Bool.true_and, List.zipIdx_nil, List.all_nil]
                  rw [hln] at hl9 q1 q1' hl0
                  exact rfine_name k n [] A c d (by omega) hl9 w0 w hr _ _ (Lib.hid rfl) (Lib.hid rfl) (B nm) zNM q0 q1 q1' q2 q3 q4 q4' q5 (Lib.hid (by rw [B_list]; exact hnm)) rfl
              · have hf : (decide (nm ≠ []) == decide (k = 3)) = false := by simp [d4, d5]
                rw [hf]
                simp only [Bool.and_false, Bool.false_and]
                exact rfine_no4 k n l A c d (by omega) hl9 w0 w hr _ _ (Lib.hid rfl) (Lib.hid rfl) (B nm) zNM q0 q1 q1' q2 q3 q4 q4' (by simpa using d5)
      · have hf : decide (argsN k = (l.length : Int)) = false := by simpa using d1
        rw [hf]
        simp only [Bool.false_and]
        exact rfine_no1 k n l A c d (by omega) hl9 w0 w hr _ _ (Lib.hid rfl) (Lib.hid rfl) (B nm) zNM q0 (by simp [bne, d1]) (by simp [d1])
end Go.Proofs.YtoajbbcjmalngaaGreatDoor

namespace Go.Proofs.YtoajbbcjmalngaaGreatDoor
open Go.RowKit Go.Lib
set_option linter.unusedVariables false
set_option linter.unusedSimpArgs false

theorem rfine32 (x : Ex) (S : Nat → Prop) (e : El) (w0 w : World) (hr : Rel w0 w) (h : ExAt S w e x) (hz : size x ≤ 1000000) :
    Calls Tryz.prog 47 #[EV e, .int .i64 32] w fun r w' => r = .returned (.bool (fine 32 x)) ∧ Rel w0 w' := rfine_any 32 (by omega) x S e w0 w hr h hz
set_option maxRecDepth 100000 in
set_option maxHeartbeats 4000000 in
theorem rright_any (x : Ex) (S : Nat → Prop) (e : El) (w0 w : World) (hr : Rel w0 w) (h : ExAt S w e x) (hz : size x ≤ 1000000) :
    Calls Tryz.prog 27 #[EV e] w fun r w' => r = .returned (.bool (rightX x)) ∧ Rel w0 w' := by
  have HE := Lib.hid h
  have HR := Lib.hid hr
  obtain ⟨k, n, nm, A, m, c⟩ := e
  have hke : x.k = k := h.kind
  have HB := Lib.hid (Bk.new w 26 #[.int .i64 k, .int .i64 n, .string (B nm), .slice A m c])
  have HA := Lib.hid (hr.self.alloc (.cells #[.int .i64 k, .int .i64 n, .string (B nm), .slice A m c] 26))
  have HFi := Lib.hid (fun (w' : World) (h' : Rel w w') => rfine32 x S (k, n, nm, A, m, c) w' w' (hr.trans h').self (h.rel h') hz)
  have HSi := Lib.hid (fun (w' : World) (h' : Rel w w') => rsize_any x S (k, n, nm, A, m, c) w' w' (hr.trans h').self (h.rel h') hz)
  have hRX : rightX x = (fine 32 x && !isCond k && decide (size x ≤ 2000) && decide ((text x).length ≤ 2000)) := by unfold rightX; rw [hke]
  obtain ⟨b, hb⟩ : ∃ b, fine 32 x = b := ⟨_, rfl⟩
  have HTx := Lib.hid (fun (hf : fine 32 x = true) (hs : size x ≤ 2000) (w' : World) (h' : Rel w w') => rtext7_any x 32 S (k, n, nm, A, m, c) w' w' hf (hr.trans h').self (h.rel h') hs)
  have HFT := Lib.hid hb
  have HTL := Lib.hid (fun (hf : fine 32 x = true) => text_len x 32 hf)
  rw [hb] at HFi hRX
  clear h hb
  cases b with
  | false =>
    have HX := Lib.hid (show rightX x = false by rw [hRX]; simp)
    clear hRX
    go_enter Tryz.func27, Tryz.ntmps27
    go_wp2_with (go_at_call 47; (with_reducible refine (HFi.out _ HA.out).mono ?_); rintro e w1 ⟨rfl, h1⟩; obtain ⟨⟨c0, c1, c2, c3⟩, _⟩ := (HB.out.rel h1).four)
    go_ret
    exact ⟨ret_bool HX.out.symm, (HR.out.trans HA.out).trans h1⟩
  | true =>
    obtain ⟨q, hq⟩ : ∃ q, isCond k = q := ⟨_, rfl⟩
    have HQ := Lib.hid hq
    rw [hq] at hRX
    clear hq
    cases q with
    | true =>
      have HX := Lib.hid (show rightX x = false by rw [hRX]; simp)
      clear hRX
      go_enter Tryz.func27, Tryz.ntmps27
      go_wp2_with (first
        | (go_at_call 47; (with_reducible refine (HFi.out _ HA.out).mono ?_); rintro e w1 ⟨rfl, h1⟩; obtain ⟨⟨c0, c1, c2, c3⟩, _⟩ := (HB.out.rel h1).four)
        | (go_at_call 48; (with_reducible refine (cond_as k _ HQ _).mono ?_); rintro e w' ⟨rfl, rfl⟩))
      go_ret
      exact ⟨ret_bool HX.out.symm, (HR.out.trans HA.out).trans h1⟩
    | false =>
      obtain ⟨sz, hsz⟩ : ∃ s, size x = s := ⟨_, rfl⟩
      have HSZ := Lib.hid hsz
      rw [hsz] at hRX HSi hz
      clear hsz
      by_cases h2 : sz ≤ 2000
      · obtain ⟨T, hT⟩ : ∃ T, B (text x) = T := ⟨_, rfl⟩
        have hTs : T.size = (text x).length := by rw [← hT, B_size]
        have hTl : T.size ≤ 120000 := by rw [hTs]; have := HTL.out HFT.out; have := HSZ.out; omega
        have HTT := Lib.hid (HTx.out HFT.out (by rw [HSZ.out]; exact h2))
        rw [hT] at HTT
        have HX := Lib.hid (show rightX x = decide (T.size ≤ 2000) by rw [hRX, hTs]; simp [h2])
        have i2 : (sz : Int) ≤ 2000 := by omega
        clear hRX hT hTs
        by_cases h3 : T.size ≤ 2000
        · have i3 : (T.size : Int) ≤ 2000 := by omega
          go_enter Tryz.func27, Tryz.ntmps27
          go_wp2_with (first
            | (go_at_call 47; (with_reducible refine (HFi.out _ HA.out).mono ?_); rintro e w1 ⟨rfl, h1⟩; obtain ⟨⟨c0, c1, c2, c3⟩, _⟩ := (HB.out.rel h1).four)
            | (go_at_call 48; (with_reducible refine (cond_as k _ HQ _).mono ?_); rintro e w' ⟨rfl, rfl⟩)
            | (go_at_call 49; (with_reducible refine (HSi.out _ (HA.out.trans h1)).mono ?_); rintro e w2 ⟨rfl, h2'⟩; obtain ⟨⟨d0, d1, d2, d3⟩, _⟩ := ((HB.out.rel h1).rel h2').four)
            | (go_at_call 28; (with_reducible refine (HTT.out _ ((HA.out.trans h1).trans h2')).mono ?_); rintro e w3 ⟨rfl, h3'⟩))
          go_ret
          exact ⟨ret_bool (by rw [HX.out]; simp [h3]), (((HR.out.trans HA.out).trans h1).trans h2').trans h3'⟩
        · have i3 : ¬ (T.size : Int) ≤ 2000 := by omega
          go_enter Tryz.func27, Tryz.ntmps27
          go_wp2_with (first
            | (go_at_call 47; (with_reducible refine (HFi.out _ HA.out).mono ?_); rintro e w1 ⟨rfl, h1⟩; obtain ⟨⟨c0, c1, c2, c3⟩, _⟩ := (HB.out.rel h1).four)
            | (go_at_call 48; (with_reducible refine (cond_as k _ HQ _).mono ?_); rintro e w' ⟨rfl, rfl⟩)
            | (go_at_call 49; (with_reducible refine (HSi.out _ (HA.out.trans h1)).mono ?_); rintro e w2 ⟨rfl, h2'⟩; obtain ⟨⟨d0, d1, d2, d3⟩, _⟩ := ((HB.out.rel h1).rel h2').four)
            | (go_at_call 28; (with_reducible refine (HTT.out _ ((HA.out.trans h1).trans h2')).mono ?_); rintro e w3 ⟨rfl, h3'⟩))
          go_ret
          exact ⟨ret_bool (by rw [HX.out]; simp [h3]; omega), (((HR.out.trans HA.out).trans h1).trans h2').trans h3'⟩
      · have HX := Lib.hid (show rightX x = false by rw [hRX]; simp [h2])
        have i2 : ¬ (sz : Int) ≤ 2000 := by omega
        clear hRX
        go_enter Tryz.func27, Tryz.ntmps27
        go_wp2_with (first
          | (go_at_call 47; (with_reducible refine (HFi.out _ HA.out).mono ?_); rintro e w1 ⟨rfl, h1⟩; obtain ⟨⟨c0, c1, c2, c3⟩, _⟩ := (HB.out.rel h1).four)
          | (go_at_call 48; (with_reducible refine (cond_as k _ HQ _).mono ?_); rintro e w' ⟨rfl, rfl⟩)
          | (go_at_call 49; (with_reducible refine (HSi.out _ (HA.out.trans h1)).mono ?_); rintro e w2 ⟨rfl, h2'⟩))
        go_ret
        exact ⟨ret_bool (by rw [HX.out]), ((HR.out.trans HA.out).trans h1).trans h2'⟩
/-- What Print tells: its text, or none. -/
def prT (x : Ex) : List UInt8 := if rightX x then text x else []
def prE (x : Ex) : Int := if rightX x then 0 else 1
set_option maxRecDepth 100000 in
set_option maxHeartbeats 4000000 in
theorem rprint_any (x : Ex) (S : Nat → Prop) (e : El) (w0 w : World) (hr : Rel w0 w) (h : ExAt S w e x) (hz : size x ≤ 1000000) :
    Calls Tryz.prog 15 #[EV e] w fun r w' => r = .returned (.tuple #[.string (B (prT x)), .int .i64 (prE x)]) ∧ Rel w0 w' := by
  have HR := Lib.hid hr
  obtain ⟨k, n, nm, A, m, c⟩ := e
  have HB := Lib.hid (Bk.new w 26 #[.int .i64 k, .int .i64 n, .string (B nm), .slice A m c])
  have HA := Lib.hid (hr.self.alloc (.cells #[.int .i64 k, .int .i64 n, .string (B nm), .slice A m c] 26))
  have HRi := Lib.hid (fun (w' : World) (h' : Rel w w') => rright_any x S (k, n, nm, A, m, c) w' w' (hr.trans h').self (h.rel h') hz)
  have HTx := Lib.hid (fun (hf : fine 32 x = true) (hs : size x ≤ 2000) (w' : World) (h' : Rel w w') => rtext7_any x 32 S (k, n, nm, A, m, c) w' w' hf (hr.trans h').self (h.rel h') hs)
  cases hx : rightX x
  · have HX := Lib.hid (show prT x = [] ∧ prE x = 1 by unfold prT prE; rw [hx]; exact ⟨rfl, rfl⟩)
    rw [hx] at HRi
    clear h hx
    go_enter Tryz.func15, Tryz.ntmps15
    go_wp2_with (go_at_call 27; (with_reducible refine (HRi.out _ HA.out).mono ?_); rintro e w1 ⟨rfl, h1⟩; obtain ⟨⟨c0, c1, c2, c3⟩, _⟩ := (HB.out.rel h1).four)
    go_ret2
    exact ⟨by rw [HX.out.1, HX.out.2]; rfl, (HR.out.trans HA.out).trans h1⟩
  · have HX := Lib.hid (show prT x = text x ∧ prE x = 0 by unfold prT prE; rw [hx]; exact ⟨rfl, rfl⟩)
    have hparts : fine 32 x = true ∧ size x ≤ 2000 := by
      simp only [rightX, Bool.and_eq_true, decide_eq_true_eq] at hx
      exact ⟨hx.1.1.1, hx.1.2⟩
    rw [hx] at HRi
    have HTT := Lib.hid (HTx.out hparts.1 hparts.2)
    clear h hx hparts
    go_enter Tryz.func15, Tryz.ntmps15
    go_wp2_with (first
      | (go_at_call 27; (with_reducible refine (HRi.out _ HA.out).mono ?_); rintro e w1 ⟨rfl, h1⟩; obtain ⟨⟨c0, c1, c2, c3⟩, _⟩ := (HB.out.rel h1).four)
      | (go_at_call 28; (with_reducible refine (HTT.out _ (HA.out.trans h1)).mono ?_); rintro e w2 ⟨rfl, h2⟩))
    go_ret2
    exact ⟨by rw [HX.out.1, HX.out.2]; rfl, ((HR.out.trans HA.out).trans h1).trans h2⟩
end Go.Proofs.YtoajbbcjmalngaaGreatDoor

namespace Go.Proofs.YtoajbbcjmalngaaGreatDoor
open Go.RowKit Go.Lib
set_option linter.unusedVariables false
set_option linter.unusedSimpArgs false

theorem pparse_yes (H : ParseOk) (s : ByteArray) (x : Ex) (hx : Hid (parseS s.data.toList = .ok x)) (hs : s.size ≤ 9223372036854775807) (w0 w : World) (hr : Rel w0 w) :
    Calls Tryz.prog 12 #[.string s] w fun e w' => ∃ v : El, e = .returned (.tuple #[EV v, .int .i64 0, .int .i64 0]) ∧ ExAt (fun k => w.heap.size ≤ k) w' v x ∧ Rel w0 w' := by
  have := H s hs w0 w hr
  rw [hx.out] at this
  exact this
theorem pparse_no (H : ParseOk) (s : ByteArray) (cd pl : Int) (hx : Hid (parseS s.data.toList = .error (cd, pl))) (hs : s.size ≤ 9223372036854775807) (w0 w : World) (hr : Rel w0 w) :
    Calls Tryz.prog 12 #[.string s] w fun e w' => e = .returned (.tuple #[.agg #[.int .i64 0, .int .i64 0, .string ⟨#[]⟩, .slice none 0 0], .int .i64 cd, .int .i64 pl]) ∧ Rel w0 w' := by
  have := H s hs w0 w hr
  rw [hx.out] at this
  exact this
theorem rprint_as (x : Ex) (T : ByteArray) (n : Int) (hT : Hid (B (prT x) = T ∧ prE x = n)) (S : Nat → Prop) (e : El) (w0 w : World) (hr : Rel w0 w) (h : ExAt S w e x) (hz : size x ≤ 1000000) :
    Calls Tryz.prog 15 #[EV e] w fun r w' => r = .returned (.tuple #[.string T, .int .i64 n]) ∧ Rel w0 w' := by rw [← hT.out.1, ← hT.out.2]; exact rprint_any x S e w0 w hr h hz
theorem awX_size : size awX ≤ 1000000 := by
  unfold awX
  simp only [size_mk, sizes_cons, sizes_nil]
  omega
theorem awX_print : prT awX = awC ∧ prE awX = 0 := by
  unfold prT prE; rw [awX_right, awX_text]; exact ⟨rfl, rfl⟩
set_option maxRecDepth 100000 in
set_option maxHeartbeats 1000000 in
theorem awake8_any (H : ParseOk) (w0 w : World) (hr : Rel w0 w) :
    Calls Tryz.prog 8 #[] w fun e w' => e = .returned (.bool true) ∧ Rel w0 w' := by
  have H := Lib.hid H
  have HR := Lib.hid hr
  have PA : Hid (parseS (⟨#[108, 101, 115, 115, 40, 108, 111, 119, 101, 115, 116, 32, 48, 46, 48, 49, 41]⟩ : ByteArray).data.toList = .error (80, 12)) := Lib.hid (by rw [show (⟨#[108, 101, 115, 115, 40, 108, 111, 119, 101, 115, 116, 32, 48, 46, 48, 49, 41]⟩ : ByteArray).data.toList = awA from rfl]; exact awA_parse)
  have PB : Hid (parseS (⟨#[32, 105, 102, 40, 32, 109, 111, 114, 101, 40, 51, 41, 44, 109, 105, 110, 40, 102, 114, 111, 109, 40, 97, 41, 32, 44, 115, 101, 99, 111, 110, 100, 41, 44, 49, 46, 48, 48, 41]⟩ : ByteArray).data.toList = .ok awX) := Lib.hid (by rw [show (⟨#[32, 105, 102, 40, 32, 109, 111, 114, 101, 40, 51, 41, 44, 109, 105, 110, 40, 102, 114, 111, 109, 40, 97, 41, 32, 44, 115, 101, 99, 111, 110, 100, 41, 44, 49, 46, 48, 48, 41]⟩ : ByteArray).data.toList = awB from rfl]; exact awB_parse)
  have zA : (⟨#[108, 101, 115, 115, 40, 108, 111, 119, 101, 115, 116, 32, 48, 46, 48, 49, 41]⟩ : ByteArray).size ≤ 9223372036854775807 := by decide
  have zB : (⟨#[32, 105, 102, 40, 32, 109, 111, 114, 101, 40, 51, 41, 44, 109, 105, 110, 40, 102, 114, 111, 109, 40, 97, 41, 32, 44, 115, 101, 99, 111, 110, 100, 41, 44, 49, 46, 48, 48, 41]⟩ : ByteArray).size ≤ 9223372036854775807 := by decide
  have P1 : Hid (B (prT awX) = ⟨#[105, 102, 40, 109, 111, 114, 101, 40, 51, 41, 44, 32, 109, 105, 110, 40, 102, 114, 111, 109, 40, 97, 41, 44, 32, 115, 101, 99, 111, 110, 100, 41, 44, 32, 49, 46, 48, 48, 41]⟩ ∧ prE awX = 0) := Lib.hid ⟨by rw [awX_print.1]; rfl, awX_print.2⟩
  go_enter Tryz.func8, Tryz.ntmps8
  go_wp2_with (first
    | (go_at_call 12; (with_reducible refine (pparse_no H.out ⟨#[108, 101, 115, 115, 40, 108, 111, 119, 101, 115, 116, 32, 48, 46, 48, 49, 41]⟩ 80 12 PA zA _ _ HR.out.self).mono ?_); rintro e w1 ⟨rfl, h1⟩; have A1 := h1.self.alloc (.cells #[.int .i64 0, .int .i64 0, .string ⟨#[]⟩, .slice none 0 0] 26); have R1 := h1.trans A1)
    | (go_at_call 12; (with_reducible refine (pparse_yes H.out ⟨#[32, 105, 102, 40, 32, 109, 111, 114, 101, 40, 51, 41, 44, 109, 105, 110, 40, 102, 114, 111, 109, 40, 97, 41, 32, 44, 115, 101, 99, 111, 110, 100, 41, 44, 49, 46, 48, 48, 41]⟩ awX PB zB _ _ A1.self).mono ?_); rintro e w2 ⟨v, rfl, ex, h2⟩; have A2 := h2.self.alloc (.cells #[.int .i64 v.1, .int .i64 v.2.1, .string (B v.2.2.1), .slice v.2.2.2.1 v.2.2.2.2.1 v.2.2.2.2.2] 26); have R2 := (R1.trans h2).trans A2; have EX := ex.rel A2; obtain ⟨⟨c0, c1, c2, c3⟩, _⟩ := (Bk.new w2 26 #[.int .i64 v.1, .int .i64 v.2.1, .string (B v.2.2.1), .slice v.2.2.2.1 v.2.2.2.2.1 v.2.2.2.2.2]).four)
    | (go_at_call 15; (with_reducible refine (rprint_as awX _ _ P1 _ v _ _ A2.self EX awX_size).mono ?_); rintro e w3 ⟨rfl, h3⟩))
  go_ret
  exact ⟨rfl, (HR.out.trans R2).trans h3⟩
end Go.Proofs.YtoajbbcjmalngaaGreatDoor

namespace Go.Proofs.YtoajbbcjmalngaaGreatDoor
open Go.RowKit Go.Lib
set_option linter.unusedVariables false
set_option linter.unusedSimpArgs false

def PrintOk : Prop := ∀ (x : Ex) (S : Nat → Prop) (e : El) (w0 w : World), Rel w0 w → ExAt S w e x → size x ≤ 100000 → Calls Tryz.prog 10 #[EV e] w fun r w' => r = .returned (.tuple #[.string (B (prT x)), .int .i64 (prE x)]) ∧ Rel w0 w'
def RightOk : Prop := ∀ (x : Ex) (S : Nat → Prop) (e : El) (w0 w : World), Rel w0 w → ExAt S w e x → size x ≤ 100000 → Calls Tryz.prog 11 #[EV e] w fun r w' => r = .returned (.bool (rightX x)) ∧ Rel w0 w'
def DeepOk : Prop := ∀ (x : Ex) (S : Nat → Prop) (e : El) (w0 w : World), Rel w0 w → ExAt S w e x → size x ≤ 100000 → Calls Tryz.prog 17 #[EV e] w fun r w' => r = .returned (.int .i64 (deep x : Int)) ∧ Rel w0 w'
def SameOk : Prop := ∀ (x y : Ex) (S S' : Nat → Prop) (e e' : El) (b : Bool) (w0 w : World), Rel w0 w → ExAt S w e x → ExAt S' w e' y → size x ≤ 100000 → size y ≤ 100000 → Hid (b = true ↔ x = y) → Calls Tryz.prog 14 #[EV e, EV e'] w fun r w' => r = .returned (.bool b) ∧ Rel w0 w'
/-- All that is asked of the program. -/
def TreeOk : Prop := PrintOk ∧ RightOk ∧ DeepOk ∧ SameOk
theorem print_as (H : TreeOk) (x : Ex) (T : ByteArray) (n : Int) (hT : Hid (B (prT x) = T ∧ prE x = n)) (S : Nat → Prop) (e : El) (w0 w : World) (hr : Rel w0 w) (h : ExAt S w e x) (hz : size x ≤ 100000) :
    Calls Tryz.prog 10 #[EV e] w fun r w' => r = .returned (.tuple #[.string T, .int .i64 n]) ∧ Rel w0 w' := by rw [← hT.out.1, ← hT.out.2]; exact H.1 x S e w0 w hr h hz
theorem right_as (H : TreeOk) (x : Ex) (b : Bool) (hb : Hid (rightX x = b)) (S : Nat → Prop) (e : El) (w0 w : World) (hr : Rel w0 w) (h : ExAt S w e x) (hz : size x ≤ 100000) :
    Calls Tryz.prog 11 #[EV e] w fun r w' => r = .returned (.bool b) ∧ Rel w0 w' := by rw [← hb.out]; exact H.2.1 x S e w0 w hr h hz
theorem deep_as (H : TreeOk) (x : Ex) (n : Int) (hn : Hid ((deep x : Int) = n)) (S : Nat → Prop) (e : El) (w0 w : World) (hr : Rel w0 w) (h : ExAt S w e x) (hz : size x ≤ 100000) :
    Calls Tryz.prog 17 #[EV e] w fun r w' => r = .returned (.int .i64 n) ∧ Rel w0 w' := by rw [← hn.out]; exact H.2.2.1 x S e w0 w hr h hz
theorem same_as (H : TreeOk) (x y : Ex) (b : Bool) (hb : Hid (b = true ↔ x = y)) (S S' : Nat → Prop) (e e' : El) (w0 w : World) (hr : Rel w0 w) (h : ExAt S w e x) (h' : ExAt S' w e' y) (hz : size x ≤ 100000) (hz' : size y ≤ 100000) :
    Calls Tryz.prog 14 #[EV e, EV e'] w fun r w' => r = .returned (.bool b) ∧ Rel w0 w' := H.2.2.2 x y S S' e e' b w0 w hr h h' hz hz' hb
theorem ExAt.one {S : Nat → Prop} {w : World} {k n : Int} {nm : List UInt8} {g c : Nat} {a : El} {x : Ex} (hk : i64 k) (hn : i64 n) (hm : nm.length ≤ 100) (h : Bk w g 26 (cellsEs [a]).toArray) (hS : S g) (hx : ExAt S w a x) :
    ExAt S w (k, n, nm, some ⟨g, 0, none⟩, 1, c) (.mk k n nm [x]) :=
  .mk k n nm _ c [x] [a] hk hn hm rfl (RowE.of_bk h hS) fun i h h' => by
    match i, h, h' with
    | 0, _, _ => exact hx
def exLow : Ex := .mk 1 0 [] []
def exX : Ex := .mk 9 0 [] [.mk 5 1 [] [exLow], .mk 4 999 [] []]
def exTxt : List UInt8 := [101, 108, 115, 101, 40, 108, 101, 115, 115, 40, 108, 111, 119, 101, 115, 116, 44, 32, 48, 46, 48, 49, 41, 44, 32, 57, 46, 57, 57, 41]
theorem txt_small (a b c : Nat) (ha : a < 10) (hb : b < 10) (hc : c < 10) : txt ((a * 100 + b * 10 + c : Nat) : Int) = [UInt8.ofNat (48 + a), 46, UInt8.ofNat (48 + b), UInt8.ofNat (48 + c)] := by
  rw [txt_pos (by omega) (by omega)]
  unfold pos
  rw [show ((a * 100 + b * 10 + c : Nat) : Int).toNat / 100 = a by omega, show ((a * 100 + b * 10 + c : Nat) : Int).toNat / 10 % 10 = b by omega, show ((a * 100 + b * 10 + c : Nat) : Int).toNat % 10 = c by omega, dd_one _ ha, dd_one _ hb, dd_one _ hc]
  rfl
theorem exX_text : text exX = exTxt := by
  have e1 : txt 1 = [48, 46, 48, 49] := txt_small 0 0 1 (by omega) (by omega) (by omega)
  have e2 : txt 999 = [57, 46, 57, 57] := txt_small 9 9 9 (by omega) (by omega) (by omega)
  unfold exX exLow
  simp only [text_mk, texts_cons, texts_nil, mores_cons, mores_nil, tailK, e1, e2]
  decide
theorem exX_size : size exX = 4 := by unfold exX exLow; simp only [size_mk, sizes_cons, sizes_nil]
theorem exX_deep : deep exX = 3 := by unfold exX exLow; simp only [deep_mk, deeps_cons, deeps_nil]; decide
theorem exX_right : rightX exX = true := by
  unfold rightX
  rw [exX_text, exX_size]
  decide
theorem exX_print : prT exX = exTxt ∧ prE exX = 0 := by
  unfold prT prE; rw [exX_right, exX_text]; exact ⟨rfl, rfl⟩
theorem more_print : prT (.mk 11 0 [] []) = [] ∧ prE (.mk 11 0 [] []) = 1 := by
  have : rightX (.mk 11 0 [] []) = false := by unfold rightX; rw [show isCond (Ex.mk 11 0 [] []).k = true from rfl]; simp
  unfold prT prE; rw [this]; exact ⟨rfl, rfl⟩
theorem none_right : rightX (.mk 0 0 [] []) = false := by
  have : fine 32 (.mk 0 0 [] []) = false := by decide
  unfold rightX; rw [this]; simp
theorem low_ne : exX ≠ exLow := fun h => by unfold exX exLow at h; injection h with h; cases h
theorem arg1 {f : FuncId} {v v' : Value} {w : World} {Q : Ending → World → Prop} (hv : Hid (v = v')) (h : Calls Tryz.prog f #[v] w Q) : Calls Tryz.prog f #[v'] w Q := by rw [← hv.out]; exact h
theorem arg2 {f : FuncId} {v v' u u' : Value} {w : World} {Q : Ending → World → Prop} (hv : Hid (v = v')) (hu : Hid (u = u')) (h : Calls Tryz.prog f #[v, u] w Q) : Calls Tryz.prog f #[v', u'] w Q := by rw [← hv.out, ← hu.out]; exact h
theorem same_yes (H : TreeOk) (x : Ex) (S S' : Nat → Prop) (e e' : El) (w0 w : World) (hr : Rel w0 w) (h : ExAt S w e x) (h' : ExAt S' w e' x) (hz : size x ≤ 100000) :
    Calls Tryz.prog 14 #[EV e, EV e'] w fun r w' => r = .returned (.bool true) ∧ Rel w0 w' := same_as H x x true (Lib.hid ⟨fun _ => rfl, fun _ => rfl⟩) S S' e e' w0 w hr h h' hz hz
theorem same_not (H : TreeOk) (x y : Ex) (hn : Hid (x ≠ y)) (S S' : Nat → Prop) (e e' : El) (w0 w : World) (hr : Rel w0 w) (h : ExAt S w e x) (h' : ExAt S' w e' y) (hz : size x ≤ 100000) (hz' : size y ≤ 100000) :
    Calls Tryz.prog 14 #[EV e, EV e'] w fun r w' => r = .returned (.bool false) ∧ Rel w0 w' := same_as H x y false (Lib.hid ⟨(fun h => by cases h), fun h => absurd h hn.out⟩) S S' e e' w0 w hr h h' hz hz'
theorem leaf11 (w : World) : ExAt (fun _ => True) w (11, 0, [], none, 0, 0) (.mk 11 0 [] []) := ExAt.leaf _ _ 11 0 [] none 0 ⟨by decide, by decide⟩ ⟨by decide, by decide⟩ (Nat.zero_le _)
theorem leaf0 (w : World) : ExAt (fun _ => True) w (0, 0, [], none, 0, 0) (.mk 0 0 [] []) := ExAt.leaf _ _ 0 0 [] none 0 ⟨by decide, by decide⟩ ⟨by decide, by decide⟩ (Nat.zero_le _)
end Go.Proofs.YtoajbbcjmalngaaGreatDoor

namespace Go.Proofs.YtoajbbcjmalngaaGreatDoor
open Go.RowKit Go.Lib
set_option linter.unusedVariables false
set_option linter.unusedSimpArgs false

theorem pr_of {x : Ex} {b : Bool} (h : rightX x = b) : prT x = (if b then text x else []) ∧ prE x = (if b then 0 else 1) := by
  unfold prT prE; rw [h]; exact ⟨rfl, rfl⟩
theorem right_len {x : Ex} (h : rightX x = true) : (text x).length ≤ 2000 := by
  simp only [rightX, Bool.and_eq_true, decide_eq_true_eq] at h
  exact h.2
theorem rsame_yes (x : Ex) (S S' : Nat → Prop) (e e' : El) (w0 w : World) (hr : Rel w0 w) (h : ExAt S w e x) (h' : ExAt S' w e' x) (hz : size x ≤ 1000000) :
    Calls Tryz.prog 13 #[EV e, EV e'] w fun r w' => r = .returned (.bool true) ∧ Rel w0 w' := rsame_any x x S S' e e' true w0 w hr h h' hz hz (Lib.hid ⟨fun _ => rfl, fun _ => rfl⟩)
set_option maxRecDepth 100000 in
set_option maxHeartbeats 4000000 in
theorem ParseBack_at (H : TreeOk) (HP : ParseOk) (A : Option Addr) (c : Nat) (L : List Int) (w : World) (hr : Rel w w) (hi : IntsIn w A c L) :
    Calls Tryz.prog 3 #[.slice A L.length c] w fun e w' => e = .returned (.bool true) ∧ Rel w w' := by
  have H := Lib.hid H
  have HP := Lib.hid HP
  have HR := Lib.hid hr
  have HI := Lib.hid hi
  obtain ⟨x, hx⟩ : ∃ x, strat L = x := ⟨_, rfl⟩
  have HSx := Lib.hid (fun (w0 w1 : World) (hr : Rel w0 w1) (h : IntsIn w1 A c L) => strat_any A c L w0 w1 hr h)
  have zx : size x ≤ 100000 := by have := strat_size L; rw [hx] at this; omega
  have zx2 : size x ≤ 1000000 := by omega
  rw [hx] at HSx
  clear hx hi
  obtain ⟨bx, hbx⟩ : ∃ b, rightX x = b := ⟨_, rfl⟩
  have HBx := Lib.hid hbx
  have px := pr_of hbx
  obtain ⟨T, hT⟩ : ∃ T, B (prT x) = T := ⟨_, rfl⟩
  have P1 := Lib.hid (And.intro hT px.2)
  cases bx with
  | false =>
    clear hT px hbx
    go_enter Tryz.func3, Tryz.ntmps3
    go_wp2_with (first
      | (go_at_call 8; (with_reducible refine (awake8_any HP.out _ _ HR.out).mono ?_); rintro e w1 ⟨rfl, h1⟩)
      | (go_at_call 9; (with_reducible refine (HSx.out _ _ h1.self (HI.out.rel h1)).mono ?_); rintro e w2 ⟨vx, rfl, ex, h2⟩; have AX := h2.self.alloc (.cells #[.int .i64 vx.1, .int .i64 vx.2.1, .string (B vx.2.2.1), .slice vx.2.2.2.1 vx.2.2.2.2.1 vx.2.2.2.2.2] 26); have R2 := (h1.trans h2).trans AX; have BX := Bk.new w2 26 #[.int .i64 vx.1, .int .i64 vx.2.1, .string (B vx.2.2.1), .slice vx.2.2.2.1 vx.2.2.2.2.1 vx.2.2.2.2.2]; have EX := ex.rel AX; obtain ⟨⟨c0, c1, c2, c3⟩, _⟩ := BX.four)
      | (go_at_call 10; (with_reducible refine (print_as H.out x T _ P1 _ vx _ _ AX.self EX zx).mono ?_); rintro e w3 ⟨rfl, h3⟩; obtain ⟨⟨c0, c1, c2, c3⟩, _⟩ := (BX.rel h3).four)
      | (go_at_call 11; (with_reducible refine (right_as H.out x _ HBx _ vx _ _ h3.self (EX.rel h3) zx).mono ?_); rintro e w4 ⟨rfl, h4⟩))
    go_ret
    exact ⟨rfl, (R2.trans h3).trans h4⟩
  | true =>
    have hl := right_len hbx
    have hTx : B (text x) = T := by have := px.1; simp only [if_true] at this; rw [← hT, this]
    have PT : Hid (parseS T.data.toList = .ok x) := Lib.hid (by rw [← hTx, B_list]; exact parse_text hbx)
    have zT : T.size ≤ 9223372036854775807 := by rw [← hTx, B_size]; omega
    clear hT px hbx hTx hl
    go_enter Tryz.func3, Tryz.ntmps3
    go_wp2_with (first
      | (go_at_call 8; (with_reducible refine (awake8_any HP.out _ _ HR.out).mono ?_); rintro e w1 ⟨rfl, h1⟩)
      | (go_at_call 9; (with_reducible refine (HSx.out _ _ h1.self (HI.out.rel h1)).mono ?_); rintro e w2 ⟨vx, rfl, ex, h2⟩; have AX := h2.self.alloc (.cells #[.int .i64 vx.1, .int .i64 vx.2.1, .string (B vx.2.2.1), .slice vx.2.2.2.1 vx.2.2.2.2.1 vx.2.2.2.2.2] 26); have R2 := (h1.trans h2).trans AX; have BX := Bk.new w2 26 #[.int .i64 vx.1, .int .i64 vx.2.1, .string (B vx.2.2.1), .slice vx.2.2.2.1 vx.2.2.2.2.1 vx.2.2.2.2.2]; have EX := ex.rel AX; obtain ⟨⟨c0, c1, c2, c3⟩, _⟩ := BX.four)
      | (go_at_call 10; (with_reducible refine (print_as H.out x T _ P1 _ vx _ _ AX.self EX zx).mono ?_); rintro e w3 ⟨rfl, h3⟩)
      | (go_at_call 12; (with_reducible refine (pparse_yes HP.out T x PT zT _ _ h3.self).mono ?_); rintro e w4 ⟨vy, rfl, ey, h4⟩; have AY := h4.self.alloc (.cells #[.int .i64 vy.1, .int .i64 vy.2.1, .string (B vy.2.2.1), .slice vy.2.2.2.1 vy.2.2.2.2.1 vy.2.2.2.2.2] 26); have R4 := (h3.trans h4).trans AY; have BY := Bk.new w4 26 #[.int .i64 vy.1, .int .i64 vy.2.1, .string (B vy.2.2.1), .slice vy.2.2.2.1 vy.2.2.2.2.1 vy.2.2.2.2.2]; have EY := ey.rel AY; obtain ⟨⟨c0, c1, c2, c3⟩, _⟩ := (BX.rel R4).four; obtain ⟨⟨d0, d1, d2, d3⟩, _⟩ := BY.four)
      | (go_at_call 13; (with_reducible refine (rsame_yes x _ _ vx vy _ _ AY.self (EX.rel R4) EY zx2).mono ?_); rintro e w5 ⟨rfl, h5⟩; obtain ⟨⟨c0, c1, c2, c3⟩, _⟩ := (BX.rel (R4.trans h5)).four; obtain ⟨⟨d0, d1, d2, d3⟩, _⟩ := (BY.rel h5).four)
      | (go_at_call 14; (with_reducible refine (same_yes H.out x _ _ vx vy _ _ h5.self (EX.rel (R4.trans h5)) (EY.rel h5) zx).mono ?_); rintro e w6 ⟨rfl, h6⟩))
    go_ret
    exact ⟨rfl, ((R2.trans R4).trans h5).trans h6⟩
end Go.Proofs.YtoajbbcjmalngaaGreatDoor

namespace Go.Proofs.YtoajbbcjmalngaaGreatDoor
open Go.RowKit Go.Lib
set_option linter.unusedVariables false
set_option linter.unusedSimpArgs false

theorem len_le : ∀ l : List Ex, l.length ≤ sizes l := fun l => by
  induction l with
  | nil => simp
  | cons x t ih => rw [sizes_cons, List.length_cons]; have := size_pos x; omega
set_option maxRecDepth 100000 in
set_option maxHeartbeats 2000000 in
theorem tdeep_any : ∀ (x : Ex) (S : Nat → Prop) (e : El) (w0 w : World), Rel w0 w → ExAt S w e x → size x ≤ 1000000 →
    Calls Tryz.prog 17 #[EV e] w fun r w' => r = .returned (.int .i64 (deep x : Int)) ∧ Rel w0 w' := ex_ind fun k n nm l ih S e w0 w hr h hz => by
  obtain ⟨A, c, es, rfl, hk, hn, hm, hl, hrow, hsub⟩ := h.open
  have HRow := Lib.hid hrow
  have HSub := Lib.hid hsub
  have HIH := Lib.hid (fun j hj => ih _ (List.getElem_mem (l := l) (n := j) hj))
  have HR := Lib.hid hr
  rw [size_mk] at hz
  have hll : l.length ≤ 1000000 := by have := len_le l; omega
  have HA := Lib.hid (hr.self.alloc (.cells #[.int .i64 k, .int .i64 n, .string (B nm), .slice A l.length c] 26))
  obtain ⟨W, hW⟩ : ∃ W, w.alloc (.cells #[.int .i64 k, .int .i64 n, .string (B nm), .slice A l.length c] 26) = W := ⟨_, rfl⟩
  rw [hW] at HA
  have HW := Lib.hid hW
  clear hrow hsub ih h hW
  go_enter Tryz.func17, Tryz.ntmps17
  go_wp2_with (fail)
  rw [HW.out]
  go_loopw [3, 9] (fun n i wr => ∃ j : Nat, j ≤ l.length ∧ i = .int .i64 (j : Int) ∧ Hid (n = .int .i64 ((deeps (l.take j) : Nat) : Int)) ∧ Rel W wr) (fun _ i _ => l.length - (RowKit.intOf i).toNat)
  case atStart => exact ⟨0, by omega, rfl, Lib.hid (by simp [deeps_nil]), (HR.out.trans HA.out).self⟩
  case round =>
    obtain ⟨j, hj, rfl, HN, hRw⟩ := hrel
    obtain ⟨q, hq⟩ : ∃ q : Nat, deeps (l.take j) = q := ⟨_, rfl⟩
    have hn' := HN.out
    rw [hq] at hn'
    subst hn'
    have HQ := Lib.hid hq
    have HRw := Lib.hid hRw
    clear hq
    by_cases hlt : j < l.length
    · obtain ⟨g, off, k', n', nm', A', m', c', hA, a0, a1, a2, a3, ha⟩ := ExAt.arg HRow.out HSub.out hl (HA.out.trans hRw) j hlt
      subst hA
      have hsz : size l[j] ≤ 1000000 := by have := size_mem (List.getElem_mem (l := l) (n := j) hlt); omega
      have hdz : deep l[j] ≤ 1000000 := by have := deep_le_size l[j]; omega
      have hqz : q ≤ 1000000 := by
        have hd : ∀ m : List Ex, deeps m ≤ sizes m := fun m => by
          induction m with
          | nil => rw [deeps_nil]; omega
          | cons x t ih => rw [deeps_cons, sizes_cons]; have := deep_le_size x; omega
        have e1 := hd (l.take j)
        have e2 : sizes l = sizes (l.take j) + sizes (l.drop j) := by rw [← sizes_append, List.take_append_drop]
        have := HQ.out; omega
      obtain ⟨sj, hsj⟩ : ∃ s, deep l[j] = s := ⟨_, rfl⟩
      have HNx := Lib.hid (show ((deeps (l.take (j + 1)) : Nat) : Int) = max (q : Int) (sj : Int) by rw [deeps_take l j hlt, hsj, HQ.out]; omega)
      rw [hsj] at hdz
      have HB := Lib.hid (((HR.out.trans HA.out).trans hRw).self.alloc (.cells #[.int .i64 k', .int .i64 n', .string (B nm'), .slice A' m' c'] 26))
      have HC := Lib.hid (HIH.out j hlt S (k', n', nm', A', m', c') _ _ HB.out.self (ha.rel HB.out) hsz)
      rw [hsj] at HC
      clear ha hsj
      go_wp2_with (go_at_call 17; (with_reducible refine HC.out.mono ?_); rintro e w2 ⟨rfl, h2⟩)
      go_roundw
      case rel => exact ⟨j + 1, by omega, by go_num, Lib.hid (by first | (rw [HNx.out]; done) | (rw [HNx.out]; congr 1; split <;> omega)), (HRw.out.trans HB.out).trans h2⟩
      case measure => simp [RowKit.intOf]; omega
    · obtain rfl : j = l.length := by omega
      have HF := Lib.hid (show deep (.mk k n nm l) = q + 1 by have := HQ.out; rw [List.take_length] at this; rw [deep_mk, this])
      have hqz : q ≤ 1000000 := by
        have e1 := deep_le_size (.mk k n nm l)
        rw [HF.out, size_mk] at e1; omega
      go_wp2_with (fail)
      go_ret
      exact ⟨ret_int (by rw [HF.out]; go_num), (HR.out.trans HA.out).trans HRw.out⟩
end Go.Proofs.YtoajbbcjmalngaaGreatDoor
