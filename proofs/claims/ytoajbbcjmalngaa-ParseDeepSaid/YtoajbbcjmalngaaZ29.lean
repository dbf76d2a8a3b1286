/- The document's own fine: a name, which has no arguments; The document's own fine, whole; Right and Print; The document's own Right and Print; What the laws ask of parse; the law's first calls. -/
import Derived.Test.YtoajbbcjmalngaaZ27
import Derived.Test.YtoajbbcjmalngaaZ28
import Derived.Test.YtoajbbcjmalngaaZ24
import Derived.Test.YtoajbbcjmalngaaZ06
namespace Go.Proofs.Ytoajbbcjmalngaa
open Go.RowKit Go.Lib
set_option linter.unusedVariables false
set_option linter.unusedSimpArgs false

set_option maxRecDepth 100000 in
set_option maxHeartbeats 4000000 in
theorem rfine_name (k n : Int) (l : List Ex) (A : Option Addr) (c : Nat) (d : Nat) (hd : d ≤ 40) (hl9 : l.length ≤ 1000000) (w0 w : World) (hr : Rel w0 w) (M1 M2 : Int) (HM1 : Hid (argsN k = M1)) (HM2 : Hid (mostN k = M2)) (NM : ByteArray) (zNM : NM.size ≤ 100) (q0 : decide ((d : Int) + 1 < 1) = false) (q1 : (M1 != (l.length : Int)) = false) (q1' : (M1 == (l.length : Int)) = true) (q2 : decide (n < 0) = false) (q3 : decide (M2 < n) = false) (q4 : (NM.toList != []) = true) (q4' : (NM.toList == []) = false) (q5 : (k == 3) = true) (HNb : Hid (isName NM.data.toList = true)) (hl0 : l.length = 0) :
    Calls Try.prog 24 #[.agg #[.int .i64 k, .int .i64 n, .string NM, .slice A l.length c], .int .i64 ((d : Int) + 1)] w fun e w' => e = .returned (.bool true) ∧ Rel w0 w' := by
  have HL0 := Lib.hid hl0
  clear hl0
  have HB := Lib.hid (Bk.new w 30 #[.int .i64 k, .int .i64 n, .string NM, .slice A l.length c])
  have HA := Lib.hid (hr.alloc (.cells #[.int .i64 k, .int .i64 n, .string NM, .slice A l.length c] 30))
  go_enter Try.func24, Try.ntmps24
  go_wp2_with (fail)
  obtain ⟨W, hW⟩ : ∃ W, w.alloc (.cells #[.int .i64 k, .int .i64 n, .string NM, .slice A l.length c] 30) = W := ⟨_, rfl⟩
  rw [hW] at HB HA ⊢
  clear hW
  obtain ⟨⟨c0, c1, c2, c3⟩, _⟩ := HB.out.four
  refine wp_region_held_drew (S := (fun w' => w'.cell? ⟨w.heap.size, 0, none⟩ = some (.int .i64 k) ∧ w'.cell? ⟨w.heap.size, 1, none⟩ = some (.int .i64 n) ∧ w'.cell? ⟨w.heap.size, 2, none⟩ = some (.string NM) ∧ w'.cell? ⟨w.heap.size, 3, none⟩ = some (.slice A l.length c))) (by kernel_rfl) ⟨c0, c1, c2, c3⟩ (fun hHeld => ?_)
  refine held_take (i := 0) (v := ?_) (some 6) rfl rfl (by kernel_rfl) (by kernel_rfl) (by kernel_rfl) (fun _ _ _ h => h) (Or.inl ⟨by rfl, ?_⟩) hHeld ?_
  rotate_left 1
  · rintro w' ⟨s0, s1, s2, s3⟩; go_simp; try with_reducible rfl
  try simp only [Act.put, List.setIfInBounds_toArray, List.set_cons_zero, List.set_cons_succ]
  refine held_take (i := 1) (v := ?_) (some 7) rfl rfl (by kernel_rfl) (by kernel_rfl) (by kernel_rfl) (fun _ _ _ h => h) (Or.inl ⟨by rfl, ?_⟩) hHeld ?_
  rotate_left 1
  · rintro w' ⟨s0, s1, s2, s3⟩; go_simp; try with_reducible rfl
  try simp only [Act.put, List.setIfInBounds_toArray, List.set_cons_zero, List.set_cons_succ]
  refine held_take (i := 2) (v := ?_) (some 8) rfl rfl (by kernel_rfl) (by kernel_rfl) (by kernel_rfl) (fun _ _ _ h => h) (Or.inl ⟨by rfl, ?_⟩) hHeld ?_
  rotate_left 1
  · rintro w' ⟨s0, s1, s2, s3⟩; go_simp; try with_reducible rfl
  try simp only [Act.put, List.setIfInBounds_toArray, List.set_cons_zero, List.set_cons_succ]
  refine held_take (i := 3) (v := ?_) (some 9) rfl rfl (by kernel_rfl) (by kernel_rfl) (by kernel_rfl) (fun _ _ _ h => h) (Or.inl ⟨by rfl, ?_⟩) hHeld ?_
  rotate_left 1
  · rintro w' ⟨s0, s1, s2, s3⟩; go_simp; try with_reducible rfl
  try simp only [Act.put, List.setIfInBounds_toArray, List.set_cons_zero, List.set_cons_succ]
  refine held_take (i := 4) (v := ?_) (some 10) rfl rfl (by kernel_rfl) (by kernel_rfl) (by kernel_rfl) (fun _ _ _ h => h) (Or.inl ⟨by rfl, ?_⟩) hHeld ?_
  rotate_left 1
  · rintro w' ⟨s0, s1, s2, s3⟩; go_simp; try with_reducible rfl
  try simp only [Act.put, List.setIfInBounds_toArray, List.set_cons_zero, List.set_cons_succ]
  refine held_take (i := 6) (v := ?_) (some 12) rfl rfl (by kernel_rfl) (by kernel_rfl) (by kernel_rfl) (fun _ _ _ h => h) (Or.inl ⟨by rfl, ?_⟩) hHeld ?_
  rotate_left 1
  · rintro w' ⟨s0, s1, s2, s3⟩; go_simp; try with_reducible rfl
  try simp only [Act.put, List.setIfInBounds_toArray, List.set_cons_zero, List.set_cons_succ]
  refine held_take (i := 7) (v := ?_) (some 13) rfl rfl (by kernel_rfl) (by kernel_rfl) (by kernel_rfl) (fun _ _ _ h => h) (Or.inl ⟨by rfl, ?_⟩) hHeld ?_
  rotate_left 1
  · rintro w' ⟨s0, s1, s2, s3⟩; go_simp; try with_reducible rfl
  try simp only [Act.put, List.setIfInBounds_toArray, List.set_cons_zero, List.set_cons_succ]
  refine held_take (i := 8) (v := ?_) (some 14) rfl rfl (by kernel_rfl) (by kernel_rfl) (by kernel_rfl) (fun _ _ _ h => h) (Or.inl ⟨by rfl, ?_⟩) hHeld ?_
  rotate_left 1
  · rintro w' ⟨s0, s1, s2, s3⟩; go_simp; try with_reducible rfl
  try simp only [Act.put, List.setIfInBounds_toArray, List.set_cons_zero, List.set_cons_succ]
  refine held_one (j := 5) (by kernel_rfl) rfl (fun K hK => ?_)
  try simp only [List.getElem_toArray, List.getElem_cons_succ, List.getElem_cons_zero]
  rw [if_pos (by rfl)]
  go_simp
  go_at_call 31
  (with_reducible refine (args_as k M1 HM1 _).mono ?_)
  rintro e w' ⟨rfl, rfl⟩
  refine hK.out _ _ hHeld (fun hHeld => ?_)
  clear hK K
  try simp only [Act.put, List.setIfInBounds_toArray, List.set_cons_zero, List.set_cons_succ]
  refine held_take (i := 9) (v := ?_) (some 15) rfl rfl (by kernel_rfl) (by kernel_rfl) (by kernel_rfl) (fun _ _ _ h => h) (Or.inl ⟨by rfl, ?_⟩) hHeld ?_
  rotate_left 1
  · rintro w' ⟨s0, s1, s2, s3⟩; go_simp; try with_reducible rfl
  try simp only [Act.put, List.setIfInBounds_toArray, List.set_cons_zero, List.set_cons_succ]
  refine held_take (i := 10) (v := ?_) (some 16) rfl rfl (by kernel_rfl) (by kernel_rfl) (by kernel_rfl) (fun _ _ _ h => h) (Or.inl ⟨by rfl, ?_⟩) hHeld ?_
  rotate_left 1
  · rintro w' ⟨s0, s1, s2, s3⟩; go_simp; try with_reducible rfl
  try simp only [Act.put, List.setIfInBounds_toArray, List.set_cons_zero, List.set_cons_succ]
  refine held_take (i := 11) (v := ?_) (some 17) rfl rfl (by kernel_rfl) (by kernel_rfl) (by kernel_rfl) (fun _ _ _ h => h) (Or.inl ⟨by rfl, ?_⟩) hHeld ?_
  rotate_left 1
  · rintro w' ⟨s0, s1, s2, s3⟩; go_simp; try with_reducible rfl
  try simp only [Act.put, List.setIfInBounds_toArray, List.set_cons_zero, List.set_cons_succ]
  refine held_take (i := 12) (v := ?_) (some 18) rfl rfl (by kernel_rfl) (by kernel_rfl) (by kernel_rfl) (fun _ _ _ h => h) (Or.inl ⟨by rfl, ?_⟩) hHeld ?_
  rotate_left 1
  · rintro w' ⟨s0, s1, s2, s3⟩; go_simp; try with_reducible rfl
  try simp only [Act.put, List.setIfInBounds_toArray, List.set_cons_zero, List.set_cons_succ]
  refine held_take (i := 13) (v := ?_) (some 19) rfl rfl (by kernel_rfl) (by kernel_rfl) (by kernel_rfl) (fun _ _ _ h => h) (Or.inl ⟨by rfl, ?_⟩) hHeld ?_
  rotate_left 1
  · rintro w' ⟨s0, s1, s2, s3⟩; go_simp; try with_reducible rfl
  try simp only [Act.put, List.setIfInBounds_toArray, List.set_cons_zero, List.set_cons_succ]
  refine held_take (i := 14) (v := ?_) (some 20) rfl rfl (by kernel_rfl) (by kernel_rfl) (by kernel_rfl) (fun _ _ _ h => h) (Or.inl ⟨by rfl, ?_⟩) hHeld ?_
  rotate_left 1
  · rintro w' ⟨s0, s1, s2, s3⟩; go_simp; try with_reducible rfl
  try simp only [Act.put, List.setIfInBounds_toArray, List.set_cons_zero, List.set_cons_succ]
  refine held_take (i := 15) (v := ?_) (some 21) rfl rfl (by kernel_rfl) (by kernel_rfl) (by kernel_rfl) (fun _ _ _ h => h) (Or.inl ⟨by rfl, ?_⟩) hHeld ?_
  rotate_left 1
  · rintro w' ⟨s0, s1, s2, s3⟩; go_simp; try with_reducible rfl
  try simp only [Act.put, List.setIfInBounds_toArray, List.set_cons_zero, List.set_cons_succ]
  refine held_take (i := 16) (v := ?_) (some 22) rfl rfl (by kernel_rfl) (by kernel_rfl) (by kernel_rfl) (fun _ _ _ h => h) (Or.inl ⟨by rfl, ?_⟩) hHeld ?_
  rotate_left 1
  · rintro w' ⟨s0, s1, s2, s3⟩; go_simp; try with_reducible rfl
  try simp only [Act.put, List.setIfInBounds_toArray, List.set_cons_zero, List.set_cons_succ]
  refine held_take (i := 17) (v := ?_) (some 23) rfl rfl (by kernel_rfl) (by kernel_rfl) (by kernel_rfl) (fun _ _ _ h => h) (Or.inl ⟨by rfl, ?_⟩) hHeld ?_
  rotate_left 1
  · rintro w' ⟨s0, s1, s2, s3⟩; go_simp; try with_reducible rfl
  try simp only [Act.put, List.setIfInBounds_toArray, List.set_cons_zero, List.set_cons_succ]
  refine held_take (i := 18) (v := ?_) (some 24) rfl rfl (by kernel_rfl) (by kernel_rfl) (by kernel_rfl) (fun _ _ _ h => h) (Or.inl ⟨by rfl, ?_⟩) hHeld ?_
  rotate_left 1
  · rintro w' ⟨s0, s1, s2, s3⟩; go_simp; try with_reducible rfl
  try simp only [Act.put, List.setIfInBounds_toArray, List.set_cons_zero, List.set_cons_succ]
  refine held_take (i := 19) (v := ?_) (some 25) rfl rfl (by kernel_rfl) (by kernel_rfl) (by kernel_rfl) (fun _ _ _ h => h) (Or.inl ⟨by rfl, ?_⟩) hHeld ?_
  rotate_left 1
  · rintro w' ⟨s0, s1, s2, s3⟩; go_simp; try with_reducible rfl
  try simp only [Act.put, List.setIfInBounds_toArray, List.set_cons_zero, List.set_cons_succ]
  refine held_take (i := 20) (v := ?_) (some 26) rfl rfl (by kernel_rfl) (by kernel_rfl) (by kernel_rfl) (fun _ _ _ h => h) (Or.inl ⟨by rfl, ?_⟩) hHeld ?_
  rotate_left 1
  · rintro w' ⟨s0, s1, s2, s3⟩; go_simp; try with_reducible rfl
  try simp only [Act.put, List.setIfInBounds_toArray, List.set_cons_zero, List.set_cons_succ]
  refine held_one (j := 21) (by kernel_rfl) rfl (fun K hK => ?_)
  try simp only [List.getElem_toArray, List.getElem_cons_succ, List.getElem_cons_zero]
  rw [if_pos (by rfl)]
  go_simp
  go_at_call 42
  (with_reducible refine (most_as k M2 HM2 _).mono ?_)
  rintro e w' ⟨rfl, rfl⟩
  refine hK.out _ _ hHeld (fun hHeld => ?_)
  clear hK K
  try simp only [Act.put, List.setIfInBounds_toArray, List.set_cons_zero, List.set_cons_succ]
  refine held_take (i := 22) (v := ?_) (some 28) rfl rfl (by kernel_rfl) (by kernel_rfl) (by kernel_rfl) (fun _ _ _ h => h) (Or.inl ⟨by rfl, ?_⟩) hHeld ?_
  rotate_left 1
  · rintro w' ⟨s0, s1, s2, s3⟩; go_simp; try with_reducible rfl
  try simp only [Act.put, List.setIfInBounds_toArray, List.set_cons_zero, List.set_cons_succ]
  refine held_take (i := 23) (v := ?_) (some 29) rfl rfl (by kernel_rfl) (by kernel_rfl) (by kernel_rfl) (fun _ _ _ h => h) (Or.inl ⟨by rfl, ?_⟩) hHeld ?_
  rotate_left 1
  · rintro w' ⟨s0, s1, s2, s3⟩; go_simp; try with_reducible rfl
  try simp only [Act.put, List.setIfInBounds_toArray, List.set_cons_zero, List.set_cons_succ]
  refine held_take (i := 24) (v := ?_) (some 30) rfl rfl (by kernel_rfl) (by kernel_rfl) (by kernel_rfl) (fun _ _ _ h => h) (Or.inl ⟨by rfl, ?_⟩) hHeld ?_
  rotate_left 1
  · rintro w' ⟨s0, s1, s2, s3⟩; go_simp; try with_reducible rfl
  try simp only [Act.put, List.setIfInBounds_toArray, List.set_cons_zero, List.set_cons_succ]
  refine held_take (i := 25) (v := ?_) (some 31) rfl rfl (by kernel_rfl) (by kernel_rfl) (by kernel_rfl) (fun _ _ _ h => h) (Or.inl ⟨by rfl, ?_⟩) hHeld ?_
  rotate_left 1
  · rintro w' ⟨s0, s1, s2, s3⟩; go_simp; try with_reducible rfl
  try simp only [Act.put, List.setIfInBounds_toArray, List.set_cons_zero, List.set_cons_succ]
  refine held_take (i := 26) (v := ?_) (some 32) rfl rfl (by kernel_rfl) (by kernel_rfl) (by kernel_rfl) (fun _ _ _ h => h) (Or.inl ⟨by rfl, ?_⟩) hHeld ?_
  rotate_left 1
  · rintro w' ⟨s0, s1, s2, s3⟩; go_simp; try with_reducible rfl
  try simp only [Act.put, List.setIfInBounds_toArray, List.set_cons_zero, List.set_cons_succ]
  refine held_take (i := 27) (v := ?_) (some 33) rfl rfl (by kernel_rfl) (by kernel_rfl) (by kernel_rfl) (fun _ _ _ h => h) (Or.inl ⟨by rfl, ?_⟩) hHeld ?_
  rotate_left 1
  · rintro w' ⟨s0, s1, s2, s3⟩; go_simp; try with_reducible rfl
  try simp only [Act.put, List.setIfInBounds_toArray, List.set_cons_zero, List.set_cons_succ]
  refine held_take (i := 28) (v := ?_) (some 34) rfl rfl (by kernel_rfl) (by kernel_rfl) (by kernel_rfl) (fun _ _ _ h => h) (Or.inl ⟨by rfl, ?_⟩) hHeld ?_
  rotate_left 1
  · rintro w' ⟨s0, s1, s2, s3⟩; go_simp; try with_reducible rfl
  try simp only [Act.put, List.setIfInBounds_toArray, List.set_cons_zero, List.set_cons_succ]
  refine held_take (i := 29) (v := ?_) (some 35) rfl rfl (by kernel_rfl) (by kernel_rfl) (by kernel_rfl) (fun _ _ _ h => h) (Or.inl ⟨by rfl, ?_⟩) hHeld ?_
  rotate_left 1
  · rintro w' ⟨s0, s1, s2, s3⟩; go_simp; try with_reducible rfl
  try simp only [Act.put, List.setIfInBounds_toArray, List.set_cons_zero, List.set_cons_succ]
  refine held_take (i := 30) (v := ?_) (some 36) rfl rfl (by kernel_rfl) (by kernel_rfl) (by kernel_rfl) (fun _ _ _ h => h) (Or.inl ⟨by rfl, ?_⟩) hHeld ?_
  rotate_left 1
  · rintro w' ⟨s0, s1, s2, s3⟩; go_simp; try with_reducible rfl
  try simp only [Act.put, List.setIfInBounds_toArray, List.set_cons_zero, List.set_cons_succ]
  refine held_take (i := 31) (v := ?_) (some 37) rfl rfl (by kernel_rfl) (by kernel_rfl) (by kernel_rfl) (fun _ _ _ h => h) (Or.inl ⟨by rfl, ?_⟩) hHeld ?_
  rotate_left 1
  · rintro w' ⟨s0, s1, s2, s3⟩; go_simp; try with_reducible rfl
  try simp only [Act.put, List.setIfInBounds_toArray, List.set_cons_zero, List.set_cons_succ]
  refine held_take (i := 32) (v := ?_) (some 38) rfl rfl (by kernel_rfl) (by kernel_rfl) (by kernel_rfl) (fun _ _ _ h => h) (Or.inl ⟨by rfl, ?_⟩) hHeld ?_
  rotate_left 1
  · rintro w' ⟨s0, s1, s2, s3⟩; go_simp; try with_reducible rfl
  try simp only [Act.put, List.setIfInBounds_toArray, List.set_cons_zero, List.set_cons_succ]
  refine held_take (i := 33) (v := ?_) (some 39) rfl rfl (by kernel_rfl) (by kernel_rfl) (by kernel_rfl) (fun _ _ _ h => h) (Or.inl ⟨by rfl, ?_⟩) hHeld ?_
  rotate_left 1
  · rintro w' ⟨s0, s1, s2, s3⟩; go_simp; try with_reducible rfl
  try simp only [Act.put, List.setIfInBounds_toArray, List.set_cons_zero, List.set_cons_succ]
  refine held_take (i := 34) (v := ?_) (some 40) rfl rfl (by kernel_rfl) (by kernel_rfl) (by kernel_rfl) (fun _ _ _ h => h) (Or.inl ⟨by rfl, ?_⟩) hHeld ?_
  rotate_left 1
  · rintro w' ⟨s0, s1, s2, s3⟩; go_simp; try with_reducible rfl
  try simp only [Act.put, List.setIfInBounds_toArray, List.set_cons_zero, List.set_cons_succ]
  refine held_take (i := 35) (v := ?_) (some 41) rfl rfl (by kernel_rfl) (by kernel_rfl) (by kernel_rfl) (fun _ _ _ h => h) (Or.inl ⟨by rfl, ?_⟩) hHeld ?_
  rotate_left 1
  · rintro w' ⟨s0, s1, s2, s3⟩; go_simp; try with_reducible rfl
  try simp only [Act.put, List.setIfInBounds_toArray, List.set_cons_zero, List.set_cons_succ]
  refine held_take (i := 36) (v := ?_) (some 42) rfl rfl (by kernel_rfl) (by kernel_rfl) (by kernel_rfl) (fun _ _ _ h => h) (Or.inl ⟨by rfl, ?_⟩) hHeld ?_
  rotate_left 1
  · rintro w' ⟨s0, s1, s2, s3⟩; go_simp; try with_reducible rfl
  try simp only [Act.put, List.setIfInBounds_toArray, List.set_cons_zero, List.set_cons_succ]
  refine held_take (i := 37) (v := ?_) (some 43) rfl rfl (by kernel_rfl) (by kernel_rfl) (by kernel_rfl) (fun _ _ _ h => h) (Or.inl ⟨by rfl, ?_⟩) hHeld ?_
  rotate_left 1
  · rintro w' ⟨s0, s1, s2, s3⟩; go_simp; try with_reducible rfl
  try simp only [Act.put, List.setIfInBounds_toArray, List.set_cons_zero, List.set_cons_succ]
  refine held_take (i := 38) (v := ?_) (some 44) rfl rfl (by kernel_rfl) (by kernel_rfl) (by kernel_rfl) (fun _ _ _ h => h) (Or.inl ⟨by rfl, ?_⟩) hHeld ?_
  rotate_left 1
  · rintro w' ⟨s0, s1, s2, s3⟩; go_simp; try with_reducible rfl
  try simp only [Act.put, List.setIfInBounds_toArray, List.set_cons_zero, List.set_cons_succ]
  refine held_take (i := 39) (v := ?_) (some 45) rfl rfl (by kernel_rfl) (by kernel_rfl) (by kernel_rfl) (fun _ _ _ h => h) (Or.inl ⟨by rfl, ?_⟩) hHeld ?_
  rotate_left 1
  · rintro w' ⟨s0, s1, s2, s3⟩; go_simp; try with_reducible rfl
  try simp only [Act.put, List.setIfInBounds_toArray, List.set_cons_zero, List.set_cons_succ]
  refine held_one (j := 40) (by kernel_rfl) rfl (fun K hK => ?_)
  try simp only [List.getElem_toArray, List.getElem_cons_succ, List.getElem_cons_zero]
  rw [if_pos (by rfl)]
  go_simp
  go_at_call 41
  (with_reducible refine (rname_as NM true HNb zNM _ _ HA.out.drew.self).mono ?_)
  rintro e w2 ⟨rfl, h2⟩
  obtain ⟨⟨d0, d1, d2, d3⟩, _⟩ := (HB.out.drew.rel h2).four
  refine hK.out _ _ ⟨d0, d1, d2, d3⟩ (fun hHeld => ?_)
  clear hK K
  try simp only [Act.put, List.setIfInBounds_toArray, List.set_cons_zero, List.set_cons_succ]
  refine held_take (i := 41) (v := ?_) (some 47) rfl rfl (by kernel_rfl) (by kernel_rfl) (by kernel_rfl) (fun _ _ _ h => h) (Or.inl ⟨by rfl, ?_⟩) hHeld ?_
  rotate_left 1
  · rintro w' ⟨s0, s1, s2, s3⟩; go_simp; try with_reducible rfl
  try simp only [Act.put, List.setIfInBounds_toArray, List.set_cons_zero, List.set_cons_succ]
  refine held_take (i := 42) (v := ?_) (some 48) rfl rfl (by kernel_rfl) (by kernel_rfl) (by kernel_rfl) (fun _ _ _ h => h) (Or.inl ⟨by rfl, ?_⟩) hHeld ?_
  rotate_left 1
  · rintro w' ⟨s0, s1, s2, s3⟩; go_simp; try with_reducible rfl
  try simp only [Act.put, List.setIfInBounds_toArray, List.set_cons_zero, List.set_cons_succ]
  refine held_take (i := 43) (v := ?_) (some 49) rfl rfl (by kernel_rfl) (by kernel_rfl) (by kernel_rfl) (fun _ _ _ h => h) (Or.inl ⟨by rfl, ?_⟩) hHeld ?_
  rotate_left 1
  · rintro w' ⟨s0, s1, s2, s3⟩; go_simp; try with_reducible rfl
  try simp only [Act.put, List.setIfInBounds_toArray, List.set_cons_zero, List.set_cons_succ]
  refine wpAnyH_done (by kernel_rfl) ?_ _
  have hl0 := HL0.out
  go_wp2_with (fail)
  go_loopw [5] (fun i wr => i = .int .i64 0 ∧ Rel w2 wr) (fun i _ => 0)
  case atStart => exact ⟨rfl, (HA.out.drew.trans h2).self⟩
  case round =>
    obtain ⟨rfl, hRw⟩ := hrel
    obtain ⟨⟨x0, x1, x2, x3⟩, _⟩ := ((HB.out.drew.rel h2).rel hRw).four
    have hl1 : ¬ (0 : Int) < (l.length : Int) := by omega
    have HRw := Lib.hid hRw
    clear hl0
    go_wp2_with (fail)
    go_ret
    exact ⟨rfl, (HA.out.drew.trans h2).trans HRw.out⟩
end Go.Proofs.Ytoajbbcjmalngaa

namespace Go.Proofs.Ytoajbbcjmalngaa
open Go.RowKit Go.Lib
set_option linter.unusedVariables false
set_option linter.unusedSimpArgs false

theorem str_empty (a : List UInt8) : ((B a).toList == []) = decide (a = []) := by
  rw [B_toList]; cases a <;> simp
theorem fine_all {d : Nat} {k : Int} {l : List Ex} : ((l.zipIdx).all fun p => (isCond p.1.k == (decide (k = 10) && decide (p.2 = 0))) && fine d p.1) = true ↔ ∀ i (h : i < l.length), okA d k l i h := by
  simp only [List.all_eq_true, Bool.and_eq_true, beq_iff_eq]
  constructor
  · intro h i hi
    exact h (l[i], i) (by rw [List.mem_iff_getElem]; exact ⟨i, by simpa using hi, by simp⟩)
  · rintro h ⟨y, i⟩ hy
    obtain ⟨j, hj, e⟩ := List.mem_iff_getElem.1 hy
    simp at hj e
    obtain ⟨rfl, rfl⟩ := e
    exact h j hj
theorem len_sizes : ∀ l : List Ex, l.length ≤ sizes l := fun l => by
  induction l with
  | nil => simp
  | cons x t ih => rw [sizes_cons, List.length_cons]; have := size_pos x; omega
set_option maxHeartbeats 2000000 in
theorem rfine_any : ∀ (d : Nat), d ≤ 40 → ∀ (x : Ex) (S : Nat → Prop) (e : El) (w0 w : World), Rel w0 w → ExAt S w e x → size x ≤ 1000000 →
    Calls Try.prog 24 #[EV e, .int .i64 (d : Int)] w fun r w' => r = .returned (.bool (fine d x)) ∧ Rel w0 w' := by
  intro d
  induction d with
  | zero =>
    intro _ x S e w0 w hr h hz
    cases x with
    | mk k n nm l =>
      obtain ⟨A, c, es, rfl, hk, hn, hm, hl, hrow, hsub⟩ := h.open
      rw [size_mk] at hz
      have := len_sizes l
      exact rfine_no0 k n l A c (by omega) w0 w hr (argsN k) (mostN k) (Lib.hid rfl) (Lib.hid rfl) (B nm) (by rw [B_size]; exact hm)
  | succ d ih =>
    intro hd x S e w0 w hr h hz
    cases x with
    | mk k n nm l =>
      obtain ⟨A, c, es, rfl, hk, hn, hm, hl, hrow, hsub⟩ := h.open
      rw [size_mk] at hz
      have hll := len_sizes l
      have hl9 : l.length ≤ 1000000 := by omega
      have zNM : (B nm).size ≤ 100 := by rw [B_size]; exact hm
      have q0 : decide ((d : Int) + 1 < 1) = false := by simp; omega
      have hcast : (((d + 1 : Nat) : Int)) = (d : Int) + 1 := by omega
      rw [hcast, fine_eq]
      by_cases d1 : argsN k = (l.length : Int)
      · have q1 : (argsN k != (l.length : Int)) = false := by simp [d1]
        have q1' : (argsN k == (l.length : Int)) = true := by simp [d1]
        by_cases d2 : n < 0
        · have hf : (decide (0 ≤ n ∧ n ≤ mostN k)) = false := by simp; omega
          rw [hf]
          simp only [Bool.and_false, Bool.false_and]
          exact rfine_no2 k n l A c d (by omega) hl9 w0 w hr _ _ (Lib.hid rfl) (Lib.hid rfl) (B nm) zNM q0 q1 q1' (by simpa using d2)
        · have q2 : decide (n < 0) = false := by simpa using d2
          by_cases d3 : mostN k < n
          · have hf : (decide (0 ≤ n ∧ n ≤ mostN k)) = false := by simp; omega
            rw [hf]
            simp only [Bool.and_false, Bool.false_and]
            exact rfine_no3 k n l A c d (by omega) hl9 w0 w hr _ _ (Lib.hid rfl) (Lib.hid rfl) (B nm) zNM q0 q1 q1' q2 (by simpa using d3)
          · have q3 : decide (mostN k < n) = false := by simpa using d3
            have hs := str_empty nm
            by_cases d4 : nm = []
            · have q4' : ((B nm).toList == []) = true := by rw [hs]; simpa using d4
              have q4 : ((B nm).toList != []) = false := by simp [bne, q4']
              by_cases d5 : k = 3
              · have hf : (decide (nm ≠ []) == decide (k = 3)) = false := by simp [d4, d5]
                rw [hf]
                simp only [Bool.and_false, Bool.false_and]
                exact rfine_no5 k n l A c d (by omega) hl9 w0 w hr _ _ (Lib.hid rfl) (Lib.hid rfl) (B nm) zNM q0 q1 q1' q2 q3 q4 q4' (by simpa using d5)
              · have q5 : (k == 3) = false := by simpa using d5
                obtain ⟨b, hb⟩ : ∃ b, ((l.zipIdx).all fun p => (isCond p.1.k == (decide (k = 10) && decide (p.2 = 0))) && fine d p.1) = b := ⟨_, rfl⟩
                have hbb := fine_all (d := d) (k := k) (l := l)
                rw [hb] at hbb
                have hf : (decide (argsN k = (l.length : Int)) && decide (0 ≤ n ∧ n ≤ mostN k) && (decide (nm ≠ []) == decide (k = 3)) && (decide (k ≠ 3) || isName nm)) = true := by
                  have e1 : 0 ≤ n ∧ n ≤ mostN k := ⟨by omega, by omega⟩
                  simp [d1, e1, d4, d5]
                rw [hf, hb, Bool.true_and]
                exact rfine_args k n l A c d (by omega) hl9 w0 w hr _ _ (Lib.hid rfl) (Lib.hid rfl) (B nm) zNM q0 q1 q1' q2 q3 q4 q4' q5 S es hl (Lib.hid hrow) (Lib.hid hsub) (by omega) (Lib.hid (ih (by omega))) b (Lib.hid hbb)
            · have q4' : ((B nm).toList == []) = false := by rw [hs]; simpa using d4
              have q4 : ((B nm).toList != []) = true := by simp [bne, q4']
              by_cases d5 : k = 3
              · have q5 : (k == 3) = true := by simpa using d5
                cases hnm : isName nm
                · have hf : (decide (k ≠ 3) || isName nm) = false := by simp [d5, hnm]
                  rw [hnm] at hf
                  rw [hf]
                  simp only [Bool.and_false, Bool.false_and]
                  exact rfine_no6 k n l A c d (by omega) hl9 w0 w hr _ _ (Lib.hid rfl) (Lib.hid rfl) (B nm) zNM q0 q1 q1' q2 q3 q4 q4' q5 (Lib.hid (by rw [B_list]; exact hnm))
                · have hl0 : l.length = 0 := by subst d5; have : argsN 3 = 0 := by decide
                                                omega
                  have hln : l = [] := List.length_eq_zero_iff.1 hl0
                  have hf : (decide (argsN k = (l.length : Int)) && decide (0 ≤ n ∧ n ≤ mostN k) && (decide (nm ≠ []) == decide (k = 3)) && (decide (k ≠ 3) || true)) = true := by
                    have e1 : 0 ≤ n ∧ n ≤ mostN k := ⟨by omega, by omega⟩
                    rw [decide_eq_true d1, decide_eq_true e1, decide_eq_true d4, decide_eq_true d5]; simp
                  rw [hf, hln]
                  simp only [Bool.true_and, List.zipIdx_nil, List.all_nil]
                  rw [hln] at hl9 q1 q1' hl0
                  exact rfine_name k n [] A c d (by omega) hl9 w0 w hr _ _ (Lib.hid rfl) (Lib.hid rfl) (B nm) zNM q0 q1 q1' q2 q3 q4 q4' q5 (Lib.hid (by rw [B_list]; exact hnm)) rfl
              · have hf : (decide (nm ≠ []) == decide (k = 3)) = false := by simp [d4, d5]
                rw [hf]
                simp only [Bool.and_false, Bool.false_and]
                exact rfine_no4 k n l A c d (by omega) hl9 w0 w hr _ _ (Lib.hid rfl) (Lib.hid rfl) (B nm) zNM q0 q1 q1' q2 q3 q4 q4' (by simpa using d5)
      · have hf : decide (argsN k = (l.length : Int)) = false := by simpa using d1
        rw [hf]
        simp only [Bool.false_and]
        exact rfine_no1 k n l A c d (by omega) hl9 w0 w hr _ _ (Lib.hid rfl) (Lib.hid rfl) (B nm) zNM q0 (by simp [bne, d1]) (by simp [d1])
end Go.Proofs.Ytoajbbcjmalngaa

namespace Go.Proofs.Ytoajbbcjmalngaa
open Go.RowKit Go.Lib
set_option linter.unusedVariables false
set_option linter.unusedSimpArgs false

theorem rfine32 (x : Ex) (S : Nat → Prop) (e : El) (w0 w : World) (hr : Rel w0 w) (h : ExAt S w e x) (hz : size x ≤ 1000000) :
    Calls Try.prog 24 #[EV e, .int .i64 32] w fun r w' => r = .returned (.bool (fine 32 x)) ∧ Rel w0 w' := rfine_any 32 (by omega) x S e w0 w hr h hz
set_option maxRecDepth 100000 in
set_option maxHeartbeats 4000000 in
theorem rright_any (x : Ex) (S : Nat → Prop) (e : El) (w0 w : World) (hr : Rel w0 w) (h : ExAt S w e x) (hz : size x ≤ 1000000) :
    Calls Try.prog 13 #[EV e] w fun r w' => r = .returned (.bool (rightX x)) ∧ Rel w0 w' := by
  have HE := Lib.hid h
  have HR := Lib.hid hr
  obtain ⟨k, n, nm, A, m, c⟩ := e
  have hke : x.k = k := h.kind
  have HB := Lib.hid (Bk.new w 30 #[.int .i64 k, .int .i64 n, .string (B nm), .slice A m c])
  have HA := Lib.hid (hr.self.alloc (.cells #[.int .i64 k, .int .i64 n, .string (B nm), .slice A m c] 30))
  have HFi := Lib.hid (fun (w' : World) (h' : Rel w w') => rfine32 x S (k, n, nm, A, m, c) w' w' (hr.trans h').self (h.rel h') hz)
  have HSi := Lib.hid (fun (w' : World) (h' : Rel w w') => rsize_any x S (k, n, nm, A, m, c) w' w' (hr.trans h').self (h.rel h') hz)
  have hRX : rightX x = (fine 32 x && !isCond k && decide (size x ≤ 2000) && decide ((text x).length ≤ 2000)) := by unfold rightX; rw [hke]
  obtain ⟨b, hb⟩ : ∃ b, fine 32 x = b := ⟨_, rfl⟩
  have HTx := Lib.hid (fun (hf : fine 32 x = true) (hs : size x ≤ 2000) (w' : World) (h' : Rel w w') => rtext7_any x 32 S (k, n, nm, A, m, c) w' w' hf (hr.trans h').self (h.rel h') hs)
  have HFT := Lib.hid hb
  have HTL := Lib.hid (fun (hf : fine 32 x = true) => text_len x 32 hf)
  rw [hb] at HFi hRX
  clear h hb
  cases b with
  | false =>
    have HX := Lib.hid (show rightX x = false by rw [hRX]; simp)
    clear hRX
    go_enter Try.func13, Try.ntmps13
    go_wp2_with (go_at_call 24; (with_reducible refine (HFi.out _ HA.out).mono ?_); rintro e w1 ⟨rfl, h1⟩; obtain ⟨⟨c0, c1, c2, c3⟩, _⟩ := (HB.out.rel h1).four)
    go_ret
    exact ⟨ret_bool HX.out.symm, (HR.out.trans HA.out).trans h1⟩
  | true =>
    obtain ⟨q, hq⟩ : ∃ q, isCond k = q := ⟨_, rfl⟩
    have HQ := Lib.hid hq
    rw [hq] at hRX
    clear hq
    cases q with
    | true =>
      have HX := Lib.hid (show rightX x = false by rw [hRX]; simp)
      clear hRX
      go_enter Try.func13, Try.ntmps13
      go_wp2_with (first
        | (go_at_call 24; (with_reducible refine (HFi.out _ HA.out).mono ?_); rintro e w1 ⟨rfl, h1⟩; obtain ⟨⟨c0, c1, c2, c3⟩, _⟩ := (HB.out.rel h1).four)
        | (go_at_call 25; (with_reducible refine (cond_as k _ HQ _).mono ?_); rintro e w' ⟨rfl, rfl⟩))
      go_ret
      exact ⟨ret_bool HX.out.symm, (HR.out.trans HA.out).trans h1⟩
    | false =>
      obtain ⟨sz, hsz⟩ : ∃ s, size x = s := ⟨_, rfl⟩
      have HSZ := Lib.hid hsz
      rw [hsz] at hRX HSi hz
      clear hsz
      by_cases h2 : sz ≤ 2000
      · obtain ⟨T, hT⟩ : ∃ T, B (text x) = T := ⟨_, rfl⟩
        have hTs : T.size = (text x).length := by rw [← hT, B_size]
        have hTl : T.size ≤ 120000 := by rw [hTs]; have := HTL.out HFT.out; have := HSZ.out; omega
        have HTT := Lib.hid (HTx.out HFT.out (by rw [HSZ.out]; exact h2))
        rw [hT] at HTT
        have HX := Lib.hid (show rightX x = decide (T.size ≤ 2000) by rw [hRX, hTs]; simp [h2])
        have i2 : (sz : Int) ≤ 2000 := by omega
        clear hRX hT hTs
        by_cases h3 : T.size ≤ 2000
        · have i3 : (T.size : Int) ≤ 2000 := by omega
          go_enter Try.func13, Try.ntmps13
          go_wp2_with (first
            | (go_at_call 24; (with_reducible refine (HFi.out _ HA.out).mono ?_); rintro e w1 ⟨rfl, h1⟩; obtain ⟨⟨c0, c1, c2, c3⟩, _⟩ := (HB.out.rel h1).four)
            | (go_at_call 25; (with_reducible refine (cond_as k _ HQ _).mono ?_); rintro e w' ⟨rfl, rfl⟩)
            | (go_at_call 26; (with_reducible refine (HSi.out _ (HA.out.trans h1)).mono ?_); rintro e w2 ⟨rfl, h2'⟩; obtain ⟨⟨d0, d1, d2, d3⟩, _⟩ := ((HB.out.rel h1).rel h2').four)
            | (go_at_call 14; (with_reducible refine (HTT.out _ ((HA.out.trans h1).trans h2')).mono ?_); rintro e w3 ⟨rfl, h3'⟩))
          go_ret
          exact ⟨ret_bool (by rw [HX.out]; simp [h3]), (((HR.out.trans HA.out).trans h1).trans h2').trans h3'⟩
        · have i3 : ¬ (T.size : Int) ≤ 2000 := by omega
          go_enter Try.func13, Try.ntmps13
          go_wp2_with (first
            | (go_at_call 24; (with_reducible refine (HFi.out _ HA.out).mono ?_); rintro e w1 ⟨rfl, h1⟩; obtain ⟨⟨c0, c1, c2, c3⟩, _⟩ := (HB.out.rel h1).four)
            | (go_at_call 25; (with_reducible refine (cond_as k _ HQ _).mono ?_); rintro e w' ⟨rfl, rfl⟩)
            | (go_at_call 26; (with_reducible refine (HSi.out _ (HA.out.trans h1)).mono ?_); rintro e w2 ⟨rfl, h2'⟩; obtain ⟨⟨d0, d1, d2, d3⟩, _⟩ := ((HB.out.rel h1).rel h2').four)
            | (go_at_call 14; (with_reducible refine (HTT.out _ ((HA.out.trans h1).trans h2')).mono ?_); rintro e w3 ⟨rfl, h3'⟩))
          go_ret
          exact ⟨ret_bool (by rw [HX.out]; simp [h3]; omega), (((HR.out.trans HA.out).trans h1).trans h2').trans h3'⟩
      · have HX := Lib.hid (show rightX x = false by rw [hRX]; simp [h2])
        have i2 : ¬ (sz : Int) ≤ 2000 := by omega
        clear hRX
        go_enter Try.func13, Try.ntmps13
        go_wp2_with (first
          | (go_at_call 24; (with_reducible refine (HFi.out _ HA.out).mono ?_); rintro e w1 ⟨rfl, h1⟩; obtain ⟨⟨c0, c1, c2, c3⟩, _⟩ := (HB.out.rel h1).four)
          | (go_at_call 25; (with_reducible refine (cond_as k _ HQ _).mono ?_); rintro e w' ⟨rfl, rfl⟩)
          | (go_at_call 26; (with_reducible refine (HSi.out _ (HA.out.trans h1)).mono ?_); rintro e w2 ⟨rfl, h2'⟩))
        go_ret
        exact ⟨ret_bool (by rw [HX.out]), ((HR.out.trans HA.out).trans h1).trans h2'⟩
/-- What Print tells: its text, or none. -/
def prT (x : Ex) : List UInt8 := if rightX x then text x else []
def prE (x : Ex) : Int := if rightX x then 0 else 1
set_option maxRecDepth 100000 in
set_option maxHeartbeats 4000000 in
theorem rprint_any (x : Ex) (S : Nat → Prop) (e : El) (w0 w : World) (hr : Rel w0 w) (h : ExAt S w e x) (hz : size x ≤ 1000000) :
    Calls Try.prog 6 #[EV e] w fun r w' => r = .returned (.tuple #[.string (B (prT x)), .int .i64 (prE x)]) ∧ Rel w0 w' := by
  have HR := Lib.hid hr
  obtain ⟨k, n, nm, A, m, c⟩ := e
  have HB := Lib.hid (Bk.new w 30 #[.int .i64 k, .int .i64 n, .string (B nm), .slice A m c])
  have HA := Lib.hid (hr.self.alloc (.cells #[.int .i64 k, .int .i64 n, .string (B nm), .slice A m c] 30))
  have HRi := Lib.hid (fun (w' : World) (h' : Rel w w') => rright_any x S (k, n, nm, A, m, c) w' w' (hr.trans h').self (h.rel h') hz)
  have HTx := Lib.hid (fun (hf : fine 32 x = true) (hs : size x ≤ 2000) (w' : World) (h' : Rel w w') => rtext7_any x 32 S (k, n, nm, A, m, c) w' w' hf (hr.trans h').self (h.rel h') hs)
  cases hx : rightX x
  · have HX := Lib.hid (show prT x = [] ∧ prE x = 1 by unfold prT prE; rw [hx]; exact ⟨rfl, rfl⟩)
    rw [hx] at HRi
    clear h hx
    go_enter Try.func6, Try.ntmps6
    go_wp2_with (go_at_call 13; (with_reducible refine (HRi.out _ HA.out).mono ?_); rintro e w1 ⟨rfl, h1⟩; obtain ⟨⟨c0, c1, c2, c3⟩, _⟩ := (HB.out.rel h1).four)
    go_ret2
    exact ⟨by rw [HX.out.1, HX.out.2]; rfl, (HR.out.trans HA.out).trans h1⟩
  · have HX := Lib.hid (show prT x = text x ∧ prE x = 0 by unfold prT prE; rw [hx]; exact ⟨rfl, rfl⟩)
    have hparts : fine 32 x = true ∧ size x ≤ 2000 := by
      simp only [rightX, Bool.and_eq_true, decide_eq_true_eq] at hx
      exact ⟨hx.1.1.1, hx.1.2⟩
    rw [hx] at HRi
    have HTT := Lib.hid (HTx.out hparts.1 hparts.2)
    clear h hx hparts
    go_enter Try.func6, Try.ntmps6
    go_wp2_with (first
      | (go_at_call 13; (with_reducible refine (HRi.out _ HA.out).mono ?_); rintro e w1 ⟨rfl, h1⟩; obtain ⟨⟨c0, c1, c2, c3⟩, _⟩ := (HB.out.rel h1).four)
      | (go_at_call 14; (with_reducible refine (HTT.out _ (HA.out.trans h1)).mono ?_); rintro e w2 ⟨rfl, h2⟩))
    go_ret2
    exact ⟨by rw [HX.out.1, HX.out.2]; rfl, ((HR.out.trans HA.out).trans h1).trans h2⟩
end Go.Proofs.Ytoajbbcjmalngaa

namespace Go.Proofs.Ytoajbbcjmalngaa
open Go.RowKit Go.Lib
set_option linter.unusedVariables false
set_option linter.unusedSimpArgs false

theorem pparse_yes (H : ParseOk) (s : ByteArray) (x : Ex) (hx : Hid (parseS s.data.toList = .ok x)) (hs : s.size ≤ 9223372036854775807) (w0 w : World) (hr : Rel w0 w) :
    Calls Try.prog 10 #[.string s] w fun e w' => ∃ v : El, e = .returned (.tuple #[EV v, .int .i64 0, .int .i64 0]) ∧ ExAt (fun k => w.heap.size ≤ k) w' v x ∧ Rel w0 w' := by
  have := H s hs w0 w hr
  rw [hx.out] at this
  exact this
theorem pparse_no (H : ParseOk) (s : ByteArray) (cd pl : Int) (hx : Hid (parseS s.data.toList = .error (cd, pl))) (hs : s.size ≤ 9223372036854775807) (w0 w : World) (hr : Rel w0 w) :
    Calls Try.prog 10 #[.string s] w fun e w' => e = .returned (.tuple #[.agg #[.int .i64 0, .int .i64 0, .string ⟨#[]⟩, .slice none 0 0], .int .i64 cd, .int .i64 pl]) ∧ Rel w0 w' := by
  have := H s hs w0 w hr
  rw [hx.out] at this
  exact this
theorem rprint_as (x : Ex) (T : ByteArray) (n : Int) (hT : Hid (B (prT x) = T ∧ prE x = n)) (S : Nat → Prop) (e : El) (w0 w : World) (hr : Rel w0 w) (h : ExAt S w e x) (hz : size x ≤ 1000000) :
    Calls Try.prog 6 #[EV e] w fun r w' => r = .returned (.tuple #[.string T, .int .i64 n]) ∧ Rel w0 w' := by rw [← hT.out.1, ← hT.out.2]; exact rprint_any x S e w0 w hr h hz
theorem awX_size : size awX ≤ 1000000 := by
  unfold awX
  simp only [size_mk, sizes_cons, sizes_nil]
  omega
theorem awX_print : prT awX = awC ∧ prE awX = 0 := by
  unfold prT prE; rw [awX_right, awX_text]; exact ⟨rfl, rfl⟩
set_option maxRecDepth 100000 in
set_option maxHeartbeats 1000000 in
theorem awake8_any (H : ParseOk) (w0 w : World) (hr : Rel w0 w) :
    Calls Try.prog 5 #[] w fun e w' => e = .returned (.bool true) ∧ Rel w0 w' := by
  have H := Lib.hid H
  have HR := Lib.hid hr
  have PA : Hid (parseS (⟨#[108, 101, 115, 115, 40, 108, 111, 119, 101, 115, 116, 32, 48, 46, 48, 49, 41]⟩ : ByteArray).data.toList = .error (80, 12)) := Lib.hid (by rw [show (⟨#[108, 101, 115, 115, 40, 108, 111, 119, 101, 115, 116, 32, 48, 46, 48, 49, 41]⟩ : ByteArray).data.toList = awA from rfl]; exact awA_parse)
  have PB : Hid (parseS (⟨#[32, 105, 102, 40, 32, 109, 111, 114, 101, 40, 51, 41, 44, 109, 105, 110, 40, 102, 114, 111, 109, 40, 97, 41, 32, 44, 115, 101, 99, 111, 110, 100, 41, 44, 49, 46, 48, 48, 41]⟩ : ByteArray).data.toList = .ok awX) := Lib.hid (by rw [show (⟨#[32, 105, 102, 40, 32, 109, 111, 114, 101, 40, 51, 41, 44, 109, 105, 110, 40, 102, 114, 111, 109, 40, 97, 41, 32, 44, 115, 101, 99, 111, 110, 100, 41, 44, 49, 46, 48, 48, 41]⟩ : ByteArray).data.toList = awB from rfl]; exact awB_parse)
  have zA : (⟨#[108, 101, 115, 115, 40, 108, 111, 119, 101, 115, 116, 32, 48, 46, 48, 49, 41]⟩ : ByteArray).size ≤ 9223372036854775807 := by decide
  have zB : (⟨#[32, 105, 102, 40, 32, 109, 111, 114, 101, 40, 51, 41, 44, 109, 105, 110, 40, 102, 114, 111, 109, 40, 97, 41, 32, 44, 115, 101, 99, 111, 110, 100, 41, 44, 49, 46, 48, 48, 41]⟩ : ByteArray).size ≤ 9223372036854775807 := by decide
  have P1 : Hid (B (prT awX) = ⟨#[105, 102, 40, 109, 111, 114, 101, 40, 51, 41, 44, 32, 109, 105, 110, 40, 102, 114, 111, 109, 40, 97, 41, 44, 32, 115, 101, 99, 111, 110, 100, 41, 44, 32, 49, 46, 48, 48, 41]⟩ ∧ prE awX = 0) := Lib.hid ⟨by rw [awX_print.1]; rfl, awX_print.2⟩
  go_enter Try.func5, Try.ntmps5
  go_wp2_with (first
    | (go_at_call 10; (with_reducible refine (pparse_no H.out ⟨#[108, 101, 115, 115, 40, 108, 111, 119, 101, 115, 116, 32, 48, 46, 48, 49, 41]⟩ 80 12 PA zA _ _ HR.out.self).mono ?_); rintro e w1 ⟨rfl, h1⟩; have A1 := h1.self.alloc (.cells #[.int .i64 0, .int .i64 0, .string ⟨#[]⟩, .slice none 0 0] 30); have R1 := h1.trans A1)
    | (go_at_call 10; (with_reducible refine (pparse_yes H.out ⟨#[32, 105, 102, 40, 32, 109, 111, 114, 101, 40, 51, 41, 44, 109, 105, 110, 40, 102, 114, 111, 109, 40, 97, 41, 32, 44, 115, 101, 99, 111, 110, 100, 41, 44, 49, 46, 48, 48, 41]⟩ awX PB zB _ _ A1.self).mono ?_); rintro e w2 ⟨v, rfl, ex, h2⟩; have A2 := h2.self.alloc (.cells #[.int .i64 v.1, .int .i64 v.2.1, .string (B v.2.2.1), .slice v.2.2.2.1 v.2.2.2.2.1 v.2.2.2.2.2] 30); have R2 := (R1.trans h2).trans A2; have EX := ex.rel A2; obtain ⟨⟨c0, c1, c2, c3⟩, _⟩ := (Bk.new w2 30 #[.int .i64 v.1, .int .i64 v.2.1, .string (B v.2.2.1), .slice v.2.2.2.1 v.2.2.2.2.1 v.2.2.2.2.2]).four)
    | (go_at_call 6; (with_reducible refine (rprint_as awX _ _ P1 _ v _ _ A2.self EX awX_size).mono ?_); rintro e w3 ⟨rfl, h3⟩))
  go_ret
  exact ⟨rfl, (HR.out.trans R2).trans h3⟩
end Go.Proofs.Ytoajbbcjmalngaa
