/- The landed value code: what an expression tells, kind by kind. -/
import Derived.Test.YtcckemhelockaaaGreatDoorZL
import Derived.Test.YtcckemhelockaaaGreatDoorZ00
import Derived.Test.YtcckemhelockaaaGreatDoorZ01
import Derived.Test.YtcckemhelockaaaGreatDoorZ02
import Derived.Test.YtcckemhelockaaaGreatDoorZ03
import Derived.Test.YtcckemhelockaaaGreatDoorZ04
import Derived.Test.YtcckemhelockaaaGreatDoorZ07
import Derived.Test.YtcckemhelockaaaGreatDoorZ08
import Derived.Test.YtcckemhelockaaaGreatDoorZ09
namespace Go.Proofs.YtcckemhelockaaaGreatDoor
open Go.RowKit Go.Lib
set_option linter.unusedVariables false
set_option linter.unusedSimpArgs false
set_option maxRecDepth 100000 in
set_option maxHeartbeats 4000000 in
theorem pex1 (n : Int) (nm : List UInt8) (A1 : Option Addr) (c1 : Nat) (ov : Value) (w0 w : World) (hr : Rel w0 w) (V : Int) (b : Bool) (hb : ∀ w', Rel w w' → Calls Tryz.prog 53 #[ov, .int .i64 0] w' fun z w2 => z = .returned (.agg #[.int .i64 V, .bool b]) ∧ Rel w' w2) :
    Calls Tryz.prog 34 #[ov, .agg #[.int .i64 1, .int .i64 n, .string (B nm), .slice A1 0 c1]] w fun z w' => z = .returned (.agg #[.int .i64 V, .bool b]) ∧ Rel w0 w' := by
  have HR := Lib.hid hr
  have Hhb := Lib.hid hb
  have HS := Lib.hid (SB.new hr.self 38 #[.int .i64 1, .int .i64 n, .string (B nm), .slice A1 0 c1])
  obtain ⟨W, hW⟩ : ∃ W, (w.alloc (.cells #[.int .i64 1, .int .i64 n, .string (B nm), .slice A1 0 c1] 38)).alloc (.cells #[.int .i64 0, .bool false] 81) = W := ⟨_, rfl⟩
  rw [hW] at HS
  have hS9 := HS.out
  obtain ⟨⟨b0, b1, b2, b3⟩, _⟩ := hS9.2.1.four
  clear hr hS9 hb 
  go_enter Tryz.func34, Tryz.ntmps34
  go_wp2_with (go_at_call 53; (with_reducible refine (Hhb.out _ HS.out.r).mono ?_); rintro e w1 ⟨rfl, h1⟩; have HS1 := Lib.hid (HS.out.rel h1); have hS9 := HS1.out; obtain ⟨a9, b9, hb9⟩ := hS9.2.2; obtain ⟨⟨d0, d1⟩, e0, e1⟩ := hb9.two; clear hS9 hb9)
  exact bodyPost_ret (v := .agg #[.int .i64 V, .bool b]) (by simp [results, Tryz.results34, go_sem, d0, d1]) rfl ⟨rfl, HR.out.trans (HS1.out.put _ _).1⟩
set_option maxRecDepth 100000 in
set_option maxHeartbeats 4000000 in
theorem pex2 (n : Int) (nm : List UInt8) (A1 : Option Addr) (c1 : Nat) (ov : Value) (w0 w : World) (hr : Rel w0 w) (V : Int) (b : Bool) (hb : ∀ w', Rel w w' → Calls Tryz.prog 53 #[ov, .int .i64 1] w' fun z w2 => z = .returned (.agg #[.int .i64 V, .bool b]) ∧ Rel w' w2) :
    Calls Tryz.prog 34 #[ov, .agg #[.int .i64 2, .int .i64 n, .string (B nm), .slice A1 0 c1]] w fun z w' => z = .returned (.agg #[.int .i64 V, .bool b]) ∧ Rel w0 w' := by
  have HR := Lib.hid hr
  have Hhb := Lib.hid hb
  have HS := Lib.hid (SB.new hr.self 38 #[.int .i64 2, .int .i64 n, .string (B nm), .slice A1 0 c1])
  obtain ⟨W, hW⟩ : ∃ W, (w.alloc (.cells #[.int .i64 2, .int .i64 n, .string (B nm), .slice A1 0 c1] 38)).alloc (.cells #[.int .i64 0, .bool false] 81) = W := ⟨_, rfl⟩
  rw [hW] at HS
  have hS9 := HS.out
  obtain ⟨⟨b0, b1, b2, b3⟩, _⟩ := hS9.2.1.four
  clear hr hS9 hb 
  go_enter Tryz.func34, Tryz.ntmps34
  go_wp2_with (go_at_call 53; (with_reducible refine (Hhb.out _ HS.out.r).mono ?_); rintro e w1 ⟨rfl, h1⟩; have HS1 := Lib.hid (HS.out.rel h1); have hS9 := HS1.out; obtain ⟨a9, b9, hb9⟩ := hS9.2.2; obtain ⟨⟨d0, d1⟩, e0, e1⟩ := hb9.two; clear hS9 hb9)
  exact bodyPost_ret (v := .agg #[.int .i64 V, .bool b]) (by simp [results, Tryz.results34, go_sem, d0, d1]) rfl ⟨rfl, HR.out.trans (HS1.out.put _ _).1⟩
set_option maxRecDepth 100000 in
set_option maxHeartbeats 4000000 in
theorem pex3 (n : Int) (nm : List UInt8) (A1 : Option Addr) (c1 : Nat) (ov : Value) (w0 w : World) (hr : Rel w0 w) (V : Int) (b : Bool) (hb : ∀ w', Rel w w' → Calls Tryz.prog 50 #[ov, .string (B nm)] w' fun z w2 => z = .returned (.agg #[.int .i64 V, .bool b]) ∧ Rel w' w2) :
    Calls Tryz.prog 34 #[ov, .agg #[.int .i64 3, .int .i64 n, .string (B nm), .slice A1 0 c1]] w fun z w' => z = .returned (.agg #[.int .i64 V, .bool b]) ∧ Rel w0 w' := by
  have HR := Lib.hid hr
  have Hhb := Lib.hid hb
  have HS := Lib.hid (SB.new hr.self 38 #[.int .i64 3, .int .i64 n, .string (B nm), .slice A1 0 c1])
  obtain ⟨W, hW⟩ : ∃ W, (w.alloc (.cells #[.int .i64 3, .int .i64 n, .string (B nm), .slice A1 0 c1] 38)).alloc (.cells #[.int .i64 0, .bool false] 81) = W := ⟨_, rfl⟩
  rw [hW] at HS
  have hS9 := HS.out
  obtain ⟨⟨b0, b1, b2, b3⟩, _⟩ := hS9.2.1.four
  clear hr hS9 hb 
  go_enter Tryz.func34, Tryz.ntmps34
  go_wp2_with (go_at_call 50; (with_reducible refine (Hhb.out _ HS.out.r).mono ?_); rintro e w1 ⟨rfl, h1⟩; have HS1 := Lib.hid (HS.out.rel h1); have hS9 := HS1.out; obtain ⟨a9, b9, hb9⟩ := hS9.2.2; obtain ⟨⟨d0, d1⟩, e0, e1⟩ := hb9.two; clear hS9 hb9)
  exact bodyPost_ret (v := .agg #[.int .i64 V, .bool b]) (by simp [results, Tryz.results34, go_sem, d0, d1]) rfl ⟨rfl, HR.out.trans (HS1.out.put _ _).1⟩
set_option maxRecDepth 100000 in
set_option maxHeartbeats 4000000 in
theorem pex4 (n : Int) (nm : List UInt8) (A1 : Option Addr) (c1 : Nat) (ov : Value) (w0 w : World) (hr : Rel w0 w) :
    Calls Tryz.prog 34 #[ov, .agg #[.int .i64 4, .int .i64 n, .string (B nm), .slice A1 0 c1]] w fun z w' => z = .returned (.agg #[.int .i64 n, .bool true]) ∧ Rel w0 w' := by
  have HR := Lib.hid hr
  have HS := Lib.hid (SB.new hr.self 38 #[.int .i64 4, .int .i64 n, .string (B nm), .slice A1 0 c1])
  obtain ⟨W, hW⟩ : ∃ W, (w.alloc (.cells #[.int .i64 4, .int .i64 n, .string (B nm), .slice A1 0 c1] 38)).alloc (.cells #[.int .i64 0, .bool false] 81) = W := ⟨_, rfl⟩
  rw [hW] at HS
  have hS9 := HS.out
  obtain ⟨⟨b0, b1, b2, b3⟩, _⟩ := hS9.2.1.four
  clear hr hS9
  go_enter Tryz.func34, Tryz.ntmps34
  go_wp2_with (go_at_call 59; (with_reducible refine (vamount_any n _ _ HS.out.self).mono ?_); rintro e w1 ⟨rfl, h1⟩; have HS1 := Lib.hid (HS.out.rel h1); have hS9 := HS1.out; obtain ⟨a9, b9, hb9⟩ := hS9.2.2; obtain ⟨⟨d0, d1⟩, e0, e1⟩ := hb9.two; clear hS9 hb9)
  exact bodyPost_ret (v := TV (some n)) (by simp [results, Tryz.results34, go_sem, d0, d1]) rfl ⟨rfl, HR.out.trans (HS1.out.put _ _).1⟩
set_option maxRecDepth 100000 in
set_option maxHeartbeats 4000000 in
theorem pex5_no (n : Int) (nm : List UInt8) (A1 : Option Addr) (c1 : Nat) (ov : Value) (w0 w : World) (el0 : El) (hk0 : KidP w A1 0 el0) (hr : Rel w0 w) (hb : ∀ w', Rel w w' → Calls Tryz.prog 34 #[ov, EV el0] w' fun z w2 => z = FLV ∧ Rel w' w2) :
    Calls Tryz.prog 34 #[ov, .agg #[.int .i64 5, .int .i64 n, .string (B nm), .slice A1 1 c1]] w fun z w' => z = FLV ∧ Rel w0 w' := by
  have HR := Lib.hid hr
  have Hhb := Lib.hid hb
  obtain ⟨g, off, rfl⟩ := hk0.is
  have HK0 := Lib.hid (show KidP w (some ⟨g, off, none⟩) 0 el0 from hk0)
  have HS := Lib.hid (SB.new hr.self 38 #[.int .i64 5, .int .i64 n, .string (B nm), .slice (some ⟨g, off, none⟩) 1 c1])
  obtain ⟨W, hW⟩ : ∃ W, (w.alloc (.cells #[.int .i64 5, .int .i64 n, .string (B nm), .slice (some ⟨g, off, none⟩) 1 c1] 38)).alloc (.cells #[.int .i64 0, .bool false] 81) = W := ⟨_, rfl⟩
  rw [hW] at HS
  have hS9 := HS.out
  obtain ⟨⟨b0, b1, b2, b3⟩, _⟩ := hS9.2.1.four
  obtain ⟨x00, x01, x02, x03⟩ := (HK0.out.rel hS9.1).at0
  clear hr hS9 hb hk0
  go_enter Tryz.func34, Tryz.ntmps34
  go_upto_region 9 with (fail)
  refine wp_region_held_drew (S := (fun w' => SB w w' 38 #[.int .i64 5, .int .i64 n, .string (B nm), .slice (some ⟨g, off, none⟩) 1 c1])) (by kernel_rfl) (HS.out.rel HS.out.1.right2.drew) (fun hHeld => ?_)
  refine held_take (i := 0) (v := ?_) (some 23) rfl rfl (by kernel_rfl) (by kernel_rfl) (by kernel_rfl) (fun _ _ _ h => h) (Or.inl ⟨by rfl, ?_⟩) hHeld ?_
  rotate_left 1
  · intro w' (h : SB w w' 38 #[.int .i64 5, .int .i64 n, .string (B nm), .slice (some ⟨g, off, none⟩) 1 c1]); obtain ⟨⟨u0, u1, u2, u3⟩, _⟩ := h.2.1.four; obtain ⟨v0, v1, v2, v3⟩ := (HK0.out.rel h.r).at0; go_simp; try with_reducible rfl
  try simp only [Act.put, List.setIfInBounds_toArray, List.set_cons_zero, List.set_cons_succ]
  refine held_take (i := 1) (v := ?_) (some 24) rfl rfl (by kernel_rfl) (by kernel_rfl) (by kernel_rfl) (fun _ _ _ h => h) (Or.inl ⟨by rfl, ?_⟩) hHeld ?_
  rotate_left 1
  · intro w' (h : SB w w' 38 #[.int .i64 5, .int .i64 n, .string (B nm), .slice (some ⟨g, off, none⟩) 1 c1]); obtain ⟨⟨u0, u1, u2, u3⟩, _⟩ := h.2.1.four; obtain ⟨v0, v1, v2, v3⟩ := (HK0.out.rel h.r).at0; go_simp; try with_reducible rfl
  try simp only [Act.put, List.setIfInBounds_toArray, List.set_cons_zero, List.set_cons_succ]
  refine held_take (i := 2) (v := ?_) (some 25) rfl rfl (by kernel_rfl) (by kernel_rfl) (by kernel_rfl) (fun _ _ _ h => h) (Or.inl ⟨by rfl, ?_⟩) hHeld ?_
  rotate_left 1
  · intro w' (h : SB w w' 38 #[.int .i64 5, .int .i64 n, .string (B nm), .slice (some ⟨g, off, none⟩) 1 c1]); obtain ⟨⟨u0, u1, u2, u3⟩, _⟩ := h.2.1.four; obtain ⟨v0, v1, v2, v3⟩ := (HK0.out.rel h.r).at0; go_simp; try with_reducible rfl
  try simp only [Act.put, List.setIfInBounds_toArray, List.set_cons_zero, List.set_cons_succ]
  refine held_take (i := 3) (v := ?_) (some 26) rfl rfl (by kernel_rfl) (by kernel_rfl) (by kernel_rfl) (fun _ _ _ h => h) (Or.inl ⟨by rfl, ?_⟩) hHeld ?_
  rotate_left 1
  · intro w' (h : SB w w' 38 #[.int .i64 5, .int .i64 n, .string (B nm), .slice (some ⟨g, off, none⟩) 1 c1]); obtain ⟨⟨u0, u1, u2, u3⟩, _⟩ := h.2.1.four; obtain ⟨v0, v1, v2, v3⟩ := (HK0.out.rel h.r).at0; go_simp; try with_reducible rfl
  try simp only [Act.put, List.setIfInBounds_toArray, List.set_cons_zero, List.set_cons_succ]
  refine held_take (i := 4) (v := ?_) (some 27) rfl rfl (by kernel_rfl) (by kernel_rfl) (by kernel_rfl) (fun _ _ _ h => h) (Or.inl ⟨by rfl, ?_⟩) hHeld ?_
  rotate_left 1
  · intro w' (h : SB w w' 38 #[.int .i64 5, .int .i64 n, .string (B nm), .slice (some ⟨g, off, none⟩) 1 c1]); obtain ⟨⟨u0, u1, u2, u3⟩, _⟩ := h.2.1.four; obtain ⟨v0, v1, v2, v3⟩ := (HK0.out.rel h.r).at0; go_simp; try with_reducible rfl
  try simp only [Act.put, List.setIfInBounds_toArray, List.set_cons_zero, List.set_cons_succ]
  refine held_take (i := 6) (v := ?_) (some 29) rfl rfl (by kernel_rfl) (by kernel_rfl) (by kernel_rfl) (fun _ _ _ h => h) (Or.inl ⟨by rfl, ?_⟩) hHeld ?_
  rotate_left 1
  · intro w' (h : SB w w' 38 #[.int .i64 5, .int .i64 n, .string (B nm), .slice (some ⟨g, off, none⟩) 1 c1]); obtain ⟨⟨u0, u1, u2, u3⟩, _⟩ := h.2.1.four; obtain ⟨v0, v1, v2, v3⟩ := (HK0.out.rel h.r).at0; go_simp; try with_reducible rfl
  try simp only [Act.put, List.setIfInBounds_toArray, List.set_cons_zero, List.set_cons_succ]
  refine held_take (i := 7) (v := ?_) (some 30) rfl rfl (by kernel_rfl) (by kernel_rfl) (by kernel_rfl) (fun _ _ _ h => h) (Or.inl ⟨by rfl, ?_⟩) hHeld ?_
  rotate_left 1
  · intro w' (h : SB w w' 38 #[.int .i64 5, .int .i64 n, .string (B nm), .slice (some ⟨g, off, none⟩) 1 c1]); obtain ⟨⟨u0, u1, u2, u3⟩, _⟩ := h.2.1.four; obtain ⟨v0, v1, v2, v3⟩ := (HK0.out.rel h.r).at0; go_simp; try with_reducible rfl
  try simp only [Act.put, List.setIfInBounds_toArray, List.set_cons_zero, List.set_cons_succ]
  refine held_one (j := 5) (by kernel_rfl) rfl (fun K hK => ?_)
  try simp only [List.getElem_toArray, List.getElem_cons_succ, List.getElem_cons_zero]
  rw [if_pos (by rfl)]
  go_simp
  go_at_call 34
  (with_reducible refine (Hhb.out _ hHeld.r).mono ?_)
  rintro e w1 ⟨rfl, h1⟩
  exact ⟨rfl, rfl, HR.out.trans (hHeld.r.trans h1)⟩
set_option maxRecDepth 100000 in
set_option maxHeartbeats 4000000 in
theorem pex5_end (n : Int) (nm : List UInt8) (A1 : Option Addr) (c1 : Nat) (ov : Value) (w0 w : World) (el0 : El) (hk0 : KidP w A1 0 el0) (hr : Rel w0 w) (v : Int) (bv : Bool) (hb : ∀ w', Rel w w' → Calls Tryz.prog 34 #[ov, EV el0] w' fun z w2 => z = .returned (.agg #[.int .i64 v, .bool bv]) ∧ Rel w' w2) (hb2 : ∀ w', Rel w w' → Calls Tryz.prog 54 #[.agg #[.int .i64 v, .bool bv], .int .i64 n] w' fun z w2 => z = FLV ∧ Rel w' w2) :
    Calls Tryz.prog 34 #[ov, .agg #[.int .i64 5, .int .i64 n, .string (B nm), .slice A1 1 c1]] w fun z w' => z = FLV ∧ Rel w0 w' := by
  have HR := Lib.hid hr
  have Hhb := Lib.hid hb
  have Hhb2 := Lib.hid hb2
  obtain ⟨g, off, rfl⟩ := hk0.is
  have HK0 := Lib.hid (show KidP w (some ⟨g, off, none⟩) 0 el0 from hk0)
  have HS := Lib.hid (SB.new hr.self 38 #[.int .i64 5, .int .i64 n, .string (B nm), .slice (some ⟨g, off, none⟩) 1 c1])
  obtain ⟨W, hW⟩ : ∃ W, (w.alloc (.cells #[.int .i64 5, .int .i64 n, .string (B nm), .slice (some ⟨g, off, none⟩) 1 c1] 38)).alloc (.cells #[.int .i64 0, .bool false] 81) = W := ⟨_, rfl⟩
  rw [hW] at HS
  have hS9 := HS.out
  obtain ⟨⟨b0, b1, b2, b3⟩, _⟩ := hS9.2.1.four
  obtain ⟨x00, x01, x02, x03⟩ := (HK0.out.rel hS9.1).at0
  clear hr hS9 hb hb2 hk0
  go_enter Tryz.func34, Tryz.ntmps34
  go_upto_region 9 with (fail)
  refine wp_region_held_drew (S := (fun w' => SB w w' 38 #[.int .i64 5, .int .i64 n, .string (B nm), .slice (some ⟨g, off, none⟩) 1 c1])) (by kernel_rfl) (HS.out.rel HS.out.1.right2.drew) (fun hHeld => ?_)
  refine held_take (i := 0) (v := ?_) (some 23) rfl rfl (by kernel_rfl) (by kernel_rfl) (by kernel_rfl) (fun _ _ _ h => h) (Or.inl ⟨by rfl, ?_⟩) hHeld ?_
  rotate_left 1
  · intro w' (h : SB w w' 38 #[.int .i64 5, .int .i64 n, .string (B nm), .slice (some ⟨g, off, none⟩) 1 c1]); obtain ⟨⟨u0, u1, u2, u3⟩, _⟩ := h.2.1.four; obtain ⟨v0, v1, v2, v3⟩ := (HK0.out.rel h.r).at0; go_simp; try with_reducible rfl
  try simp only [Act.put, List.setIfInBounds_toArray, List.set_cons_zero, List.set_cons_succ]
  refine held_take (i := 1) (v := ?_) (some 24) rfl rfl (by kernel_rfl) (by kernel_rfl) (by kernel_rfl) (fun _ _ _ h => h) (Or.inl ⟨by rfl, ?_⟩) hHeld ?_
  rotate_left 1
  · intro w' (h : SB w w' 38 #[.int .i64 5, .int .i64 n, .string (B nm), .slice (some ⟨g, off, none⟩) 1 c1]); obtain ⟨⟨u0, u1, u2, u3⟩, _⟩ := h.2.1.four; obtain ⟨v0, v1, v2, v3⟩ := (HK0.out.rel h.r).at0; go_simp; try with_reducible rfl
  try simp only [Act.put, List.setIfInBounds_toArray, List.set_cons_zero, List.set_cons_succ]
  refine held_take (i := 2) (v := ?_) (some 25) rfl rfl (by kernel_rfl) (by kernel_rfl) (by kernel_rfl) (fun _ _ _ h => h) (Or.inl ⟨by rfl, ?_⟩) hHeld ?_
  rotate_left 1
  · intro w' (h : SB w w' 38 #[.int .i64 5, .int .i64 n, .string (B nm), .slice (some ⟨g, off, none⟩) 1 c1]); obtain ⟨⟨u0, u1, u2, u3⟩, _⟩ := h.2.1.four; obtain ⟨v0, v1, v2, v3⟩ := (HK0.out.rel h.r).at0; go_simp; try with_reducible rfl
  try simp only [Act.put, List.setIfInBounds_toArray, List.set_cons_zero, List.set_cons_succ]
  refine held_take (i := 3) (v := ?_) (some 26) rfl rfl (by kernel_rfl) (by kernel_rfl) (by kernel_rfl) (fun _ _ _ h => h) (Or.inl ⟨by rfl, ?_⟩) hHeld ?_
  rotate_left 1
  · intro w' (h : SB w w' 38 #[.int .i64 5, .int .i64 n, .string (B nm), .slice (some ⟨g, off, none⟩) 1 c1]); obtain ⟨⟨u0, u1, u2, u3⟩, _⟩ := h.2.1.four; obtain ⟨v0, v1, v2, v3⟩ := (HK0.out.rel h.r).at0; go_simp; try with_reducible rfl
  try simp only [Act.put, List.setIfInBounds_toArray, List.set_cons_zero, List.set_cons_succ]
  refine held_take (i := 4) (v := ?_) (some 27) rfl rfl (by kernel_rfl) (by kernel_rfl) (by kernel_rfl) (fun _ _ _ h => h) (Or.inl ⟨by rfl, ?_⟩) hHeld ?_
  rotate_left 1
  · intro w' (h : SB w w' 38 #[.int .i64 5, .int .i64 n, .string (B nm), .slice (some ⟨g, off, none⟩) 1 c1]); obtain ⟨⟨u0, u1, u2, u3⟩, _⟩ := h.2.1.four; obtain ⟨v0, v1, v2, v3⟩ := (HK0.out.rel h.r).at0; go_simp; try with_reducible rfl
  try simp only [Act.put, List.setIfInBounds_toArray, List.set_cons_zero, List.set_cons_succ]
  refine held_take (i := 6) (v := ?_) (some 29) rfl rfl (by kernel_rfl) (by kernel_rfl) (by kernel_rfl) (fun _ _ _ h => h) (Or.inl ⟨by rfl, ?_⟩) hHeld ?_
  rotate_left 1
  · intro w' (h : SB w w' 38 #[.int .i64 5, .int .i64 n, .string (B nm), .slice (some ⟨g, off, none⟩) 1 c1]); obtain ⟨⟨u0, u1, u2, u3⟩, _⟩ := h.2.1.four; obtain ⟨v0, v1, v2, v3⟩ := (HK0.out.rel h.r).at0; go_simp; try with_reducible rfl
  try simp only [Act.put, List.setIfInBounds_toArray, List.set_cons_zero, List.set_cons_succ]
  refine held_take (i := 7) (v := ?_) (some 30) rfl rfl (by kernel_rfl) (by kernel_rfl) (by kernel_rfl) (fun _ _ _ h => h) (Or.inl ⟨by rfl, ?_⟩) hHeld ?_
  rotate_left 1
  · intro w' (h : SB w w' 38 #[.int .i64 5, .int .i64 n, .string (B nm), .slice (some ⟨g, off, none⟩) 1 c1]); obtain ⟨⟨u0, u1, u2, u3⟩, _⟩ := h.2.1.four; obtain ⟨v0, v1, v2, v3⟩ := (HK0.out.rel h.r).at0; go_simp; try with_reducible rfl
  try simp only [Act.put, List.setIfInBounds_toArray, List.set_cons_zero, List.set_cons_succ]
  refine held_one (j := 5) (by kernel_rfl) rfl (fun K hK => ?_)
  try simp only [List.getElem_toArray, List.getElem_cons_succ, List.getElem_cons_zero]
  rw [if_pos (by rfl)]
  go_simp
  go_at_call 34
  (with_reducible refine (Hhb.out _ hHeld.r).mono ?_)
  rintro e w1 ⟨rfl, h1⟩
  refine hK.out _ _ (hHeld.rel h1) (fun hHeld => ?_)
  clear hK K
  try simp only [Act.put, List.setIfInBounds_toArray, List.set_cons_zero, List.set_cons_succ]
  refine held_one (j := 8) (by kernel_rfl) rfl (fun K hK => ?_)
  try simp only [List.getElem_toArray, List.getElem_cons_succ, List.getElem_cons_zero]
  rw [if_pos (by rfl)]
  go_simp
  go_at_call 54
  (with_reducible refine (Hhb2.out _ hHeld.r).mono ?_)
  rintro e w2 ⟨rfl, h2⟩
  exact ⟨rfl, rfl, HR.out.trans (hHeld.r.trans h2)⟩
set_option maxRecDepth 100000 in
set_option maxHeartbeats 4000000 in
theorem pex5_ok (n : Int) (nm : List UInt8) (A1 : Option Addr) (c1 : Nat) (ov : Value) (w0 w : World) (el0 : El) (hk0 : KidP w A1 0 el0) (hr : Rel w0 w) (v : Int) (bv : Bool) (V : Int) (b : Bool) (hb : ∀ w', Rel w w' → Calls Tryz.prog 34 #[ov, EV el0] w' fun z w2 => z = .returned (.agg #[.int .i64 v, .bool bv]) ∧ Rel w' w2) (hb2 : ∀ w', Rel w w' → Calls Tryz.prog 54 #[.agg #[.int .i64 v, .bool bv], .int .i64 n] w' fun z w2 => z = .returned (.agg #[.int .i64 V, .bool b]) ∧ Rel w' w2) :
    Calls Tryz.prog 34 #[ov, .agg #[.int .i64 5, .int .i64 n, .string (B nm), .slice A1 1 c1]] w fun z w' => z = .returned (.agg #[.int .i64 V, .bool b]) ∧ Rel w0 w' := by
  have HR := Lib.hid hr
  have Hhb := Lib.hid hb
  have Hhb2 := Lib.hid hb2
  obtain ⟨g, off, rfl⟩ := hk0.is
  have HK0 := Lib.hid (show KidP w (some ⟨g, off, none⟩) 0 el0 from hk0)
  have HS := Lib.hid (SB.new hr.self 38 #[.int .i64 5, .int .i64 n, .string (B nm), .slice (some ⟨g, off, none⟩) 1 c1])
  obtain ⟨W, hW⟩ : ∃ W, (w.alloc (.cells #[.int .i64 5, .int .i64 n, .string (B nm), .slice (some ⟨g, off, none⟩) 1 c1] 38)).alloc (.cells #[.int .i64 0, .bool false] 81) = W := ⟨_, rfl⟩
  rw [hW] at HS
  have hS9 := HS.out
  obtain ⟨⟨b0, b1, b2, b3⟩, _⟩ := hS9.2.1.four
  obtain ⟨x00, x01, x02, x03⟩ := (HK0.out.rel hS9.1).at0
  clear hr hS9 hb hb2 hk0
  go_enter Tryz.func34, Tryz.ntmps34
  go_upto_region 9 with (fail)
  refine wp_region_held_drew (S := (fun w' => SB w w' 38 #[.int .i64 5, .int .i64 n, .string (B nm), .slice (some ⟨g, off, none⟩) 1 c1])) (by kernel_rfl) (HS.out.rel HS.out.1.right2.drew) (fun hHeld => ?_)
  refine held_take (i := 0) (v := ?_) (some 23) rfl rfl (by kernel_rfl) (by kernel_rfl) (by kernel_rfl) (fun _ _ _ h => h) (Or.inl ⟨by rfl, ?_⟩) hHeld ?_
  rotate_left 1
  · intro w' (h : SB w w' 38 #[.int .i64 5, .int .i64 n, .string (B nm), .slice (some ⟨g, off, none⟩) 1 c1]); obtain ⟨⟨u0, u1, u2, u3⟩, _⟩ := h.2.1.four; obtain ⟨v0, v1, v2, v3⟩ := (HK0.out.rel h.r).at0; go_simp; try with_reducible rfl
  try simp only [Act.put, List.setIfInBounds_toArray, List.set_cons_zero, List.set_cons_succ]
  refine held_take (i := 1) (v := ?_) (some 24) rfl rfl (by kernel_rfl) (by kernel_rfl) (by kernel_rfl) (fun _ _ _ h => h) (Or.inl ⟨by rfl, ?_⟩) hHeld ?_
  rotate_left 1
  · intro w' (h : SB w w' 38 #[.int .i64 5, .int .i64 n, .string (B nm), .slice (some ⟨g, off, none⟩) 1 c1]); obtain ⟨⟨u0, u1, u2, u3⟩, _⟩ := h.2.1.four; obtain ⟨v0, v1, v2, v3⟩ := (HK0.out.rel h.r).at0; go_simp; try with_reducible rfl
  try simp only [Act.put, List.setIfInBounds_toArray, List.set_cons_zero, List.set_cons_succ]
  refine held_take (i := 2) (v := ?_) (some 25) rfl rfl (by kernel_rfl) (by kernel_rfl) (by kernel_rfl) (fun _ _ _ h => h) (Or.inl ⟨by rfl, ?_⟩) hHeld ?_
  rotate_left 1
  · intro w' (h : SB w w' 38 #[.int .i64 5, .int .i64 n, .string (B nm), .slice (some ⟨g, off, none⟩) 1 c1]); obtain ⟨⟨u0, u1, u2, u3⟩, _⟩ := h.2.1.four; obtain ⟨v0, v1, v2, v3⟩ := (HK0.out.rel h.r).at0; go_simp; try with_reducible rfl
  try simp only [Act.put, List.setIfInBounds_toArray, List.set_cons_zero, List.set_cons_succ]
  refine held_take (i := 3) (v := ?_) (some 26) rfl rfl (by kernel_rfl) (by kernel_rfl) (by kernel_rfl) (fun _ _ _ h => h) (Or.inl ⟨by rfl, ?_⟩) hHeld ?_
  rotate_left 1
  · intro w' (h : SB w w' 38 #[.int .i64 5, .int .i64 n, .string (B nm), .slice (some ⟨g, off, none⟩) 1 c1]); obtain ⟨⟨u0, u1, u2, u3⟩, _⟩ := h.2.1.four; obtain ⟨v0, v1, v2, v3⟩ := (HK0.out.rel h.r).at0; go_simp; try with_reducible rfl
  try simp only [Act.put, List.setIfInBounds_toArray, List.set_cons_zero, List.set_cons_succ]
  refine held_take (i := 4) (v := ?_) (some 27) rfl rfl (by kernel_rfl) (by kernel_rfl) (by kernel_rfl) (fun _ _ _ h => h) (Or.inl ⟨by rfl, ?_⟩) hHeld ?_
  rotate_left 1
  · intro w' (h : SB w w' 38 #[.int .i64 5, .int .i64 n, .string (B nm), .slice (some ⟨g, off, none⟩) 1 c1]); obtain ⟨⟨u0, u1, u2, u3⟩, _⟩ := h.2.1.four; obtain ⟨v0, v1, v2, v3⟩ := (HK0.out.rel h.r).at0; go_simp; try with_reducible rfl
  try simp only [Act.put, List.setIfInBounds_toArray, List.set_cons_zero, List.set_cons_succ]
  refine held_take (i := 6) (v := ?_) (some 29) rfl rfl (by kernel_rfl) (by kernel_rfl) (by kernel_rfl) (fun _ _ _ h => h) (Or.inl ⟨by rfl, ?_⟩) hHeld ?_
  rotate_left 1
  · intro w' (h : SB w w' 38 #[.int .i64 5, .int .i64 n, .string (B nm), .slice (some ⟨g, off, none⟩) 1 c1]); obtain ⟨⟨u0, u1, u2, u3⟩, _⟩ := h.2.1.four; obtain ⟨v0, v1, v2, v3⟩ := (HK0.out.rel h.r).at0; go_simp; try with_reducible rfl
  try simp only [Act.put, List.setIfInBounds_toArray, List.set_cons_zero, List.set_cons_succ]
  refine held_take (i := 7) (v := ?_) (some 30) rfl rfl (by kernel_rfl) (by kernel_rfl) (by kernel_rfl) (fun _ _ _ h => h) (Or.inl ⟨by rfl, ?_⟩) hHeld ?_
  rotate_left 1
  · intro w' (h : SB w w' 38 #[.int .i64 5, .int .i64 n, .string (B nm), .slice (some ⟨g, off, none⟩) 1 c1]); obtain ⟨⟨u0, u1, u2, u3⟩, _⟩ := h.2.1.four; obtain ⟨v0, v1, v2, v3⟩ := (HK0.out.rel h.r).at0; go_simp; try with_reducible rfl
  try simp only [Act.put, List.setIfInBounds_toArray, List.set_cons_zero, List.set_cons_succ]
  refine held_one (j := 5) (by kernel_rfl) rfl (fun K hK => ?_)
  try simp only [List.getElem_toArray, List.getElem_cons_succ, List.getElem_cons_zero]
  rw [if_pos (by rfl)]
  go_simp
  go_at_call 34
  (with_reducible refine (Hhb.out _ hHeld.r).mono ?_)
  rintro e w1 ⟨rfl, h1⟩
  refine hK.out _ _ (hHeld.rel h1) (fun hHeld => ?_)
  clear hK K
  try simp only [Act.put, List.setIfInBounds_toArray, List.set_cons_zero, List.set_cons_succ]
  refine held_one (j := 8) (by kernel_rfl) rfl (fun K hK => ?_)
  try simp only [List.getElem_toArray, List.getElem_cons_succ, List.getElem_cons_zero]
  rw [if_pos (by rfl)]
  go_simp
  go_at_call 54
  (with_reducible refine (Hhb2.out _ hHeld.r).mono ?_)
  rintro e w2 ⟨rfl, h2⟩
  have hS9 := hHeld.rel h2
  obtain ⟨a9, b9, hb9⟩ := hS9.2.2
  obtain ⟨⟨d0, d1⟩, e0, e1⟩ := hb9.two
  clear hb9
  refine hK.out _ _ hS9 (fun hHeld => ?_)
  clear hK K
  try simp only [Act.put, List.setIfInBounds_toArray, List.set_cons_zero, List.set_cons_succ]
  refine held_one (j := 9) (by kernel_rfl) rfl (fun K hK => ?_)
  try simp only [List.getElem_toArray, List.getElem_cons_succ, List.getElem_cons_zero]
  rw [if_pos (by rfl)]
  go_simp
  refine hK.out _ _ (hS9.put _ _) (fun hHeld => ?_)
  clear hK K
  try simp only [Act.put, List.setIfInBounds_toArray, List.set_cons_zero, List.set_cons_succ]
  refine wpAnyH_done (by kernel_rfl) ?_ _
  go_wp2_with (fail)
  exact bodyPost_ret (v := .agg #[.int .i64 V, .bool b]) (by simp [results, Tryz.results34, go_sem, d0, d1]) rfl ⟨rfl, HR.out.trans hHeld.r⟩
set_option maxRecDepth 100000 in
set_option maxHeartbeats 4000000 in
theorem pex6_no (n : Int) (nm : List UInt8) (A1 : Option Addr) (c1 : Nat) (ov : Value) (w0 w : World) (el0 : El) (hk0 : KidP w A1 0 el0) (hr : Rel w0 w) (hb : ∀ w', Rel w w' → Calls Tryz.prog 34 #[ov, EV el0] w' fun z w2 => z = FLV ∧ Rel w' w2) :
    Calls Tryz.prog 34 #[ov, .agg #[.int .i64 6, .int .i64 n, .string (B nm), .slice A1 1 c1]] w fun z w' => z = FLV ∧ Rel w0 w' := by
  have HR := Lib.hid hr
  have Hhb := Lib.hid hb
  obtain ⟨g, off, rfl⟩ := hk0.is
  have HK0 := Lib.hid (show KidP w (some ⟨g, off, none⟩) 0 el0 from hk0)
  have HS := Lib.hid (SB.new hr.self 38 #[.int .i64 6, .int .i64 n, .string (B nm), .slice (some ⟨g, off, none⟩) 1 c1])
  obtain ⟨W, hW⟩ : ∃ W, (w.alloc (.cells #[.int .i64 6, .int .i64 n, .string (B nm), .slice (some ⟨g, off, none⟩) 1 c1] 38)).alloc (.cells #[.int .i64 0, .bool false] 81) = W := ⟨_, rfl⟩
  rw [hW] at HS
  have hS9 := HS.out
  obtain ⟨⟨b0, b1, b2, b3⟩, _⟩ := hS9.2.1.four
  obtain ⟨x00, x01, x02, x03⟩ := (HK0.out.rel hS9.1).at0
  clear hr hS9 hb hk0
  go_enter Tryz.func34, Tryz.ntmps34
  go_upto_region 11 with (fail)
  refine wp_region_held_drew (S := (fun w' => SB w w' 38 #[.int .i64 6, .int .i64 n, .string (B nm), .slice (some ⟨g, off, none⟩) 1 c1])) (by kernel_rfl) (HS.out.rel HS.out.1.right2.drew) (fun hHeld => ?_)
  refine held_take (i := 0) (v := ?_) (some 34) rfl rfl (by kernel_rfl) (by kernel_rfl) (by kernel_rfl) (fun _ _ _ h => h) (Or.inl ⟨by rfl, ?_⟩) hHeld ?_
  rotate_left 1
  · intro w' (h : SB w w' 38 #[.int .i64 6, .int .i64 n, .string (B nm), .slice (some ⟨g, off, none⟩) 1 c1]); obtain ⟨⟨u0, u1, u2, u3⟩, _⟩ := h.2.1.four; obtain ⟨v0, v1, v2, v3⟩ := (HK0.out.rel h.r).at0; go_simp; try with_reducible rfl
  try simp only [Act.put, List.setIfInBounds_toArray, List.set_cons_zero, List.set_cons_succ]
  refine held_take (i := 1) (v := ?_) (some 35) rfl rfl (by kernel_rfl) (by kernel_rfl) (by kernel_rfl) (fun _ _ _ h => h) (Or.inl ⟨by rfl, ?_⟩) hHeld ?_
  rotate_left 1
  · intro w' (h : SB w w' 38 #[.int .i64 6, .int .i64 n, .string (B nm), .slice (some ⟨g, off, none⟩) 1 c1]); obtain ⟨⟨u0, u1, u2, u3⟩, _⟩ := h.2.1.four; obtain ⟨v0, v1, v2, v3⟩ := (HK0.out.rel h.r).at0; go_simp; try with_reducible rfl
  try simp only [Act.put, List.setIfInBounds_toArray, List.set_cons_zero, List.set_cons_succ]
  refine held_take (i := 2) (v := ?_) (some 36) rfl rfl (by kernel_rfl) (by kernel_rfl) (by kernel_rfl) (fun _ _ _ h => h) (Or.inl ⟨by rfl, ?_⟩) hHeld ?_
  rotate_left 1
  · intro w' (h : SB w w' 38 #[.int .i64 6, .int .i64 n, .string (B nm), .slice (some ⟨g, off, none⟩) 1 c1]); obtain ⟨⟨u0, u1, u2, u3⟩, _⟩ := h.2.1.four; obtain ⟨v0, v1, v2, v3⟩ := (HK0.out.rel h.r).at0; go_simp; try with_reducible rfl
  try simp only [Act.put, List.setIfInBounds_toArray, List.set_cons_zero, List.set_cons_succ]
  refine held_take (i := 3) (v := ?_) (some 37) rfl rfl (by kernel_rfl) (by kernel_rfl) (by kernel_rfl) (fun _ _ _ h => h) (Or.inl ⟨by rfl, ?_⟩) hHeld ?_
  rotate_left 1
  · intro w' (h : SB w w' 38 #[.int .i64 6, .int .i64 n, .string (B nm), .slice (some ⟨g, off, none⟩) 1 c1]); obtain ⟨⟨u0, u1, u2, u3⟩, _⟩ := h.2.1.four; obtain ⟨v0, v1, v2, v3⟩ := (HK0.out.rel h.r).at0; go_simp; try with_reducible rfl
  try simp only [Act.put, List.setIfInBounds_toArray, List.set_cons_zero, List.set_cons_succ]
  refine held_take (i := 4) (v := ?_) (some 38) rfl rfl (by kernel_rfl) (by kernel_rfl) (by kernel_rfl) (fun _ _ _ h => h) (Or.inl ⟨by rfl, ?_⟩) hHeld ?_
  rotate_left 1
  · intro w' (h : SB w w' 38 #[.int .i64 6, .int .i64 n, .string (B nm), .slice (some ⟨g, off, none⟩) 1 c1]); obtain ⟨⟨u0, u1, u2, u3⟩, _⟩ := h.2.1.four; obtain ⟨v0, v1, v2, v3⟩ := (HK0.out.rel h.r).at0; go_simp; try with_reducible rfl
  try simp only [Act.put, List.setIfInBounds_toArray, List.set_cons_zero, List.set_cons_succ]
  refine held_take (i := 6) (v := ?_) (some 40) rfl rfl (by kernel_rfl) (by kernel_rfl) (by kernel_rfl) (fun _ _ _ h => h) (Or.inl ⟨by rfl, ?_⟩) hHeld ?_
  rotate_left 1
  · intro w' (h : SB w w' 38 #[.int .i64 6, .int .i64 n, .string (B nm), .slice (some ⟨g, off, none⟩) 1 c1]); obtain ⟨⟨u0, u1, u2, u3⟩, _⟩ := h.2.1.four; obtain ⟨v0, v1, v2, v3⟩ := (HK0.out.rel h.r).at0; go_simp; try with_reducible rfl
  try simp only [Act.put, List.setIfInBounds_toArray, List.set_cons_zero, List.set_cons_succ]
  refine held_take (i := 7) (v := ?_) (some 41) rfl rfl (by kernel_rfl) (by kernel_rfl) (by kernel_rfl) (fun _ _ _ h => h) (Or.inl ⟨by rfl, ?_⟩) hHeld ?_
  rotate_left 1
  · intro w' (h : SB w w' 38 #[.int .i64 6, .int .i64 n, .string (B nm), .slice (some ⟨g, off, none⟩) 1 c1]); obtain ⟨⟨u0, u1, u2, u3⟩, _⟩ := h.2.1.four; obtain ⟨v0, v1, v2, v3⟩ := (HK0.out.rel h.r).at0; go_simp; try with_reducible rfl
  try simp only [Act.put, List.setIfInBounds_toArray, List.set_cons_zero, List.set_cons_succ]
  refine held_one (j := 5) (by kernel_rfl) rfl (fun K hK => ?_)
  try simp only [List.getElem_toArray, List.getElem_cons_succ, List.getElem_cons_zero]
  rw [if_pos (by rfl)]
  go_simp
  go_at_call 34
  (with_reducible refine (Hhb.out _ hHeld.r).mono ?_)
  rintro e w1 ⟨rfl, h1⟩
  exact ⟨rfl, rfl, HR.out.trans (hHeld.r.trans h1)⟩
set_option maxRecDepth 100000 in
set_option maxHeartbeats 4000000 in
theorem pex6_end (n : Int) (nm : List UInt8) (A1 : Option Addr) (c1 : Nat) (ov : Value) (w0 w : World) (el0 : El) (hk0 : KidP w A1 0 el0) (hr : Rel w0 w) (v : Int) (bv : Bool) (hb : ∀ w', Rel w w' → Calls Tryz.prog 34 #[ov, EV el0] w' fun z w2 => z = .returned (.agg #[.int .i64 v, .bool bv]) ∧ Rel w' w2) (hb2 : ∀ w', Rel w w' → Calls Tryz.prog 55 #[.agg #[.int .i64 v, .bool bv], .int .i64 n] w' fun z w2 => z = FLV ∧ Rel w' w2) :
    Calls Tryz.prog 34 #[ov, .agg #[.int .i64 6, .int .i64 n, .string (B nm), .slice A1 1 c1]] w fun z w' => z = FLV ∧ Rel w0 w' := by
  have HR := Lib.hid hr
  have Hhb := Lib.hid hb
  have Hhb2 := Lib.hid hb2
  obtain ⟨g, off, rfl⟩ := hk0.is
  have HK0 := Lib.hid (show KidP w (some ⟨g, off, none⟩) 0 el0 from hk0)
  have HS := Lib.hid (SB.new hr.self 38 #[.int .i64 6, .int .i64 n, .string (B nm), .slice (some ⟨g, off, none⟩) 1 c1])
  obtain ⟨W, hW⟩ : ∃ W, (w.alloc (.cells #[.int .i64 6, .int .i64 n, .string (B nm), .slice (some ⟨g, off, none⟩) 1 c1] 38)).alloc (.cells #[.int .i64 0, .bool false] 81) = W := ⟨_, rfl⟩
  rw [hW] at HS
  have hS9 := HS.out
  obtain ⟨⟨b0, b1, b2, b3⟩, _⟩ := hS9.2.1.four
  obtain ⟨x00, x01, x02, x03⟩ := (HK0.out.rel hS9.1).at0
  clear hr hS9 hb hb2 hk0
  go_enter Tryz.func34, Tryz.ntmps34
  go_upto_region 11 with (fail)
  refine wp_region_held_drew (S := (fun w' => SB w w' 38 #[.int .i64 6, .int .i64 n, .string (B nm), .slice (some ⟨g, off, none⟩) 1 c1])) (by kernel_rfl) (HS.out.rel HS.out.1.right2.drew) (fun hHeld => ?_)
  refine held_take (i := 0) (v := ?_) (some 34) rfl rfl (by kernel_rfl) (by kernel_rfl) (by kernel_rfl) (fun _ _ _ h => h) (Or.inl ⟨by rfl, ?_⟩) hHeld ?_
  rotate_left 1
  · intro w' (h : SB w w' 38 #[.int .i64 6, .int .i64 n, .string (B nm), .slice (some ⟨g, off, none⟩) 1 c1]); obtain ⟨⟨u0, u1, u2, u3⟩, _⟩ := h.2.1.four; obtain ⟨v0, v1, v2, v3⟩ := (HK0.out.rel h.r).at0; go_simp; try with_reducible rfl
  try simp only [Act.put, List.setIfInBounds_toArray, List.set_cons_zero, List.set_cons_succ]
  refine held_take (i := 1) (v := ?_) (some 35) rfl rfl (by kernel_rfl) (by kernel_rfl) (by kernel_rfl) (fun _ _ _ h => h) (Or.inl ⟨by rfl, ?_⟩) hHeld ?_
  rotate_left 1
  · intro w' (h : SB w w' 38 #[.int .i64 6, .int .i64 n, .string (B nm), .slice (some ⟨g, off, none⟩) 1 c1]); obtain ⟨⟨u0, u1, u2, u3⟩, _⟩ := h.2.1.four; obtain ⟨v0, v1, v2, v3⟩ := (HK0.out.rel h.r).at0; go_simp; try with_reducible rfl
  try simp only [Act.put, List.setIfInBounds_toArray, List.set_cons_zero, List.set_cons_succ]
  refine held_take (i := 2) (v := ?_) (some 36) rfl rfl (by kernel_rfl) (by kernel_rfl) (by kernel_rfl) (fun _ _ _ h => h) (Or.inl ⟨by rfl, ?_⟩) hHeld ?_
  rotate_left 1
  · intro w' (h : SB w w' 38 #[.int .i64 6, .int .i64 n, .string (B nm), .slice (some ⟨g, off, none⟩) 1 c1]); obtain ⟨⟨u0, u1, u2, u3⟩, _⟩ := h.2.1.four; obtain ⟨v0, v1, v2, v3⟩ := (HK0.out.rel h.r).at0; go_simp; try with_reducible rfl
  try simp only [Act.put, List.setIfInBounds_toArray, List.set_cons_zero, List.set_cons_succ]
  refine held_take (i := 3) (v := ?_) (some 37) rfl rfl (by kernel_rfl) (by kernel_rfl) (by kernel_rfl) (fun _ _ _ h => h) (Or.inl ⟨by rfl, ?_⟩) hHeld ?_
  rotate_left 1
  · intro w' (h : SB w w' 38 #[.int .i64 6, .int .i64 n, .string (B nm), .slice (some ⟨g, off, none⟩) 1 c1]); obtain ⟨⟨u0, u1, u2, u3⟩, _⟩ := h.2.1.four; obtain ⟨v0, v1, v2, v3⟩ := (HK0.out.rel h.r).at0; go_simp; try with_reducible rfl
  try simp only [Act.put, List.setIfInBounds_toArray, List.set_cons_zero, List.set_cons_succ]
  refine held_take (i := 4) (v := ?_) (some 38) rfl rfl (by kernel_rfl) (by kernel_rfl) (by kernel_rfl) (fun _ _ _ h => h) (Or.inl ⟨by rfl, ?_⟩) hHeld ?_
  rotate_left 1
  · intro w' (h : SB w w' 38 #[.int .i64 6, .int .i64 n, .string (B nm), .slice (some ⟨g, off, none⟩) 1 c1]); obtain ⟨⟨u0, u1, u2, u3⟩, _⟩ := h.2.1.four; obtain ⟨v0, v1, v2, v3⟩ := (HK0.out.rel h.r).at0; go_simp; try with_reducible rfl
  try simp only [Act.put, List.setIfInBounds_toArray, List.set_cons_zero, List.set_cons_succ]
  refine held_take (i := 6) (v := ?_) (some 40) rfl rfl (by kernel_rfl) (by kernel_rfl) (by kernel_rfl) (fun _ _ _ h => h) (Or.inl ⟨by rfl, ?_⟩) hHeld ?_
  rotate_left 1
  · intro w' (h : SB w w' 38 #[.int .i64 6, .int .i64 n, .string (B nm), .slice (some ⟨g, off, none⟩) 1 c1]); obtain ⟨⟨u0, u1, u2, u3⟩, _⟩ := h.2.1.four; obtain ⟨v0, v1, v2, v3⟩ := (HK0.out.rel h.r).at0; go_simp; try with_reducible rfl
  try simp only [Act.put, List.setIfInBounds_toArray, List.set_cons_zero, List.set_cons_succ]
  refine held_take (i := 7) (v := ?_) (some 41) rfl rfl (by kernel_rfl) (by kernel_rfl) (by kernel_rfl) (fun _ _ _ h => h) (Or.inl ⟨by rfl, ?_⟩) hHeld ?_
  rotate_left 1
  · intro w' (h : SB w w' 38 #[.int .i64 6, .int .i64 n, .string (B nm), .slice (some ⟨g, off, none⟩) 1 c1]); obtain ⟨⟨u0, u1, u2, u3⟩, _⟩ := h.2.1.four; obtain ⟨v0, v1, v2, v3⟩ := (HK0.out.rel h.r).at0; go_simp; try with_reducible rfl
  try simp only [Act.put, List.setIfInBounds_toArray, List.set_cons_zero, List.set_cons_succ]
  refine held_one (j := 5) (by kernel_rfl) rfl (fun K hK => ?_)
  try simp only [List.getElem_toArray, List.getElem_cons_succ, List.getElem_cons_zero]
  rw [if_pos (by rfl)]
  go_simp
  go_at_call 34
  (with_reducible refine (Hhb.out _ hHeld.r).mono ?_)
  rintro e w1 ⟨rfl, h1⟩
  refine hK.out _ _ (hHeld.rel h1) (fun hHeld => ?_)
  clear hK K
  try simp only [Act.put, List.setIfInBounds_toArray, List.set_cons_zero, List.set_cons_succ]
  refine held_one (j := 8) (by kernel_rfl) rfl (fun K hK => ?_)
  try simp only [List.getElem_toArray, List.getElem_cons_succ, List.getElem_cons_zero]
  rw [if_pos (by rfl)]
  go_simp
  go_at_call 55
  (with_reducible refine (Hhb2.out _ hHeld.r).mono ?_)
  rintro e w2 ⟨rfl, h2⟩
  exact ⟨rfl, rfl, HR.out.trans (hHeld.r.trans h2)⟩
set_option maxRecDepth 100000 in
set_option maxHeartbeats 4000000 in
theorem pex6_ok (n : Int) (nm : List UInt8) (A1 : Option Addr) (c1 : Nat) (ov : Value) (w0 w : World) (el0 : El) (hk0 : KidP w A1 0 el0) (hr : Rel w0 w) (v : Int) (bv : Bool) (V : Int) (b : Bool) (hb : ∀ w', Rel w w' → Calls Tryz.prog 34 #[ov, EV el0] w' fun z w2 => z = .returned (.agg #[.int .i64 v, .bool bv]) ∧ Rel w' w2) (hb2 : ∀ w', Rel w w' → Calls Tryz.prog 55 #[.agg #[.int .i64 v, .bool bv], .int .i64 n] w' fun z w2 => z = .returned (.agg #[.int .i64 V, .bool b]) ∧ Rel w' w2) :
    Calls Tryz.prog 34 #[ov, .agg #[.int .i64 6, .int .i64 n, .string (B nm), .slice A1 1 c1]] w fun z w' => z = .returned (.agg #[.int .i64 V, .bool b]) ∧ Rel w0 w' := by
  have HR := Lib.hid hr
  have Hhb := Lib.hid hb
  have Hhb2 := Lib.hid hb2
  obtain ⟨g, off, rfl⟩ := hk0.is
  have HK0 := Lib.hid (show KidP w (some ⟨g, off, none⟩) 0 el0 from hk0)
  have HS := Lib.hid (SB.new hr.self 38 #[.int .i64 6, .int .i64 n, .string (B nm), .slice (some ⟨g, off, none⟩) 1 c1])
  obtain ⟨W, hW⟩ : ∃ W, (w.alloc (.cells #[.int .i64 6, .int .i64 n, .string (B nm), .slice (some ⟨g, off, none⟩) 1 c1] 38)).alloc (.cells #[.int .i64 0, .bool false] 81) = W := ⟨_, rfl⟩
  rw [hW] at HS
  have hS9 := HS.out
  obtain ⟨⟨b0, b1, b2, b3⟩, _⟩ := hS9.2.1.four
  obtain ⟨x00, x01, x02, x03⟩ := (HK0.out.rel hS9.1).at0
  clear hr hS9 hb hb2 hk0
  go_enter Tryz.func34, Tryz.ntmps34
  go_upto_region 11 with (fail)
  refine wp_region_held_drew (S := (fun w' => SB w w' 38 #[.int .i64 6, .int .i64 n, .string (B nm), .slice (some ⟨g, off, none⟩) 1 c1])) (by kernel_rfl) (HS.out.rel HS.out.1.right2.drew) (fun hHeld => ?_)
  refine held_take (i := 0) (v := ?_) (some 34) rfl rfl (by kernel_rfl) (by kernel_rfl) (by kernel_rfl) (fun _ _ _ h => h) (Or.inl ⟨by rfl, ?_⟩) hHeld ?_
  rotate_left 1
  · intro w' (h : SB w w' 38 #[.int .i64 6, .int .i64 n, .string (B nm), .slice (some ⟨g, off, none⟩) 1 c1]); obtain ⟨⟨u0, u1, u2, u3⟩, _⟩ := h.2.1.four; obtain ⟨v0, v1, v2, v3⟩ := (HK0.out.rel h.r).at0; go_simp; try with_reducible rfl
  try simp only [Act.put, List.setIfInBounds_toArray, List.set_cons_zero, List.set_cons_succ]
  refine held_take (i := 1) (v := ?_) (some 35) rfl rfl (by kernel_rfl) (by kernel_rfl) (by kernel_rfl) (fun _ _ _ h => h) (Or.inl ⟨by rfl, ?_⟩) hHeld ?_
  rotate_left 1
  · intro w' (h : SB w w' 38 #[.int .i64 6, .int .i64 n, .string (B nm), .slice (some ⟨g, off, none⟩) 1 c1]); obtain ⟨⟨u0, u1, u2, u3⟩, _⟩ := h.2.1.four; obtain ⟨v0, v1, v2, v3⟩ := (HK0.out.rel h.r).at0; go_simp; try with_reducible rfl
  try simp only [Act.put, List.setIfInBounds_toArray, List.set_cons_zero, List.set_cons_succ]
  refine held_take (i := 2) (v := ?_) (some 36) rfl rfl (by kernel_rfl) (by kernel_rfl) (by kernel_rfl) (fun _ _ _ h => h) (Or.inl ⟨by rfl, ?_⟩) hHeld ?_
  rotate_left 1
  · intro w' (h : SB w w' 38 #[.int .i64 6, .int .i64 n, .string (B nm), .slice (some ⟨g, off, none⟩) 1 c1]); obtain ⟨⟨u0, u1, u2, u3⟩, _⟩ := h.2.1.four; obtain ⟨v0, v1, v2, v3⟩ := (HK0.out.rel h.r).at0; go_simp; try with_reducible rfl
  try simp only [Act.put, List.setIfInBounds_toArray, List.set_cons_zero, List.set_cons_succ]
  refine held_take (i := 3) (v := ?_) (some 37) rfl rfl (by kernel_rfl) (by kernel_rfl) (by kernel_rfl) (fun _ _ _ h => h) (Or.inl ⟨by rfl, ?_⟩) hHeld ?_
  rotate_left 1
  · intro w' (h : SB w w' 38 #[.int .i64 6, .int .i64 n, .string (B nm), .slice (some ⟨g, off, none⟩) 1 c1]); obtain ⟨⟨u0, u1, u2, u3⟩, _⟩ := h.2.1.four; obtain ⟨v0, v1, v2, v3⟩ := (HK0.out.rel h.r).at0; go_simp; try with_reducible rfl
  try simp only [Act.put, List.setIfInBounds_toArray, List.set_cons_zero, List.set_cons_succ]
  refine held_take (i := 4) (v := ?_) (some 38) rfl rfl (by kernel_rfl) (by kernel_rfl) (by kernel_rfl) (fun _ _ _ h => h) (Or.inl ⟨by rfl, ?_⟩) hHeld ?_
  rotate_left 1
  · intro w' (h : SB w w' 38 #[.int .i64 6, .int .i64 n, .string (B nm), .slice (some ⟨g, off, none⟩) 1 c1]); obtain ⟨⟨u0, u1, u2, u3⟩, _⟩ := h.2.1.four; obtain ⟨v0, v1, v2, v3⟩ := (HK0.out.rel h.r).at0; go_simp; try with_reducible rfl
  try simp only [Act.put, List.setIfInBounds_toArray, List.set_cons_zero, List.set_cons_succ]
  refine held_take (i := 6) (v := ?_) (some 40) rfl rfl (by kernel_rfl) (by kernel_rfl) (by kernel_rfl) (fun _ _ _ h => h) (Or.inl ⟨by rfl, ?_⟩) hHeld ?_
  rotate_left 1
  · intro w' (h : SB w w' 38 #[.int .i64 6, .int .i64 n, .string (B nm), .slice (some ⟨g, off, none⟩) 1 c1]); obtain ⟨⟨u0, u1, u2, u3⟩, _⟩ := h.2.1.four; obtain ⟨v0, v1, v2, v3⟩ := (HK0.out.rel h.r).at0; go_simp; try with_reducible rfl
  try simp only [Act.put, List.setIfInBounds_toArray, List.set_cons_zero, List.set_cons_succ]
  refine held_take (i := 7) (v := ?_) (some 41) rfl rfl (by kernel_rfl) (by kernel_rfl) (by kernel_rfl) (fun _ _ _ h => h) (Or.inl ⟨by rfl, ?_⟩) hHeld ?_
  rotate_left 1
  · intro w' (h : SB w w' 38 #[.int .i64 6, .int .i64 n, .string (B nm), .slice (some ⟨g, off, none⟩) 1 c1]); obtain ⟨⟨u0, u1, u2, u3⟩, _⟩ := h.2.1.four; obtain ⟨v0, v1, v2, v3⟩ := (HK0.out.rel h.r).at0; go_simp; try with_reducible rfl
  try simp only [Act.put, List.setIfInBounds_toArray, List.set_cons_zero, List.set_cons_succ]
  refine held_one (j := 5) (by kernel_rfl) rfl (fun K hK => ?_)
  try simp only [List.getElem_toArray, List.getElem_cons_succ, List.getElem_cons_zero]
  rw [if_pos (by rfl)]
  go_simp
  go_at_call 34
  (with_reducible refine (Hhb.out _ hHeld.r).mono ?_)
  rintro e w1 ⟨rfl, h1⟩
  refine hK.out _ _ (hHeld.rel h1) (fun hHeld => ?_)
  clear hK K
  try simp only [Act.put, List.setIfInBounds_toArray, List.set_cons_zero, List.set_cons_succ]
  refine held_one (j := 8) (by kernel_rfl) rfl (fun K hK => ?_)
  try simp only [List.getElem_toArray, List.getElem_cons_succ, List.getElem_cons_zero]
  rw [if_pos (by rfl)]
  go_simp
  go_at_call 55
  (with_reducible refine (Hhb2.out _ hHeld.r).mono ?_)
  rintro e w2 ⟨rfl, h2⟩
  have hS9 := hHeld.rel h2
  obtain ⟨a9, b9, hb9⟩ := hS9.2.2
  obtain ⟨⟨d0, d1⟩, e0, e1⟩ := hb9.two
  clear hb9
  refine hK.out _ _ hS9 (fun hHeld => ?_)
  clear hK K
  try simp only [Act.put, List.setIfInBounds_toArray, List.set_cons_zero, List.set_cons_succ]
  refine held_one (j := 9) (by kernel_rfl) rfl (fun K hK => ?_)
  try simp only [List.getElem_toArray, List.getElem_cons_succ, List.getElem_cons_zero]
  rw [if_pos (by rfl)]
  go_simp
  refine hK.out _ _ (hS9.put _ _) (fun hHeld => ?_)
  clear hK K
  try simp only [Act.put, List.setIfInBounds_toArray, List.set_cons_zero, List.set_cons_succ]
  refine wpAnyH_done (by kernel_rfl) ?_ _
  go_wp2_with (fail)
  exact bodyPost_ret (v := .agg #[.int .i64 V, .bool b]) (by simp [results, Tryz.results34, go_sem, d0, d1]) rfl ⟨rfl, HR.out.trans hHeld.r⟩
set_option maxRecDepth 100000 in
set_option maxHeartbeats 4000000 in
theorem pex7_no (n : Int) (nm : List UInt8) (A1 : Option Addr) (c1 : Nat) (ov : Value) (w0 w : World) (hr : Rel w0 w) (hb : ∀ w', Rel w w' → Calls Tryz.prog 56 #[ov, .agg #[.int .i64 7, .int .i64 n, .string (B nm), .slice A1 2 c1]] w' fun z w2 => z = FLV ∧ Rel w' w2) :
    Calls Tryz.prog 34 #[ov, .agg #[.int .i64 7, .int .i64 n, .string (B nm), .slice A1 2 c1]] w fun z w' => z = FLV ∧ Rel w0 w' := by
  have HR := Lib.hid hr
  have Hhb := Lib.hid hb
  have HS := Lib.hid (SB.new hr.self 38 #[.int .i64 7, .int .i64 n, .string (B nm), .slice A1 2 c1])
  obtain ⟨W, hW⟩ : ∃ W, (w.alloc (.cells #[.int .i64 7, .int .i64 n, .string (B nm), .slice A1 2 c1] 38)).alloc (.cells #[.int .i64 0, .bool false] 81) = W := ⟨_, rfl⟩
  rw [hW] at HS
  have hS9 := HS.out
  obtain ⟨⟨b0, b1, b2, b3⟩, _⟩ := hS9.2.1.four
  clear hr hS9 hb 
  go_enter Tryz.func34, Tryz.ntmps34
  go_wp2_with (go_at_call 56; (with_reducible refine (Hhb.out _ HS.out.r).mono ?_); rintro e w1 ⟨rfl, h1⟩; have HS1 := Lib.hid (HS.out.rel h1))
  exact ⟨rfl, rfl, HR.out.trans HS1.out.r⟩
set_option maxRecDepth 100000 in
set_option maxHeartbeats 4000000 in
theorem pex7_ok (n : Int) (nm : List UInt8) (A1 : Option Addr) (c1 : Nat) (ov : Value) (w0 w : World) (hr : Rel w0 w) (V : Int) (b : Bool) (hb : ∀ w', Rel w w' → Calls Tryz.prog 56 #[ov, .agg #[.int .i64 7, .int .i64 n, .string (B nm), .slice A1 2 c1]] w' fun z w2 => z = .returned (.agg #[.int .i64 V, .bool b]) ∧ Rel w' w2) :
    Calls Tryz.prog 34 #[ov, .agg #[.int .i64 7, .int .i64 n, .string (B nm), .slice A1 2 c1]] w fun z w' => z = .returned (.agg #[.int .i64 V, .bool b]) ∧ Rel w0 w' := by
  have HR := Lib.hid hr
  have Hhb := Lib.hid hb
  have HS := Lib.hid (SB.new hr.self 38 #[.int .i64 7, .int .i64 n, .string (B nm), .slice A1 2 c1])
  obtain ⟨W, hW⟩ : ∃ W, (w.alloc (.cells #[.int .i64 7, .int .i64 n, .string (B nm), .slice A1 2 c1] 38)).alloc (.cells #[.int .i64 0, .bool false] 81) = W := ⟨_, rfl⟩
  rw [hW] at HS
  have hS9 := HS.out
  obtain ⟨⟨b0, b1, b2, b3⟩, _⟩ := hS9.2.1.four
  clear hr hS9 hb 
  go_enter Tryz.func34, Tryz.ntmps34
  go_wp2_with (go_at_call 56; (with_reducible refine (Hhb.out _ HS.out.r).mono ?_); rintro e w1 ⟨rfl, h1⟩; have HS1 := Lib.hid (HS.out.rel h1); have hS9 := HS1.out; obtain ⟨a9, b9, hb9⟩ := hS9.2.2; obtain ⟨⟨d0, d1⟩, e0, e1⟩ := hb9.two; clear hS9 hb9)
  exact bodyPost_ret (v := .agg #[.int .i64 V, .bool b]) (by simp [results, Tryz.results34, go_sem, d0, d1]) rfl ⟨rfl, HR.out.trans (HS1.out.put _ _).1⟩
set_option maxRecDepth 100000 in
set_option maxHeartbeats 4000000 in
theorem pex8_no (n : Int) (nm : List UInt8) (A1 : Option Addr) (c1 : Nat) (ov : Value) (w0 w : World) (hr : Rel w0 w) (hb : ∀ w', Rel w w' → Calls Tryz.prog 56 #[ov, .agg #[.int .i64 8, .int .i64 n, .string (B nm), .slice A1 2 c1]] w' fun z w2 => z = FLV ∧ Rel w' w2) :
    Calls Tryz.prog 34 #[ov, .agg #[.int .i64 8, .int .i64 n, .string (B nm), .slice A1 2 c1]] w fun z w' => z = FLV ∧ Rel w0 w' := by
  have HR := Lib.hid hr
  have Hhb := Lib.hid hb
  have HS := Lib.hid (SB.new hr.self 38 #[.int .i64 8, .int .i64 n, .string (B nm), .slice A1 2 c1])
  obtain ⟨W, hW⟩ : ∃ W, (w.alloc (.cells #[.int .i64 8, .int .i64 n, .string (B nm), .slice A1 2 c1] 38)).alloc (.cells #[.int .i64 0, .bool false] 81) = W := ⟨_, rfl⟩
  rw [hW] at HS
  have hS9 := HS.out
  obtain ⟨⟨b0, b1, b2, b3⟩, _⟩ := hS9.2.1.four
  clear hr hS9 hb 
  go_enter Tryz.func34, Tryz.ntmps34
  go_wp2_with (go_at_call 56; (with_reducible refine (Hhb.out _ HS.out.r).mono ?_); rintro e w1 ⟨rfl, h1⟩; have HS1 := Lib.hid (HS.out.rel h1))
  exact ⟨rfl, rfl, HR.out.trans HS1.out.r⟩
set_option maxRecDepth 100000 in
set_option maxHeartbeats 4000000 in
theorem pex8_ok (n : Int) (nm : List UInt8) (A1 : Option Addr) (c1 : Nat) (ov : Value) (w0 w : World) (hr : Rel w0 w) (V : Int) (b : Bool) (hb : ∀ w', Rel w w' → Calls Tryz.prog 56 #[ov, .agg #[.int .i64 8, .int .i64 n, .string (B nm), .slice A1 2 c1]] w' fun z w2 => z = .returned (.agg #[.int .i64 V, .bool b]) ∧ Rel w' w2) :
    Calls Tryz.prog 34 #[ov, .agg #[.int .i64 8, .int .i64 n, .string (B nm), .slice A1 2 c1]] w fun z w' => z = .returned (.agg #[.int .i64 V, .bool b]) ∧ Rel w0 w' := by
  have HR := Lib.hid hr
  have Hhb := Lib.hid hb
  have HS := Lib.hid (SB.new hr.self 38 #[.int .i64 8, .int .i64 n, .string (B nm), .slice A1 2 c1])
  obtain ⟨W, hW⟩ : ∃ W, (w.alloc (.cells #[.int .i64 8, .int .i64 n, .string (B nm), .slice A1 2 c1] 38)).alloc (.cells #[.int .i64 0, .bool false] 81) = W := ⟨_, rfl⟩
  rw [hW] at HS
  have hS9 := HS.out
  obtain ⟨⟨b0, b1, b2, b3⟩, _⟩ := hS9.2.1.four
  clear hr hS9 hb 
  go_enter Tryz.func34, Tryz.ntmps34
  go_wp2_with (go_at_call 56; (with_reducible refine (Hhb.out _ HS.out.r).mono ?_); rintro e w1 ⟨rfl, h1⟩; have HS1 := Lib.hid (HS.out.rel h1); have hS9 := HS1.out; obtain ⟨a9, b9, hb9⟩ := hS9.2.2; obtain ⟨⟨d0, d1⟩, e0, e1⟩ := hb9.two; clear hS9 hb9)
  exact bodyPost_ret (v := .agg #[.int .i64 V, .bool b]) (by simp [results, Tryz.results34, go_sem, d0, d1]) rfl ⟨rfl, HR.out.trans (HS1.out.put _ _).1⟩
set_option maxRecDepth 100000 in
set_option maxHeartbeats 4000000 in
theorem pex9_no (n : Int) (nm : List UInt8) (A1 : Option Addr) (c1 : Nat) (ov : Value) (w0 w : World) (el0 el1 : El) (hk0 : KidP w A1 0 el0) (hk1 : KidP w A1 4 el1) (hr : Rel w0 w) (hb : ∀ w', Rel w w' → Calls Tryz.prog 57 #[ov, EV el0, EV el1] w' fun z w2 => z = FLV ∧ Rel w' w2) :
    Calls Tryz.prog 34 #[ov, .agg #[.int .i64 9, .int .i64 n, .string (B nm), .slice A1 2 c1]] w fun z w' => z = FLV ∧ Rel w0 w' := by
  have HR := Lib.hid hr
  have Hhb := Lib.hid hb
  obtain ⟨g, off, rfl⟩ := hk0.is
  have HK0 := Lib.hid (show KidP w (some ⟨g, off, none⟩) 0 el0 from hk0)
  have HK1 := Lib.hid (show KidP w (some ⟨g, off, none⟩) 4 el1 from hk1)
  have HS := Lib.hid (SB.new hr.self 38 #[.int .i64 9, .int .i64 n, .string (B nm), .slice (some ⟨g, off, none⟩) 2 c1])
  obtain ⟨W, hW⟩ : ∃ W, (w.alloc (.cells #[.int .i64 9, .int .i64 n, .string (B nm), .slice (some ⟨g, off, none⟩) 2 c1] 38)).alloc (.cells #[.int .i64 0, .bool false] 81) = W := ⟨_, rfl⟩
  rw [hW] at HS
  have hS9 := HS.out
  obtain ⟨⟨b0, b1, b2, b3⟩, _⟩ := hS9.2.1.four
  obtain ⟨x00, x01, x02, x03⟩ := (HK0.out.rel hS9.1).at0
  obtain ⟨x10, x11, x12, x13⟩ := (HK1.out.rel hS9.1).at
  clear hr hS9 hb hk0 hk1
  go_enter Tryz.func34, Tryz.ntmps34
  go_upto_region 16 with (fail)
  refine wp_region_held_drew (S := (fun w' => SB w w' 38 #[.int .i64 9, .int .i64 n, .string (B nm), .slice (some ⟨g, off, none⟩) 2 c1])) (by kernel_rfl) (HS.out.rel HS.out.1.right2.drew) (fun hHeld => ?_)
  refine held_take (i := 0) (v := ?_) (some 51) rfl rfl (by kernel_rfl) (by kernel_rfl) (by kernel_rfl) (fun _ _ _ h => h) (Or.inl ⟨by rfl, ?_⟩) hHeld ?_
  rotate_left 1
  · intro w' (h : SB w w' 38 #[.int .i64 9, .int .i64 n, .string (B nm), .slice (some ⟨g, off, none⟩) 2 c1]); obtain ⟨⟨u0, u1, u2, u3⟩, _⟩ := h.2.1.four; obtain ⟨v0, v1, v2, v3⟩ := (HK0.out.rel h.r).at0; obtain ⟨y0, y1, y2, y3⟩ := (HK1.out.rel h.r).at; go_simp; try with_reducible rfl
  try simp only [Act.put, List.setIfInBounds_toArray, List.set_cons_zero, List.set_cons_succ]
  refine held_take (i := 1) (v := ?_) (some 52) rfl rfl (by kernel_rfl) (by kernel_rfl) (by kernel_rfl) (fun _ _ _ h => h) (Or.inl ⟨by rfl, ?_⟩) hHeld ?_
  rotate_left 1
  · intro w' (h : SB w w' 38 #[.int .i64 9, .int .i64 n, .string (B nm), .slice (some ⟨g, off, none⟩) 2 c1]); obtain ⟨⟨u0, u1, u2, u3⟩, _⟩ := h.2.1.four; obtain ⟨v0, v1, v2, v3⟩ := (HK0.out.rel h.r).at0; obtain ⟨y0, y1, y2, y3⟩ := (HK1.out.rel h.r).at; go_simp; try with_reducible rfl
  try simp only [Act.put, List.setIfInBounds_toArray, List.set_cons_zero, List.set_cons_succ]
  refine held_take (i := 2) (v := ?_) (some 53) rfl rfl (by kernel_rfl) (by kernel_rfl) (by kernel_rfl) (fun _ _ _ h => h) (Or.inl ⟨by rfl, ?_⟩) hHeld ?_
  rotate_left 1
  · intro w' (h : SB w w' 38 #[.int .i64 9, .int .i64 n, .string (B nm), .slice (some ⟨g, off, none⟩) 2 c1]); obtain ⟨⟨u0, u1, u2, u3⟩, _⟩ := h.2.1.four; obtain ⟨v0, v1, v2, v3⟩ := (HK0.out.rel h.r).at0; obtain ⟨y0, y1, y2, y3⟩ := (HK1.out.rel h.r).at; go_simp; try with_reducible rfl
  try simp only [Act.put, List.setIfInBounds_toArray, List.set_cons_zero, List.set_cons_succ]
  refine held_take (i := 3) (v := ?_) (some 54) rfl rfl (by kernel_rfl) (by kernel_rfl) (by kernel_rfl) (fun _ _ _ h => h) (Or.inl ⟨by rfl, ?_⟩) hHeld ?_
  rotate_left 1
  · intro w' (h : SB w w' 38 #[.int .i64 9, .int .i64 n, .string (B nm), .slice (some ⟨g, off, none⟩) 2 c1]); obtain ⟨⟨u0, u1, u2, u3⟩, _⟩ := h.2.1.four; obtain ⟨v0, v1, v2, v3⟩ := (HK0.out.rel h.r).at0; obtain ⟨y0, y1, y2, y3⟩ := (HK1.out.rel h.r).at; go_simp; try with_reducible rfl
  try simp only [Act.put, List.setIfInBounds_toArray, List.set_cons_zero, List.set_cons_succ]
  refine held_take (i := 4) (v := ?_) (some 55) rfl rfl (by kernel_rfl) (by kernel_rfl) (by kernel_rfl) (fun _ _ _ h => h) (Or.inl ⟨by rfl, ?_⟩) hHeld ?_
  rotate_left 1
  · intro w' (h : SB w w' 38 #[.int .i64 9, .int .i64 n, .string (B nm), .slice (some ⟨g, off, none⟩) 2 c1]); obtain ⟨⟨u0, u1, u2, u3⟩, _⟩ := h.2.1.four; obtain ⟨v0, v1, v2, v3⟩ := (HK0.out.rel h.r).at0; obtain ⟨y0, y1, y2, y3⟩ := (HK1.out.rel h.r).at; go_simp; try with_reducible rfl
  try simp only [Act.put, List.setIfInBounds_toArray, List.set_cons_zero, List.set_cons_succ]
  refine held_take (i := 5) (v := ?_) (some 56) rfl rfl (by kernel_rfl) (by kernel_rfl) (by kernel_rfl) (fun _ _ _ h => h) (Or.inl ⟨by rfl, ?_⟩) hHeld ?_
  rotate_left 1
  · intro w' (h : SB w w' 38 #[.int .i64 9, .int .i64 n, .string (B nm), .slice (some ⟨g, off, none⟩) 2 c1]); obtain ⟨⟨u0, u1, u2, u3⟩, _⟩ := h.2.1.four; obtain ⟨v0, v1, v2, v3⟩ := (HK0.out.rel h.r).at0; obtain ⟨y0, y1, y2, y3⟩ := (HK1.out.rel h.r).at; go_simp; try with_reducible rfl
  try simp only [Act.put, List.setIfInBounds_toArray, List.set_cons_zero, List.set_cons_succ]
  refine held_take (i := 6) (v := ?_) (some 57) rfl rfl (by kernel_rfl) (by kernel_rfl) (by kernel_rfl) (fun _ _ _ h => h) (Or.inl ⟨by rfl, ?_⟩) hHeld ?_
  rotate_left 1
  · intro w' (h : SB w w' 38 #[.int .i64 9, .int .i64 n, .string (B nm), .slice (some ⟨g, off, none⟩) 2 c1]); obtain ⟨⟨u0, u1, u2, u3⟩, _⟩ := h.2.1.four; obtain ⟨v0, v1, v2, v3⟩ := (HK0.out.rel h.r).at0; obtain ⟨y0, y1, y2, y3⟩ := (HK1.out.rel h.r).at; go_simp; try with_reducible rfl
  try simp only [Act.put, List.setIfInBounds_toArray, List.set_cons_zero, List.set_cons_succ]
  refine held_take (i := 7) (v := ?_) (some 58) rfl rfl (by kernel_rfl) (by kernel_rfl) (by kernel_rfl) (fun _ _ _ h => h) (Or.inl ⟨by rfl, ?_⟩) hHeld ?_
  rotate_left 1
  · intro w' (h : SB w w' 38 #[.int .i64 9, .int .i64 n, .string (B nm), .slice (some ⟨g, off, none⟩) 2 c1]); obtain ⟨⟨u0, u1, u2, u3⟩, _⟩ := h.2.1.four; obtain ⟨v0, v1, v2, v3⟩ := (HK0.out.rel h.r).at0; obtain ⟨y0, y1, y2, y3⟩ := (HK1.out.rel h.r).at; go_simp; try with_reducible rfl
  try simp only [Act.put, List.setIfInBounds_toArray, List.set_cons_zero, List.set_cons_succ]
  refine held_take (i := 8) (v := ?_) (some 59) rfl rfl (by kernel_rfl) (by kernel_rfl) (by kernel_rfl) (fun _ _ _ h => h) (Or.inl ⟨by rfl, ?_⟩) hHeld ?_
  rotate_left 1
  · intro w' (h : SB w w' 38 #[.int .i64 9, .int .i64 n, .string (B nm), .slice (some ⟨g, off, none⟩) 2 c1]); obtain ⟨⟨u0, u1, u2, u3⟩, _⟩ := h.2.1.four; obtain ⟨v0, v1, v2, v3⟩ := (HK0.out.rel h.r).at0; obtain ⟨y0, y1, y2, y3⟩ := (HK1.out.rel h.r).at; go_simp; try with_reducible rfl
  try simp only [Act.put, List.setIfInBounds_toArray, List.set_cons_zero, List.set_cons_succ]
  refine held_one (j := 9) (by kernel_rfl) rfl (fun K hK => ?_)
  try simp only [List.getElem_toArray, List.getElem_cons_succ, List.getElem_cons_zero]
  rw [if_pos (by rfl)]
  go_simp
  go_at_call 57
  (with_reducible refine (Hhb.out _ hHeld.r).mono ?_)
  rintro e w1 ⟨rfl, h1⟩
  exact ⟨rfl, rfl, HR.out.trans (hHeld.r.trans h1)⟩
set_option maxRecDepth 100000 in
set_option maxHeartbeats 4000000 in
theorem pex9_ok (n : Int) (nm : List UInt8) (A1 : Option Addr) (c1 : Nat) (ov : Value) (w0 w : World) (el0 el1 : El) (hk0 : KidP w A1 0 el0) (hk1 : KidP w A1 4 el1) (hr : Rel w0 w) (V : Int) (b : Bool) (hb : ∀ w', Rel w w' → Calls Tryz.prog 57 #[ov, EV el0, EV el1] w' fun z w2 => z = .returned (.agg #[.int .i64 V, .bool b]) ∧ Rel w' w2) :
    Calls Tryz.prog 34 #[ov, .agg #[.int .i64 9, .int .i64 n, .string (B nm), .slice A1 2 c1]] w fun z w' => z = .returned (.agg #[.int .i64 V, .bool b]) ∧ Rel w0 w' := by
  have HR := Lib.hid hr
  have Hhb := Lib.hid hb
  obtain ⟨g, off, rfl⟩ := hk0.is
  have HK0 := Lib.hid (show KidP w (some ⟨g, off, none⟩) 0 el0 from hk0)
  have HK1 := Lib.hid (show KidP w (some ⟨g, off, none⟩) 4 el1 from hk1)
  have HS := Lib.hid (SB.new hr.self 38 #[.int .i64 9, .int .i64 n, .string (B nm), .slice (some ⟨g, off, none⟩) 2 c1])
  obtain ⟨W, hW⟩ : ∃ W, (w.alloc (.cells #[.int .i64 9, .int .i64 n, .string (B nm), .slice (some ⟨g, off, none⟩) 2 c1] 38)).alloc (.cells #[.int .i64 0, .bool false] 81) = W := ⟨_, rfl⟩
  rw [hW] at HS
  have hS9 := HS.out
  obtain ⟨⟨b0, b1, b2, b3⟩, _⟩ := hS9.2.1.four
  obtain ⟨x00, x01, x02, x03⟩ := (HK0.out.rel hS9.1).at0
  obtain ⟨x10, x11, x12, x13⟩ := (HK1.out.rel hS9.1).at
  clear hr hS9 hb hk0 hk1
  go_enter Tryz.func34, Tryz.ntmps34
  go_upto_region 16 with (fail)
  refine wp_region_held_drew (S := (fun w' => SB w w' 38 #[.int .i64 9, .int .i64 n, .string (B nm), .slice (some ⟨g, off, none⟩) 2 c1])) (by kernel_rfl) (HS.out.rel HS.out.1.right2.drew) (fun hHeld => ?_)
  refine held_take (i := 0) (v := ?_) (some 51) rfl rfl (by kernel_rfl) (by kernel_rfl) (by kernel_rfl) (fun _ _ _ h => h) (Or.inl ⟨by rfl, ?_⟩) hHeld ?_
  rotate_left 1
  · intro w' (h : SB w w' 38 #[.int .i64 9, .int .i64 n, .string (B nm), .slice (some ⟨g, off, none⟩) 2 c1]); obtain ⟨⟨u0, u1, u2, u3⟩, _⟩ := h.2.1.four; obtain ⟨v0, v1, v2, v3⟩ := (HK0.out.rel h.r).at0; obtain ⟨y0, y1, y2, y3⟩ := (HK1.out.rel h.r).at; go_simp; try with_reducible rfl
  try simp only [Act.put, List.setIfInBounds_toArray, List.set_cons_zero, List.set_cons_succ]
  refine held_take (i := 1) (v := ?_) (some 52) rfl rfl (by kernel_rfl) (by kernel_rfl) (by kernel_rfl) (fun _ _ _ h => h) (Or.inl ⟨by rfl, ?_⟩) hHeld ?_
  rotate_left 1
  · intro w' (h : SB w w' 38 #[.int .i64 9, .int .i64 n, .string (B nm), .slice (some ⟨g, off, none⟩) 2 c1]); obtain ⟨⟨u0, u1, u2, u3⟩, _⟩ := h.2.1.four; obtain ⟨v0, v1, v2, v3⟩ := (HK0.out.rel h.r).at0; obtain ⟨y0, y1, y2, y3⟩ := (HK1.out.rel h.r).at; go_simp; try with_reducible rfl
  try simp only [Act.put, List.setIfInBounds_toArray, List.set_cons_zero, List.set_cons_succ]
  refine held_take (i := 2) (v := ?_) (some 53) rfl rfl (by kernel_rfl) (by kernel_rfl) (by kernel_rfl) (fun _ _ _ h => h) (Or.inl ⟨by rfl, ?_⟩) hHeld ?_
  rotate_left 1
  · intro w' (h : SB w w' 38 #[.int .i64 9, .int .i64 n, .string (B nm), .slice (some ⟨g, off, none⟩) 2 c1]); obtain ⟨⟨u0, u1, u2, u3⟩, _⟩ := h.2.1.four; obtain ⟨v0, v1, v2, v3⟩ := (HK0.out.rel h.r).at0; obtain ⟨y0, y1, y2, y3⟩ := (HK1.out.rel h.r).at; go_simp; try with_reducible rfl
  try simp only [Act.put, List.setIfInBounds_toArray, List.set_cons_zero, List.set_cons_succ]
  refine held_take (i := 3) (v := ?_) (some 54) rfl rfl (by kernel_rfl) (by kernel_rfl) (by kernel_rfl) (fun _ _ _ h => h) (Or.inl ⟨by rfl, ?_⟩) hHeld ?_
  rotate_left 1
  · intro w' (h : SB w w' 38 #[.int .i64 9, .int .i64 n, .string (B nm), .slice (some ⟨g, off, none⟩) 2 c1]); obtain ⟨⟨u0, u1, u2, u3⟩, _⟩ := h.2.1.four; obtain ⟨v0, v1, v2, v3⟩ := (HK0.out.rel h.r).at0; obtain ⟨y0, y1, y2, y3⟩ := (HK1.out.rel h.r).at; go_simp; try with_reducible rfl
  try simp only [Act.put, List.setIfInBounds_toArray, List.set_cons_zero, List.set_cons_succ]
  refine held_take (i := 4) (v := ?_) (some 55) rfl rfl (by kernel_rfl) (by kernel_rfl) (by kernel_rfl) (fun _ _ _ h => h) (Or.inl ⟨by rfl, ?_⟩) hHeld ?_
  rotate_left 1
  · intro w' (h : SB w w' 38 #[.int .i64 9, .int .i64 n, .string (B nm), .slice (some ⟨g, off, none⟩) 2 c1]); obtain ⟨⟨u0, u1, u2, u3⟩, _⟩ := h.2.1.four; obtain ⟨v0, v1, v2, v3⟩ := (HK0.out.rel h.r).at0; obtain ⟨y0, y1, y2, y3⟩ := (HK1.out.rel h.r).at; go_simp; try with_reducible rfl
  try simp only [Act.put, List.setIfInBounds_toArray, List.set_cons_zero, List.set_cons_succ]
  refine held_take (i := 5) (v := ?_) (some 56) rfl rfl (by kernel_rfl) (by kernel_rfl) (by kernel_rfl) (fun _ _ _ h => h) (Or.inl ⟨by rfl, ?_⟩) hHeld ?_
  rotate_left 1
  · intro w' (h : SB w w' 38 #[.int .i64 9, .int .i64 n, .string (B nm), .slice (some ⟨g, off, none⟩) 2 c1]); obtain ⟨⟨u0, u1, u2, u3⟩, _⟩ := h.2.1.four; obtain ⟨v0, v1, v2, v3⟩ := (HK0.out.rel h.r).at0; obtain ⟨y0, y1, y2, y3⟩ := (HK1.out.rel h.r).at; go_simp; try with_reducible rfl
  try simp only [Act.put, List.setIfInBounds_toArray, List.set_cons_zero, List.set_cons_succ]
  refine held_take (i := 6) (v := ?_) (some 57) rfl rfl (by kernel_rfl) (by kernel_rfl) (by kernel_rfl) (fun _ _ _ h => h) (Or.inl ⟨by rfl, ?_⟩) hHeld ?_
  rotate_left 1
  · intro w' (h : SB w w' 38 #[.int .i64 9, .int .i64 n, .string (B nm), .slice (some ⟨g, off, none⟩) 2 c1]); obtain ⟨⟨u0, u1, u2, u3⟩, _⟩ := h.2.1.four; obtain ⟨v0, v1, v2, v3⟩ := (HK0.out.rel h.r).at0; obtain ⟨y0, y1, y2, y3⟩ := (HK1.out.rel h.r).at; go_simp; try with_reducible rfl
  try simp only [Act.put, List.setIfInBounds_toArray, List.set_cons_zero, List.set_cons_succ]
  refine held_take (i := 7) (v := ?_) (some 58) rfl rfl (by kernel_rfl) (by kernel_rfl) (by kernel_rfl) (fun _ _ _ h => h) (Or.inl ⟨by rfl, ?_⟩) hHeld ?_
  rotate_left 1
  · intro w' (h : SB w w' 38 #[.int .i64 9, .int .i64 n, .string (B nm), .slice (some ⟨g, off, none⟩) 2 c1]); obtain ⟨⟨u0, u1, u2, u3⟩, _⟩ := h.2.1.four; obtain ⟨v0, v1, v2, v3⟩ := (HK0.out.rel h.r).at0; obtain ⟨y0, y1, y2, y3⟩ := (HK1.out.rel h.r).at; go_simp; try with_reducible rfl
  try simp only [Act.put, List.setIfInBounds_toArray, List.set_cons_zero, List.set_cons_succ]
  refine held_take (i := 8) (v := ?_) (some 59) rfl rfl (by kernel_rfl) (by kernel_rfl) (by kernel_rfl) (fun _ _ _ h => h) (Or.inl ⟨by rfl, ?_⟩) hHeld ?_
  rotate_left 1
  · intro w' (h : SB w w' 38 #[.int .i64 9, .int .i64 n, .string (B nm), .slice (some ⟨g, off, none⟩) 2 c1]); obtain ⟨⟨u0, u1, u2, u3⟩, _⟩ := h.2.1.four; obtain ⟨v0, v1, v2, v3⟩ := (HK0.out.rel h.r).at0; obtain ⟨y0, y1, y2, y3⟩ := (HK1.out.rel h.r).at; go_simp; try with_reducible rfl
  try simp only [Act.put, List.setIfInBounds_toArray, List.set_cons_zero, List.set_cons_succ]
  refine held_one (j := 9) (by kernel_rfl) rfl (fun K hK => ?_)
  try simp only [List.getElem_toArray, List.getElem_cons_succ, List.getElem_cons_zero]
  rw [if_pos (by rfl)]
  go_simp
  go_at_call 57
  (with_reducible refine (Hhb.out _ hHeld.r).mono ?_)
  rintro e w1 ⟨rfl, h1⟩
  have hS9 := hHeld.rel h1
  obtain ⟨a9, b9, hb9⟩ := hS9.2.2
  obtain ⟨⟨d0, d1⟩, e0, e1⟩ := hb9.two
  clear hb9
  refine hK.out _ _ hS9 (fun hHeld => ?_)
  clear hK K
  try simp only [Act.put, List.setIfInBounds_toArray, List.set_cons_zero, List.set_cons_succ]
  refine held_one (j := 10) (by kernel_rfl) rfl (fun K hK => ?_)
  try simp only [List.getElem_toArray, List.getElem_cons_succ, List.getElem_cons_zero]
  rw [if_pos (by rfl)]
  go_simp
  refine hK.out _ _ (hS9.put _ _) (fun hHeld => ?_)
  clear hK K
  try simp only [Act.put, List.setIfInBounds_toArray, List.set_cons_zero, List.set_cons_succ]
  refine wpAnyH_done (by kernel_rfl) ?_ _
  go_wp2_with (fail)
  exact bodyPost_ret (v := .agg #[.int .i64 V, .bool b]) (by simp [results, Tryz.results34, go_sem, d0, d1]) rfl ⟨rfl, HR.out.trans hHeld.r⟩
set_option maxRecDepth 100000 in
set_option maxHeartbeats 4000000 in
theorem pex10_no (n : Int) (nm : List UInt8) (A1 : Option Addr) (c1 : Nat) (ov : Value) (w0 w : World) (el0 : El) (hk0 : KidP w A1 0 el0) (hr : Rel w0 w) (hb : ∀ w', Rel w w' → Calls Tryz.prog 58 #[ov, EV el0] w' fun z w2 => z = FLV ∧ Rel w' w2) :
    Calls Tryz.prog 34 #[ov, .agg #[.int .i64 10, .int .i64 n, .string (B nm), .slice A1 3 c1]] w fun z w' => z = FLV ∧ Rel w0 w' := by
  have HR := Lib.hid hr
  have Hhb := Lib.hid hb
  obtain ⟨g, off, rfl⟩ := hk0.is
  have HK0 := Lib.hid (show KidP w (some ⟨g, off, none⟩) 0 el0 from hk0)
  have HS := Lib.hid (SB.new hr.self 38 #[.int .i64 10, .int .i64 n, .string (B nm), .slice (some ⟨g, off, none⟩) 3 c1])
  obtain ⟨W, hW⟩ : ∃ W, (w.alloc (.cells #[.int .i64 10, .int .i64 n, .string (B nm), .slice (some ⟨g, off, none⟩) 3 c1] 38)).alloc (.cells #[.int .i64 0, .bool false] 81) = W := ⟨_, rfl⟩
  rw [hW] at HS
  have hS9 := HS.out
  obtain ⟨⟨b0, b1, b2, b3⟩, _⟩ := hS9.2.1.four
  obtain ⟨x00, x01, x02, x03⟩ := (HK0.out.rel hS9.1).at0
  clear hr hS9 hb hk0
  go_enter Tryz.func34, Tryz.ntmps34
  go_wp2_with (first
    | (go_at_call 58; (with_reducible refine (Hhb.out _ HS.out.r).mono ?_); rintro e w1 ⟨rfl, h1⟩; have HS1 := Lib.hid (HS.out.rel h1)))
  exact ⟨rfl, rfl, HR.out.trans HS1.out.r⟩
set_option maxRecDepth 100000 in
set_option maxHeartbeats 4000000 in
theorem pex10_true_no (n : Int) (nm : List UInt8) (A1 : Option Addr) (c1 : Nat) (ov : Value) (w0 w : World) (el0 el1 : El) (hk0 : KidP w A1 0 el0) (hk1 : KidP w A1 4 el1) (hr : Rel w0 w) (hb : ∀ w', Rel w w' → Calls Tryz.prog 58 #[ov, EV el0] w' fun z w2 => z = .returned (.bool true) ∧ Rel w' w2) (hb2 : ∀ w', Rel w w' → Calls Tryz.prog 34 #[ov, EV el1] w' fun z w2 => z = FLV ∧ Rel w' w2) :
    Calls Tryz.prog 34 #[ov, .agg #[.int .i64 10, .int .i64 n, .string (B nm), .slice A1 3 c1]] w fun z w' => z = FLV ∧ Rel w0 w' := by
  have HR := Lib.hid hr
  have Hhb := Lib.hid hb
  have Hhb2 := Lib.hid hb2
  obtain ⟨g, off, rfl⟩ := hk0.is
  have HK0 := Lib.hid (show KidP w (some ⟨g, off, none⟩) 0 el0 from hk0)
  have HK1 := Lib.hid (show KidP w (some ⟨g, off, none⟩) 4 el1 from hk1)
  have HS := Lib.hid (SB.new hr.self 38 #[.int .i64 10, .int .i64 n, .string (B nm), .slice (some ⟨g, off, none⟩) 3 c1])
  obtain ⟨W, hW⟩ : ∃ W, (w.alloc (.cells #[.int .i64 10, .int .i64 n, .string (B nm), .slice (some ⟨g, off, none⟩) 3 c1] 38)).alloc (.cells #[.int .i64 0, .bool false] 81) = W := ⟨_, rfl⟩
  rw [hW] at HS
  have hS9 := HS.out
  obtain ⟨⟨b0, b1, b2, b3⟩, _⟩ := hS9.2.1.four
  obtain ⟨x00, x01, x02, x03⟩ := (HK0.out.rel hS9.1).at0
  obtain ⟨x10, x11, x12, x13⟩ := (HK1.out.rel hS9.1).at
  clear hr hS9 hb hb2 hk0 hk1
  go_enter Tryz.func34, Tryz.ntmps34
  go_wp2_with (first
    | (go_at_call 58; (with_reducible refine (Hhb.out _ HS.out.r).mono ?_); rintro e w1 ⟨rfl, h1⟩; have HS1 := Lib.hid (HS.out.rel h1); obtain ⟨⟨u0, u1, u2, u3⟩, _⟩ := HS1.out.2.1.four; obtain ⟨y0, y1, y2, y3⟩ := (HK1.out.rel HS1.out.r).at)
    | (go_at_call 34; (with_reducible refine (Hhb2.out _ HS1.out.r).mono ?_); rintro e w2 ⟨rfl, h2⟩; have HS2 := Lib.hid (HS1.out.rel h2)))
  exact ⟨rfl, rfl, HR.out.trans HS2.out.r⟩
set_option maxRecDepth 100000 in
set_option maxHeartbeats 4000000 in
theorem pex10_true_ok (n : Int) (nm : List UInt8) (A1 : Option Addr) (c1 : Nat) (ov : Value) (w0 w : World) (el0 el1 : El) (hk0 : KidP w A1 0 el0) (hk1 : KidP w A1 4 el1) (hr : Rel w0 w) (V : Int) (b : Bool) (hb : ∀ w', Rel w w' → Calls Tryz.prog 58 #[ov, EV el0] w' fun z w2 => z = .returned (.bool true) ∧ Rel w' w2) (hb2 : ∀ w', Rel w w' → Calls Tryz.prog 34 #[ov, EV el1] w' fun z w2 => z = .returned (.agg #[.int .i64 V, .bool b]) ∧ Rel w' w2) :
    Calls Tryz.prog 34 #[ov, .agg #[.int .i64 10, .int .i64 n, .string (B nm), .slice A1 3 c1]] w fun z w' => z = .returned (.agg #[.int .i64 V, .bool b]) ∧ Rel w0 w' := by
  have HR := Lib.hid hr
  have Hhb := Lib.hid hb
  have Hhb2 := Lib.hid hb2
  obtain ⟨g, off, rfl⟩ := hk0.is
  have HK0 := Lib.hid (show KidP w (some ⟨g, off, none⟩) 0 el0 from hk0)
  have HK1 := Lib.hid (show KidP w (some ⟨g, off, none⟩) 4 el1 from hk1)
  have HS := Lib.hid (SB.new hr.self 38 #[.int .i64 10, .int .i64 n, .string (B nm), .slice (some ⟨g, off, none⟩) 3 c1])
  obtain ⟨W, hW⟩ : ∃ W, (w.alloc (.cells #[.int .i64 10, .int .i64 n, .string (B nm), .slice (some ⟨g, off, none⟩) 3 c1] 38)).alloc (.cells #[.int .i64 0, .bool false] 81) = W := ⟨_, rfl⟩
  rw [hW] at HS
  have hS9 := HS.out
  obtain ⟨⟨b0, b1, b2, b3⟩, _⟩ := hS9.2.1.four
  obtain ⟨x00, x01, x02, x03⟩ := (HK0.out.rel hS9.1).at0
  obtain ⟨x10, x11, x12, x13⟩ := (HK1.out.rel hS9.1).at
  clear hr hS9 hb hb2 hk0 hk1
  go_enter Tryz.func34, Tryz.ntmps34
  go_wp2_with (first
    | (go_at_call 58; (with_reducible refine (Hhb.out _ HS.out.r).mono ?_); rintro e w1 ⟨rfl, h1⟩; have HS1 := Lib.hid (HS.out.rel h1); obtain ⟨⟨u0, u1, u2, u3⟩, _⟩ := HS1.out.2.1.four; obtain ⟨y0, y1, y2, y3⟩ := (HK1.out.rel HS1.out.r).at)
    | (go_at_call 34; (with_reducible refine (Hhb2.out _ HS1.out.r).mono ?_); rintro e w2 ⟨rfl, h2⟩; have HS2 := Lib.hid (HS1.out.rel h2); have hS9 := HS2.out; obtain ⟨a9, b9, hb9⟩ := hS9.2.2; obtain ⟨⟨d0, d1⟩, e0, e1⟩ := hb9.two; clear hS9 hb9))
  exact bodyPost_ret (v := .agg #[.int .i64 V, .bool b]) (by simp [results, Tryz.results34, go_sem, d0, d1]) rfl ⟨rfl, HR.out.trans (HS2.out.put _ _).1⟩
set_option maxRecDepth 100000 in
set_option maxHeartbeats 4000000 in
theorem pex10_false_no (n : Int) (nm : List UInt8) (A1 : Option Addr) (c1 : Nat) (ov : Value) (w0 w : World) (el0 el2 : El) (hk0 : KidP w A1 0 el0) (hk2 : KidP w A1 8 el2) (hr : Rel w0 w) (hb : ∀ w', Rel w w' → Calls Tryz.prog 58 #[ov, EV el0] w' fun z w2 => z = .returned (.bool false) ∧ Rel w' w2) (hb2 : ∀ w', Rel w w' → Calls Tryz.prog 34 #[ov, EV el2] w' fun z w2 => z = FLV ∧ Rel w' w2) :
    Calls Tryz.prog 34 #[ov, .agg #[.int .i64 10, .int .i64 n, .string (B nm), .slice A1 3 c1]] w fun z w' => z = FLV ∧ Rel w0 w' := by
  have HR := Lib.hid hr
  have Hhb := Lib.hid hb
  have Hhb2 := Lib.hid hb2
  obtain ⟨g, off, rfl⟩ := hk0.is
  have HK0 := Lib.hid (show KidP w (some ⟨g, off, none⟩) 0 el0 from hk0)
  have HK2 := Lib.hid (show KidP w (some ⟨g, off, none⟩) 8 el2 from hk2)
  have HS := Lib.hid (SB.new hr.self 38 #[.int .i64 10, .int .i64 n, .string (B nm), .slice (some ⟨g, off, none⟩) 3 c1])
  obtain ⟨W, hW⟩ : ∃ W, (w.alloc (.cells #[.int .i64 10, .int .i64 n, .string (B nm), .slice (some ⟨g, off, none⟩) 3 c1] 38)).alloc (.cells #[.int .i64 0, .bool false] 81) = W := ⟨_, rfl⟩
  rw [hW] at HS
  have hS9 := HS.out
  obtain ⟨⟨b0, b1, b2, b3⟩, _⟩ := hS9.2.1.four
  obtain ⟨x00, x01, x02, x03⟩ := (HK0.out.rel hS9.1).at0
  obtain ⟨x20, x21, x22, x23⟩ := (HK2.out.rel hS9.1).at
  clear hr hS9 hb hb2 hk0 hk2
  go_enter Tryz.func34, Tryz.ntmps34
  go_wp2_with (first
    | (go_at_call 58; (with_reducible refine (Hhb.out _ HS.out.r).mono ?_); rintro e w1 ⟨rfl, h1⟩; have HS1 := Lib.hid (HS.out.rel h1); obtain ⟨⟨u0, u1, u2, u3⟩, _⟩ := HS1.out.2.1.four; obtain ⟨y0, y1, y2, y3⟩ := (HK2.out.rel HS1.out.r).at)
    | (go_at_call 34; (with_reducible refine (Hhb2.out _ HS1.out.r).mono ?_); rintro e w2 ⟨rfl, h2⟩; have HS2 := Lib.hid (HS1.out.rel h2)))
  exact ⟨rfl, rfl, HR.out.trans HS2.out.r⟩
set_option maxRecDepth 100000 in
set_option maxHeartbeats 4000000 in
theorem pex10_false_ok (n : Int) (nm : List UInt8) (A1 : Option Addr) (c1 : Nat) (ov : Value) (w0 w : World) (el0 el2 : El) (hk0 : KidP w A1 0 el0) (hk2 : KidP w A1 8 el2) (hr : Rel w0 w) (V : Int) (b : Bool) (hb : ∀ w', Rel w w' → Calls Tryz.prog 58 #[ov, EV el0] w' fun z w2 => z = .returned (.bool false) ∧ Rel w' w2) (hb2 : ∀ w', Rel w w' → Calls Tryz.prog 34 #[ov, EV el2] w' fun z w2 => z = .returned (.agg #[.int .i64 V, .bool b]) ∧ Rel w' w2) :
    Calls Tryz.prog 34 #[ov, .agg #[.int .i64 10, .int .i64 n, .string (B nm), .slice A1 3 c1]] w fun z w' => z = .returned (.agg #[.int .i64 V, .bool b]) ∧ Rel w0 w' := by
  have HR := Lib.hid hr
  have Hhb := Lib.hid hb
  have Hhb2 := Lib.hid hb2
  obtain ⟨g, off, rfl⟩ := hk0.is
  have HK0 := Lib.hid (show KidP w (some ⟨g, off, none⟩) 0 el0 from hk0)
  have HK2 := Lib.hid (show KidP w (some ⟨g, off, none⟩) 8 el2 from hk2)
  have HS := Lib.hid (SB.new hr.self 38 #[.int .i64 10, .int .i64 n, .string (B nm), .slice (some ⟨g, off, none⟩) 3 c1])
  obtain ⟨W, hW⟩ : ∃ W, (w.alloc (.cells #[.int .i64 10, .int .i64 n, .string (B nm), .slice (some ⟨g, off, none⟩) 3 c1] 38)).alloc (.cells #[.int .i64 0, .bool false] 81) = W := ⟨_, rfl⟩
  rw [hW] at HS
  have hS9 := HS.out
  obtain ⟨⟨b0, b1, b2, b3⟩, _⟩ := hS9.2.1.four
  obtain ⟨x00, x01, x02, x03⟩ := (HK0.out.rel hS9.1).at0
  obtain ⟨x20, x21, x22, x23⟩ := (HK2.out.rel hS9.1).at
  clear hr hS9 hb hb2 hk0 hk2
  go_enter Tryz.func34, Tryz.ntmps34
  go_wp2_with (first
    | (go_at_call 58; (with_reducible refine (Hhb.out _ HS.out.r).mono ?_); rintro e w1 ⟨rfl, h1⟩; have HS1 := Lib.hid (HS.out.rel h1); obtain ⟨⟨u0, u1, u2, u3⟩, _⟩ := HS1.out.2.1.four; obtain ⟨y0, y1, y2, y3⟩ := (HK2.out.rel HS1.out.r).at)
    | (go_at_call 34; (with_reducible refine (Hhb2.out _ HS1.out.r).mono ?_); rintro e w2 ⟨rfl, h2⟩; have HS2 := Lib.hid (HS1.out.rel h2); have hS9 := HS2.out; obtain ⟨a9, b9, hb9⟩ := hS9.2.2; obtain ⟨⟨d0, d1⟩, e0, e1⟩ := hb9.two; clear hS9 hb9))
  exact bodyPost_ret (v := .agg #[.int .i64 V, .bool b]) (by simp [results, Tryz.results34, go_sem, d0, d1]) rfl ⟨rfl, HR.out.trans (HS2.out.put _ _).1⟩
end Go.Proofs.YtcckemhelockaaaGreatDoor
