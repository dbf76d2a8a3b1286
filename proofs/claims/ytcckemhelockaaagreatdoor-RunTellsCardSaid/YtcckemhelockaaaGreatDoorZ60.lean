/- The document's own machine of layer 11: two. -/
import Derived.Test.YtcckemhelockaaaGreatDoorZL
import Derived.Test.YtcckemhelockaaaGreatDoorZ00
import Derived.Test.YtcckemhelockaaaGreatDoorZ01
import Derived.Test.YtcckemhelockaaaGreatDoorZ02
import Derived.Test.YtcckemhelockaaaGreatDoorZ03
import Derived.Test.YtcckemhelockaaaGreatDoorZ59
namespace Go.Proofs.YtcckemhelockaaaGreatDoor
open Go.RowKit Go.Lib
set_option linter.unusedVariables false
set_option linter.unusedSimpArgs false
theorem take_len (s : Ms) : (takeM s).2.1.length ≤ s.1.length := by
  unfold takeM
  split
  · split
    · exact Nat.le_refl _
    · simp only; rw [List.length_dropLast]; omega
  · exact Nat.le_refl _
/-- A take, told spelled. -/
theorem rtake_as (b : Nat) (s s1 : Ms) (c : Ce) (n : Int) (i : Bool) (ht : Hid (takeM s = (c, s1) ∧ c.getD 0 = n ∧ c.isSome = i)) (hs : s.1.length ≤ 1000) (w0 w : World) (hr : Rel w0 w) (h : Mr w w0.heap.size b s) :
    Calls Tryz.prog 88 #[.pointer (some ⟨b, 0, none⟩)] w fun r w' => r = .returned (.agg #[.int .i64 n, .bool i]) ∧ Mr w' w0.heap.size b s1 ∧ Rel w0 w' ∧ Kt b w w' := by
  obtain ⟨h1, h2, h3⟩ := ht.out
  subst h2 h3
  have := rtake_any b s hs w0 w hr h
  rw [h1] at this
  exact this
set_option maxRecDepth 100000 in
set_option maxHeartbeats 4000000 in
theorem rtwo_11g (b : Nat) (s s1 s2 : Ms) (v1 : Int) (v2 : Int) (hc : v1 < v2) (h1 : takeM s = (some v1, s1)) (h2 : takeM s1 = (some v2, s2)) (hs : s.1.length ≤ 1000) (w0 w : World) (hr : Rel w0 w) (h : Mr w w0.heap.size b s) :
    Calls Tryz.prog 89 #[.pointer (some ⟨b, 0, none⟩), .int .i64 11] w fun r w' => r = .returned (.tuple #[]) ∧ Mr w' w0.heap.size b (putM s2 (some 1)) ∧ Rel w0 w' ∧ Kx b w w' := by
  have HM := Lib.hid h
  have HR := Lib.hid hr
  have hl1 : s1.1.length ≤ 1000 := by have := take_len s; rw [h1] at this; simp only at this; omega
  have hl2 : s2.1.length ≤ 1000 := by have := take_len s1; rw [h2] at this; simp only at this; omega
  have HT1 := Lib.hid (show takeM s = (some v1, s1) ∧ (some v1 : Ce).getD 0 = v1 ∧ (some v1 : Ce).isSome = true from ⟨h1, rfl, rfl⟩)
  have HT2 := Lib.hid (show takeM s1 = (some v2, s2) ∧ (some v2 : Ce).getD 0 = v2 ∧ (some v2 : Ce).isSome = true from ⟨h2, rfl, rfl⟩)
  clear h1 h2 h hr
  go_enter Tryz.func89, Tryz.ntmps89
  go_upto_region 1 with (go_at_call 88; (with_reducible refine (rtake_as b s s1 _ v1 true HT1 hs w0 _ HR.out HM.out).mono ?_); rintro r w1 ⟨rfl, m1, r1, k1⟩)
  have M1 := Lib.hid (m1.alloc (.cells #[.int .i64 v1, .bool true] 66))
  have R1 := Lib.hid (r1.alloc (.cells #[.int .i64 v1, .bool true] 66))
  have K1 := Lib.hid (k1.alloc (.cells #[.int .i64 v1, .bool true] 66))
  have HX1 := Lib.hid (Bk.new w1 66 #[.int .i64 v1, .bool true])
  have hb1 : w1.heap.size ≠ b := by have := m1.lt; omega
  clear m1 r1 k1
  go_upto_region 2 with (go_at_call 88; (with_reducible refine (rtake_as b s1 s2 _ v2 true HT2 hl1 w0 _ R1.out M1.out).mono ?_); rintro r w2 ⟨rfl, m2, r2, k2⟩)
  have M2 := Lib.hid (m2.alloc (.cells #[.int .i64 v2, .bool true] 66))
  have R2 := Lib.hid (r2.alloc (.cells #[.int .i64 v2, .bool true] 66))
  have K2 := Lib.hid (K1.out.trans (k2.alloc (.cells #[.int .i64 v2, .bool true] 66)))
  have HX2 := Lib.hid ((k2.bk HX1.out hb1).alloc (.cells #[.int .i64 v2, .bool true] 66))
  have HY2 := Lib.hid (Bk.new w2 66 #[.int .i64 v2, .bool true])
  obtain ⟨⟨x0, x1⟩, _⟩ := HX2.out.two
  obtain ⟨⟨y0, y1⟩, _⟩ := HY2.out.two
  clear m2 r2 k2
  go_wp2_with (go_at_call 86; (with_reducible refine (rput_any b s2 (1) true (some 1) (fun _ => ⟨rfl, rfl⟩) hl2 w0 _ R2.out M2.out).mono ?_); rintro r w3 ⟨rfl, m3, r3, k3⟩)
  go_end0
  exact ⟨rfl, m3, r3, (K2.out.kr (T := 66)).trans k3⟩
set_option maxRecDepth 100000 in
set_option maxHeartbeats 4000000 in
theorem rtwo_11l (b : Nat) (s s1 s2 : Ms) (v1 : Int) (v2 : Int) (hc : ¬ v1 < v2) (h1 : takeM s = (some v1, s1)) (h2 : takeM s1 = (some v2, s2)) (hs : s.1.length ≤ 1000) (w0 w : World) (hr : Rel w0 w) (h : Mr w w0.heap.size b s) :
    Calls Tryz.prog 89 #[.pointer (some ⟨b, 0, none⟩), .int .i64 11] w fun r w' => r = .returned (.tuple #[]) ∧ Mr w' w0.heap.size b (putM s2 (some 0)) ∧ Rel w0 w' ∧ Kx b w w' := by
  have HM := Lib.hid h
  have HR := Lib.hid hr
  have hl1 : s1.1.length ≤ 1000 := by have := take_len s; rw [h1] at this; simp only at this; omega
  have hl2 : s2.1.length ≤ 1000 := by have := take_len s1; rw [h2] at this; simp only at this; omega
  have HT1 := Lib.hid (show takeM s = (some v1, s1) ∧ (some v1 : Ce).getD 0 = v1 ∧ (some v1 : Ce).isSome = true from ⟨h1, rfl, rfl⟩)
  have HT2 := Lib.hid (show takeM s1 = (some v2, s2) ∧ (some v2 : Ce).getD 0 = v2 ∧ (some v2 : Ce).isSome = true from ⟨h2, rfl, rfl⟩)
  clear h1 h2 h hr
  go_enter Tryz.func89, Tryz.ntmps89
  go_upto_region 1 with (go_at_call 88; (with_reducible refine (rtake_as b s s1 _ v1 true HT1 hs w0 _ HR.out HM.out).mono ?_); rintro r w1 ⟨rfl, m1, r1, k1⟩)
  have M1 := Lib.hid (m1.alloc (.cells #[.int .i64 v1, .bool true] 66))
  have R1 := Lib.hid (r1.alloc (.cells #[.int .i64 v1, .bool true] 66))
  have K1 := Lib.hid (k1.alloc (.cells #[.int .i64 v1, .bool true] 66))
  have HX1 := Lib.hid (Bk.new w1 66 #[.int .i64 v1, .bool true])
  have hb1 : w1.heap.size ≠ b := by have := m1.lt; omega
  clear m1 r1 k1
  go_upto_region 2 with (go_at_call 88; (with_reducible refine (rtake_as b s1 s2 _ v2 true HT2 hl1 w0 _ R1.out M1.out).mono ?_); rintro r w2 ⟨rfl, m2, r2, k2⟩)
  have M2 := Lib.hid (m2.alloc (.cells #[.int .i64 v2, .bool true] 66))
  have R2 := Lib.hid (r2.alloc (.cells #[.int .i64 v2, .bool true] 66))
  have K2 := Lib.hid (K1.out.trans (k2.alloc (.cells #[.int .i64 v2, .bool true] 66)))
  have HX2 := Lib.hid ((k2.bk HX1.out hb1).alloc (.cells #[.int .i64 v2, .bool true] 66))
  have HY2 := Lib.hid (Bk.new w2 66 #[.int .i64 v2, .bool true])
  obtain ⟨⟨x0, x1⟩, _⟩ := HX2.out.two
  obtain ⟨⟨y0, y1⟩, _⟩ := HY2.out.two
  clear m2 r2 k2
  go_wp2_with (go_at_call 86; (with_reducible refine (rput_any b s2 (0) true (some 0) (fun _ => ⟨rfl, rfl⟩) hl2 w0 _ R2.out M2.out).mono ?_); rintro r w3 ⟨rfl, m3, r3, k3⟩)
  go_end0
  exact ⟨rfl, m3, r3, (K2.out.kr (T := 66)).trans k3⟩
set_option maxRecDepth 100000 in
set_option maxHeartbeats 4000000 in
theorem rtwo_11_00 (b : Nat) (s s1 s2 : Ms)   (h1 : takeM s = (none, s1)) (h2 : takeM s1 = (none, s2)) (hs : s.1.length ≤ 1000) (w0 w : World) (hr : Rel w0 w) (h : Mr w w0.heap.size b s) :
    Calls Tryz.prog 89 #[.pointer (some ⟨b, 0, none⟩), .int .i64 11] w fun r w' => r = .returned (.tuple #[]) ∧ Mr w' w0.heap.size b (putM s2 (some 0)) ∧ Rel w0 w' ∧ Kx b w w' := by
  have HM := Lib.hid h
  have HR := Lib.hid hr
  have hl1 : s1.1.length ≤ 1000 := by have := take_len s; rw [h1] at this; simp only at this; omega
  have hl2 : s2.1.length ≤ 1000 := by have := take_len s1; rw [h2] at this; simp only at this; omega
  have HT1 := Lib.hid (show takeM s = (none, s1) ∧ (none : Ce).getD 0 = 0 ∧ (none : Ce).isSome = false from ⟨h1, rfl, rfl⟩)
  have HT2 := Lib.hid (show takeM s1 = (none, s2) ∧ (none : Ce).getD 0 = 0 ∧ (none : Ce).isSome = false from ⟨h2, rfl, rfl⟩)
  clear h1 h2 h hr
  go_enter Tryz.func89, Tryz.ntmps89
  go_upto_region 1 with (go_at_call 88; (with_reducible refine (rtake_as b s s1 _ 0 false HT1 hs w0 _ HR.out HM.out).mono ?_); rintro r w1 ⟨rfl, m1, r1, k1⟩)
  have M1 := Lib.hid (m1.alloc (.cells #[.int .i64 0, .bool false] 66))
  have R1 := Lib.hid (r1.alloc (.cells #[.int .i64 0, .bool false] 66))
  have K1 := Lib.hid (k1.alloc (.cells #[.int .i64 0, .bool false] 66))
  have HX1 := Lib.hid (Bk.new w1 66 #[.int .i64 0, .bool false])
  have hb1 : w1.heap.size ≠ b := by have := m1.lt; omega
  clear m1 r1 k1
  go_upto_region 2 with (go_at_call 88; (with_reducible refine (rtake_as b s1 s2 _ 0 false HT2 hl1 w0 _ R1.out M1.out).mono ?_); rintro r w2 ⟨rfl, m2, r2, k2⟩)
  have M2 := Lib.hid (m2.alloc (.cells #[.int .i64 0, .bool false] 66))
  have R2 := Lib.hid (r2.alloc (.cells #[.int .i64 0, .bool false] 66))
  have K2 := Lib.hid (K1.out.trans (k2.alloc (.cells #[.int .i64 0, .bool false] 66)))
  have HX2 := Lib.hid ((k2.bk HX1.out hb1).alloc (.cells #[.int .i64 0, .bool false] 66))
  have HY2 := Lib.hid (Bk.new w2 66 #[.int .i64 0, .bool false])
  obtain ⟨⟨x0, x1⟩, _⟩ := HX2.out.two
  obtain ⟨⟨y0, y1⟩, _⟩ := HY2.out.two
  clear m2 r2 k2
  go_wp2_with (go_at_call 86; (with_reducible refine (rput_any b s2 (0) true (some 0) (fun _ => ⟨rfl, rfl⟩) hl2 w0 _ R2.out M2.out).mono ?_); rintro r w3 ⟨rfl, m3, r3, k3⟩)
  go_end0
  exact ⟨rfl, m3, r3, (K2.out.kr (T := 66)).trans k3⟩
set_option maxRecDepth 100000 in
set_option maxHeartbeats 4000000 in
theorem rtwo_11_01 (b : Nat) (s s1 s2 : Ms) (v2 : Int)  (h1 : takeM s = (none, s1)) (h2 : takeM s1 = (some v2, s2)) (hs : s.1.length ≤ 1000) (w0 w : World) (hr : Rel w0 w) (h : Mr w w0.heap.size b s) :
    Calls Tryz.prog 89 #[.pointer (some ⟨b, 0, none⟩), .int .i64 11] w fun r w' => r = .returned (.tuple #[]) ∧ Mr w' w0.heap.size b (putM s2 (some 0)) ∧ Rel w0 w' ∧ Kx b w w' := by
  have HM := Lib.hid h
  have HR := Lib.hid hr
  have hl1 : s1.1.length ≤ 1000 := by have := take_len s; rw [h1] at this; simp only at this; omega
  have hl2 : s2.1.length ≤ 1000 := by have := take_len s1; rw [h2] at this; simp only at this; omega
  have HT1 := Lib.hid (show takeM s = (none, s1) ∧ (none : Ce).getD 0 = 0 ∧ (none : Ce).isSome = false from ⟨h1, rfl, rfl⟩)
  have HT2 := Lib.hid (show takeM s1 = (some v2, s2) ∧ (some v2 : Ce).getD 0 = v2 ∧ (some v2 : Ce).isSome = true from ⟨h2, rfl, rfl⟩)
  clear h1 h2 h hr
  go_enter Tryz.func89, Tryz.ntmps89
  go_upto_region 1 with (go_at_call 88; (with_reducible refine (rtake_as b s s1 _ 0 false HT1 hs w0 _ HR.out HM.out).mono ?_); rintro r w1 ⟨rfl, m1, r1, k1⟩)
  have M1 := Lib.hid (m1.alloc (.cells #[.int .i64 0, .bool false] 66))
  have R1 := Lib.hid (r1.alloc (.cells #[.int .i64 0, .bool false] 66))
  have K1 := Lib.hid (k1.alloc (.cells #[.int .i64 0, .bool false] 66))
  have HX1 := Lib.hid (Bk.new w1 66 #[.int .i64 0, .bool false])
  have hb1 : w1.heap.size ≠ b := by have := m1.lt; omega
  clear m1 r1 k1
  go_upto_region 2 with (go_at_call 88; (with_reducible refine (rtake_as b s1 s2 _ v2 true HT2 hl1 w0 _ R1.out M1.out).mono ?_); rintro r w2 ⟨rfl, m2, r2, k2⟩)
  have M2 := Lib.hid (m2.alloc (.cells #[.int .i64 v2, .bool true] 66))
  have R2 := Lib.hid (r2.alloc (.cells #[.int .i64 v2, .bool true] 66))
  have K2 := Lib.hid (K1.out.trans (k2.alloc (.cells #[.int .i64 v2, .bool true] 66)))
  have HX2 := Lib.hid ((k2.bk HX1.out hb1).alloc (.cells #[.int .i64 v2, .bool true] 66))
  have HY2 := Lib.hid (Bk.new w2 66 #[.int .i64 v2, .bool true])
  obtain ⟨⟨x0, x1⟩, _⟩ := HX2.out.two
  obtain ⟨⟨y0, y1⟩, _⟩ := HY2.out.two
  clear m2 r2 k2
  go_wp2_with (go_at_call 86; (with_reducible refine (rput_any b s2 (0) true (some 0) (fun _ => ⟨rfl, rfl⟩) hl2 w0 _ R2.out M2.out).mono ?_); rintro r w3 ⟨rfl, m3, r3, k3⟩)
  go_end0
  exact ⟨rfl, m3, r3, (K2.out.kr (T := 66)).trans k3⟩
set_option maxRecDepth 100000 in
set_option maxHeartbeats 4000000 in
theorem rtwo_11_10 (b : Nat) (s s1 s2 : Ms) (v1 : Int)  (h1 : takeM s = (some v1, s1)) (h2 : takeM s1 = (none, s2)) (hs : s.1.length ≤ 1000) (w0 w : World) (hr : Rel w0 w) (h : Mr w w0.heap.size b s) :
    Calls Tryz.prog 89 #[.pointer (some ⟨b, 0, none⟩), .int .i64 11] w fun r w' => r = .returned (.tuple #[]) ∧ Mr w' w0.heap.size b (putM s2 (some 0)) ∧ Rel w0 w' ∧ Kx b w w' := by
  have HM := Lib.hid h
  have HR := Lib.hid hr
  have hl1 : s1.1.length ≤ 1000 := by have := take_len s; rw [h1] at this; simp only at this; omega
  have hl2 : s2.1.length ≤ 1000 := by have := take_len s1; rw [h2] at this; simp only at this; omega
  have HT1 := Lib.hid (show takeM s = (some v1, s1) ∧ (some v1 : Ce).getD 0 = v1 ∧ (some v1 : Ce).isSome = true from ⟨h1, rfl, rfl⟩)
  have HT2 := Lib.hid (show takeM s1 = (none, s2) ∧ (none : Ce).getD 0 = 0 ∧ (none : Ce).isSome = false from ⟨h2, rfl, rfl⟩)
  clear h1 h2 h hr
  go_enter Tryz.func89, Tryz.ntmps89
  go_upto_region 1 with (go_at_call 88; (with_reducible refine (rtake_as b s s1 _ v1 true HT1 hs w0 _ HR.out HM.out).mono ?_); rintro r w1 ⟨rfl, m1, r1, k1⟩)
  have M1 := Lib.hid (m1.alloc (.cells #[.int .i64 v1, .bool true] 66))
  have R1 := Lib.hid (r1.alloc (.cells #[.int .i64 v1, .bool true] 66))
  have K1 := Lib.hid (k1.alloc (.cells #[.int .i64 v1, .bool true] 66))
  have HX1 := Lib.hid (Bk.new w1 66 #[.int .i64 v1, .bool true])
  have hb1 : w1.heap.size ≠ b := by have := m1.lt; omega
  clear m1 r1 k1
  go_upto_region 2 with (go_at_call 88; (with_reducible refine (rtake_as b s1 s2 _ 0 false HT2 hl1 w0 _ R1.out M1.out).mono ?_); rintro r w2 ⟨rfl, m2, r2, k2⟩)
  have M2 := Lib.hid (m2.alloc (.cells #[.int .i64 0, .bool false] 66))
  have R2 := Lib.hid (r2.alloc (.cells #[.int .i64 0, .bool false] 66))
  have K2 := Lib.hid (K1.out.trans (k2.alloc (.cells #[.int .i64 0, .bool false] 66)))
  have HX2 := Lib.hid ((k2.bk HX1.out hb1).alloc (.cells #[.int .i64 0, .bool false] 66))
  have HY2 := Lib.hid (Bk.new w2 66 #[.int .i64 0, .bool false])
  obtain ⟨⟨x0, x1⟩, _⟩ := HX2.out.two
  obtain ⟨⟨y0, y1⟩, _⟩ := HY2.out.two
  clear m2 r2 k2
  go_wp2_with (go_at_call 86; (with_reducible refine (rput_any b s2 (0) true (some 0) (fun _ => ⟨rfl, rfl⟩) hl2 w0 _ R2.out M2.out).mono ?_); rintro r w3 ⟨rfl, m3, r3, k3⟩)
  go_end0
  exact ⟨rfl, m3, r3, (K2.out.kr (T := 66)).trans k3⟩
set_option maxRecDepth 100000 in
set_option maxHeartbeats 4000000 in
theorem rtwo_7_00 (b : Nat) (s s1 s2 : Ms)   (h1 : takeM s = (none, s1)) (h2 : takeM s1 = (none, s2)) (hs : s.1.length ≤ 1000) (w0 w : World) (hr : Rel w0 w) (h : Mr w w0.heap.size b s) :
    Calls Tryz.prog 89 #[.pointer (some ⟨b, 0, none⟩), .int .i64 7] w fun r w' => r = .returned (.tuple #[]) ∧ Mr w' w0.heap.size b (putM s2 (none)) ∧ Rel w0 w' ∧ Kx b w w' := by
  have HM := Lib.hid h
  have HR := Lib.hid hr
  have hl1 : s1.1.length ≤ 1000 := by have := take_len s; rw [h1] at this; simp only at this; omega
  have hl2 : s2.1.length ≤ 1000 := by have := take_len s1; rw [h2] at this; simp only at this; omega
  have HT1 := Lib.hid (show takeM s = (none, s1) ∧ (none : Ce).getD 0 = 0 ∧ (none : Ce).isSome = false from ⟨h1, rfl, rfl⟩)
  have HT2 := Lib.hid (show takeM s1 = (none, s2) ∧ (none : Ce).getD 0 = 0 ∧ (none : Ce).isSome = false from ⟨h2, rfl, rfl⟩)
  clear h1 h2 h hr
  go_enter Tryz.func89, Tryz.ntmps89
  go_upto_region 1 with (go_at_call 88; (with_reducible refine (rtake_as b s s1 _ 0 false HT1 hs w0 _ HR.out HM.out).mono ?_); rintro r w1 ⟨rfl, m1, r1, k1⟩)
  have M1 := Lib.hid (m1.alloc (.cells #[.int .i64 0, .bool false] 66))
  have R1 := Lib.hid (r1.alloc (.cells #[.int .i64 0, .bool false] 66))
  have K1 := Lib.hid (k1.alloc (.cells #[.int .i64 0, .bool false] 66))
  have HX1 := Lib.hid (Bk.new w1 66 #[.int .i64 0, .bool false])
  have hb1 : w1.heap.size ≠ b := by have := m1.lt; omega
  clear m1 r1 k1
  go_upto_region 2 with (go_at_call 88; (with_reducible refine (rtake_as b s1 s2 _ 0 false HT2 hl1 w0 _ R1.out M1.out).mono ?_); rintro r w2 ⟨rfl, m2, r2, k2⟩)
  have M2 := Lib.hid (m2.alloc (.cells #[.int .i64 0, .bool false] 66))
  have R2 := Lib.hid (r2.alloc (.cells #[.int .i64 0, .bool false] 66))
  have K2 := Lib.hid (K1.out.trans (k2.alloc (.cells #[.int .i64 0, .bool false] 66)))
  have HX2 := Lib.hid ((k2.bk HX1.out hb1).alloc (.cells #[.int .i64 0, .bool false] 66))
  have HY2 := Lib.hid (Bk.new w2 66 #[.int .i64 0, .bool false])
  obtain ⟨⟨x0, x1⟩, _⟩ := HX2.out.two
  obtain ⟨⟨y0, y1⟩, _⟩ := HY2.out.two
  clear m2 r2 k2
  go_wp2_with (go_at_call 86; (with_reducible refine (rput_any b s2 (0) false (none) (fun _ => ⟨rfl, rfl⟩) hl2 w0 _ R2.out M2.out).mono ?_); rintro r w3 ⟨rfl, m3, r3, k3⟩)
  go_end0
  exact ⟨rfl, m3, r3, (K2.out.kr (T := 66)).trans k3⟩
set_option maxRecDepth 100000 in
set_option maxHeartbeats 4000000 in
theorem rtwo_7_01 (b : Nat) (s s1 s2 : Ms) (v2 : Int)  (h1 : takeM s = (none, s1)) (h2 : takeM s1 = (some v2, s2)) (hs : s.1.length ≤ 1000) (w0 w : World) (hr : Rel w0 w) (h : Mr w w0.heap.size b s) :
    Calls Tryz.prog 89 #[.pointer (some ⟨b, 0, none⟩), .int .i64 7] w fun r w' => r = .returned (.tuple #[]) ∧ Mr w' w0.heap.size b (putM s2 (none)) ∧ Rel w0 w' ∧ Kx b w w' := by
  have HM := Lib.hid h
  have HR := Lib.hid hr
  have hl1 : s1.1.length ≤ 1000 := by have := take_len s; rw [h1] at this; simp only at this; omega
  have hl2 : s2.1.length ≤ 1000 := by have := take_len s1; rw [h2] at this; simp only at this; omega
  have HT1 := Lib.hid (show takeM s = (none, s1) ∧ (none : Ce).getD 0 = 0 ∧ (none : Ce).isSome = false from ⟨h1, rfl, rfl⟩)
  have HT2 := Lib.hid (show takeM s1 = (some v2, s2) ∧ (some v2 : Ce).getD 0 = v2 ∧ (some v2 : Ce).isSome = true from ⟨h2, rfl, rfl⟩)
  clear h1 h2 h hr
  go_enter Tryz.func89, Tryz.ntmps89
  go_upto_region 1 with (go_at_call 88; (with_reducible refine (rtake_as b s s1 _ 0 false HT1 hs w0 _ HR.out HM.out).mono ?_); rintro r w1 ⟨rfl, m1, r1, k1⟩)
  have M1 := Lib.hid (m1.alloc (.cells #[.int .i64 0, .bool false] 66))
  have R1 := Lib.hid (r1.alloc (.cells #[.int .i64 0, .bool false] 66))
  have K1 := Lib.hid (k1.alloc (.cells #[.int .i64 0, .bool false] 66))
  have HX1 := Lib.hid (Bk.new w1 66 #[.int .i64 0, .bool false])
  have hb1 : w1.heap.size ≠ b := by have := m1.lt; omega
  clear m1 r1 k1
  go_upto_region 2 with (go_at_call 88; (with_reducible refine (rtake_as b s1 s2 _ v2 true HT2 hl1 w0 _ R1.out M1.out).mono ?_); rintro r w2 ⟨rfl, m2, r2, k2⟩)
  have M2 := Lib.hid (m2.alloc (.cells #[.int .i64 v2, .bool true] 66))
  have R2 := Lib.hid (r2.alloc (.cells #[.int .i64 v2, .bool true] 66))
  have K2 := Lib.hid (K1.out.trans (k2.alloc (.cells #[.int .i64 v2, .bool true] 66)))
  have HX2 := Lib.hid ((k2.bk HX1.out hb1).alloc (.cells #[.int .i64 v2, .bool true] 66))
  have HY2 := Lib.hid (Bk.new w2 66 #[.int .i64 v2, .bool true])
  obtain ⟨⟨x0, x1⟩, _⟩ := HX2.out.two
  obtain ⟨⟨y0, y1⟩, _⟩ := HY2.out.two
  clear m2 r2 k2
  go_wp2_with (go_at_call 86; (with_reducible refine (rput_any b s2 (0) false (none) (fun _ => ⟨rfl, rfl⟩) hl2 w0 _ R2.out M2.out).mono ?_); rintro r w3 ⟨rfl, m3, r3, k3⟩)
  go_end0
  exact ⟨rfl, m3, r3, (K2.out.kr (T := 66)).trans k3⟩
set_option maxRecDepth 100000 in
set_option maxHeartbeats 4000000 in
theorem rtwo_7_10 (b : Nat) (s s1 s2 : Ms) (v1 : Int)  (h1 : takeM s = (some v1, s1)) (h2 : takeM s1 = (none, s2)) (hs : s.1.length ≤ 1000) (w0 w : World) (hr : Rel w0 w) (h : Mr w w0.heap.size b s) :
    Calls Tryz.prog 89 #[.pointer (some ⟨b, 0, none⟩), .int .i64 7] w fun r w' => r = .returned (.tuple #[]) ∧ Mr w' w0.heap.size b (putM s2 (none)) ∧ Rel w0 w' ∧ Kx b w w' := by
  have HM := Lib.hid h
  have HR := Lib.hid hr
  have hl1 : s1.1.length ≤ 1000 := by have := take_len s; rw [h1] at this; simp only at this; omega
  have hl2 : s2.1.length ≤ 1000 := by have := take_len s1; rw [h2] at this; simp only at this; omega
  have HT1 := Lib.hid (show takeM s = (some v1, s1) ∧ (some v1 : Ce).getD 0 = v1 ∧ (some v1 : Ce).isSome = true from ⟨h1, rfl, rfl⟩)
  have HT2 := Lib.hid (show takeM s1 = (none, s2) ∧ (none : Ce).getD 0 = 0 ∧ (none : Ce).isSome = false from ⟨h2, rfl, rfl⟩)
  clear h1 h2 h hr
  go_enter Tryz.func89, Tryz.ntmps89
  go_upto_region 1 with (go_at_call 88; (with_reducible refine (rtake_as b s s1 _ v1 true HT1 hs w0 _ HR.out HM.out).mono ?_); rintro r w1 ⟨rfl, m1, r1, k1⟩)
  have M1 := Lib.hid (m1.alloc (.cells #[.int .i64 v1, .bool true] 66))
  have R1 := Lib.hid (r1.alloc (.cells #[.int .i64 v1, .bool true] 66))
  have K1 := Lib.hid (k1.alloc (.cells #[.int .i64 v1, .bool true] 66))
  have HX1 := Lib.hid (Bk.new w1 66 #[.int .i64 v1, .bool true])
  have hb1 : w1.heap.size ≠ b := by have := m1.lt; omega
  clear m1 r1 k1
  go_upto_region 2 with (go_at_call 88; (with_reducible refine (rtake_as b s1 s2 _ 0 false HT2 hl1 w0 _ R1.out M1.out).mono ?_); rintro r w2 ⟨rfl, m2, r2, k2⟩)
  have M2 := Lib.hid (m2.alloc (.cells #[.int .i64 0, .bool false] 66))
  have R2 := Lib.hid (r2.alloc (.cells #[.int .i64 0, .bool false] 66))
  have K2 := Lib.hid (K1.out.trans (k2.alloc (.cells #[.int .i64 0, .bool false] 66)))
  have HX2 := Lib.hid ((k2.bk HX1.out hb1).alloc (.cells #[.int .i64 0, .bool false] 66))
  have HY2 := Lib.hid (Bk.new w2 66 #[.int .i64 0, .bool false])
  obtain ⟨⟨x0, x1⟩, _⟩ := HX2.out.two
  obtain ⟨⟨y0, y1⟩, _⟩ := HY2.out.two
  clear m2 r2 k2
  go_wp2_with (go_at_call 86; (with_reducible refine (rput_any b s2 (0) false (none) (fun _ => ⟨rfl, rfl⟩) hl2 w0 _ R2.out M2.out).mono ?_); rintro r w3 ⟨rfl, m3, r3, k3⟩)
  go_end0
  exact ⟨rfl, m3, r3, (K2.out.kr (T := 66)).trans k3⟩
set_option maxRecDepth 100000 in
set_option maxHeartbeats 4000000 in
theorem rtwo_7l (b : Nat) (s s1 s2 : Ms) (v1 : Int) (v2 : Int) (hc : v2 ≤ v1) (h1 : takeM s = (some v1, s1)) (h2 : takeM s1 = (some v2, s2)) (hs : s.1.length ≤ 1000) (w0 w : World) (hr : Rel w0 w) (h : Mr w w0.heap.size b s) :
    Calls Tryz.prog 89 #[.pointer (some ⟨b, 0, none⟩), .int .i64 7] w fun r w' => r = .returned (.tuple #[]) ∧ Mr w' w0.heap.size b (putM s2 (some v2)) ∧ Rel w0 w' ∧ Kx b w w' := by
  have HM := Lib.hid h
  have HR := Lib.hid hr
  have hl1 : s1.1.length ≤ 1000 := by have := take_len s; rw [h1] at this; simp only at this; omega
  have hl2 : s2.1.length ≤ 1000 := by have := take_len s1; rw [h2] at this; simp only at this; omega
  have HT1 := Lib.hid (show takeM s = (some v1, s1) ∧ (some v1 : Ce).getD 0 = v1 ∧ (some v1 : Ce).isSome = true from ⟨h1, rfl, rfl⟩)
  have HT2 := Lib.hid (show takeM s1 = (some v2, s2) ∧ (some v2 : Ce).getD 0 = v2 ∧ (some v2 : Ce).isSome = true from ⟨h2, rfl, rfl⟩)
  clear h1 h2 h hr
  go_enter Tryz.func89, Tryz.ntmps89
  go_upto_region 1 with (go_at_call 88; (with_reducible refine (rtake_as b s s1 _ v1 true HT1 hs w0 _ HR.out HM.out).mono ?_); rintro r w1 ⟨rfl, m1, r1, k1⟩)
  have M1 := Lib.hid (m1.alloc (.cells #[.int .i64 v1, .bool true] 66))
  have R1 := Lib.hid (r1.alloc (.cells #[.int .i64 v1, .bool true] 66))
  have K1 := Lib.hid (k1.alloc (.cells #[.int .i64 v1, .bool true] 66))
  have HX1 := Lib.hid (Bk.new w1 66 #[.int .i64 v1, .bool true])
  have hb1 : w1.heap.size ≠ b := by have := m1.lt; omega
  clear m1 r1 k1
  go_upto_region 2 with (go_at_call 88; (with_reducible refine (rtake_as b s1 s2 _ v2 true HT2 hl1 w0 _ R1.out M1.out).mono ?_); rintro r w2 ⟨rfl, m2, r2, k2⟩)
  have M2 := Lib.hid (m2.alloc (.cells #[.int .i64 v2, .bool true] 66))
  have R2 := Lib.hid (r2.alloc (.cells #[.int .i64 v2, .bool true] 66))
  have K2 := Lib.hid (K1.out.trans (k2.alloc (.cells #[.int .i64 v2, .bool true] 66)))
  have HX2 := Lib.hid ((k2.bk HX1.out hb1).alloc (.cells #[.int .i64 v2, .bool true] 66))
  have HY2 := Lib.hid (Bk.new w2 66 #[.int .i64 v2, .bool true])
  obtain ⟨⟨x0, x1⟩, _⟩ := HX2.out.two
  obtain ⟨⟨y0, y1⟩, _⟩ := HY2.out.two
  clear m2 r2 k2
  have HMn := Lib.hid (show min v2 v1 = (some v2 : Ce).getD 0 ∧ true = (some v2 : Ce).isSome from ⟨by show min v2 v1 = v2; omega, rfl⟩)
  go_wp2_with (first | (go_at_call 86; (with_reducible refine (rput_any b s2 (v2) true (some v2) (fun _ => ⟨rfl, rfl⟩) hl2 w0 _ R2.out M2.out).mono ?_); rintro r w3 ⟨rfl, m3, r3, k3⟩) | (go_at_call 86; (with_reducible refine (rput_any b s2 (min v2 v1) true (some v2) (fun _ => HMn.out) hl2 w0 _ R2.out M2.out).mono ?_); rintro r w3 ⟨rfl, m3, r3, k3⟩))
  go_end0
  exact ⟨rfl, m3, r3, (K2.out.kr (T := 66)).trans k3⟩
set_option maxRecDepth 100000 in
set_option maxHeartbeats 4000000 in
theorem rtwo_7g (b : Nat) (s s1 s2 : Ms) (v1 : Int) (v2 : Int) (hc : v1 < v2) (h1 : takeM s = (some v1, s1)) (h2 : takeM s1 = (some v2, s2)) (hs : s.1.length ≤ 1000) (w0 w : World) (hr : Rel w0 w) (h : Mr w w0.heap.size b s) :
    Calls Tryz.prog 89 #[.pointer (some ⟨b, 0, none⟩), .int .i64 7] w fun r w' => r = .returned (.tuple #[]) ∧ Mr w' w0.heap.size b (putM s2 (some v1)) ∧ Rel w0 w' ∧ Kx b w w' := by
  have HM := Lib.hid h
  have HR := Lib.hid hr
  have hl1 : s1.1.length ≤ 1000 := by have := take_len s; rw [h1] at this; simp only at this; omega
  have hl2 : s2.1.length ≤ 1000 := by have := take_len s1; rw [h2] at this; simp only at this; omega
  have HT1 := Lib.hid (show takeM s = (some v1, s1) ∧ (some v1 : Ce).getD 0 = v1 ∧ (some v1 : Ce).isSome = true from ⟨h1, rfl, rfl⟩)
  have HT2 := Lib.hid (show takeM s1 = (some v2, s2) ∧ (some v2 : Ce).getD 0 = v2 ∧ (some v2 : Ce).isSome = true from ⟨h2, rfl, rfl⟩)
  clear h1 h2 h hr
  go_enter Tryz.func89, Tryz.ntmps89
  go_upto_region 1 with (go_at_call 88; (with_reducible refine (rtake_as b s s1 _ v1 true HT1 hs w0 _ HR.out HM.out).mono ?_); rintro r w1 ⟨rfl, m1, r1, k1⟩)
  have M1 := Lib.hid (m1.alloc (.cells #[.int .i64 v1, .bool true] 66))
  have R1 := Lib.hid (r1.alloc (.cells #[.int .i64 v1, .bool true] 66))
  have K1 := Lib.hid (k1.alloc (.cells #[.int .i64 v1, .bool true] 66))
  have HX1 := Lib.hid (Bk.new w1 66 #[.int .i64 v1, .bool true])
  have hb1 : w1.heap.size ≠ b := by have := m1.lt; omega
  clear m1 r1 k1
  go_upto_region 2 with (go_at_call 88; (with_reducible refine (rtake_as b s1 s2 _ v2 true HT2 hl1 w0 _ R1.out M1.out).mono ?_); rintro r w2 ⟨rfl, m2, r2, k2⟩)
  have M2 := Lib.hid (m2.alloc (.cells #[.int .i64 v2, .bool true] 66))
  have R2 := Lib.hid (r2.alloc (.cells #[.int .i64 v2, .bool true] 66))
  have K2 := Lib.hid (K1.out.trans (k2.alloc (.cells #[.int .i64 v2, .bool true] 66)))
  have HX2 := Lib.hid ((k2.bk HX1.out hb1).alloc (.cells #[.int .i64 v2, .bool true] 66))
  have HY2 := Lib.hid (Bk.new w2 66 #[.int .i64 v2, .bool true])
  obtain ⟨⟨x0, x1⟩, _⟩ := HX2.out.two
  obtain ⟨⟨y0, y1⟩, _⟩ := HY2.out.two
  clear m2 r2 k2
  have HMn := Lib.hid (show min v2 v1 = (some v1 : Ce).getD 0 ∧ true = (some v1 : Ce).isSome from ⟨by show min v2 v1 = v1; omega, rfl⟩)
  go_wp2_with (first | (go_at_call 86; (with_reducible refine (rput_any b s2 (v1) true (some v1) (fun _ => ⟨rfl, rfl⟩) hl2 w0 _ R2.out M2.out).mono ?_); rintro r w3 ⟨rfl, m3, r3, k3⟩) | (go_at_call 86; (with_reducible refine (rput_any b s2 (min v2 v1) true (some v1) (fun _ => HMn.out) hl2 w0 _ R2.out M2.out).mono ?_); rintro r w3 ⟨rfl, m3, r3, k3⟩))
  go_end0
  exact ⟨rfl, m3, r3, (K2.out.kr (T := 66)).trans k3⟩
set_option maxRecDepth 100000 in
set_option maxHeartbeats 4000000 in
theorem rtwo_8_00 (b : Nat) (s s1 s2 : Ms)   (h1 : takeM s = (none, s1)) (h2 : takeM s1 = (none, s2)) (hs : s.1.length ≤ 1000) (w0 w : World) (hr : Rel w0 w) (h : Mr w w0.heap.size b s) :
    Calls Tryz.prog 89 #[.pointer (some ⟨b, 0, none⟩), .int .i64 8] w fun r w' => r = .returned (.tuple #[]) ∧ Mr w' w0.heap.size b (putM s2 (none)) ∧ Rel w0 w' ∧ Kx b w w' := by
  have HM := Lib.hid h
  have HR := Lib.hid hr
  have hl1 : s1.1.length ≤ 1000 := by have := take_len s; rw [h1] at this; simp only at this; omega
  have hl2 : s2.1.length ≤ 1000 := by have := take_len s1; rw [h2] at this; simp only at this; omega
  have HT1 := Lib.hid (show takeM s = (none, s1) ∧ (none : Ce).getD 0 = 0 ∧ (none : Ce).isSome = false from ⟨h1, rfl, rfl⟩)
  have HT2 := Lib.hid (show takeM s1 = (none, s2) ∧ (none : Ce).getD 0 = 0 ∧ (none : Ce).isSome = false from ⟨h2, rfl, rfl⟩)
  clear h1 h2 h hr
  go_enter Tryz.func89, Tryz.ntmps89
  go_upto_region 1 with (go_at_call 88; (with_reducible refine (rtake_as b s s1 _ 0 false HT1 hs w0 _ HR.out HM.out).mono ?_); rintro r w1 ⟨rfl, m1, r1, k1⟩)
  have M1 := Lib.hid (m1.alloc (.cells #[.int .i64 0, .bool false] 66))
  have R1 := Lib.hid (r1.alloc (.cells #[.int .i64 0, .bool false] 66))
  have K1 := Lib.hid (k1.alloc (.cells #[.int .i64 0, .bool false] 66))
  have HX1 := Lib.hid (Bk.new w1 66 #[.int .i64 0, .bool false])
  have hb1 : w1.heap.size ≠ b := by have := m1.lt; omega
  clear m1 r1 k1
  go_upto_region 2 with (go_at_call 88; (with_reducible refine (rtake_as b s1 s2 _ 0 false HT2 hl1 w0 _ R1.out M1.out).mono ?_); rintro r w2 ⟨rfl, m2, r2, k2⟩)
  have M2 := Lib.hid (m2.alloc (.cells #[.int .i64 0, .bool false] 66))
  have R2 := Lib.hid (r2.alloc (.cells #[.int .i64 0, .bool false] 66))
  have K2 := Lib.hid (K1.out.trans (k2.alloc (.cells #[.int .i64 0, .bool false] 66)))
  have HX2 := Lib.hid ((k2.bk HX1.out hb1).alloc (.cells #[.int .i64 0, .bool false] 66))
  have HY2 := Lib.hid (Bk.new w2 66 #[.int .i64 0, .bool false])
  obtain ⟨⟨x0, x1⟩, _⟩ := HX2.out.two
  obtain ⟨⟨y0, y1⟩, _⟩ := HY2.out.two
  clear m2 r2 k2
  go_wp2_with (go_at_call 86; (with_reducible refine (rput_any b s2 (0) false (none) (fun _ => ⟨rfl, rfl⟩) hl2 w0 _ R2.out M2.out).mono ?_); rintro r w3 ⟨rfl, m3, r3, k3⟩)
  go_end0
  exact ⟨rfl, m3, r3, (K2.out.kr (T := 66)).trans k3⟩
set_option maxRecDepth 100000 in
set_option maxHeartbeats 4000000 in
theorem rtwo_8_01 (b : Nat) (s s1 s2 : Ms) (v2 : Int)  (h1 : takeM s = (none, s1)) (h2 : takeM s1 = (some v2, s2)) (hs : s.1.length ≤ 1000) (w0 w : World) (hr : Rel w0 w) (h : Mr w w0.heap.size b s) :
    Calls Tryz.prog 89 #[.pointer (some ⟨b, 0, none⟩), .int .i64 8] w fun r w' => r = .returned (.tuple #[]) ∧ Mr w' w0.heap.size b (putM s2 (none)) ∧ Rel w0 w' ∧ Kx b w w' := by
  have HM := Lib.hid h
  have HR := Lib.hid hr
  have hl1 : s1.1.length ≤ 1000 := by have := take_len s; rw [h1] at this; simp only at this; omega
  have hl2 : s2.1.length ≤ 1000 := by have := take_len s1; rw [h2] at this; simp only at this; omega
  have HT1 := Lib.hid (show takeM s = (none, s1) ∧ (none : Ce).getD 0 = 0 ∧ (none : Ce).isSome = false from ⟨h1, rfl, rfl⟩)
  have HT2 := Lib.hid (show takeM s1 = (some v2, s2) ∧ (some v2 : Ce).getD 0 = v2 ∧ (some v2 : Ce).isSome = true from ⟨h2, rfl, rfl⟩)
  clear h1 h2 h hr
  go_enter Tryz.func89, Tryz.ntmps89
  go_upto_region 1 with (go_at_call 88; (with_reducible refine (rtake_as b s s1 _ 0 false HT1 hs w0 _ HR.out HM.out).mono ?_); rintro r w1 ⟨rfl, m1, r1, k1⟩)
  have M1 := Lib.hid (m1.alloc (.cells #[.int .i64 0, .bool false] 66))
  have R1 := Lib.hid (r1.alloc (.cells #[.int .i64 0, .bool false] 66))
  have K1 := Lib.hid (k1.alloc (.cells #[.int .i64 0, .bool false] 66))
  have HX1 := Lib.hid (Bk.new w1 66 #[.int .i64 0, .bool false])
  have hb1 : w1.heap.size ≠ b := by have := m1.lt; omega
  clear m1 r1 k1
  go_upto_region 2 with (go_at_call 88; (with_reducible refine (rtake_as b s1 s2 _ v2 true HT2 hl1 w0 _ R1.out M1.out).mono ?_); rintro r w2 ⟨rfl, m2, r2, k2⟩)
  have M2 := Lib.hid (m2.alloc (.cells #[.int .i64 v2, .bool true] 66))
  have R2 := Lib.hid (r2.alloc (.cells #[.int .i64 v2, .bool true] 66))
  have K2 := Lib.hid (K1.out.trans (k2.alloc (.cells #[.int .i64 v2, .bool true] 66)))
  have HX2 := Lib.hid ((k2.bk HX1.out hb1).alloc (.cells #[.int .i64 v2, .bool true] 66))
  have HY2 := Lib.hid (Bk.new w2 66 #[.int .i64 v2, .bool true])
  obtain ⟨⟨x0, x1⟩, _⟩ := HX2.out.two
  obtain ⟨⟨y0, y1⟩, _⟩ := HY2.out.two
  clear m2 r2 k2
  go_wp2_with (go_at_call 86; (with_reducible refine (rput_any b s2 (0) false (none) (fun _ => ⟨rfl, rfl⟩) hl2 w0 _ R2.out M2.out).mono ?_); rintro r w3 ⟨rfl, m3, r3, k3⟩)
  go_end0
  exact ⟨rfl, m3, r3, (K2.out.kr (T := 66)).trans k3⟩
set_option maxRecDepth 100000 in
set_option maxHeartbeats 4000000 in
theorem rtwo_8_10 (b : Nat) (s s1 s2 : Ms) (v1 : Int)  (h1 : takeM s = (some v1, s1)) (h2 : takeM s1 = (none, s2)) (hs : s.1.length ≤ 1000) (w0 w : World) (hr : Rel w0 w) (h : Mr w w0.heap.size b s) :
    Calls Tryz.prog 89 #[.pointer (some ⟨b, 0, none⟩), .int .i64 8] w fun r w' => r = .returned (.tuple #[]) ∧ Mr w' w0.heap.size b (putM s2 (none)) ∧ Rel w0 w' ∧ Kx b w w' := by
  have HM := Lib.hid h
  have HR := Lib.hid hr
  have hl1 : s1.1.length ≤ 1000 := by have := take_len s; rw [h1] at this; simp only at this; omega
  have hl2 : s2.1.length ≤ 1000 := by have := take_len s1; rw [h2] at this; simp only at this; omega
  have HT1 := Lib.hid (show takeM s = (some v1, s1) ∧ (some v1 : Ce).getD 0 = v1 ∧ (some v1 : Ce).isSome = true from ⟨h1, rfl, rfl⟩)
  have HT2 := Lib.hid (show takeM s1 = (none, s2) ∧ (none : Ce).getD 0 = 0 ∧ (none : Ce).isSome = false from ⟨h2, rfl, rfl⟩)
  clear h1 h2 h hr
  go_enter Tryz.func89, Tryz.ntmps89
  go_upto_region 1 with (go_at_call 88; (with_reducible refine (rtake_as b s s1 _ v1 true HT1 hs w0 _ HR.out HM.out).mono ?_); rintro r w1 ⟨rfl, m1, r1, k1⟩)
  have M1 := Lib.hid (m1.alloc (.cells #[.int .i64 v1, .bool true] 66))
  have R1 := Lib.hid (r1.alloc (.cells #[.int .i64 v1, .bool true] 66))
  have K1 := Lib.hid (k1.alloc (.cells #[.int .i64 v1, .bool true] 66))
  have HX1 := Lib.hid (Bk.new w1 66 #[.int .i64 v1, .bool true])
  have hb1 : w1.heap.size ≠ b := by have := m1.lt; omega
  clear m1 r1 k1
  go_upto_region 2 with (go_at_call 88; (with_reducible refine (rtake_as b s1 s2 _ 0 false HT2 hl1 w0 _ R1.out M1.out).mono ?_); rintro r w2 ⟨rfl, m2, r2, k2⟩)
  have M2 := Lib.hid (m2.alloc (.cells #[.int .i64 0, .bool false] 66))
  have R2 := Lib.hid (r2.alloc (.cells #[.int .i64 0, .bool false] 66))
  have K2 := Lib.hid (K1.out.trans (k2.alloc (.cells #[.int .i64 0, .bool false] 66)))
  have HX2 := Lib.hid ((k2.bk HX1.out hb1).alloc (.cells #[.int .i64 0, .bool false] 66))
  have HY2 := Lib.hid (Bk.new w2 66 #[.int .i64 0, .bool false])
  obtain ⟨⟨x0, x1⟩, _⟩ := HX2.out.two
  obtain ⟨⟨y0, y1⟩, _⟩ := HY2.out.two
  clear m2 r2 k2
  go_wp2_with (go_at_call 86; (with_reducible refine (rput_any b s2 (0) false (none) (fun _ => ⟨rfl, rfl⟩) hl2 w0 _ R2.out M2.out).mono ?_); rintro r w3 ⟨rfl, m3, r3, k3⟩)
  go_end0
  exact ⟨rfl, m3, r3, (K2.out.kr (T := 66)).trans k3⟩
set_option maxRecDepth 100000 in
set_option maxHeartbeats 4000000 in
theorem rtwo_8l (b : Nat) (s s1 s2 : Ms) (v1 : Int) (v2 : Int) (hc : v2 < v1) (h1 : takeM s = (some v1, s1)) (h2 : takeM s1 = (some v2, s2)) (hs : s.1.length ≤ 1000) (w0 w : World) (hr : Rel w0 w) (h : Mr w w0.heap.size b s) :
    Calls Tryz.prog 89 #[.pointer (some ⟨b, 0, none⟩), .int .i64 8] w fun r w' => r = .returned (.tuple #[]) ∧ Mr w' w0.heap.size b (putM s2 (some v1)) ∧ Rel w0 w' ∧ Kx b w w' := by
  have HM := Lib.hid h
  have HR := Lib.hid hr
  have hl1 : s1.1.length ≤ 1000 := by have := take_len s; rw [h1] at this; simp only at this; omega
  have hl2 : s2.1.length ≤ 1000 := by have := take_len s1; rw [h2] at this; simp only at this; omega
  have HT1 := Lib.hid (show takeM s = (some v1, s1) ∧ (some v1 : Ce).getD 0 = v1 ∧ (some v1 : Ce).isSome = true from ⟨h1, rfl, rfl⟩)
  have HT2 := Lib.hid (show takeM s1 = (some v2, s2) ∧ (some v2 : Ce).getD 0 = v2 ∧ (some v2 : Ce).isSome = true from ⟨h2, rfl, rfl⟩)
  clear h1 h2 h hr
  go_enter Tryz.func89, Tryz.ntmps89
  go_upto_region 1 with (go_at_call 88; (with_reducible refine (rtake_as b s s1 _ v1 true HT1 hs w0 _ HR.out HM.out).mono ?_); rintro r w1 ⟨rfl, m1, r1, k1⟩)
  have M1 := Lib.hid (m1.alloc (.cells #[.int .i64 v1, .bool true] 66))
  have R1 := Lib.hid (r1.alloc (.cells #[.int .i64 v1, .bool true] 66))
  have K1 := Lib.hid (k1.alloc (.cells #[.int .i64 v1, .bool true] 66))
  have HX1 := Lib.hid (Bk.new w1 66 #[.int .i64 v1, .bool true])
  have hb1 : w1.heap.size ≠ b := by have := m1.lt; omega
  clear m1 r1 k1
  go_upto_region 2 with (go_at_call 88; (with_reducible refine (rtake_as b s1 s2 _ v2 true HT2 hl1 w0 _ R1.out M1.out).mono ?_); rintro r w2 ⟨rfl, m2, r2, k2⟩)
  have M2 := Lib.hid (m2.alloc (.cells #[.int .i64 v2, .bool true] 66))
  have R2 := Lib.hid (r2.alloc (.cells #[.int .i64 v2, .bool true] 66))
  have K2 := Lib.hid (K1.out.trans (k2.alloc (.cells #[.int .i64 v2, .bool true] 66)))
  have HX2 := Lib.hid ((k2.bk HX1.out hb1).alloc (.cells #[.int .i64 v2, .bool true] 66))
  have HY2 := Lib.hid (Bk.new w2 66 #[.int .i64 v2, .bool true])
  obtain ⟨⟨x0, x1⟩, _⟩ := HX2.out.two
  obtain ⟨⟨y0, y1⟩, _⟩ := HY2.out.two
  clear m2 r2 k2
  have HMn := Lib.hid (show max v2 v1 = (some v1 : Ce).getD 0 ∧ true = (some v1 : Ce).isSome from ⟨by show max v2 v1 = v1; omega, rfl⟩)
  go_wp2_with (first | (go_at_call 86; (with_reducible refine (rput_any b s2 (v1) true (some v1) (fun _ => ⟨rfl, rfl⟩) hl2 w0 _ R2.out M2.out).mono ?_); rintro r w3 ⟨rfl, m3, r3, k3⟩) | (go_at_call 86; (with_reducible refine (rput_any b s2 (max v2 v1) true (some v1) (fun _ => HMn.out) hl2 w0 _ R2.out M2.out).mono ?_); rintro r w3 ⟨rfl, m3, r3, k3⟩))
  go_end0
  exact ⟨rfl, m3, r3, (K2.out.kr (T := 66)).trans k3⟩
set_option maxRecDepth 100000 in
set_option maxHeartbeats 4000000 in
theorem rtwo_8g (b : Nat) (s s1 s2 : Ms) (v1 : Int) (v2 : Int) (hc : v1 < v2) (h1 : takeM s = (some v1, s1)) (h2 : takeM s1 = (some v2, s2)) (hs : s.1.length ≤ 1000) (w0 w : World) (hr : Rel w0 w) (h : Mr w w0.heap.size b s) :
    Calls Tryz.prog 89 #[.pointer (some ⟨b, 0, none⟩), .int .i64 8] w fun r w' => r = .returned (.tuple #[]) ∧ Mr w' w0.heap.size b (putM s2 (some v2)) ∧ Rel w0 w' ∧ Kx b w w' := by
  have HM := Lib.hid h
  have HR := Lib.hid hr
  have hl1 : s1.1.length ≤ 1000 := by have := take_len s; rw [h1] at this; simp only at this; omega
  have hl2 : s2.1.length ≤ 1000 := by have := take_len s1; rw [h2] at this; simp only at this; omega
  have HT1 := Lib.hid (show takeM s = (some v1, s1) ∧ (some v1 : Ce).getD 0 = v1 ∧ (some v1 : Ce).isSome = true from ⟨h1, rfl, rfl⟩)
  have HT2 := Lib.hid (show takeM s1 = (some v2, s2) ∧ (some v2 : Ce).getD 0 = v2 ∧ (some v2 : Ce).isSome = true from ⟨h2, rfl, rfl⟩)
  clear h1 h2 h hr
  go_enter Tryz.func89, Tryz.ntmps89
  go_upto_region 1 with (go_at_call 88; (with_reducible refine (rtake_as b s s1 _ v1 true HT1 hs w0 _ HR.out HM.out).mono ?_); rintro r w1 ⟨rfl, m1, r1, k1⟩)
  have M1 := Lib.hid (m1.alloc (.cells #[.int .i64 v1, .bool true] 66))
  have R1 := Lib.hid (r1.alloc (.cells #[.int .i64 v1, .bool true] 66))
  have K1 := Lib.hid (k1.alloc (.cells #[.int .i64 v1, .bool true] 66))
  have HX1 := Lib.hid (Bk.new w1 66 #[.int .i64 v1, .bool true])
  have hb1 : w1.heap.size ≠ b := by have := m1.lt; omega
  clear m1 r1 k1
  go_upto_region 2 with (go_at_call 88; (with_reducible refine (rtake_as b s1 s2 _ v2 true HT2 hl1 w0 _ R1.out M1.out).mono ?_); rintro r w2 ⟨rfl, m2, r2, k2⟩)
  have M2 := Lib.hid (m2.alloc (.cells #[.int .i64 v2, .bool true] 66))
  have R2 := Lib.hid (r2.alloc (.cells #[.int .i64 v2, .bool true] 66))
  have K2 := Lib.hid (K1.out.trans (k2.alloc (.cells #[.int .i64 v2, .bool true] 66)))
  have HX2 := Lib.hid ((k2.bk HX1.out hb1).alloc (.cells #[.int .i64 v2, .bool true] 66))
  have HY2 := Lib.hid (Bk.new w2 66 #[.int .i64 v2, .bool true])
  obtain ⟨⟨x0, x1⟩, _⟩ := HX2.out.two
  obtain ⟨⟨y0, y1⟩, _⟩ := HY2.out.two
  clear m2 r2 k2
  have HMn := Lib.hid (show max v2 v1 = (some v2 : Ce).getD 0 ∧ true = (some v2 : Ce).isSome from ⟨by show max v2 v1 = v2; omega, rfl⟩)
  go_wp2_with (first | (go_at_call 86; (with_reducible refine (rput_any b s2 (v2) true (some v2) (fun _ => ⟨rfl, rfl⟩) hl2 w0 _ R2.out M2.out).mono ?_); rintro r w3 ⟨rfl, m3, r3, k3⟩) | (go_at_call 86; (with_reducible refine (rput_any b s2 (max v2 v1) true (some v2) (fun _ => HMn.out) hl2 w0 _ R2.out M2.out).mono ?_); rintro r w3 ⟨rfl, m3, r3, k3⟩))
  go_end0
  exact ⟨rfl, m3, r3, (K2.out.kr (T := 66)).trans k3⟩
set_option maxRecDepth 100000 in
set_option maxHeartbeats 4000000 in
theorem rtwo_8e (b : Nat) (s s1 s2 : Ms) (v1 : Int)  (h1 : takeM s = (some v1, s1)) (h2 : takeM s1 = (some v1, s2)) (hs : s.1.length ≤ 1000) (w0 w : World) (hr : Rel w0 w) (h : Mr w w0.heap.size b s) :
    Calls Tryz.prog 89 #[.pointer (some ⟨b, 0, none⟩), .int .i64 8] w fun r w' => r = .returned (.tuple #[]) ∧ Mr w' w0.heap.size b (putM s2 (some v1)) ∧ Rel w0 w' ∧ Kx b w w' := by
  have HM := Lib.hid h
  have HR := Lib.hid hr
  have hl1 : s1.1.length ≤ 1000 := by have := take_len s; rw [h1] at this; simp only at this; omega
  have hl2 : s2.1.length ≤ 1000 := by have := take_len s1; rw [h2] at this; simp only at this; omega
  have HT1 := Lib.hid (show takeM s = (some v1, s1) ∧ (some v1 : Ce).getD 0 = v1 ∧ (some v1 : Ce).isSome = true from ⟨h1, rfl, rfl⟩)
  have HT2 := Lib.hid (show takeM s1 = (some v1, s2) ∧ (some v1 : Ce).getD 0 = v1 ∧ (some v1 : Ce).isSome = true from ⟨h2, rfl, rfl⟩)
  clear h1 h2 h hr
  go_enter Tryz.func89, Tryz.ntmps89
  go_upto_region 1 with (go_at_call 88; (with_reducible refine (rtake_as b s s1 _ v1 true HT1 hs w0 _ HR.out HM.out).mono ?_); rintro r w1 ⟨rfl, m1, r1, k1⟩)
  have M1 := Lib.hid (m1.alloc (.cells #[.int .i64 v1, .bool true] 66))
  have R1 := Lib.hid (r1.alloc (.cells #[.int .i64 v1, .bool true] 66))
  have K1 := Lib.hid (k1.alloc (.cells #[.int .i64 v1, .bool true] 66))
  have HX1 := Lib.hid (Bk.new w1 66 #[.int .i64 v1, .bool true])
  have hb1 : w1.heap.size ≠ b := by have := m1.lt; omega
  clear m1 r1 k1
  go_upto_region 2 with (go_at_call 88; (with_reducible refine (rtake_as b s1 s2 _ v1 true HT2 hl1 w0 _ R1.out M1.out).mono ?_); rintro r w2 ⟨rfl, m2, r2, k2⟩)
  have M2 := Lib.hid (m2.alloc (.cells #[.int .i64 v1, .bool true] 66))
  have R2 := Lib.hid (r2.alloc (.cells #[.int .i64 v1, .bool true] 66))
  have K2 := Lib.hid (K1.out.trans (k2.alloc (.cells #[.int .i64 v1, .bool true] 66)))
  have HX2 := Lib.hid ((k2.bk HX1.out hb1).alloc (.cells #[.int .i64 v1, .bool true] 66))
  have HY2 := Lib.hid (Bk.new w2 66 #[.int .i64 v1, .bool true])
  obtain ⟨⟨x0, x1⟩, _⟩ := HX2.out.two
  obtain ⟨⟨y0, y1⟩, _⟩ := HY2.out.two
  clear m2 r2 k2
  go_wp2_with (go_at_call 86; (with_reducible refine (rput_any b s2 (v1) true (some v1) (fun _ => ⟨rfl, rfl⟩) hl2 w0 _ R2.out M2.out).mono ?_); rintro r w3 ⟨rfl, m3, r3, k3⟩)
  go_end0
  exact ⟨rfl, m3, r3, (K2.out.kr (T := 66)).trans k3⟩
theorem rtwo_any (b : Nat) (s : Ms) (op : Int) (ho : op = 7 ∨ op = 8 ∨ op = 11) (hs : s.1.length ≤ 1000) (w0 w : World) (hr : Rel w0 w) (h : Mr w w0.heap.size b s) :
    Calls Tryz.prog 89 #[.pointer (some ⟨b, 0, none⟩), .int .i64 op] w fun r w' => r = .returned (.tuple #[]) ∧ Mr w' w0.heap.size b (twoM op s) ∧ Rel w0 w' ∧ Kx b w w' := by
  unfold twoM
  obtain ⟨⟨c1, s1⟩, h1⟩ : ∃ p, takeM s = p := ⟨_, rfl⟩
  rw [h1]
  simp only
  obtain ⟨⟨c2, s2⟩, h2⟩ : ∃ p, takeM s1 = p := ⟨_, rfl⟩
  rw [h2]
  simp only
  rcases ho with rfl | rfl | rfl
  · cases c1 with
    | none =>
      cases c2 with
      | none =>
        exact rtwo_7_00 b s s1 s2  h1 h2 hs w0 w hr h
      | some v2 =>
        exact rtwo_7_01 b s s1 s2 v2 h1 h2 hs w0 w hr h
    | some v1 =>
      cases c2 with
      | none =>
        exact rtwo_7_10 b s s1 s2 v1 h1 h2 hs w0 w hr h
      | some v2 =>
        by_cases hc : v1 < v2
        · rw [show twoC 7 (some v2) (some v1) = some v1 by show some (min v2 v1) = _; congr 1; omega]
          exact rtwo_7g b s s1 s2 v1 v2 hc h1 h2 hs w0 w hr h
        · rw [show twoC 7 (some v2) (some v1) = some v2 by show some (min v2 v1) = _; congr 1; omega]
          exact rtwo_7l b s s1 s2 v1 v2 (by omega) h1 h2 hs w0 w hr h
  · cases c1 with
    | none =>
      cases c2 with
      | none =>
        exact rtwo_8_00 b s s1 s2  h1 h2 hs w0 w hr h
      | some v2 =>
        exact rtwo_8_01 b s s1 s2 v2 h1 h2 hs w0 w hr h
    | some v1 =>
      cases c2 with
      | none =>
        exact rtwo_8_10 b s s1 s2 v1 h1 h2 hs w0 w hr h
      | some v2 =>
        by_cases hc : v1 < v2
        · rw [show twoC 8 (some v2) (some v1) = some v2 by show some (max v2 v1) = _; congr 1; omega]
          exact rtwo_8g b s s1 s2 v1 v2 hc h1 h2 hs w0 w hr h
        · rw [show twoC 8 (some v2) (some v1) = some v1 by show some (max v2 v1) = _; congr 1; omega]
          by_cases he : v2 = v1
          · subst he; exact rtwo_8e b s s1 s2 v2 h1 h2 hs w0 w hr h
          · exact rtwo_8l b s s1 s2 v1 v2 (by omega) h1 h2 hs w0 w hr h
  · cases c1 with
    | none =>
      cases c2 with
      | none =>
        exact rtwo_11_00 b s s1 s2  h1 h2 hs w0 w hr h
      | some v2 =>
        exact rtwo_11_01 b s s1 s2 v2 h1 h2 hs w0 w hr h
    | some v1 =>
      cases c2 with
      | none =>
        exact rtwo_11_10 b s s1 s2 v1 h1 h2 hs w0 w hr h
      | some v2 =>
        by_cases hc : v1 < v2
        · rw [show twoC 11 (some v2) (some v1) = some 1 by show some (if v1 < v2 then (1 : Int) else 0) = _; rw [if_pos hc]]
          exact rtwo_11g b s s1 s2 v1 v2 hc h1 h2 hs w0 w hr h
        · rw [show twoC 11 (some v2) (some v1) = some 0 by show some (if v1 < v2 then (1 : Int) else 0) = _; rw [if_neg hc]]
          exact rtwo_11l b s s1 s2 v1 v2 hc h1 h2 hs w0 w hr h
end Go.Proofs.YtcckemhelockaaaGreatDoor
