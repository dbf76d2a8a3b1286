/- The document's own machine of layer 11: step, the other operations. -/
import Derived.Test.YtcckemhelockaaaGreatDoorZL
import Derived.Test.YtcckemhelockaaaGreatDoorZ00
import Derived.Test.YtcckemhelockaaaGreatDoorZ01
import Derived.Test.YtcckemhelockaaaGreatDoorZ02
import Derived.Test.YtcckemhelockaaaGreatDoorZ03
import Derived.Test.YtcckemhelockaaaGreatDoorZ50
import Derived.Test.YtcckemhelockaaaGreatDoorZ59
import Derived.Test.YtcckemhelockaaaGreatDoorZ60
import Derived.Test.YtcckemhelockaaaGreatDoorZ61
namespace Go.Proofs.YtcckemhelockaaaGreatDoor
open Go.RowKit Go.Lib
set_option linter.unusedVariables false
set_option linter.unusedSimpArgs false
theorem rminus_as (b : Nat) (s : Ms) (x : Ce) (xn : Int) (xi : Bool) (hx : Hid (x.getD 0 = xn ∧ x.isSome = xi)) (n e : Int) (hs : s.1.length ≤ 1000) (w0 w : World) (hr : Rel w0 w) (h : Mr w w0.heap.size b s) :
    Calls Tryz.prog 87 #[.pointer (some ⟨b, 0, none⟩), .agg #[.int .i64 xn, .bool xi], .int .i64 n, .int .i64 e] w fun r w' => r = .returned (.tuple #[]) ∧ Mr w' w0.heap.size b (minusM s x (minF n e)) ∧ Rel w0 w' ∧ Kx b w w' := by
  rw [← hx.out.1, ← hx.out.2]; exact rminus_any b s x n e hs w0 w hr h
theorem minus_part (s : Ms) (x : Ce) (n : Int) : minusM s x (fun v => cutR v n) = minusM s x (minF (part1 (x.getD 0) n false) (part2 (x.getD 0) n false)) := by
  cases x with
  | none => rfl
  | some v => rfl
set_option maxRecDepth 100000 in
set_option maxHeartbeats 4000000 in
theorem rstep_6 (b : Nat) (s : Ms) (n : Int) (nm : List UInt8) (i : Nat) (A : Option Addr) (ca : Nat) (os : List Of)  (hi : i ≤ 100000) (hn : i64 n) (hs : s.1.length ≤ 1000) (w0 w : World) (hr : Rel w0 w) (h : Mr w w0.heap.size b s) (ho : OffArg w A ca os) :
    Calls Tryz.prog 43 #[.pointer (some ⟨b, 0, none⟩), .agg #[.int .i64 6, .int .i64 n, .string (B nm)], .int .i64 (i : Int), .slice A os.length ca] w fun r w' => r = .returned (.int .i64 ((stepM os (6, n, nm) i s).1 : Int)) ∧ Mr w' w0.heap.size b (stepM os (6, n, nm) i s).2 ∧ Rel w0 w' ∧ Kx b w w' := by
  have HO := Lib.hid ho
  have HM := Lib.hid (h.alloc (.cells #[.int .i64 6, .int .i64 n, .string (B nm)] 45))
  have HA := Lib.hid (hr.alloc (.cells #[.int .i64 6, .int .i64 n, .string (B nm)] 45))
  have HS := Lib.hid (hr.self.alloc (.cells #[.int .i64 6, .int .i64 n, .string (B nm)] 45))
  have HK := Lib.hid ((Kr.refl 66 b w).alloc (.cells #[.int .i64 6, .int .i64 n, .string (B nm)] 45))
  have HX := Lib.hid (Bk.new w 45 #[.int .i64 6, .int .i64 n, .string (B nm)])
  have hwb : w.heap.size ≠ b := by have := h.lt; omega
  obtain ⟨W, hW⟩ : ∃ W, w.alloc (.cells #[.int .i64 6, .int .i64 n, .string (B nm)] 45) = W := ⟨_, rfl⟩
  rw [hW] at HM HA HS HK HX
  obtain ⟨⟨x0, x1, x2⟩, _⟩ := three11 HX.out
  have q1 : IntKind.i64.wrap ((i : Int) + 1) = (i : Int) + 1 := IntWalk.i64_in _ (by omega)
  obtain ⟨⟨x, s1⟩, hx⟩ : ∃ p, takeM s = p := ⟨_, rfl⟩
  obtain ⟨xn, hxn⟩ : ∃ xn, x.getD 0 = xn := ⟨_, rfl⟩
  obtain ⟨xi, hxi⟩ : ∃ xi, x.isSome = xi := ⟨_, rfl⟩
  have HT := Lib.hid (show takeM s = (x, s1) ∧ x.getD 0 = xn ∧ x.isSome = xi from ⟨hx, hxn, hxi⟩)
  have HX1 := Lib.hid (show x.getD 0 = xn ∧ x.isSome = xi from ⟨hxn, hxi⟩)
  have hl1 : s1.1.length ≤ 1000 := by have := take_len s; rw [hx] at this; simp only at this; omega
  have HP := Lib.hid (show stepM os (6, n, nm) i s = (i + 1, minusM s1 x (minF (part1 xn n false) (part2 xn n false))) by
    show (i + 1, minusM (takeM s).2 (takeM s).1 (fun v => cutR v n)) = _
    rw [hx, minus_part, hxn])
  have HPa := Lib.hid (fun w => m9rpart_any xn n false w)
  generalize part1 xn n false = p1 at *
  generalize part2 xn n false = p2 at *
  clear h hr ho hx hxn hxi
  go_enter Tryz.func43, Tryz.ntmps43
  go_upto_region 15 with (go_at_call 88; (with_reducible refine (rtake_as b s s1 x xn xi HT hs w0 _ HA.out HM.out).mono ?_); rintro r w5 ⟨rfl, m5, r5, k5⟩)
  have M5 := Lib.hid (m5.alloc (.cells #[.int .i64 xn, .bool xi] 66))
  have R5 := Lib.hid (r5.alloc (.cells #[.int .i64 xn, .bool xi] 66))
  have K5 := Lib.hid (HK.out.trans ((k5.alloc (.cells #[.int .i64 xn, .bool xi] 66)).kr (T := 66)))
  have HX5 := Lib.hid ((k5.bk HX.out hwb).alloc (.cells #[.int .i64 xn, .bool xi] 66))
  have HB5 := Lib.hid (Bk.new w5 66 #[.int .i64 xn, .bool xi])
  obtain ⟨⟨z0, z1, z2⟩, _⟩ := three11 HX5.out
  obtain ⟨⟨y0, y1⟩, _⟩ := HB5.out.two
  clear m5 r5 k5
  go_wp2_with (first
    | (go_at_call 66; (with_reducible refine (HPa.out _).mono ?_); rintro r w' ⟨rfl, rfl⟩)
    | (go_at_call 87; (with_reducible refine (rminus_as b s1 x xn xi HX1 p1 p2 hl1 w0 _ R5.out M5.out).mono ?_); rintro r w9 ⟨rfl, m9, r9, k9⟩))
  go_ret
  exact ⟨by rw [HP.out]; exact ret_int (by simp), by rw [HP.out]; exact m9, r9, K5.out.trans k9⟩
set_option maxRecDepth 100000 in
set_option maxHeartbeats 4000000 in
theorem rstep_9s (b : Nat) (s : Ms) (n : Int) (nm : List UInt8) (i : Nat) (A : Option Addr) (ca : Nat) (os : List Of) (v : Int) (s1 : Ms) (hx : takeM s = (some v, s1)) (hn0 : 0 ≤ n) (hi : i ≤ 100000) (hn : i64 n) (hs : s.1.length ≤ 1000) (w0 w : World) (hr : Rel w0 w) (h : Mr w w0.heap.size b s) (ho : OffArg w A ca os) :
    Calls Tryz.prog 43 #[.pointer (some ⟨b, 0, none⟩), .agg #[.int .i64 9, .int .i64 n, .string (B nm)], .int .i64 (i : Int), .slice A os.length ca] w fun r w' => r = .returned (.int .i64 ((stepM os (9, n, nm) i s).1 : Int)) ∧ Mr w' w0.heap.size b (stepM os (9, n, nm) i s).2 ∧ Rel w0 w' ∧ Kx b w w' := by
  have HO := Lib.hid ho
  have HM := Lib.hid (h.alloc (.cells #[.int .i64 9, .int .i64 n, .string (B nm)] 45))
  have HA := Lib.hid (hr.alloc (.cells #[.int .i64 9, .int .i64 n, .string (B nm)] 45))
  have HS := Lib.hid (hr.self.alloc (.cells #[.int .i64 9, .int .i64 n, .string (B nm)] 45))
  have HK := Lib.hid ((Kr.refl 66 b w).alloc (.cells #[.int .i64 9, .int .i64 n, .string (B nm)] 45))
  have HX := Lib.hid (Bk.new w 45 #[.int .i64 9, .int .i64 n, .string (B nm)])
  have hwb : w.heap.size ≠ b := by have := h.lt; omega
  obtain ⟨W, hW⟩ : ∃ W, w.alloc (.cells #[.int .i64 9, .int .i64 n, .string (B nm)] 45) = W := ⟨_, rfl⟩
  rw [hW] at HM HA HS HK HX
  obtain ⟨⟨x0, x1, x2⟩, _⟩ := three11 HX.out
  have q1 : IntKind.i64.wrap ((i : Int) + 1) = (i : Int) + 1 := IntWalk.i64_in _ (by omega)
  have HT := Lib.hid (show takeM s = (some v, s1) ∧ (some v : Ce).getD 0 = v ∧ (some v : Ce).isSome = true from ⟨hx, rfl, rfl⟩)
  have hl1 : s1.1.length ≤ 1000 := by have := take_len s; rw [hx] at this; simp only at this; omega
  have HP := Lib.hid (show stepM os (9, n, nm) i s = (n.toNat, putM s1 (some v)) by
    show (match (takeM s).1 with | some v => (n.toNat, putM (takeM s).2 (some v)) | none => (i + 1, (takeM s).2)) = _
    rw [hx])
  clear h hr ho hx
  go_enter Tryz.func43, Tryz.ntmps43
  go_upto_region 19 with (go_at_call 88; (with_reducible refine (rtake_as b s s1 _ v true HT hs w0 _ HA.out HM.out).mono ?_); rintro r w5 ⟨rfl, m5, r5, k5⟩)
  have M5 := Lib.hid (m5.alloc (.cells #[.int .i64 v, .bool true] 66))
  have R5 := Lib.hid (r5.alloc (.cells #[.int .i64 v, .bool true] 66))
  have K5 := Lib.hid (HK.out.trans ((k5.alloc (.cells #[.int .i64 v, .bool true] 66)).kr (T := 66)))
  have HX5 := Lib.hid ((k5.bk HX.out hwb).alloc (.cells #[.int .i64 v, .bool true] 66))
  have HB5 := Lib.hid (Bk.new w5 66 #[.int .i64 v, .bool true])
  obtain ⟨⟨z0, z1, z2⟩, _⟩ := three11 HX5.out
  obtain ⟨⟨y0, y1⟩, _⟩ := HB5.out.two
  clear m5 r5 k5
  go_upto_region 21 with (go_at_call 86; (with_reducible refine (rput_any b s1 v true (some v) (fun _ => ⟨rfl, rfl⟩) hl1 w0 _ R5.out M5.out).mono ?_); rintro r w9 ⟨rfl, m9, r9, k9⟩)
  obtain ⟨⟨u0, u1, u2⟩, _⟩ := three11 (k9.bk HX5.out hwb in_ne)
  go_wp2_with (fail)
  go_ret
  exact ⟨by rw [HP.out]; exact ret_int (by simp only; omega), by rw [HP.out]; exact m9, r9, K5.out.trans k9⟩
set_option maxRecDepth 100000 in
set_option maxHeartbeats 4000000 in
theorem rstep_9n (b : Nat) (s : Ms) (n : Int) (nm : List UInt8) (i : Nat) (A : Option Addr) (ca : Nat) (os : List Of) (s1 : Ms) (hx : takeM s = (none, s1)) (hi : i ≤ 100000) (hn : i64 n) (hs : s.1.length ≤ 1000) (w0 w : World) (hr : Rel w0 w) (h : Mr w w0.heap.size b s) (ho : OffArg w A ca os) :
    Calls Tryz.prog 43 #[.pointer (some ⟨b, 0, none⟩), .agg #[.int .i64 9, .int .i64 n, .string (B nm)], .int .i64 (i : Int), .slice A os.length ca] w fun r w' => r = .returned (.int .i64 ((stepM os (9, n, nm) i s).1 : Int)) ∧ Mr w' w0.heap.size b (stepM os (9, n, nm) i s).2 ∧ Rel w0 w' ∧ Kx b w w' := by
  have HO := Lib.hid ho
  have HM := Lib.hid (h.alloc (.cells #[.int .i64 9, .int .i64 n, .string (B nm)] 45))
  have HA := Lib.hid (hr.alloc (.cells #[.int .i64 9, .int .i64 n, .string (B nm)] 45))
  have HS := Lib.hid (hr.self.alloc (.cells #[.int .i64 9, .int .i64 n, .string (B nm)] 45))
  have HK := Lib.hid ((Kr.refl 66 b w).alloc (.cells #[.int .i64 9, .int .i64 n, .string (B nm)] 45))
  have HX := Lib.hid (Bk.new w 45 #[.int .i64 9, .int .i64 n, .string (B nm)])
  have hwb : w.heap.size ≠ b := by have := h.lt; omega
  obtain ⟨W, hW⟩ : ∃ W, w.alloc (.cells #[.int .i64 9, .int .i64 n, .string (B nm)] 45) = W := ⟨_, rfl⟩
  rw [hW] at HM HA HS HK HX
  obtain ⟨⟨x0, x1, x2⟩, _⟩ := three11 HX.out
  have q1 : IntKind.i64.wrap ((i : Int) + 1) = (i : Int) + 1 := IntWalk.i64_in _ (by omega)
  have HT := Lib.hid (show takeM s = (none, s1) ∧ (none : Ce).getD 0 = 0 ∧ (none : Ce).isSome = false from ⟨hx, rfl, rfl⟩)
  have hl1 : s1.1.length ≤ 1000 := by have := take_len s; rw [hx] at this; simp only at this; omega
  have HP := Lib.hid (show stepM os (9, n, nm) i s = (i + 1, s1) by
    show (match (takeM s).1 with | some v => (n.toNat, putM (takeM s).2 (some v)) | none => (i + 1, (takeM s).2)) = _
    rw [hx])
  clear h hr ho hx
  go_enter Tryz.func43, Tryz.ntmps43
  go_upto_region 19 with (go_at_call 88; (with_reducible refine (rtake_as b s s1 _ 0 false HT hs w0 _ HA.out HM.out).mono ?_); rintro r w5 ⟨rfl, m5, r5, k5⟩)
  have M5 := Lib.hid (m5.alloc (.cells #[.int .i64 0, .bool false] 66))
  have R5 := Lib.hid (r5.alloc (.cells #[.int .i64 0, .bool false] 66))
  have K5 := Lib.hid (HK.out.trans ((k5.alloc (.cells #[.int .i64 0, .bool false] 66)).kr (T := 66)))
  have HX5 := Lib.hid ((k5.bk HX.out hwb).alloc (.cells #[.int .i64 0, .bool false] 66))
  have HB5 := Lib.hid (Bk.new w5 66 #[.int .i64 0, .bool false])
  obtain ⟨⟨z0, z1, z2⟩, _⟩ := three11 HX5.out
  obtain ⟨⟨y0, y1⟩, _⟩ := HB5.out.two
  clear m5 r5 k5
  go_wp2_with (fail)
  go_ret
  exact ⟨by rw [HP.out]; exact ret_int (by simp), by rw [HP.out]; exact M5.out, R5.out, K5.out⟩
set_option maxRecDepth 100000 in
set_option maxHeartbeats 4000000 in
theorem rstep_10y (b : Nat) (s : Ms) (n : Int) (nm : List UInt8) (i : Nat) (A : Option Addr) (ca : Nat) (os : List Of) (hc : n < (os.length : Int)) (hi : i ≤ 100000) (hn : i64 n) (hs : s.1.length ≤ 1000) (w0 w : World) (hr : Rel w0 w) (h : Mr w w0.heap.size b s) (ho : OffArg w A ca os) :
    Calls Tryz.prog 43 #[.pointer (some ⟨b, 0, none⟩), .agg #[.int .i64 10, .int .i64 n, .string (B nm)], .int .i64 (i : Int), .slice A os.length ca] w fun r w' => r = .returned (.int .i64 ((stepM os (10, n, nm) i s).1 : Int)) ∧ Mr w' w0.heap.size b (stepM os (10, n, nm) i s).2 ∧ Rel w0 w' ∧ Kx b w w' := by
  have HO := Lib.hid ho
  have HM := Lib.hid (h.alloc (.cells #[.int .i64 10, .int .i64 n, .string (B nm)] 45))
  have HA := Lib.hid (hr.alloc (.cells #[.int .i64 10, .int .i64 n, .string (B nm)] 45))
  have HS := Lib.hid (hr.self.alloc (.cells #[.int .i64 10, .int .i64 n, .string (B nm)] 45))
  have HK := Lib.hid ((Kr.refl 66 b w).alloc (.cells #[.int .i64 10, .int .i64 n, .string (B nm)] 45))
  have HX := Lib.hid (Bk.new w 45 #[.int .i64 10, .int .i64 n, .string (B nm)])
  have hwb : w.heap.size ≠ b := by have := h.lt; omega
  obtain ⟨W, hW⟩ : ∃ W, w.alloc (.cells #[.int .i64 10, .int .i64 n, .string (B nm)] 45) = W := ⟨_, rfl⟩
  rw [hW] at HM HA HS HK HX
  obtain ⟨⟨x0, x1, x2⟩, _⟩ := three11 HX.out
  have q1 : IntKind.i64.wrap ((i : Int) + 1) = (i : Int) + 1 := IntWalk.i64_in _ (by omega)
  have HP := Lib.hid (show stepM os (10, n, nm) i s = (i + 1, putM s (some 1)) by
    show (i + 1, putM s (some (if n < (os.length : Int) then 1 else 0))) = _
    rw [if_pos hc])
  have t1 : decide (n < (os.length : Int)) = true := decide_eq_true hc
  clear h hr ho
  go_enter Tryz.func43, Tryz.ntmps43
  go_wp2_with (go_at_call 86; (with_reducible refine (rput_any b s 1 true (some 1) (fun _ => ⟨rfl, rfl⟩) hs w0 _ HA.out HM.out).mono ?_); rintro r w9 ⟨rfl, m9, r9, k9⟩)
  go_ret
  exact ⟨by rw [HP.out]; exact ret_int (by simp), by rw [HP.out]; exact m9, r9, HK.out.trans k9⟩
set_option maxRecDepth 100000 in
set_option maxHeartbeats 4000000 in
theorem rstep_10n (b : Nat) (s : Ms) (n : Int) (nm : List UInt8) (i : Nat) (A : Option Addr) (ca : Nat) (os : List Of) (hc : ¬ n < (os.length : Int)) (hi : i ≤ 100000) (hn : i64 n) (hs : s.1.length ≤ 1000) (w0 w : World) (hr : Rel w0 w) (h : Mr w w0.heap.size b s) (ho : OffArg w A ca os) :
    Calls Tryz.prog 43 #[.pointer (some ⟨b, 0, none⟩), .agg #[.int .i64 10, .int .i64 n, .string (B nm)], .int .i64 (i : Int), .slice A os.length ca] w fun r w' => r = .returned (.int .i64 ((stepM os (10, n, nm) i s).1 : Int)) ∧ Mr w' w0.heap.size b (stepM os (10, n, nm) i s).2 ∧ Rel w0 w' ∧ Kx b w w' := by
  have HO := Lib.hid ho
  have HM := Lib.hid (h.alloc (.cells #[.int .i64 10, .int .i64 n, .string (B nm)] 45))
  have HA := Lib.hid (hr.alloc (.cells #[.int .i64 10, .int .i64 n, .string (B nm)] 45))
  have HS := Lib.hid (hr.self.alloc (.cells #[.int .i64 10, .int .i64 n, .string (B nm)] 45))
  have HK := Lib.hid ((Kr.refl 66 b w).alloc (.cells #[.int .i64 10, .int .i64 n, .string (B nm)] 45))
  have HX := Lib.hid (Bk.new w 45 #[.int .i64 10, .int .i64 n, .string (B nm)])
  have hwb : w.heap.size ≠ b := by have := h.lt; omega
  obtain ⟨W, hW⟩ : ∃ W, w.alloc (.cells #[.int .i64 10, .int .i64 n, .string (B nm)] 45) = W := ⟨_, rfl⟩
  rw [hW] at HM HA HS HK HX
  obtain ⟨⟨x0, x1, x2⟩, _⟩ := three11 HX.out
  have q1 : IntKind.i64.wrap ((i : Int) + 1) = (i : Int) + 1 := IntWalk.i64_in _ (by omega)
  have HP := Lib.hid (show stepM os (10, n, nm) i s = (i + 1, putM s (some 0)) by
    show (i + 1, putM s (some (if n < (os.length : Int) then 1 else 0))) = _
    rw [if_neg hc])
  have t1 : decide (n < (os.length : Int)) = false := decide_eq_false hc
  clear h hr ho
  go_enter Tryz.func43, Tryz.ntmps43
  go_wp2_with (go_at_call 86; (with_reducible refine (rput_any b s 0 true (some 0) (fun _ => ⟨rfl, rfl⟩) hs w0 _ HA.out HM.out).mono ?_); rintro r w9 ⟨rfl, m9, r9, k9⟩)
  go_ret
  exact ⟨by rw [HP.out]; exact ret_int (by simp), by rw [HP.out]; exact m9, r9, HK.out.trans k9⟩
set_option maxRecDepth 100000 in
set_option maxHeartbeats 4000000 in
theorem rstep_12z (b : Nat) (s : Ms) (n : Int) (nm : List UInt8) (i : Nat) (A : Option Addr) (ca : Nat) (os : List Of) (hn0 : 0 ≤ n) (s1 : Ms) (hx : takeM s = (some 0, s1)) (hi : i ≤ 100000) (hn : i64 n) (hs : s.1.length ≤ 1000) (w0 w : World) (hr : Rel w0 w) (h : Mr w w0.heap.size b s) (ho : OffArg w A ca os) :
    Calls Tryz.prog 43 #[.pointer (some ⟨b, 0, none⟩), .agg #[.int .i64 12, .int .i64 n, .string (B nm)], .int .i64 (i : Int), .slice A os.length ca] w fun r w' => r = .returned (.int .i64 ((stepM os (12, n, nm) i s).1 : Int)) ∧ Mr w' w0.heap.size b (stepM os (12, n, nm) i s).2 ∧ Rel w0 w' ∧ Kx b w w' := by
  have HO := Lib.hid ho
  have HM := Lib.hid (h.alloc (.cells #[.int .i64 12, .int .i64 n, .string (B nm)] 45))
  have HA := Lib.hid (hr.alloc (.cells #[.int .i64 12, .int .i64 n, .string (B nm)] 45))
  have HS := Lib.hid (hr.self.alloc (.cells #[.int .i64 12, .int .i64 n, .string (B nm)] 45))
  have HK := Lib.hid ((Kr.refl 66 b w).alloc (.cells #[.int .i64 12, .int .i64 n, .string (B nm)] 45))
  have HX := Lib.hid (Bk.new w 45 #[.int .i64 12, .int .i64 n, .string (B nm)])
  have hwb : w.heap.size ≠ b := by have := h.lt; omega
  obtain ⟨W, hW⟩ : ∃ W, w.alloc (.cells #[.int .i64 12, .int .i64 n, .string (B nm)] 45) = W := ⟨_, rfl⟩
  rw [hW] at HM HA HS HK HX
  obtain ⟨⟨x0, x1, x2⟩, _⟩ := three11 HX.out
  have q1 : IntKind.i64.wrap ((i : Int) + 1) = (i : Int) + 1 := IntWalk.i64_in _ (by omega)
  have HT := Lib.hid (show takeM s = (some 0, s1) ∧ (some 0 : Ce).getD 0 = 0 ∧ (some 0 : Ce).isSome = true from ⟨hx, rfl, rfl⟩)
  have HP := Lib.hid (show stepM os (12, n, nm) i s = (n.toNat, s1) by
    show (match (takeM s).1 with | some v => if v = 0 then (n.toNat, (takeM s).2) else (i + 1, (takeM s).2) | none => (n.toNat, (takeM s).2)) = _
    rw [hx]; rfl)
  clear h hr ho hx
  go_enter Tryz.func43, Tryz.ntmps43
  go_upto_region 29 with (go_at_call 88; (with_reducible refine (rtake_as b s s1 _ 0 true HT hs w0 _ HA.out HM.out).mono ?_); rintro r w5 ⟨rfl, m5, r5, k5⟩)
  have M5 := Lib.hid (m5.alloc (.cells #[.int .i64 0, .bool true] 66))
  have R5 := Lib.hid (r5.alloc (.cells #[.int .i64 0, .bool true] 66))
  have K5 := Lib.hid (HK.out.trans ((k5.alloc (.cells #[.int .i64 0, .bool true] 66)).kr (T := 66)))
  have HX5 := Lib.hid ((k5.bk HX.out hwb).alloc (.cells #[.int .i64 0, .bool true] 66))
  have HB5 := Lib.hid (Bk.new w5 66 #[.int .i64 0, .bool true])
  obtain ⟨⟨z0, z1, z2⟩, _⟩ := three11 HX5.out
  obtain ⟨⟨y0, y1⟩, _⟩ := HB5.out.two
  clear m5 r5 k5
  go_wp2_with (fail)
  go_ret
  exact ⟨by rw [HP.out]; exact ret_int (by simp only; omega), by rw [HP.out]; exact M5.out, R5.out, K5.out⟩
set_option maxRecDepth 100000 in
set_option maxHeartbeats 4000000 in
theorem rstep_12s (b : Nat) (s : Ms) (n : Int) (nm : List UInt8) (i : Nat) (A : Option Addr) (ca : Nat) (os : List Of) (v : Int) (hv : v ≠ 0) (s1 : Ms) (hx : takeM s = (some v, s1)) (hi : i ≤ 100000) (hn : i64 n) (hs : s.1.length ≤ 1000) (w0 w : World) (hr : Rel w0 w) (h : Mr w w0.heap.size b s) (ho : OffArg w A ca os) :
    Calls Tryz.prog 43 #[.pointer (some ⟨b, 0, none⟩), .agg #[.int .i64 12, .int .i64 n, .string (B nm)], .int .i64 (i : Int), .slice A os.length ca] w fun r w' => r = .returned (.int .i64 ((stepM os (12, n, nm) i s).1 : Int)) ∧ Mr w' w0.heap.size b (stepM os (12, n, nm) i s).2 ∧ Rel w0 w' ∧ Kx b w w' := by
  have HO := Lib.hid ho
  have HM := Lib.hid (h.alloc (.cells #[.int .i64 12, .int .i64 n, .string (B nm)] 45))
  have HA := Lib.hid (hr.alloc (.cells #[.int .i64 12, .int .i64 n, .string (B nm)] 45))
  have HS := Lib.hid (hr.self.alloc (.cells #[.int .i64 12, .int .i64 n, .string (B nm)] 45))
  have HK := Lib.hid ((Kr.refl 66 b w).alloc (.cells #[.int .i64 12, .int .i64 n, .string (B nm)] 45))
  have HX := Lib.hid (Bk.new w 45 #[.int .i64 12, .int .i64 n, .string (B nm)])
  have hwb : w.heap.size ≠ b := by have := h.lt; omega
  obtain ⟨W, hW⟩ : ∃ W, w.alloc (.cells #[.int .i64 12, .int .i64 n, .string (B nm)] 45) = W := ⟨_, rfl⟩
  rw [hW] at HM HA HS HK HX
  obtain ⟨⟨x0, x1, x2⟩, _⟩ := three11 HX.out
  have q1 : IntKind.i64.wrap ((i : Int) + 1) = (i : Int) + 1 := IntWalk.i64_in _ (by omega)
  have HT := Lib.hid (show takeM s = (some v, s1) ∧ (some v : Ce).getD 0 = v ∧ (some v : Ce).isSome = true from ⟨hx, rfl, rfl⟩)
  have HP := Lib.hid (show stepM os (12, n, nm) i s = (i + 1, s1) by
    show (match (takeM s).1 with | some v => if v = 0 then (n.toNat, (takeM s).2) else (i + 1, (takeM s).2) | none => (n.toNat, (takeM s).2)) = _
    rw [hx]; simp only; rw [if_neg hv])
  have hvb : (v == 0) = false := by simpa using hv
  clear h hr ho hx
  go_enter Tryz.func43, Tryz.ntmps43
  go_upto_region 29 with (go_at_call 88; (with_reducible refine (rtake_as b s s1 _ v true HT hs w0 _ HA.out HM.out).mono ?_); rintro r w5 ⟨rfl, m5, r5, k5⟩)
  have M5 := Lib.hid (m5.alloc (.cells #[.int .i64 v, .bool true] 66))
  have R5 := Lib.hid (r5.alloc (.cells #[.int .i64 v, .bool true] 66))
  have K5 := Lib.hid (HK.out.trans ((k5.alloc (.cells #[.int .i64 v, .bool true] 66)).kr (T := 66)))
  have HX5 := Lib.hid ((k5.bk HX.out hwb).alloc (.cells #[.int .i64 v, .bool true] 66))
  have HB5 := Lib.hid (Bk.new w5 66 #[.int .i64 v, .bool true])
  obtain ⟨⟨z0, z1, z2⟩, _⟩ := three11 HX5.out
  obtain ⟨⟨y0, y1⟩, _⟩ := HB5.out.two
  clear m5 r5 k5
  go_wp2_with (fail)
  go_ret
  exact ⟨by rw [HP.out]; exact ret_int (by simp), by rw [HP.out]; exact M5.out, R5.out, K5.out⟩
set_option maxRecDepth 100000 in
set_option maxHeartbeats 4000000 in
theorem rstep_12n (b : Nat) (s : Ms) (n : Int) (nm : List UInt8) (i : Nat) (A : Option Addr) (ca : Nat) (os : List Of) (hn0 : 0 ≤ n) (s1 : Ms) (hx : takeM s = (none, s1)) (hi : i ≤ 100000) (hn : i64 n) (hs : s.1.length ≤ 1000) (w0 w : World) (hr : Rel w0 w) (h : Mr w w0.heap.size b s) (ho : OffArg w A ca os) :
    Calls Tryz.prog 43 #[.pointer (some ⟨b, 0, none⟩), .agg #[.int .i64 12, .int .i64 n, .string (B nm)], .int .i64 (i : Int), .slice A os.length ca] w fun r w' => r = .returned (.int .i64 ((stepM os (12, n, nm) i s).1 : Int)) ∧ Mr w' w0.heap.size b (stepM os (12, n, nm) i s).2 ∧ Rel w0 w' ∧ Kx b w w' := by
  have HO := Lib.hid ho
  have HM := Lib.hid (h.alloc (.cells #[.int .i64 12, .int .i64 n, .string (B nm)] 45))
  have HA := Lib.hid (hr.alloc (.cells #[.int .i64 12, .int .i64 n, .string (B nm)] 45))
  have HS := Lib.hid (hr.self.alloc (.cells #[.int .i64 12, .int .i64 n, .string (B nm)] 45))
  have HK := Lib.hid ((Kr.refl 66 b w).alloc (.cells #[.int .i64 12, .int .i64 n, .string (B nm)] 45))
  have HX := Lib.hid (Bk.new w 45 #[.int .i64 12, .int .i64 n, .string (B nm)])
  have hwb : w.heap.size ≠ b := by have := h.lt; omega
  obtain ⟨W, hW⟩ : ∃ W, w.alloc (.cells #[.int .i64 12, .int .i64 n, .string (B nm)] 45) = W := ⟨_, rfl⟩
  rw [hW] at HM HA HS HK HX
  obtain ⟨⟨x0, x1, x2⟩, _⟩ := three11 HX.out
  have q1 : IntKind.i64.wrap ((i : Int) + 1) = (i : Int) + 1 := IntWalk.i64_in _ (by omega)
  have HT := Lib.hid (show takeM s = (none, s1) ∧ (none : Ce).getD 0 = 0 ∧ (none : Ce).isSome = false from ⟨hx, rfl, rfl⟩)
  have HP := Lib.hid (show stepM os (12, n, nm) i s = (n.toNat, s1) by
    show (match (takeM s).1 with | some v => if v = 0 then (n.toNat, (takeM s).2) else (i + 1, (takeM s).2) | none => (n.toNat, (takeM s).2)) = _
    rw [hx])
  clear h hr ho hx
  go_enter Tryz.func43, Tryz.ntmps43
  go_upto_region 29 with (go_at_call 88; (with_reducible refine (rtake_as b s s1 _ 0 false HT hs w0 _ HA.out HM.out).mono ?_); rintro r w5 ⟨rfl, m5, r5, k5⟩)
  have M5 := Lib.hid (m5.alloc (.cells #[.int .i64 0, .bool false] 66))
  have R5 := Lib.hid (r5.alloc (.cells #[.int .i64 0, .bool false] 66))
  have K5 := Lib.hid (HK.out.trans ((k5.alloc (.cells #[.int .i64 0, .bool false] 66)).kr (T := 66)))
  have HX5 := Lib.hid ((k5.bk HX.out hwb).alloc (.cells #[.int .i64 0, .bool false] 66))
  have HB5 := Lib.hid (Bk.new w5 66 #[.int .i64 0, .bool false])
  obtain ⟨⟨z0, z1, z2⟩, _⟩ := three11 HX5.out
  obtain ⟨⟨y0, y1⟩, _⟩ := HB5.out.two
  clear m5 r5 k5
  go_wp2_with (fail)
  go_ret
  exact ⟨by rw [HP.out]; exact ret_int (by simp only; omega), by rw [HP.out]; exact M5.out, R5.out, K5.out⟩
set_option maxRecDepth 100000 in
set_option maxHeartbeats 4000000 in
theorem rstep_13 (b : Nat) (s : Ms) (n : Int) (nm : List UInt8) (i : Nat) (A : Option Addr) (ca : Nat) (os : List Of) (hn0 : 0 ≤ n) (hi : i ≤ 100000) (hn : i64 n) (hs : s.1.length ≤ 1000) (w0 w : World) (hr : Rel w0 w) (h : Mr w w0.heap.size b s) (ho : OffArg w A ca os) :
    Calls Tryz.prog 43 #[.pointer (some ⟨b, 0, none⟩), .agg #[.int .i64 13, .int .i64 n, .string (B nm)], .int .i64 (i : Int), .slice A os.length ca] w fun r w' => r = .returned (.int .i64 ((stepM os (13, n, nm) i s).1 : Int)) ∧ Mr w' w0.heap.size b (stepM os (13, n, nm) i s).2 ∧ Rel w0 w' ∧ Kx b w w' := by
  have HO := Lib.hid ho
  have HM := Lib.hid (h.alloc (.cells #[.int .i64 13, .int .i64 n, .string (B nm)] 45))
  have HA := Lib.hid (hr.alloc (.cells #[.int .i64 13, .int .i64 n, .string (B nm)] 45))
  have HS := Lib.hid (hr.self.alloc (.cells #[.int .i64 13, .int .i64 n, .string (B nm)] 45))
  have HK := Lib.hid ((Kr.refl 66 b w).alloc (.cells #[.int .i64 13, .int .i64 n, .string (B nm)] 45))
  have HX := Lib.hid (Bk.new w 45 #[.int .i64 13, .int .i64 n, .string (B nm)])
  have hwb : w.heap.size ≠ b := by have := h.lt; omega
  obtain ⟨W, hW⟩ : ∃ W, w.alloc (.cells #[.int .i64 13, .int .i64 n, .string (B nm)] 45) = W := ⟨_, rfl⟩
  rw [hW] at HM HA HS HK HX
  obtain ⟨⟨x0, x1, x2⟩, _⟩ := three11 HX.out
  have q1 : IntKind.i64.wrap ((i : Int) + 1) = (i : Int) + 1 := IntWalk.i64_in _ (by omega)
  have HP := Lib.hid (show stepM os (13, n, nm) i s = (n.toNat, s) from rfl)
  clear h hr ho
  go_enter Tryz.func43, Tryz.ntmps43
  go_wp2_with (fail)
  go_ret
  exact ⟨by rw [HP.out]; exact ret_int (by simp only; omega), by rw [HP.out]; exact HM.out, HA.out, HK.out⟩
set_option maxRecDepth 100000 in
set_option maxHeartbeats 4000000 in
theorem rstep_t7 (b : Nat) (s : Ms) (n : Int) (nm : List UInt8) (i : Nat) (A : Option Addr) (ca : Nat) (os : List Of)  (hi : i ≤ 100000) (hn : i64 n) (hs : s.1.length ≤ 1000) (w0 w : World) (hr : Rel w0 w) (h : Mr w w0.heap.size b s) (ho : OffArg w A ca os) :
    Calls Tryz.prog 43 #[.pointer (some ⟨b, 0, none⟩), .agg #[.int .i64 7, .int .i64 n, .string (B nm)], .int .i64 (i : Int), .slice A os.length ca] w fun r w' => r = .returned (.int .i64 ((stepM os (7, n, nm) i s).1 : Int)) ∧ Mr w' w0.heap.size b (stepM os (7, n, nm) i s).2 ∧ Rel w0 w' ∧ Kx b w w' := by
  have HO := Lib.hid ho
  have HM := Lib.hid (h.alloc (.cells #[.int .i64 7, .int .i64 n, .string (B nm)] 45))
  have HA := Lib.hid (hr.alloc (.cells #[.int .i64 7, .int .i64 n, .string (B nm)] 45))
  have HS := Lib.hid (hr.self.alloc (.cells #[.int .i64 7, .int .i64 n, .string (B nm)] 45))
  have HK := Lib.hid ((Kr.refl 66 b w).alloc (.cells #[.int .i64 7, .int .i64 n, .string (B nm)] 45))
  have HX := Lib.hid (Bk.new w 45 #[.int .i64 7, .int .i64 n, .string (B nm)])
  have hwb : w.heap.size ≠ b := by have := h.lt; omega
  obtain ⟨W, hW⟩ : ∃ W, w.alloc (.cells #[.int .i64 7, .int .i64 n, .string (B nm)] 45) = W := ⟨_, rfl⟩
  rw [hW] at HM HA HS HK HX
  obtain ⟨⟨x0, x1, x2⟩, _⟩ := three11 HX.out
  have q1 : IntKind.i64.wrap ((i : Int) + 1) = (i : Int) + 1 := IntWalk.i64_in _ (by omega)
  have HP := Lib.hid (show stepM os (7, n, nm) i s = (i + 1, twoM 7 s) from rfl)
  clear h hr ho
  go_enter Tryz.func43, Tryz.ntmps43
  go_wp2_with (go_at_call 89; (with_reducible refine (rtwo_any b s 7 (by decide) hs w0 _ HA.out HM.out).mono ?_); rintro r w9 ⟨rfl, m9, r9, k9⟩)
  go_ret
  exact ⟨by rw [HP.out]; exact ret_int (by simp), by rw [HP.out]; exact m9, r9, HK.out.trans k9⟩
set_option maxRecDepth 100000 in
set_option maxHeartbeats 4000000 in
theorem rstep_t8 (b : Nat) (s : Ms) (n : Int) (nm : List UInt8) (i : Nat) (A : Option Addr) (ca : Nat) (os : List Of)  (hi : i ≤ 100000) (hn : i64 n) (hs : s.1.length ≤ 1000) (w0 w : World) (hr : Rel w0 w) (h : Mr w w0.heap.size b s) (ho : OffArg w A ca os) :
    Calls Tryz.prog 43 #[.pointer (some ⟨b, 0, none⟩), .agg #[.int .i64 8, .int .i64 n, .string (B nm)], .int .i64 (i : Int), .slice A os.length ca] w fun r w' => r = .returned (.int .i64 ((stepM os (8, n, nm) i s).1 : Int)) ∧ Mr w' w0.heap.size b (stepM os (8, n, nm) i s).2 ∧ Rel w0 w' ∧ Kx b w w' := by
  have HO := Lib.hid ho
  have HM := Lib.hid (h.alloc (.cells #[.int .i64 8, .int .i64 n, .string (B nm)] 45))
  have HA := Lib.hid (hr.alloc (.cells #[.int .i64 8, .int .i64 n, .string (B nm)] 45))
  have HS := Lib.hid (hr.self.alloc (.cells #[.int .i64 8, .int .i64 n, .string (B nm)] 45))
  have HK := Lib.hid ((Kr.refl 66 b w).alloc (.cells #[.int .i64 8, .int .i64 n, .string (B nm)] 45))
  have HX := Lib.hid (Bk.new w 45 #[.int .i64 8, .int .i64 n, .string (B nm)])
  have hwb : w.heap.size ≠ b := by have := h.lt; omega
  obtain ⟨W, hW⟩ : ∃ W, w.alloc (.cells #[.int .i64 8, .int .i64 n, .string (B nm)] 45) = W := ⟨_, rfl⟩
  rw [hW] at HM HA HS HK HX
  obtain ⟨⟨x0, x1, x2⟩, _⟩ := three11 HX.out
  have q1 : IntKind.i64.wrap ((i : Int) + 1) = (i : Int) + 1 := IntWalk.i64_in _ (by omega)
  have HP := Lib.hid (show stepM os (8, n, nm) i s = (i + 1, twoM 8 s) from rfl)
  clear h hr ho
  go_enter Tryz.func43, Tryz.ntmps43
  go_wp2_with (go_at_call 89; (with_reducible refine (rtwo_any b s 8 (by decide) hs w0 _ HA.out HM.out).mono ?_); rintro r w9 ⟨rfl, m9, r9, k9⟩)
  go_ret
  exact ⟨by rw [HP.out]; exact ret_int (by simp), by rw [HP.out]; exact m9, r9, HK.out.trans k9⟩
set_option maxRecDepth 100000 in
set_option maxHeartbeats 4000000 in
theorem rstep_t11 (b : Nat) (s : Ms) (n : Int) (nm : List UInt8) (i : Nat) (A : Option Addr) (ca : Nat) (os : List Of)  (hi : i ≤ 100000) (hn : i64 n) (hs : s.1.length ≤ 1000) (w0 w : World) (hr : Rel w0 w) (h : Mr w w0.heap.size b s) (ho : OffArg w A ca os) :
    Calls Tryz.prog 43 #[.pointer (some ⟨b, 0, none⟩), .agg #[.int .i64 11, .int .i64 n, .string (B nm)], .int .i64 (i : Int), .slice A os.length ca] w fun r w' => r = .returned (.int .i64 ((stepM os (11, n, nm) i s).1 : Int)) ∧ Mr w' w0.heap.size b (stepM os (11, n, nm) i s).2 ∧ Rel w0 w' ∧ Kx b w w' := by
  have HO := Lib.hid ho
  have HM := Lib.hid (h.alloc (.cells #[.int .i64 11, .int .i64 n, .string (B nm)] 45))
  have HA := Lib.hid (hr.alloc (.cells #[.int .i64 11, .int .i64 n, .string (B nm)] 45))
  have HS := Lib.hid (hr.self.alloc (.cells #[.int .i64 11, .int .i64 n, .string (B nm)] 45))
  have HK := Lib.hid ((Kr.refl 66 b w).alloc (.cells #[.int .i64 11, .int .i64 n, .string (B nm)] 45))
  have HX := Lib.hid (Bk.new w 45 #[.int .i64 11, .int .i64 n, .string (B nm)])
  have hwb : w.heap.size ≠ b := by have := h.lt; omega
  obtain ⟨W, hW⟩ : ∃ W, w.alloc (.cells #[.int .i64 11, .int .i64 n, .string (B nm)] 45) = W := ⟨_, rfl⟩
  rw [hW] at HM HA HS HK HX
  obtain ⟨⟨x0, x1, x2⟩, _⟩ := three11 HX.out
  have q1 : IntKind.i64.wrap ((i : Int) + 1) = (i : Int) + 1 := IntWalk.i64_in _ (by omega)
  have HP := Lib.hid (show stepM os (11, n, nm) i s = (i + 1, twoM 11 s) from rfl)
  clear h hr ho
  go_enter Tryz.func43, Tryz.ntmps43
  go_wp2_with (go_at_call 89; (with_reducible refine (rtwo_any b s 11 (by decide) hs w0 _ HA.out HM.out).mono ?_); rintro r w9 ⟨rfl, m9, r9, k9⟩)
  go_ret
  exact ⟨by rw [HP.out]; exact ret_int (by simp), by rw [HP.out]; exact m9, r9, HK.out.trans k9⟩
end Go.Proofs.YtcckemhelockaaaGreatDoor
