/- The document's own machine of layer 11: step. -/
import Derived.Test.YtcckemhelockaaaGreatDoorZL
import Derived.Test.YtcckemhelockaaaGreatDoorZ00
import Derived.Test.YtcckemhelockaaaGreatDoorZ01
import Derived.Test.YtcckemhelockaaaGreatDoorZ02
import Derived.Test.YtcckemhelockaaaGreatDoorZ03
import Derived.Test.YtcckemhelockaaaGreatDoorZ52
import Derived.Test.YtcckemhelockaaaGreatDoorZ59
import Derived.Test.YtcckemhelockaaaGreatDoorZ60
namespace Go.Proofs.YtcckemhelockaaaGreatDoor
open Go.RowKit Go.Lib
set_option linter.unusedVariables false
set_option linter.unusedSimpArgs false
theorem three11 {w : World} {g : Nat} {t : TypeId} {x y z : Value} (h : Bk w g t #[x, y, z]) :
    (w.cell? ⟨g, 0, none⟩ = some x ∧ w.cell? ⟨g, 1, none⟩ = some y ∧ w.cell? ⟨g, 2, none⟩ = some z) ∧ (w.frozen? ⟨g, 0, none⟩ = false ∧ w.frozen? ⟨g, 1, none⟩ = false ∧ w.frozen? ⟨g, 2, none⟩ = false) :=
  ⟨⟨h.cell 0, h.cell 1, h.cell 2⟩, ⟨h.frozen 0, h.frozen 1, h.frozen 2⟩⟩
theorem in_ne : (45 : TypeId) ≠ 66 := by decide
theorem rv_ok (c : Ce) : RV (.ok c) = .tuple #[.int .i64 (c.getD 0), .bool c.isSome, .int .i64 0] := by cases c <;> rfl
/-- What a leaf tells, spelled. -/
theorem rleaf_any (k : Int) (nm : List UInt8) (c : Ce) (n : Int) (i : Bool) (sm : ByteArray) (hk : i64 k) (hn : nm.length ≤ 100) (os : List Of) (hc : Hid (evalS os (.mk k 0 nm []) = .ok c ∧ c.getD 0 = n ∧ c.isSome = i ∧ B nm = sm)) (A : Option Addr) (ca : Nat) (w0 w : World) (hr : Rel w0 w) (ho : OffArg w A ca os) :
    Calls Tryz.prog 20 #[.agg #[.int .i64 k, .int .i64 0, .string sm, .slice none 0 0], .slice A os.length ca] w fun z w' => z = .returned (.tuple #[.int .i64 n, .bool i, .int .i64 0]) ∧ Rel w0 w' := by
  obtain ⟨h1, h2, h3, h4⟩ := hc.out
  subst h2 h3 h4
  rw [← rv_ok, ← h1]
  exact reval_any (.mk k 0 nm []) (fun _ => True) (k, 0, nm, none, 0, 0) A ca os w0 w hr (ExAt.leaf _ _ k 0 nm none 0 hk ⟨by decide, by decide⟩ hn) (by rw [size_mk, sizes_nil]; omega) ho
set_option maxRecDepth 100000 in
set_option maxHeartbeats 4000000 in
theorem rstep_1 (b : Nat) (s : Ms) (n : Int) (nm : List UInt8) (i : Nat) (A : Option Addr) (ca : Nat) (os : List Of)  (hi : i ≤ 100000) (hn : i64 n) (hs : s.1.length ≤ 1000) (w0 w : World) (hr : Rel w0 w) (h : Mr w w0.heap.size b s) (ho : OffArg w A ca os) :
    Calls Tryz.prog 43 #[.pointer (some ⟨b, 0, none⟩), .agg #[.int .i64 1, .int .i64 n, .string (B nm)], .int .i64 (i : Int), .slice A os.length ca] w fun r w' => r = .returned (.int .i64 ((stepM os (1, n, nm) i s).1 : Int)) ∧ Mr w' w0.heap.size b (stepM os (1, n, nm) i s).2 ∧ Rel w0 w' ∧ Kx b w w' := by
  have HO := Lib.hid ho
  have HM := Lib.hid (h.alloc (.cells #[.int .i64 1, .int .i64 n, .string (B nm)] 45))
  have HA := Lib.hid (hr.alloc (.cells #[.int .i64 1, .int .i64 n, .string (B nm)] 45))
  have HS := Lib.hid (hr.self.alloc (.cells #[.int .i64 1, .int .i64 n, .string (B nm)] 45))
  have HK := Lib.hid ((Kr.refl 66 b w).alloc (.cells #[.int .i64 1, .int .i64 n, .string (B nm)] 45))
  have HX := Lib.hid (Bk.new w 45 #[.int .i64 1, .int .i64 n, .string (B nm)])
  have hwb : w.heap.size ≠ b := by have := h.lt; omega
  obtain ⟨W, hW⟩ : ∃ W, w.alloc (.cells #[.int .i64 1, .int .i64 n, .string (B nm)] 45) = W := ⟨_, rfl⟩
  rw [hW] at HM HA HS HK HX
  obtain ⟨⟨x0, x1, x2⟩, _⟩ := three11 HX.out
  have q1 : IntKind.i64.wrap ((i : Int) + 1) = (i : Int) + 1 := IntWalk.i64_in _ (by omega)
  have HP := Lib.hid (show stepM os (1, n, nm) i s = (i + 1, putM s (some n)) from rfl)
  clear h hr ho
  go_enter Tryz.func43, Tryz.ntmps43
  go_wp2_with (go_at_call 86; (with_reducible refine (rput_any b s n true (some n) (fun _ => ⟨rfl, rfl⟩) hs w0 _ HA.out HM.out).mono ?_); rintro r w9 ⟨rfl, m9, r9, k9⟩)
  go_ret
  exact ⟨by rw [HP.out]; exact ret_int (by simp), by rw [HP.out]; exact m9, r9, HK.out.trans k9⟩
set_option maxRecDepth 100000 in
set_option maxHeartbeats 4000000 in
theorem rstep_2 (b : Nat) (s : Ms) (n : Int) (nm : List UInt8) (i : Nat) (A : Option Addr) (ca : Nat) (os : List Of) (hok : offsOk os = true) (hnm : nm = []) (hi : i ≤ 100000) (hn : i64 n) (hs : s.1.length ≤ 1000) (w0 w : World) (hr : Rel w0 w) (h : Mr w w0.heap.size b s) (ho : OffArg w A ca os) :
    Calls Tryz.prog 43 #[.pointer (some ⟨b, 0, none⟩), .agg #[.int .i64 2, .int .i64 n, .string (B nm)], .int .i64 (i : Int), .slice A os.length ca] w fun r w' => r = .returned (.int .i64 ((stepM os (2, n, nm) i s).1 : Int)) ∧ Mr w' w0.heap.size b (stepM os (2, n, nm) i s).2 ∧ Rel w0 w' ∧ Kx b w w' := by
  subst hnm
  have HO := Lib.hid ho
  have HM := Lib.hid (h.alloc (.cells #[.int .i64 2, .int .i64 n, .string (B [])] 45))
  have HA := Lib.hid (hr.alloc (.cells #[.int .i64 2, .int .i64 n, .string (B [])] 45))
  have HS := Lib.hid (hr.self.alloc (.cells #[.int .i64 2, .int .i64 n, .string (B [])] 45))
  have HK := Lib.hid ((Kr.refl 66 b w).alloc (.cells #[.int .i64 2, .int .i64 n, .string (B [])] 45))
  have HX := Lib.hid (Bk.new w 45 #[.int .i64 2, .int .i64 n, .string (B [])])
  have hwb : w.heap.size ≠ b := by have := h.lt; omega
  obtain ⟨W, hW⟩ : ∃ W, w.alloc (.cells #[.int .i64 2, .int .i64 n, .string (B [])] 45) = W := ⟨_, rfl⟩
  rw [hW] at HM HA HS HK HX
  obtain ⟨⟨x0, x1, x2⟩, _⟩ := three11 HX.out
  have q1 : IntKind.i64.wrap ((i : Int) + 1) = (i : Int) + 1 := IntWalk.i64_in _ (by omega)
  obtain ⟨x, hx⟩ : ∃ x, rk os 0 = x := ⟨_, rfl⟩
  have HP := Lib.hid (show stepM os (2, n, []) i s = (i + 1, putM s x) by rw [← hx]; rfl)
  obtain ⟨xn, hxn⟩ : ∃ xn, x.getD 0 = xn := ⟨_, rfl⟩
  obtain ⟨xi, hxi⟩ : ∃ xi, x.isSome = xi := ⟨_, rfl⟩
  have HE := Lib.hid (show evalS os (.mk 1 0 [] []) = .ok x ∧ x.getD 0 = xn ∧ x.isSome = xi ∧ B [] = B [] from ⟨by rw [← hx]; exact eval_low hok, hxn, hxi, rfl⟩)
  have hnl : ([] : List UInt8).length ≤ 100 := by simp
  have HB5 := Lib.hid (Bk.new W 3 #[.int .i64 0, .int .i64 0, .int .i64 1, .int .i64 2, .int .i64 3])
  have HA5 := Lib.hid (HA.out.alloc (.cells #[.int .i64 0, .int .i64 0, .int .i64 1, .int .i64 2, .int .i64 3] 3))
  have HS5 := Lib.hid (HS.out.alloc (.cells #[.int .i64 0, .int .i64 0, .int .i64 1, .int .i64 2, .int .i64 3] 3))
  have HM5 := Lib.hid (HM.out.alloc (.cells #[.int .i64 0, .int .i64 0, .int .i64 1, .int .i64 2, .int .i64 3] 3))
  have HK5 := Lib.hid (HK.out.alloc (.cells #[.int .i64 0, .int .i64 0, .int .i64 1, .int .i64 2, .int .i64 3] 3))
  have HX5 := Lib.hid (HX.out.alloc (.cells #[.int .i64 0, .int .i64 0, .int .i64 1, .int .i64 2, .int .i64 3] 3))
  have v5 := HB5.out.cell 2
  simp only [List.getElem?_toArray, List.getElem?_cons_succ, List.getElem?_cons_zero] at v5
  obtain ⟨⟨z0, z1, z2⟩, _⟩ := three11 HX5.out
  have HC := Lib.hid (rleaf_any 1 [] x xn xi (B []) ⟨by decide, by decide⟩ hnl os HE A ca)
  clear h hr ho hx hxn hxi
  go_enter Tryz.func43, Tryz.ntmps43
  go_wp2_with (first
    | (go_at_call 20; (with_reducible refine (HC.out _ _ HS5.out.self (HO.out.rel HS5.out)).mono ?_); rintro r w5 ⟨rfl, h5⟩; have M5 := Lib.hid (HM5.out.rel h5); have R5 := Lib.hid (HA5.out.trans h5))
    | (go_at_call 86; (with_reducible refine (rput_any b s xn xi x (fun _ => ⟨HE.out.2.1.symm, HE.out.2.2.1.symm⟩) hs w0 _ R5.out M5.out).mono ?_); rintro r w9 ⟨rfl, m9, r9, k9⟩))
  go_ret
  exact ⟨by rw [HP.out]; exact ret_int (by simp), by rw [HP.out]; exact m9, r9, (HK5.out.trans (Kr.rel h5)).trans k9⟩
set_option maxRecDepth 100000 in
set_option maxHeartbeats 4000000 in
theorem rstep_3 (b : Nat) (s : Ms) (n : Int) (nm : List UInt8) (i : Nat) (A : Option Addr) (ca : Nat) (os : List Of) (hok : offsOk os = true) (hnm : nm = []) (hi : i ≤ 100000) (hn : i64 n) (hs : s.1.length ≤ 1000) (w0 w : World) (hr : Rel w0 w) (h : Mr w w0.heap.size b s) (ho : OffArg w A ca os) :
    Calls Tryz.prog 43 #[.pointer (some ⟨b, 0, none⟩), .agg #[.int .i64 3, .int .i64 n, .string (B nm)], .int .i64 (i : Int), .slice A os.length ca] w fun r w' => r = .returned (.int .i64 ((stepM os (3, n, nm) i s).1 : Int)) ∧ Mr w' w0.heap.size b (stepM os (3, n, nm) i s).2 ∧ Rel w0 w' ∧ Kx b w w' := by
  subst hnm
  have HO := Lib.hid ho
  have HM := Lib.hid (h.alloc (.cells #[.int .i64 3, .int .i64 n, .string (B [])] 45))
  have HA := Lib.hid (hr.alloc (.cells #[.int .i64 3, .int .i64 n, .string (B [])] 45))
  have HS := Lib.hid (hr.self.alloc (.cells #[.int .i64 3, .int .i64 n, .string (B [])] 45))
  have HK := Lib.hid ((Kr.refl 66 b w).alloc (.cells #[.int .i64 3, .int .i64 n, .string (B [])] 45))
  have HX := Lib.hid (Bk.new w 45 #[.int .i64 3, .int .i64 n, .string (B [])])
  have hwb : w.heap.size ≠ b := by have := h.lt; omega
  obtain ⟨W, hW⟩ : ∃ W, w.alloc (.cells #[.int .i64 3, .int .i64 n, .string (B [])] 45) = W := ⟨_, rfl⟩
  rw [hW] at HM HA HS HK HX
  obtain ⟨⟨x0, x1, x2⟩, _⟩ := three11 HX.out
  have q1 : IntKind.i64.wrap ((i : Int) + 1) = (i : Int) + 1 := IntWalk.i64_in _ (by omega)
  obtain ⟨x, hx⟩ : ∃ x, rk os 1 = x := ⟨_, rfl⟩
  have HP := Lib.hid (show stepM os (3, n, []) i s = (i + 1, putM s x) by rw [← hx]; rfl)
  obtain ⟨xn, hxn⟩ : ∃ xn, x.getD 0 = xn := ⟨_, rfl⟩
  obtain ⟨xi, hxi⟩ : ∃ xi, x.isSome = xi := ⟨_, rfl⟩
  have HE := Lib.hid (show evalS os (.mk 2 0 [] []) = .ok x ∧ x.getD 0 = xn ∧ x.isSome = xi ∧ B [] = B [] from ⟨by rw [← hx]; exact eval_sec hok, hxn, hxi, rfl⟩)
  have hnl : ([] : List UInt8).length ≤ 100 := by simp
  have HB5 := Lib.hid (Bk.new W 3 #[.int .i64 0, .int .i64 0, .int .i64 1, .int .i64 2, .int .i64 3])
  have HA5 := Lib.hid (HA.out.alloc (.cells #[.int .i64 0, .int .i64 0, .int .i64 1, .int .i64 2, .int .i64 3] 3))
  have HS5 := Lib.hid (HS.out.alloc (.cells #[.int .i64 0, .int .i64 0, .int .i64 1, .int .i64 2, .int .i64 3] 3))
  have HM5 := Lib.hid (HM.out.alloc (.cells #[.int .i64 0, .int .i64 0, .int .i64 1, .int .i64 2, .int .i64 3] 3))
  have HK5 := Lib.hid (HK.out.alloc (.cells #[.int .i64 0, .int .i64 0, .int .i64 1, .int .i64 2, .int .i64 3] 3))
  have HX5 := Lib.hid (HX.out.alloc (.cells #[.int .i64 0, .int .i64 0, .int .i64 1, .int .i64 2, .int .i64 3] 3))
  have v5 := HB5.out.cell 3
  simp only [List.getElem?_toArray, List.getElem?_cons_succ, List.getElem?_cons_zero] at v5
  obtain ⟨⟨z0, z1, z2⟩, _⟩ := three11 HX5.out
  have HC := Lib.hid (rleaf_any 2 [] x xn xi (B []) ⟨by decide, by decide⟩ hnl os HE A ca)
  clear h hr ho hx hxn hxi
  go_enter Tryz.func43, Tryz.ntmps43
  go_wp2_with (first
    | (go_at_call 20; (with_reducible refine (HC.out _ _ HS5.out.self (HO.out.rel HS5.out)).mono ?_); rintro r w5 ⟨rfl, h5⟩; have M5 := Lib.hid (HM5.out.rel h5); have R5 := Lib.hid (HA5.out.trans h5))
    | (go_at_call 86; (with_reducible refine (rput_any b s xn xi x (fun _ => ⟨HE.out.2.1.symm, HE.out.2.2.1.symm⟩) hs w0 _ R5.out M5.out).mono ?_); rintro r w9 ⟨rfl, m9, r9, k9⟩))
  go_ret
  exact ⟨by rw [HP.out]; exact ret_int (by simp), by rw [HP.out]; exact m9, r9, (HK5.out.trans (Kr.rel h5)).trans k9⟩
set_option maxRecDepth 100000 in
set_option maxHeartbeats 4000000 in
theorem rstep_4 (b : Nat) (s : Ms) (n : Int) (nm : List UInt8) (i : Nat) (A : Option Addr) (ca : Nat) (os : List Of) (hok : offsOk os = true) (hnm : isName nm = true) (hi : i ≤ 100000) (hn : i64 n) (hs : s.1.length ≤ 1000) (w0 w : World) (hr : Rel w0 w) (h : Mr w w0.heap.size b s) (ho : OffArg w A ca os) :
    Calls Tryz.prog 43 #[.pointer (some ⟨b, 0, none⟩), .agg #[.int .i64 4, .int .i64 n, .string (B nm)], .int .i64 (i : Int), .slice A os.length ca] w fun r w' => r = .returned (.int .i64 ((stepM os (4, n, nm) i s).1 : Int)) ∧ Mr w' w0.heap.size b (stepM os (4, n, nm) i s).2 ∧ Rel w0 w' ∧ Kx b w w' := by
  have HO := Lib.hid ho
  have HM := Lib.hid (h.alloc (.cells #[.int .i64 4, .int .i64 n, .string (B nm)] 45))
  have HA := Lib.hid (hr.alloc (.cells #[.int .i64 4, .int .i64 n, .string (B nm)] 45))
  have HS := Lib.hid (hr.self.alloc (.cells #[.int .i64 4, .int .i64 n, .string (B nm)] 45))
  have HK := Lib.hid ((Kr.refl 66 b w).alloc (.cells #[.int .i64 4, .int .i64 n, .string (B nm)] 45))
  have HX := Lib.hid (Bk.new w 45 #[.int .i64 4, .int .i64 n, .string (B nm)])
  have hwb : w.heap.size ≠ b := by have := h.lt; omega
  obtain ⟨W, hW⟩ : ∃ W, w.alloc (.cells #[.int .i64 4, .int .i64 n, .string (B nm)] 45) = W := ⟨_, rfl⟩
  rw [hW] at HM HA HS HK HX
  obtain ⟨⟨x0, x1, x2⟩, _⟩ := three11 HX.out
  have q1 : IntKind.i64.wrap ((i : Int) + 1) = (i : Int) + 1 := IntWalk.i64_in _ (by omega)
  obtain ⟨x, hx⟩ : ∃ x, fromO os nm = x := ⟨_, rfl⟩
  have HP := Lib.hid (show stepM os (4, n, nm) i s = (i + 1, putM s x) by rw [← hx]; rfl)
  obtain ⟨xn, hxn⟩ : ∃ xn, x.getD 0 = xn := ⟨_, rfl⟩
  obtain ⟨xi, hxi⟩ : ∃ xi, x.isSome = xi := ⟨_, rfl⟩
  have HE := Lib.hid (show evalS os (.mk 3 0 nm []) = .ok x ∧ x.getD 0 = xn ∧ x.isSome = xi ∧ B nm = B nm from ⟨by rw [← hx]; exact eval_from hok hnm, hxn, hxi, rfl⟩)
  have hnl : (nm : List UInt8).length ≤ 100 := by have := (name_parts hnm).2.2.1; omega
  have HB5 := Lib.hid (Bk.new W 3 #[.int .i64 0, .int .i64 0, .int .i64 1, .int .i64 2, .int .i64 3])
  have HA5 := Lib.hid (HA.out.alloc (.cells #[.int .i64 0, .int .i64 0, .int .i64 1, .int .i64 2, .int .i64 3] 3))
  have HS5 := Lib.hid (HS.out.alloc (.cells #[.int .i64 0, .int .i64 0, .int .i64 1, .int .i64 2, .int .i64 3] 3))
  have HM5 := Lib.hid (HM.out.alloc (.cells #[.int .i64 0, .int .i64 0, .int .i64 1, .int .i64 2, .int .i64 3] 3))
  have HK5 := Lib.hid (HK.out.alloc (.cells #[.int .i64 0, .int .i64 0, .int .i64 1, .int .i64 2, .int .i64 3] 3))
  have HX5 := Lib.hid (HX.out.alloc (.cells #[.int .i64 0, .int .i64 0, .int .i64 1, .int .i64 2, .int .i64 3] 3))
  have v5 := HB5.out.cell 4
  simp only [List.getElem?_toArray, List.getElem?_cons_succ, List.getElem?_cons_zero] at v5
  obtain ⟨⟨z0, z1, z2⟩, _⟩ := three11 HX5.out
  have HC := Lib.hid (rleaf_any 3 nm x xn xi (B nm) ⟨by decide, by decide⟩ hnl os HE A ca)
  clear h hr ho hx hxn hxi
  go_enter Tryz.func43, Tryz.ntmps43
  go_wp2_with (first
    | (go_at_call 20; (with_reducible refine (HC.out _ _ HS5.out.self (HO.out.rel HS5.out)).mono ?_); rintro r w5 ⟨rfl, h5⟩; have M5 := Lib.hid (HM5.out.rel h5); have R5 := Lib.hid (HA5.out.trans h5))
    | (go_at_call 86; (with_reducible refine (rput_any b s xn xi x (fun _ => ⟨HE.out.2.1.symm, HE.out.2.2.1.symm⟩) hs w0 _ R5.out M5.out).mono ?_); rintro r w9 ⟨rfl, m9, r9, k9⟩))
  go_ret
  exact ⟨by rw [HP.out]; exact ret_int (by simp), by rw [HP.out]; exact m9, r9, (HK5.out.trans (Kr.rel h5)).trans k9⟩
set_option maxRecDepth 100000 in
set_option maxHeartbeats 4000000 in
theorem rstep_5 (b : Nat) (s : Ms) (n : Int) (nm : List UInt8) (i : Nat) (A : Option Addr) (ca : Nat) (os : List Of)  (hi : i ≤ 100000) (hn : i64 n) (hs : s.1.length ≤ 1000) (w0 w : World) (hr : Rel w0 w) (h : Mr w w0.heap.size b s) (ho : OffArg w A ca os) :
    Calls Tryz.prog 43 #[.pointer (some ⟨b, 0, none⟩), .agg #[.int .i64 5, .int .i64 n, .string (B nm)], .int .i64 (i : Int), .slice A os.length ca] w fun r w' => r = .returned (.int .i64 ((stepM os (5, n, nm) i s).1 : Int)) ∧ Mr w' w0.heap.size b (stepM os (5, n, nm) i s).2 ∧ Rel w0 w' ∧ Kx b w w' := by
  have HO := Lib.hid ho
  have HM := Lib.hid (h.alloc (.cells #[.int .i64 5, .int .i64 n, .string (B nm)] 45))
  have HA := Lib.hid (hr.alloc (.cells #[.int .i64 5, .int .i64 n, .string (B nm)] 45))
  have HS := Lib.hid (hr.self.alloc (.cells #[.int .i64 5, .int .i64 n, .string (B nm)] 45))
  have HK := Lib.hid ((Kr.refl 66 b w).alloc (.cells #[.int .i64 5, .int .i64 n, .string (B nm)] 45))
  have HX := Lib.hid (Bk.new w 45 #[.int .i64 5, .int .i64 n, .string (B nm)])
  have hwb : w.heap.size ≠ b := by have := h.lt; omega
  obtain ⟨W, hW⟩ : ∃ W, w.alloc (.cells #[.int .i64 5, .int .i64 n, .string (B nm)] 45) = W := ⟨_, rfl⟩
  rw [hW] at HM HA HS HK HX
  obtain ⟨⟨x0, x1, x2⟩, _⟩ := three11 HX.out
  have q1 : IntKind.i64.wrap ((i : Int) + 1) = (i : Int) + 1 := IntWalk.i64_in _ (by omega)
  obtain ⟨⟨x, s1⟩, hx⟩ : ∃ p, takeM s = p := ⟨_, rfl⟩
  obtain ⟨xn, hxn⟩ : ∃ xn, x.getD 0 = xn := ⟨_, rfl⟩
  obtain ⟨xi, hxi⟩ : ∃ xi, x.isSome = xi := ⟨_, rfl⟩
  have HT := Lib.hid (show takeM s = (x, s1) ∧ x.getD 0 = xn ∧ x.isSome = xi from ⟨hx, hxn, hxi⟩)
  have HX1 := Lib.hid (show x.getD 0 = xn ∧ x.isSome = xi from ⟨hxn, hxi⟩)
  have hl1 : s1.1.length ≤ 1000 := by have := take_len s; rw [hx] at this; simp only at this; omega
  have HP := Lib.hid (show stepM os (5, n, nm) i s = (i + 1, minusM s1 x (minF n 0)) by
    show (i + 1, minusM (takeM s).2 (takeM s).1 (fun v => subR v n)) = _
    rw [hx]; rfl)
  clear h hr ho hx hxn hxi
  go_enter Tryz.func43, Tryz.ntmps43
  go_upto_region 12 with (fail)
  refine wp_region_held_drew (S := (fun w' => Bk w' w.heap.size 45 #[.int .i64 5, .int .i64 n, .string (B nm)])) (by kernel_rfl) (show Bk W.drew w.heap.size _ _ from HX.out) (fun hHeld => ?_)
  refine held_take (i := 0) (v := ?_) (some 56) rfl rfl (by kernel_rfl) (by kernel_rfl) (by kernel_rfl) (fun _ _ _ h => h) (Or.inl ⟨by rfl, ?_⟩) hHeld ?_
  rotate_left 1
  · intro w' (h : Bk w' w.heap.size _ _); obtain ⟨⟨z0, z1, z2⟩, _⟩ := three11 h; go_simp; try with_reducible rfl
  try simp only [Act.put, List.setIfInBounds_toArray, List.set_cons_zero, List.set_cons_succ]
  refine held_take (i := 1) (v := ?_) (some 57) rfl rfl (by kernel_rfl) (by kernel_rfl) (by kernel_rfl) (fun _ _ _ h => h) (Or.inl ⟨by rfl, ?_⟩) hHeld ?_
  rotate_left 1
  · intro w' (h : Bk w' w.heap.size _ _); obtain ⟨⟨z0, z1, z2⟩, _⟩ := three11 h; go_simp; try with_reducible rfl
  try simp only [Act.put, List.setIfInBounds_toArray, List.set_cons_zero, List.set_cons_succ]
  refine held_take (i := 3) (v := ?_) (some 59) rfl rfl (by kernel_rfl) (by kernel_rfl) (by kernel_rfl) (fun _ _ _ h => h) (Or.inl ⟨by rfl, ?_⟩) hHeld ?_
  rotate_left 1
  · intro w' (h : Bk w' w.heap.size _ _); obtain ⟨⟨z0, z1, z2⟩, _⟩ := three11 h; go_simp; try with_reducible rfl
  try simp only [Act.put, List.setIfInBounds_toArray, List.set_cons_zero, List.set_cons_succ]
  refine held_take (i := 4) (v := ?_) (some 60) rfl rfl (by kernel_rfl) (by kernel_rfl) (by kernel_rfl) (fun _ _ _ h => h) (Or.inl ⟨by rfl, ?_⟩) hHeld ?_
  rotate_left 1
  · intro w' (h : Bk w' w.heap.size _ _); obtain ⟨⟨z0, z1, z2⟩, _⟩ := three11 h; go_simp; try with_reducible rfl
  try simp only [Act.put, List.setIfInBounds_toArray, List.set_cons_zero, List.set_cons_succ]
  refine held_one (j := 2) (by kernel_rfl) rfl (fun K hK => ?_)
  try simp only [List.getElem_toArray, List.getElem_cons_succ, List.getElem_cons_zero]
  rw [if_pos (by rfl)]
  go_simp
  go_at_call 88
  (with_reducible refine (rtake_as b s s1 x xn xi HT hs w0 _ HA.out.drew HM.out.drew).mono ?_)
  rintro r w5 ⟨rfl, m5, r5, k5⟩
  refine hK.out _ _ (k5.bk HX.out hwb) (fun hHeld => ?_)
  clear hK K
  try simp only [Act.put, List.setIfInBounds_toArray, List.set_cons_zero, List.set_cons_succ]
  refine held_one (j := 5) (by kernel_rfl) rfl (fun K hK => ?_)
  try simp only [List.getElem_toArray, List.getElem_cons_succ, List.getElem_cons_zero]
  rw [if_pos (by rfl)]
  go_simp
  go_at_call 87
  rw [← HX1.out.1, ← HX1.out.2]
  (with_reducible refine (rminus_any b s1 x n 0 hl1 w0 _ r5 m5).mono ?_)
  rintro r w9 ⟨rfl, m9, r9, k9⟩
  refine hK.out _ _ (k9.bk (k5.bk HX.out hwb) hwb in_ne) (fun hHeld => ?_)
  clear hK K
  try simp only [Act.put, List.setIfInBounds_toArray, List.set_cons_zero, List.set_cons_succ]
  refine wpAnyH_done (by kernel_rfl) ?_ _
  go_wp2_with (fail)
  go_ret
  exact ⟨by rw [HP.out]; exact ret_int (by simp), by rw [HP.out]; exact m9, r9, (HK.out.trans (k5.kr (T := 66))).trans k9⟩
end Go.Proofs.YtcckemhelockaaaGreatDoor
