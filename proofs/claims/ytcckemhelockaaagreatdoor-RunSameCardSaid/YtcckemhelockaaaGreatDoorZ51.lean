/- The document's own answers of layer 9: what an expression tells, kind by kind, over what its arguments tell. -/
import Derived.Test.YtcckemhelockaaaGreatDoorZL
import Derived.Test.YtcckemhelockaaaGreatDoorZ00
import Derived.Test.YtcckemhelockaaaGreatDoorZ01
import Derived.Test.YtcckemhelockaaaGreatDoorZ02
import Derived.Test.YtcckemhelockaaaGreatDoorZ03
import Derived.Test.YtcckemhelockaaaGreatDoorZ45
import Derived.Test.YtcckemhelockaaaGreatDoorZ50
namespace Go.Proofs.YtcckemhelockaaaGreatDoor
open Go.RowKit Go.Lib
set_option linter.unusedVariables false
set_option linter.unusedSimpArgs false
def RToldAt (d : Nat) : Prop := ∀ (x : Ex) (S : Nat → Prop) (e : El) (A : Option Addr) (c : Nat) (os : List Of) (w0 w : World), fine d x = true → isCond x.k = false → Rel w0 w → ExAt S w e x → offsOk os = true → OffArg w A c os →
    Calls Tryz.prog 37 #[EV e, .slice A os.length c] w fun r w' => r = .returned (RV (toldN os d x)) ∧ Rel w0 w'
def RCondAt (d : Nat) : Prop := ∀ (x : Ex) (S : Nat → Prop) (e : El) (A : Option Addr) (c : Nat) (os : List Of) (w0 w : World), fine d x = true → isCond x.k = true → Rel w0 w → ExAt S w e x → offsOk os = true → OffArg w A c os →
    Calls Tryz.prog 65 #[EV e, .slice A os.length c] w fun r w' => r = .returned (CV (condN os d x)) ∧ Rel w0 w'
theorem told_kid {d : Nat} (H : RToldAt d) {S : Nat → Prop} {W : World} {el : El} {y : Ex} {A : Option Addr} {c : Nat} {os : List Of} (hx : fine d y = true) (hc : isCond y.k = false) (ha : ExAt S W el y) (hl : offsOk os = true) (ho : OffArg W A c os) (r : Rs) (hr : toldN os d y = r) :
    ∀ w', Rel W w' → Calls Tryz.prog 37 #[EV el, .slice A os.length c] w' fun e w2 => e = .returned (RV r) ∧ Rel w' w2 := fun w' h => by
  rw [← hr]; exact H y S el A c os w' w' hx hc h.self (ha.rel h) hl (ho.rel h)
theorem cond_kid {d : Nat} (H : RCondAt d) {S : Nat → Prop} {W : World} {el : El} {y : Ex} {A : Option Addr} {c : Nat} {os : List Of} (hx : fine d y = true) (hc : isCond y.k = true) (ha : ExAt S W el y) (hl : offsOk os = true) (ho : OffArg W A c os) (r : Except Int Bool) (hr : condN os d y = r) :
    ∀ w', Rel W w' → Calls Tryz.prog 65 #[EV el, .slice A os.length c] w' fun e w2 => e = .returned (CV r) ∧ Rel w' w2 := fun w' h => by
  rw [← hr]; exact H y S el A c os w' w' hx hc h.self (ha.rel h) hl (ho.rel h)
theorem ret_mm {a b : Int} (h : a = b) : Ending.returned (.tuple #[.int .i64 a, .bool true, .int .i64 0]) = .returned (RV (.ok (some b))) := by rw [h]; rfl
theorem kid_of {S : Nat → Prop} {w W : World} {A' : Option Addr} {es : List El} {l : List Ex} (hrow : RowE S w A' es) (hsub : ∀ i (h : i < es.length) (h' : i < l.length), ExAt S w es[i] l[i]) (hl : es.length = l.length) (hr : Rel w W) (j : Nat) (hj : j < l.length) : ∃ el : El, KidAt W A' (j * 4) el ∧ ExAt S W el l[j] := by
  obtain ⟨g, off, k, n, nm, A2, m, c, hA, h0, h1, h2, h3, ha⟩ := ExAt.arg hrow hsub hl hr j hj
  exact ⟨(k, n, nm, A2, m, c), ⟨g, off, hA, blk_of_cell h0, h0, h1, h2, h3⟩, ha⟩
set_option maxRecDepth 100000 in
set_option maxHeartbeats 4000000 in
theorem rtold_1 (d : Nat) (n : Int) (nm : List UInt8) (S : Nat → Prop) (e : El) (A : Option Addr) (c : Nat) (os : List Of) (w0 w : World) (hr : Rel w0 w) (h : ExAt S w e (.mk 1 n nm [])) (hl : offsOk os = true) (ho : OffArg w A c os) :
    Calls Tryz.prog 37 #[EV e, .slice A os.length c] w fun r w' => r = .returned (RV (toldN os (d + 1) (.mk 1 n nm []))) ∧ Rel w0 w' := by
  obtain ⟨A', c', es, rfl, hk, hn, hm, hle, hrow, hsub⟩ := h.open
  have HR := Lib.hid hr
  have HB := Lib.hid (Bk.new w 38 #[.int .i64 1, .int .i64 n, .string (B nm), .slice A' 0 c'])
  have HA := Lib.hid (hr.self.alloc (.cells #[.int .i64 1, .int .i64 n, .string (B nm), .slice A' 0 c'] 38))
  have HO := Lib.hid ho
  obtain ⟨W, hW⟩ : ∃ W, w.alloc (.cells #[.int .i64 1, .int .i64 n, .string (B nm), .slice A' 0 c'] 38) = W := ⟨_, rfl⟩
  rw [hW] at HA HB
  have HF := Lib.hid (show RV (toldN os (d + 1) (.mk 1 n nm [])) = .tuple #[.int .i64 ((rk os 0).getD 0), .bool (rk os 0).isSome, .int .i64 0] by
    rw [told_one _ _ _ rfl]
    cases rk os 0 <;> rfl)
  obtain ⟨V, hV⟩ : ∃ V, (rk os 0).getD 0 = V := ⟨_, rfl⟩
  obtain ⟨b, hb⟩ : ∃ b, (rk os 0).isSome = b := ⟨_, rfl⟩
  have hC : ∀ w', Rel W w' → Calls Tryz.prog 64 #[.slice A os.length c, .int .i64 0] w' fun e w2 => e = .returned (.tuple #[.int .i64 ((rk os 0).getD 0), .bool (rk os 0).isSome]) ∧ Rel w' w2 := fun w' hh => rrank_any A c os 0 (by omega) w' w' hh.self (ho.rel (HA.out.trans hh))
  rw [hV, hb] at hC HF
  have HC := Lib.hid hC
  have HW := Lib.hid hW
  obtain ⟨⟨c0, c1, c2, c3⟩, _⟩ := HB.out.four
  clear hrow hsub h hC hV hb ho
  go_enter Tryz.func37, Tryz.ntmps37
  rw [HF.out]
  go_wp2_with (go_at_call 64; (with_reducible refine (HC.out _ HA.out.right2).mono ?_); rintro e w1 ⟨rfl, h1⟩)
  go_ret3
  exact ⟨rfl, (HR.out.trans HA.out).trans h1⟩
set_option maxRecDepth 100000 in
set_option maxHeartbeats 4000000 in
theorem rtold_2 (d : Nat) (n : Int) (nm : List UInt8) (S : Nat → Prop) (e : El) (A : Option Addr) (c : Nat) (os : List Of) (w0 w : World) (hr : Rel w0 w) (h : ExAt S w e (.mk 2 n nm [])) (hl : offsOk os = true) (ho : OffArg w A c os) :
    Calls Tryz.prog 37 #[EV e, .slice A os.length c] w fun r w' => r = .returned (RV (toldN os (d + 1) (.mk 2 n nm []))) ∧ Rel w0 w' := by
  obtain ⟨A', c', es, rfl, hk, hn, hm, hle, hrow, hsub⟩ := h.open
  have HR := Lib.hid hr
  have HB := Lib.hid (Bk.new w 38 #[.int .i64 2, .int .i64 n, .string (B nm), .slice A' 0 c'])
  have HA := Lib.hid (hr.self.alloc (.cells #[.int .i64 2, .int .i64 n, .string (B nm), .slice A' 0 c'] 38))
  have HO := Lib.hid ho
  obtain ⟨W, hW⟩ : ∃ W, w.alloc (.cells #[.int .i64 2, .int .i64 n, .string (B nm), .slice A' 0 c'] 38) = W := ⟨_, rfl⟩
  rw [hW] at HA HB
  have HF := Lib.hid (show RV (toldN os (d + 1) (.mk 2 n nm [])) = .tuple #[.int .i64 ((rk os 1).getD 0), .bool (rk os 1).isSome, .int .i64 0] by
    rw [told_two _ _ _ rfl]
    cases rk os 1 <;> rfl)
  obtain ⟨V, hV⟩ : ∃ V, (rk os 1).getD 0 = V := ⟨_, rfl⟩
  obtain ⟨b, hb⟩ : ∃ b, (rk os 1).isSome = b := ⟨_, rfl⟩
  have hC : ∀ w', Rel W w' → Calls Tryz.prog 64 #[.slice A os.length c, .int .i64 1] w' fun e w2 => e = .returned (.tuple #[.int .i64 ((rk os 1).getD 0), .bool (rk os 1).isSome]) ∧ Rel w' w2 := fun w' hh => rrank_any A c os 1 (by omega) w' w' hh.self (ho.rel (HA.out.trans hh))
  rw [hV, hb] at hC HF
  have HC := Lib.hid hC
  have HW := Lib.hid hW
  obtain ⟨⟨c0, c1, c2, c3⟩, _⟩ := HB.out.four
  clear hrow hsub h hC hV hb ho
  go_enter Tryz.func37, Tryz.ntmps37
  rw [HF.out]
  go_wp2_with (go_at_call 64; (with_reducible refine (HC.out _ HA.out.right2).mono ?_); rintro e w1 ⟨rfl, h1⟩)
  go_ret3
  exact ⟨rfl, (HR.out.trans HA.out).trans h1⟩
set_option maxRecDepth 100000 in
set_option maxHeartbeats 4000000 in
theorem rtold_4 (d : Nat) (n : Int) (nm : List UInt8) (S : Nat → Prop) (e : El) (A : Option Addr) (c : Nat) (os : List Of) (w0 w : World) (hr : Rel w0 w) (h : ExAt S w e (.mk 4 n nm [])) (hl : offsOk os = true) (ho : OffArg w A c os) :
    Calls Tryz.prog 37 #[EV e, .slice A os.length c] w fun r w' => r = .returned (RV (toldN os (d + 1) (.mk 4 n nm []))) ∧ Rel w0 w' := by
  obtain ⟨A', c', es, rfl, hk, hn, hm, hle, hrow, hsub⟩ := h.open
  have HR := Lib.hid hr
  have HB := Lib.hid (Bk.new w 38 #[.int .i64 4, .int .i64 n, .string (B nm), .slice A' 0 c'])
  have HA := Lib.hid (hr.self.alloc (.cells #[.int .i64 4, .int .i64 n, .string (B nm), .slice A' 0 c'] 38))
  have HO := Lib.hid ho
  obtain ⟨W, hW⟩ : ∃ W, w.alloc (.cells #[.int .i64 4, .int .i64 n, .string (B nm), .slice A' 0 c'] 38) = W := ⟨_, rfl⟩
  rw [hW] at HA HB
  have HF := Lib.hid (show RV (toldN os (d + 1) (.mk 4 n nm [])) = .tuple #[.int .i64 n, .bool true, .int .i64 0] by
    rw [told_fix _ _ _ rfl]; rfl)
  have HW := Lib.hid hW
  obtain ⟨⟨c0, c1, c2, c3⟩, _⟩ := HB.out.four
  clear hrow hsub h ho
  go_enter Tryz.func37, Tryz.ntmps37
  rw [HF.out]
  go_wp2_with (fail)
  go_ret3
  exact ⟨rfl, HR.out.trans HA.out⟩
set_option maxRecDepth 100000 in
set_option maxHeartbeats 4000000 in
theorem rtold_5e (d : Nat) (n : Int) (nm : List UInt8) (y : Ex) (H : RToldAt d) (hf0 : fine d y = true) (hc0 : isCond y.k = false) {er : Int} (he : (er != 0) = true) (S : Nat → Prop) (e : El) (A : Option Addr) (c : Nat) (os : List Of) (w0 w : World) (hr : Rel w0 w) (h : ExAt S w e (.mk 5 n nm [y])) (hl : offsOk os = true) (ho : OffArg w A c os) (q0 : toldN os d y = .error er) :
    Calls Tryz.prog 37 #[EV e, .slice A os.length c] w fun z w' => z = .returned (RV (.error er)) ∧ Rel w0 w' := by
  obtain ⟨A', c', es, rfl, hk, hn, hm, hle, hrow, hsub⟩ := h.open
  have HR := Lib.hid hr
  have HB := Lib.hid (Bk.new w 38 #[.int .i64 5, .int .i64 n, .string (B nm), .slice A' 1 c'])
  have HA := Lib.hid (hr.self.alloc (.cells #[.int .i64 5, .int .i64 n, .string (B nm), .slice A' 1 c'] 38))
  have HO := Lib.hid ho
  obtain ⟨W, hW⟩ : ∃ W, w.alloc (.cells #[.int .i64 5, .int .i64 n, .string (B nm), .slice A' 1 c'] 38) = W := ⟨_, rfl⟩
  rw [hW] at HA HB
  obtain ⟨el0, hK0, ha0⟩ := kid_of hrow hsub hle HA.out 0 (by simp)
  obtain ⟨g, off, rfl⟩ := hK0.some
  have HK0 := Lib.hid (show KidAt W (some ⟨g, off, none⟩) 0 el0 from hK0)
  have HC0 : Hid (∀ w', Rel W w' → Calls Tryz.prog 37 #[EV el0, .slice A os.length c] w' fun e w2 => e = .returned (.tuple #[.int .i64 0, .bool false, .int .i64 er]) ∧ Rel w' w2) := Lib.hid (told_kid H hf0 hc0 ha0 hl (ho.rel HA.out) (.error er) q0)
  obtain ⟨⟨b0, b1, b2, b3⟩, _⟩ := HB.out.four
  obtain ⟨x00, x01, x02, x03⟩ := HK0.out.at0
  clear hrow hsub h hK0 ha0 ho
  go_enter Tryz.func37, Tryz.ntmps37
  go_wp2_with (first
    | (go_at_call 37; (with_reducible refine (HC0.out _ (show Rel W W from HA.out.right2)).mono ?_); rintro e w1 ⟨rfl, h1⟩; have R1 := Lib.hid h1; obtain ⟨⟨d10, d11, d12, d13⟩, _⟩ := (HB.out.rel R1.out).four))
  all_goals
    go_ret3
    exact ⟨rfl, (HR.out.trans HA.out).trans R1.out⟩
set_option maxRecDepth 100000 in
set_option maxHeartbeats 4000000 in
theorem rtold_5n (d : Nat) (n : Int) (nm : List UInt8) (y : Ex) (H : RToldAt d) (hf0 : fine d y = true) (hc0 : isCond y.k = false) (S : Nat → Prop) (e : El) (A : Option Addr) (c : Nat) (os : List Of) (w0 w : World) (hr : Rel w0 w) (h : ExAt S w e (.mk 5 n nm [y])) (hl : offsOk os = true) (ho : OffArg w A c os) (q0 : toldN os d y = .ok none) :
    Calls Tryz.prog 37 #[EV e, .slice A os.length c] w fun z w' => z = .returned (RV (.ok none)) ∧ Rel w0 w' := by
  obtain ⟨A', c', es, rfl, hk, hn, hm, hle, hrow, hsub⟩ := h.open
  have HR := Lib.hid hr
  have HB := Lib.hid (Bk.new w 38 #[.int .i64 5, .int .i64 n, .string (B nm), .slice A' 1 c'])
  have HA := Lib.hid (hr.self.alloc (.cells #[.int .i64 5, .int .i64 n, .string (B nm), .slice A' 1 c'] 38))
  have HO := Lib.hid ho
  obtain ⟨W, hW⟩ : ∃ W, w.alloc (.cells #[.int .i64 5, .int .i64 n, .string (B nm), .slice A' 1 c'] 38) = W := ⟨_, rfl⟩
  rw [hW] at HA HB
  obtain ⟨el0, hK0, ha0⟩ := kid_of hrow hsub hle HA.out 0 (by simp)
  obtain ⟨g, off, rfl⟩ := hK0.some
  have HK0 := Lib.hid (show KidAt W (some ⟨g, off, none⟩) 0 el0 from hK0)
  have HC0 : Hid (∀ w', Rel W w' → Calls Tryz.prog 37 #[EV el0, .slice A os.length c] w' fun e w2 => e = .returned (.tuple #[.int .i64 0, .bool false, .int .i64 0]) ∧ Rel w' w2) := Lib.hid (told_kid H hf0 hc0 ha0 hl (ho.rel HA.out) (.ok none) q0)
  obtain ⟨⟨b0, b1, b2, b3⟩, _⟩ := HB.out.four
  obtain ⟨x00, x01, x02, x03⟩ := HK0.out.at0
  clear hrow hsub h hK0 ha0 ho
  go_enter Tryz.func37, Tryz.ntmps37
  go_wp2_with (first
    | (go_at_call 37; (with_reducible refine (HC0.out _ (show Rel W W from HA.out.right2)).mono ?_); rintro e w1 ⟨rfl, h1⟩; have R1 := Lib.hid h1; obtain ⟨⟨d10, d11, d12, d13⟩, _⟩ := (HB.out.rel R1.out).four))
  all_goals
    go_ret3
    exact ⟨rfl, (HR.out.trans HA.out).trans R1.out⟩
theorem sub_tri (v n : Int) : RV (subR v n) = .tuple #[.int .i64 (two1 v n (v - n)), .bool (two2 v n (v - n) == 0), .int .i64 (two2 v n (v - n))] := by
  unfold subR
  by_cases h : two2 v n (v - n) = 0
  · rw [if_pos h, h]; rfl
  · rw [if_neg h]
    have : two1 v n (v - n) = 0 := by
      unfold two1 told1
      unfold two2 told2 at h
      by_cases h1 : (rt v && rt n) = true
      · rw [if_pos h1] at h ⊢
        by_cases h2 : rt (v - n) = true
        · rw [if_pos h2] at h; exact absurd rfl h
        · rw [if_neg h2]
      · rw [if_neg h1]
    rw [this, show (two2 v n (v - n) == 0) = false by simpa using h]; rfl
set_option maxRecDepth 100000 in
set_option maxHeartbeats 4000000 in
theorem rtold_5s (d : Nat) (n : Int) (nm : List UInt8) (y : Ex) (H : RToldAt d) (hf0 : fine d y = true) (hc0 : isCond y.k = false) {v : Int} (S : Nat → Prop) (e : El) (A : Option Addr) (c : Nat) (os : List Of) (w0 w : World) (hr : Rel w0 w) (h : ExAt S w e (.mk 5 n nm [y])) (hl : offsOk os = true) (ho : OffArg w A c os) (q0 : toldN os d y = .ok (some v)) :
    Calls Tryz.prog 37 #[EV e, .slice A os.length c] w fun z w' => z = .returned (RV (subR v n)) ∧ Rel w0 w' := by
  obtain ⟨A', c', es, rfl, hk, hn, hm, hle, hrow, hsub⟩ := h.open
  have HR := Lib.hid hr
  have HB := Lib.hid (Bk.new w 38 #[.int .i64 5, .int .i64 n, .string (B nm), .slice A' 1 c'])
  have HA := Lib.hid (hr.self.alloc (.cells #[.int .i64 5, .int .i64 n, .string (B nm), .slice A' 1 c'] 38))
  have HO := Lib.hid ho
  obtain ⟨W, hW⟩ : ∃ W, w.alloc (.cells #[.int .i64 5, .int .i64 n, .string (B nm), .slice A' 1 c'] 38) = W := ⟨_, rfl⟩
  rw [hW] at HA HB
  obtain ⟨el0, hK0, ha0⟩ := kid_of hrow hsub hle HA.out 0 (by simp)
  obtain ⟨g, off, rfl⟩ := hK0.some
  have HK0 := Lib.hid (show KidAt W (some ⟨g, off, none⟩) 0 el0 from hK0)
  have HC0 : Hid (∀ w', Rel W w' → Calls Tryz.prog 37 #[EV el0, .slice A os.length c] w' fun e w2 => e = .returned (.tuple #[.int .i64 v, .bool true, .int .i64 0]) ∧ Rel w' w2) := Lib.hid (told_kid H hf0 hc0 ha0 hl (ho.rel HA.out) (.ok (some v)) q0)
  obtain ⟨U, hU⟩ : ∃ U, two1 v n (v - n) = U := ⟨_, rfl⟩
  obtain ⟨E, hE⟩ : ∃ E, two2 v n (v - n) = E := ⟨_, rfl⟩
  have hS := fun w => m9rsub_any v n w
  have hF := sub_tri v n
  unfold Two at hS
  rw [hU, hE] at hS hF
  have HS := Lib.hid hS
  have HF := Lib.hid hF
  clear hU hE hS hF
  obtain ⟨⟨b0, b1, b2, b3⟩, _⟩ := HB.out.four
  obtain ⟨x00, x01, x02, x03⟩ := HK0.out.at0
  clear hrow hsub h hK0 ha0 ho
  go_enter Tryz.func37, Tryz.ntmps37
  go_wp2_with (first
    | (go_at_call 37; (with_reducible refine (HC0.out _ (show Rel W W from HA.out.right2)).mono ?_); rintro e w1 ⟨rfl, h1⟩; have R1 := Lib.hid h1; obtain ⟨⟨d10, d11, d12, d13⟩, _⟩ := (HB.out.rel R1.out).four)
    | (go_at_call 67; (with_reducible refine (HS.out _).mono ?_); rintro e w9 ⟨rfl, rfl⟩))
  all_goals
    go_ret3
    exact ⟨by rw [HF.out]; rfl, (HR.out.trans HA.out).trans R1.out⟩
set_option maxRecDepth 100000 in
set_option maxHeartbeats 4000000 in
theorem rtold_6e (d : Nat) (n : Int) (nm : List UInt8) (y : Ex) (H : RToldAt d) (hf0 : fine d y = true) (hc0 : isCond y.k = false) {er : Int} (he : (er != 0) = true) (S : Nat → Prop) (e : El) (A : Option Addr) (c : Nat) (os : List Of) (w0 w : World) (hr : Rel w0 w) (h : ExAt S w e (.mk 6 n nm [y])) (hl : offsOk os = true) (ho : OffArg w A c os) (q0 : toldN os d y = .error er) :
    Calls Tryz.prog 37 #[EV e, .slice A os.length c] w fun z w' => z = .returned (RV (.error er)) ∧ Rel w0 w' := by
  obtain ⟨A', c', es, rfl, hk, hn, hm, hle, hrow, hsub⟩ := h.open
  have HR := Lib.hid hr
  have HB := Lib.hid (Bk.new w 38 #[.int .i64 6, .int .i64 n, .string (B nm), .slice A' 1 c'])
  have HA := Lib.hid (hr.self.alloc (.cells #[.int .i64 6, .int .i64 n, .string (B nm), .slice A' 1 c'] 38))
  have HO := Lib.hid ho
  obtain ⟨W, hW⟩ : ∃ W, w.alloc (.cells #[.int .i64 6, .int .i64 n, .string (B nm), .slice A' 1 c'] 38) = W := ⟨_, rfl⟩
  rw [hW] at HA HB
  obtain ⟨el0, hK0, ha0⟩ := kid_of hrow hsub hle HA.out 0 (by simp)
  obtain ⟨g, off, rfl⟩ := hK0.some
  have HK0 := Lib.hid (show KidAt W (some ⟨g, off, none⟩) 0 el0 from hK0)
  have HC0 : Hid (∀ w', Rel W w' → Calls Tryz.prog 37 #[EV el0, .slice A os.length c] w' fun e w2 => e = .returned (.tuple #[.int .i64 0, .bool false, .int .i64 er]) ∧ Rel w' w2) := Lib.hid (told_kid H hf0 hc0 ha0 hl (ho.rel HA.out) (.error er) q0)
  obtain ⟨⟨b0, b1, b2, b3⟩, _⟩ := HB.out.four
  obtain ⟨x00, x01, x02, x03⟩ := HK0.out.at0
  clear hrow hsub h hK0 ha0 ho
  go_enter Tryz.func37, Tryz.ntmps37
  go_wp2_with (first
    | (go_at_call 37; (with_reducible refine (HC0.out _ (show Rel W W from HA.out.right2)).mono ?_); rintro e w1 ⟨rfl, h1⟩; have R1 := Lib.hid h1; obtain ⟨⟨d10, d11, d12, d13⟩, _⟩ := (HB.out.rel R1.out).four))
  all_goals
    go_ret3
    exact ⟨rfl, (HR.out.trans HA.out).trans R1.out⟩
set_option maxRecDepth 100000 in
set_option maxHeartbeats 4000000 in
theorem rtold_6n (d : Nat) (n : Int) (nm : List UInt8) (y : Ex) (H : RToldAt d) (hf0 : fine d y = true) (hc0 : isCond y.k = false) (S : Nat → Prop) (e : El) (A : Option Addr) (c : Nat) (os : List Of) (w0 w : World) (hr : Rel w0 w) (h : ExAt S w e (.mk 6 n nm [y])) (hl : offsOk os = true) (ho : OffArg w A c os) (q0 : toldN os d y = .ok none) :
    Calls Tryz.prog 37 #[EV e, .slice A os.length c] w fun z w' => z = .returned (RV (.ok none)) ∧ Rel w0 w' := by
  obtain ⟨A', c', es, rfl, hk, hn, hm, hle, hrow, hsub⟩ := h.open
  have HR := Lib.hid hr
  have HB := Lib.hid (Bk.new w 38 #[.int .i64 6, .int .i64 n, .string (B nm), .slice A' 1 c'])
  have HA := Lib.hid (hr.self.alloc (.cells #[.int .i64 6, .int .i64 n, .string (B nm), .slice A' 1 c'] 38))
  have HO := Lib.hid ho
  obtain ⟨W, hW⟩ : ∃ W, w.alloc (.cells #[.int .i64 6, .int .i64 n, .string (B nm), .slice A' 1 c'] 38) = W := ⟨_, rfl⟩
  rw [hW] at HA HB
  obtain ⟨el0, hK0, ha0⟩ := kid_of hrow hsub hle HA.out 0 (by simp)
  obtain ⟨g, off, rfl⟩ := hK0.some
  have HK0 := Lib.hid (show KidAt W (some ⟨g, off, none⟩) 0 el0 from hK0)
  have HC0 : Hid (∀ w', Rel W w' → Calls Tryz.prog 37 #[EV el0, .slice A os.length c] w' fun e w2 => e = .returned (.tuple #[.int .i64 0, .bool false, .int .i64 0]) ∧ Rel w' w2) := Lib.hid (told_kid H hf0 hc0 ha0 hl (ho.rel HA.out) (.ok none) q0)
  obtain ⟨⟨b0, b1, b2, b3⟩, _⟩ := HB.out.four
  obtain ⟨x00, x01, x02, x03⟩ := HK0.out.at0
  clear hrow hsub h hK0 ha0 ho
  go_enter Tryz.func37, Tryz.ntmps37
  go_wp2_with (first
    | (go_at_call 37; (with_reducible refine (HC0.out _ (show Rel W W from HA.out.right2)).mono ?_); rintro e w1 ⟨rfl, h1⟩; have R1 := Lib.hid h1; obtain ⟨⟨d10, d11, d12, d13⟩, _⟩ := (HB.out.rel R1.out).four))
  all_goals
    go_ret3
    exact ⟨rfl, (HR.out.trans HA.out).trans R1.out⟩
set_option maxRecDepth 100000 in
set_option maxHeartbeats 4000000 in
theorem rtold_6p (d : Nat) (n : Int) (nm : List UInt8) (y : Ex) (H : RToldAt d) (hf0 : fine d y = true) (hc0 : isCond y.k = false) {v P pe : Int} (hp : part1 v n false = P) (hpe : part2 v n false = pe) (he : (pe != 0) = true) (S : Nat → Prop) (e : El) (A : Option Addr) (c : Nat) (os : List Of) (w0 w : World) (hr : Rel w0 w) (h : ExAt S w e (.mk 6 n nm [y])) (hl : offsOk os = true) (ho : OffArg w A c os) (q0 : toldN os d y = .ok (some v)) :
    Calls Tryz.prog 37 #[EV e, .slice A os.length c] w fun z w' => z = .returned (RV (.error pe)) ∧ Rel w0 w' := by
  obtain ⟨A', c', es, rfl, hk, hn, hm, hle, hrow, hsub⟩ := h.open
  have HR := Lib.hid hr
  have HB := Lib.hid (Bk.new w 38 #[.int .i64 6, .int .i64 n, .string (B nm), .slice A' 1 c'])
  have HA := Lib.hid (hr.self.alloc (.cells #[.int .i64 6, .int .i64 n, .string (B nm), .slice A' 1 c'] 38))
  have HO := Lib.hid ho
  obtain ⟨W, hW⟩ : ∃ W, w.alloc (.cells #[.int .i64 6, .int .i64 n, .string (B nm), .slice A' 1 c'] 38) = W := ⟨_, rfl⟩
  rw [hW] at HA HB
  obtain ⟨el0, hK0, ha0⟩ := kid_of hrow hsub hle HA.out 0 (by simp)
  obtain ⟨g, off, rfl⟩ := hK0.some
  have HK0 := Lib.hid (show KidAt W (some ⟨g, off, none⟩) 0 el0 from hK0)
  have HC0 : Hid (∀ w', Rel W w' → Calls Tryz.prog 37 #[EV el0, .slice A os.length c] w' fun e w2 => e = .returned (.tuple #[.int .i64 v, .bool true, .int .i64 0]) ∧ Rel w' w2) := Lib.hid (told_kid H hf0 hc0 ha0 hl (ho.rel HA.out) (.ok (some v)) q0)
  have hP := fun w => m9rpart_any v n false w
  unfold Two at hP
  rw [hp, hpe] at hP
  have HP := Lib.hid hP
  clear hP hp hpe
  obtain ⟨⟨b0, b1, b2, b3⟩, _⟩ := HB.out.four
  obtain ⟨x00, x01, x02, x03⟩ := HK0.out.at0
  clear hrow hsub h hK0 ha0 ho
  go_enter Tryz.func37, Tryz.ntmps37
  go_wp2_with (first
    | (go_at_call 37; (with_reducible refine (HC0.out _ (show Rel W W from HA.out.right2)).mono ?_); rintro e w1 ⟨rfl, h1⟩; have R1 := Lib.hid h1; obtain ⟨⟨d10, d11, d12, d13⟩, _⟩ := (HB.out.rel R1.out).four)
    | (go_at_call 66; (with_reducible refine (HP.out _).mono ?_); rintro e w8 ⟨rfl, rfl⟩))
  all_goals
    go_ret3
    exact ⟨rfl, (HR.out.trans HA.out).trans R1.out⟩
set_option maxRecDepth 100000 in
set_option maxHeartbeats 4000000 in
theorem rtold_6s (d : Nat) (n : Int) (nm : List UInt8) (y : Ex) (H : RToldAt d) (hf0 : fine d y = true) (hc0 : isCond y.k = false) {v P : Int} (hp : part1 v n false = P) (hpe : part2 v n false = 0) (S : Nat → Prop) (e : El) (A : Option Addr) (c : Nat) (os : List Of) (w0 w : World) (hr : Rel w0 w) (h : ExAt S w e (.mk 6 n nm [y])) (hl : offsOk os = true) (ho : OffArg w A c os) (q0 : toldN os d y = .ok (some v)) :
    Calls Tryz.prog 37 #[EV e, .slice A os.length c] w fun z w' => z = .returned (RV (subR v P)) ∧ Rel w0 w' := by
  obtain ⟨A', c', es, rfl, hk, hn, hm, hle, hrow, hsub⟩ := h.open
  have HR := Lib.hid hr
  have HB := Lib.hid (Bk.new w 38 #[.int .i64 6, .int .i64 n, .string (B nm), .slice A' 1 c'])
  have HA := Lib.hid (hr.self.alloc (.cells #[.int .i64 6, .int .i64 n, .string (B nm), .slice A' 1 c'] 38))
  have HO := Lib.hid ho
  obtain ⟨W, hW⟩ : ∃ W, w.alloc (.cells #[.int .i64 6, .int .i64 n, .string (B nm), .slice A' 1 c'] 38) = W := ⟨_, rfl⟩
  rw [hW] at HA HB
  obtain ⟨el0, hK0, ha0⟩ := kid_of hrow hsub hle HA.out 0 (by simp)
  obtain ⟨g, off, rfl⟩ := hK0.some
  have HK0 := Lib.hid (show KidAt W (some ⟨g, off, none⟩) 0 el0 from hK0)
  have HC0 : Hid (∀ w', Rel W w' → Calls Tryz.prog 37 #[EV el0, .slice A os.length c] w' fun e w2 => e = .returned (.tuple #[.int .i64 v, .bool true, .int .i64 0]) ∧ Rel w' w2) := Lib.hid (told_kid H hf0 hc0 ha0 hl (ho.rel HA.out) (.ok (some v)) q0)
  have hP := fun w => m9rpart_any v n false w
  unfold Two at hP
  rw [hp, hpe] at hP
  have HP := Lib.hid hP
  clear hP hp hpe
  obtain ⟨U, hU⟩ : ∃ U, two1 v P (v - P) = U := ⟨_, rfl⟩
  obtain ⟨E, hE⟩ : ∃ E, two2 v P (v - P) = E := ⟨_, rfl⟩
  have hS := fun w => m9rsub_any v P w
  have hF := sub_tri v P
  unfold Two at hS
  rw [hU, hE] at hS hF
  have HS := Lib.hid hS
  have HF := Lib.hid hF
  clear hU hE hS hF
  obtain ⟨⟨b0, b1, b2, b3⟩, _⟩ := HB.out.four
  obtain ⟨x00, x01, x02, x03⟩ := HK0.out.at0
  clear hrow hsub h hK0 ha0 ho
  go_enter Tryz.func37, Tryz.ntmps37
  go_wp2_with (first
    | (go_at_call 37; (with_reducible refine (HC0.out _ (show Rel W W from HA.out.right2)).mono ?_); rintro e w1 ⟨rfl, h1⟩; have R1 := Lib.hid h1; obtain ⟨⟨d10, d11, d12, d13⟩, _⟩ := (HB.out.rel R1.out).four)
    | (go_at_call 66; (with_reducible refine (HP.out _).mono ?_); rintro e w8 ⟨rfl, rfl⟩)
    | (go_at_call 67; (with_reducible refine (HS.out _).mono ?_); rintro e w9 ⟨rfl, rfl⟩))
  all_goals
    go_ret3
    exact ⟨by rw [HF.out]; rfl, (HR.out.trans HA.out).trans R1.out⟩
set_option maxRecDepth 100000 in
set_option maxHeartbeats 4000000 in
theorem rtold_7e (d : Nat) (n : Int) (nm : List UInt8) (x y : Ex) (H : RToldAt d) (hf0 : fine d x = true) (hc0 : isCond x.k = false) {er : Int} (he : (er != 0) = true) (S : Nat → Prop) (e : El) (A : Option Addr) (c : Nat) (os : List Of) (w0 w : World) (hr : Rel w0 w) (h : ExAt S w e (.mk 7 n nm [x, y])) (hl : offsOk os = true) (ho : OffArg w A c os) (q0 : toldN os d x = .error er) :
    Calls Tryz.prog 37 #[EV e, .slice A os.length c] w fun z w' => z = .returned (RV (.error er)) ∧ Rel w0 w' := by
  obtain ⟨A', c', es, rfl, hk, hn, hm, hle, hrow, hsub⟩ := h.open
  have HR := Lib.hid hr
  have HB := Lib.hid (Bk.new w 38 #[.int .i64 7, .int .i64 n, .string (B nm), .slice A' 2 c'])
  have HA := Lib.hid (hr.self.alloc (.cells #[.int .i64 7, .int .i64 n, .string (B nm), .slice A' 2 c'] 38))
  have HO := Lib.hid ho
  obtain ⟨W, hW⟩ : ∃ W, w.alloc (.cells #[.int .i64 7, .int .i64 n, .string (B nm), .slice A' 2 c'] 38) = W := ⟨_, rfl⟩
  rw [hW] at HA HB
  obtain ⟨el0, hK0, ha0⟩ := kid_of hrow hsub hle HA.out 0 (by simp)
  obtain ⟨el1, hK1, ha1⟩ := kid_of hrow hsub hle HA.out 1 (by simp)
  obtain ⟨g, off, rfl⟩ := hK0.some
  have HK0 := Lib.hid (show KidAt W (some ⟨g, off, none⟩) 0 el0 from hK0)
  have HK1 := Lib.hid (show KidAt W (some ⟨g, off, none⟩) 4 el1 from hK1)
  have HC0 : Hid (∀ w', Rel W w' → Calls Tryz.prog 37 #[EV el0, .slice A os.length c] w' fun e w2 => e = .returned (.tuple #[.int .i64 0, .bool false, .int .i64 er]) ∧ Rel w' w2) := Lib.hid (told_kid H hf0 hc0 ha0 hl (ho.rel HA.out) (.error er) q0)
  obtain ⟨⟨b0, b1, b2, b3⟩, _⟩ := HB.out.four
  obtain ⟨x00, x01, x02, x03⟩ := HK0.out.at0
  clear hrow hsub h hK0 ha0 hK1 ha1 ho
  go_enter Tryz.func37, Tryz.ntmps37
  go_wp2_with (first
    | (go_at_call 37; (with_reducible refine (HC0.out _ (show Rel W W from HA.out.right2)).mono ?_); rintro e w1 ⟨rfl, h1⟩; have R1 := Lib.hid h1; obtain ⟨⟨d10, d11, d12, d13⟩, _⟩ := (HB.out.rel R1.out).four))
  all_goals
    go_ret3
    exact ⟨rfl, (HR.out.trans HA.out).trans R1.out⟩
set_option maxRecDepth 100000 in
set_option maxHeartbeats 4000000 in
theorem rtold_7ne (d : Nat) (n : Int) (nm : List UInt8) (x y : Ex) (H : RToldAt d) (hf0 : fine d x = true) (hc0 : isCond x.k = false) (hf1 : fine d y = true) (hc1 : isCond y.k = false) {er : Int} (he : (er != 0) = true) (S : Nat → Prop) (e : El) (A : Option Addr) (c : Nat) (os : List Of) (w0 w : World) (hr : Rel w0 w) (h : ExAt S w e (.mk 7 n nm [x, y])) (hl : offsOk os = true) (ho : OffArg w A c os) (q0 : toldN os d x = .ok none) (q1 : toldN os d y = .error er) :
    Calls Tryz.prog 37 #[EV e, .slice A os.length c] w fun z w' => z = .returned (RV (.error er)) ∧ Rel w0 w' := by
  obtain ⟨A', c', es, rfl, hk, hn, hm, hle, hrow, hsub⟩ := h.open
  have HR := Lib.hid hr
  have HB := Lib.hid (Bk.new w 38 #[.int .i64 7, .int .i64 n, .string (B nm), .slice A' 2 c'])
  have HA := Lib.hid (hr.self.alloc (.cells #[.int .i64 7, .int .i64 n, .string (B nm), .slice A' 2 c'] 38))
  have HO := Lib.hid ho
  obtain ⟨W, hW⟩ : ∃ W, w.alloc (.cells #[.int .i64 7, .int .i64 n, .string (B nm), .slice A' 2 c'] 38) = W := ⟨_, rfl⟩
  rw [hW] at HA HB
  obtain ⟨el0, hK0, ha0⟩ := kid_of hrow hsub hle HA.out 0 (by simp)
  obtain ⟨el1, hK1, ha1⟩ := kid_of hrow hsub hle HA.out 1 (by simp)
  obtain ⟨g, off, rfl⟩ := hK0.some
  have HK0 := Lib.hid (show KidAt W (some ⟨g, off, none⟩) 0 el0 from hK0)
  have HK1 := Lib.hid (show KidAt W (some ⟨g, off, none⟩) 4 el1 from hK1)
  have HC0 : Hid (∀ w', Rel W w' → Calls Tryz.prog 37 #[EV el0, .slice A os.length c] w' fun e w2 => e = .returned (.tuple #[.int .i64 0, .bool false, .int .i64 0]) ∧ Rel w' w2) := Lib.hid (told_kid H hf0 hc0 ha0 hl (ho.rel HA.out) (.ok none) q0)
  have HC1 : Hid (∀ w', Rel W w' → Calls Tryz.prog 37 #[EV el1, .slice A os.length c] w' fun e w2 => e = .returned (.tuple #[.int .i64 0, .bool false, .int .i64 er]) ∧ Rel w' w2) := Lib.hid (told_kid H hf1 hc1 ha1 hl (ho.rel HA.out) (.error er) q1)
  obtain ⟨⟨b0, b1, b2, b3⟩, _⟩ := HB.out.four
  obtain ⟨x00, x01, x02, x03⟩ := HK0.out.at0
  clear hrow hsub h hK0 ha0 hK1 ha1 ho
  go_enter Tryz.func37, Tryz.ntmps37
  go_wp2_with (first
    | (go_at_call 37; (with_reducible refine (HC0.out _ (show Rel W W from HA.out.right2)).mono ?_); rintro e w1 ⟨rfl, h1⟩; have R1 := Lib.hid h1; obtain ⟨⟨d10, d11, d12, d13⟩, _⟩ := (HB.out.rel R1.out).four; obtain ⟨y10, y11, y12, y13⟩ := (HK1.out.rel R1.out).at)
    | (go_at_call 37; (with_reducible refine (HC1.out _ R1.out).mono ?_); rintro e w2 ⟨rfl, h2⟩; have R2 := Lib.hid (R1.out.trans h2); obtain ⟨⟨d20, d21, d22, d23⟩, _⟩ := (HB.out.rel R2.out).four))
  all_goals
    go_ret3
    exact ⟨rfl, (HR.out.trans HA.out).trans R2.out⟩
set_option maxRecDepth 100000 in
set_option maxHeartbeats 4000000 in
theorem rtold_7nn (d : Nat) (n : Int) (nm : List UInt8) (x y : Ex) (H : RToldAt d) (hf0 : fine d x = true) (hc0 : isCond x.k = false) (hf1 : fine d y = true) (hc1 : isCond y.k = false) (S : Nat → Prop) (e : El) (A : Option Addr) (c : Nat) (os : List Of) (w0 w : World) (hr : Rel w0 w) (h : ExAt S w e (.mk 7 n nm [x, y])) (hl : offsOk os = true) (ho : OffArg w A c os) (q0 : toldN os d x = .ok none) (q1 : toldN os d y = .ok none) :
    Calls Tryz.prog 37 #[EV e, .slice A os.length c] w fun z w' => z = .returned (RV (.ok none)) ∧ Rel w0 w' := by
  obtain ⟨A', c', es, rfl, hk, hn, hm, hle, hrow, hsub⟩ := h.open
  have HR := Lib.hid hr
  have HB := Lib.hid (Bk.new w 38 #[.int .i64 7, .int .i64 n, .string (B nm), .slice A' 2 c'])
  have HA := Lib.hid (hr.self.alloc (.cells #[.int .i64 7, .int .i64 n, .string (B nm), .slice A' 2 c'] 38))
  have HO := Lib.hid ho
  obtain ⟨W, hW⟩ : ∃ W, w.alloc (.cells #[.int .i64 7, .int .i64 n, .string (B nm), .slice A' 2 c'] 38) = W := ⟨_, rfl⟩
  rw [hW] at HA HB
  obtain ⟨el0, hK0, ha0⟩ := kid_of hrow hsub hle HA.out 0 (by simp)
  obtain ⟨el1, hK1, ha1⟩ := kid_of hrow hsub hle HA.out 1 (by simp)
  obtain ⟨g, off, rfl⟩ := hK0.some
  have HK0 := Lib.hid (show KidAt W (some ⟨g, off, none⟩) 0 el0 from hK0)
  have HK1 := Lib.hid (show KidAt W (some ⟨g, off, none⟩) 4 el1 from hK1)
  have HC0 : Hid (∀ w', Rel W w' → Calls Tryz.prog 37 #[EV el0, .slice A os.length c] w' fun e w2 => e = .returned (.tuple #[.int .i64 0, .bool false, .int .i64 0]) ∧ Rel w' w2) := Lib.hid (told_kid H hf0 hc0 ha0 hl (ho.rel HA.out) (.ok none) q0)
  have HC1 : Hid (∀ w', Rel W w' → Calls Tryz.prog 37 #[EV el1, .slice A os.length c] w' fun e w2 => e = .returned (.tuple #[.int .i64 0, .bool false, .int .i64 0]) ∧ Rel w' w2) := Lib.hid (told_kid H hf1 hc1 ha1 hl (ho.rel HA.out) (.ok none) q1)
  obtain ⟨⟨b0, b1, b2, b3⟩, _⟩ := HB.out.four
  obtain ⟨x00, x01, x02, x03⟩ := HK0.out.at0
  clear hrow hsub h hK0 ha0 hK1 ha1 ho
  go_enter Tryz.func37, Tryz.ntmps37
  go_wp2_with (first
    | (go_at_call 37; (with_reducible refine (HC0.out _ (show Rel W W from HA.out.right2)).mono ?_); rintro e w1 ⟨rfl, h1⟩; have R1 := Lib.hid h1; obtain ⟨⟨d10, d11, d12, d13⟩, _⟩ := (HB.out.rel R1.out).four; obtain ⟨y10, y11, y12, y13⟩ := (HK1.out.rel R1.out).at)
    | (go_at_call 37; (with_reducible refine (HC1.out _ R1.out).mono ?_); rintro e w2 ⟨rfl, h2⟩; have R2 := Lib.hid (R1.out.trans h2); obtain ⟨⟨d20, d21, d22, d23⟩, _⟩ := (HB.out.rel R2.out).four))
  all_goals
    go_ret3
    exact ⟨rfl, (HR.out.trans HA.out).trans R2.out⟩
set_option maxRecDepth 100000 in
set_option maxHeartbeats 4000000 in
theorem rtold_7se (d : Nat) (n : Int) (nm : List UInt8) (x y : Ex) (H : RToldAt d) (hf0 : fine d x = true) (hc0 : isCond x.k = false) (hf1 : fine d y = true) (hc1 : isCond y.k = false) {er : Int} (he : (er != 0) = true) {v : Int} (S : Nat → Prop) (e : El) (A : Option Addr) (c : Nat) (os : List Of) (w0 w : World) (hr : Rel w0 w) (h : ExAt S w e (.mk 7 n nm [x, y])) (hl : offsOk os = true) (ho : OffArg w A c os) (q0 : toldN os d x = .ok (some v)) (q1 : toldN os d y = .error er) :
    Calls Tryz.prog 37 #[EV e, .slice A os.length c] w fun z w' => z = .returned (RV (.error er)) ∧ Rel w0 w' := by
  obtain ⟨A', c', es, rfl, hk, hn, hm, hle, hrow, hsub⟩ := h.open
  have HR := Lib.hid hr
  have HB := Lib.hid (Bk.new w 38 #[.int .i64 7, .int .i64 n, .string (B nm), .slice A' 2 c'])
  have HA := Lib.hid (hr.self.alloc (.cells #[.int .i64 7, .int .i64 n, .string (B nm), .slice A' 2 c'] 38))
  have HO := Lib.hid ho
  obtain ⟨W, hW⟩ : ∃ W, w.alloc (.cells #[.int .i64 7, .int .i64 n, .string (B nm), .slice A' 2 c'] 38) = W := ⟨_, rfl⟩
  rw [hW] at HA HB
  obtain ⟨el0, hK0, ha0⟩ := kid_of hrow hsub hle HA.out 0 (by simp)
  obtain ⟨el1, hK1, ha1⟩ := kid_of hrow hsub hle HA.out 1 (by simp)
  obtain ⟨g, off, rfl⟩ := hK0.some
  have HK0 := Lib.hid (show KidAt W (some ⟨g, off, none⟩) 0 el0 from hK0)
  have HK1 := Lib.hid (show KidAt W (some ⟨g, off, none⟩) 4 el1 from hK1)
  have HC0 : Hid (∀ w', Rel W w' → Calls Tryz.prog 37 #[EV el0, .slice A os.length c] w' fun e w2 => e = .returned (.tuple #[.int .i64 v, .bool true, .int .i64 0]) ∧ Rel w' w2) := Lib.hid (told_kid H hf0 hc0 ha0 hl (ho.rel HA.out) (.ok (some v)) q0)
  have HC1 : Hid (∀ w', Rel W w' → Calls Tryz.prog 37 #[EV el1, .slice A os.length c] w' fun e w2 => e = .returned (.tuple #[.int .i64 0, .bool false, .int .i64 er]) ∧ Rel w' w2) := Lib.hid (told_kid H hf1 hc1 ha1 hl (ho.rel HA.out) (.error er) q1)
  obtain ⟨⟨b0, b1, b2, b3⟩, _⟩ := HB.out.four
  obtain ⟨x00, x01, x02, x03⟩ := HK0.out.at0
  clear hrow hsub h hK0 ha0 hK1 ha1 ho
  go_enter Tryz.func37, Tryz.ntmps37
  go_wp2_with (first
    | (go_at_call 37; (with_reducible refine (HC0.out _ (show Rel W W from HA.out.right2)).mono ?_); rintro e w1 ⟨rfl, h1⟩; have R1 := Lib.hid h1; obtain ⟨⟨d10, d11, d12, d13⟩, _⟩ := (HB.out.rel R1.out).four; obtain ⟨y10, y11, y12, y13⟩ := (HK1.out.rel R1.out).at)
    | (go_at_call 37; (with_reducible refine (HC1.out _ R1.out).mono ?_); rintro e w2 ⟨rfl, h2⟩; have R2 := Lib.hid (R1.out.trans h2); obtain ⟨⟨d20, d21, d22, d23⟩, _⟩ := (HB.out.rel R2.out).four))
  all_goals
    go_ret3
    exact ⟨rfl, (HR.out.trans HA.out).trans R2.out⟩
set_option maxRecDepth 100000 in
set_option maxHeartbeats 4000000 in
theorem rtold_7sn (d : Nat) (n : Int) (nm : List UInt8) (x y : Ex) (H : RToldAt d) (hf0 : fine d x = true) (hc0 : isCond x.k = false) (hf1 : fine d y = true) (hc1 : isCond y.k = false) {v : Int} (S : Nat → Prop) (e : El) (A : Option Addr) (c : Nat) (os : List Of) (w0 w : World) (hr : Rel w0 w) (h : ExAt S w e (.mk 7 n nm [x, y])) (hl : offsOk os = true) (ho : OffArg w A c os) (q0 : toldN os d x = .ok (some v)) (q1 : toldN os d y = .ok none) :
    Calls Tryz.prog 37 #[EV e, .slice A os.length c] w fun z w' => z = .returned (RV (.ok none)) ∧ Rel w0 w' := by
  obtain ⟨A', c', es, rfl, hk, hn, hm, hle, hrow, hsub⟩ := h.open
  have HR := Lib.hid hr
  have HB := Lib.hid (Bk.new w 38 #[.int .i64 7, .int .i64 n, .string (B nm), .slice A' 2 c'])
  have HA := Lib.hid (hr.self.alloc (.cells #[.int .i64 7, .int .i64 n, .string (B nm), .slice A' 2 c'] 38))
  have HO := Lib.hid ho
  obtain ⟨W, hW⟩ : ∃ W, w.alloc (.cells #[.int .i64 7, .int .i64 n, .string (B nm), .slice A' 2 c'] 38) = W := ⟨_, rfl⟩
  rw [hW] at HA HB
  obtain ⟨el0, hK0, ha0⟩ := kid_of hrow hsub hle HA.out 0 (by simp)
  obtain ⟨el1, hK1, ha1⟩ := kid_of hrow hsub hle HA.out 1 (by simp)
  obtain ⟨g, off, rfl⟩ := hK0.some
  have HK0 := Lib.hid (show KidAt W (some ⟨g, off, none⟩) 0 el0 from hK0)
  have HK1 := Lib.hid (show KidAt W (some ⟨g, off, none⟩) 4 el1 from hK1)
  have HC0 : Hid (∀ w', Rel W w' → Calls Tryz.prog 37 #[EV el0, .slice A os.length c] w' fun e w2 => e = .returned (.tuple #[.int .i64 v, .bool true, .int .i64 0]) ∧ Rel w' w2) := Lib.hid (told_kid H hf0 hc0 ha0 hl (ho.rel HA.out) (.ok (some v)) q0)
  have HC1 : Hid (∀ w', Rel W w' → Calls Tryz.prog 37 #[EV el1, .slice A os.length c] w' fun e w2 => e = .returned (.tuple #[.int .i64 0, .bool false, .int .i64 0]) ∧ Rel w' w2) := Lib.hid (told_kid H hf1 hc1 ha1 hl (ho.rel HA.out) (.ok none) q1)
  obtain ⟨⟨b0, b1, b2, b3⟩, _⟩ := HB.out.four
  obtain ⟨x00, x01, x02, x03⟩ := HK0.out.at0
  clear hrow hsub h hK0 ha0 hK1 ha1 ho
  go_enter Tryz.func37, Tryz.ntmps37
  go_wp2_with (first
    | (go_at_call 37; (with_reducible refine (HC0.out _ (show Rel W W from HA.out.right2)).mono ?_); rintro e w1 ⟨rfl, h1⟩; have R1 := Lib.hid h1; obtain ⟨⟨d10, d11, d12, d13⟩, _⟩ := (HB.out.rel R1.out).four; obtain ⟨y10, y11, y12, y13⟩ := (HK1.out.rel R1.out).at)
    | (go_at_call 37; (with_reducible refine (HC1.out _ R1.out).mono ?_); rintro e w2 ⟨rfl, h2⟩; have R2 := Lib.hid (R1.out.trans h2); obtain ⟨⟨d20, d21, d22, d23⟩, _⟩ := (HB.out.rel R2.out).four))
  all_goals
    go_ret3
    exact ⟨rfl, (HR.out.trans HA.out).trans R2.out⟩
set_option maxRecDepth 100000 in
set_option maxHeartbeats 4000000 in
theorem rtold_7ns (d : Nat) (n : Int) (nm : List UInt8) (x y : Ex) (H : RToldAt d) (hf0 : fine d x = true) (hc0 : isCond x.k = false) (hf1 : fine d y = true) (hc1 : isCond y.k = false) {u : Int} (S : Nat → Prop) (e : El) (A : Option Addr) (c : Nat) (os : List Of) (w0 w : World) (hr : Rel w0 w) (h : ExAt S w e (.mk 7 n nm [x, y])) (hl : offsOk os = true) (ho : OffArg w A c os) (q0 : toldN os d x = .ok none) (q1 : toldN os d y = .ok (some u)) :
    Calls Tryz.prog 37 #[EV e, .slice A os.length c] w fun z w' => z = .returned (RV (.ok none)) ∧ Rel w0 w' := by
  obtain ⟨A', c', es, rfl, hk, hn, hm, hle, hrow, hsub⟩ := h.open
  have HR := Lib.hid hr
  have HB := Lib.hid (Bk.new w 38 #[.int .i64 7, .int .i64 n, .string (B nm), .slice A' 2 c'])
  have HA := Lib.hid (hr.self.alloc (.cells #[.int .i64 7, .int .i64 n, .string (B nm), .slice A' 2 c'] 38))
  have HO := Lib.hid ho
  obtain ⟨W, hW⟩ : ∃ W, w.alloc (.cells #[.int .i64 7, .int .i64 n, .string (B nm), .slice A' 2 c'] 38) = W := ⟨_, rfl⟩
  rw [hW] at HA HB
  obtain ⟨el0, hK0, ha0⟩ := kid_of hrow hsub hle HA.out 0 (by simp)
  obtain ⟨el1, hK1, ha1⟩ := kid_of hrow hsub hle HA.out 1 (by simp)
  obtain ⟨g, off, rfl⟩ := hK0.some
  have HK0 := Lib.hid (show KidAt W (some ⟨g, off, none⟩) 0 el0 from hK0)
  have HK1 := Lib.hid (show KidAt W (some ⟨g, off, none⟩) 4 el1 from hK1)
  have HC0 : Hid (∀ w', Rel W w' → Calls Tryz.prog 37 #[EV el0, .slice A os.length c] w' fun e w2 => e = .returned (.tuple #[.int .i64 0, .bool false, .int .i64 0]) ∧ Rel w' w2) := Lib.hid (told_kid H hf0 hc0 ha0 hl (ho.rel HA.out) (.ok none) q0)
  have HC1 : Hid (∀ w', Rel W w' → Calls Tryz.prog 37 #[EV el1, .slice A os.length c] w' fun e w2 => e = .returned (.tuple #[.int .i64 u, .bool true, .int .i64 0]) ∧ Rel w' w2) := Lib.hid (told_kid H hf1 hc1 ha1 hl (ho.rel HA.out) (.ok (some u)) q1)
  obtain ⟨⟨b0, b1, b2, b3⟩, _⟩ := HB.out.four
  obtain ⟨x00, x01, x02, x03⟩ := HK0.out.at0
  clear hrow hsub h hK0 ha0 hK1 ha1 ho
  go_enter Tryz.func37, Tryz.ntmps37
  go_wp2_with (first
    | (go_at_call 37; (with_reducible refine (HC0.out _ (show Rel W W from HA.out.right2)).mono ?_); rintro e w1 ⟨rfl, h1⟩; have R1 := Lib.hid h1; obtain ⟨⟨d10, d11, d12, d13⟩, _⟩ := (HB.out.rel R1.out).four; obtain ⟨y10, y11, y12, y13⟩ := (HK1.out.rel R1.out).at)
    | (go_at_call 37; (with_reducible refine (HC1.out _ R1.out).mono ?_); rintro e w2 ⟨rfl, h2⟩; have R2 := Lib.hid (R1.out.trans h2); obtain ⟨⟨d20, d21, d22, d23⟩, _⟩ := (HB.out.rel R2.out).four))
  all_goals
    go_ret3
    exact ⟨rfl, (HR.out.trans HA.out).trans R2.out⟩
set_option maxRecDepth 100000 in
set_option maxHeartbeats 4000000 in
theorem rtold_7ss (d : Nat) (n : Int) (nm : List UInt8) (x y : Ex) (H : RToldAt d) (hf0 : fine d x = true) (hc0 : isCond x.k = false) (hf1 : fine d y = true) (hc1 : isCond y.k = false) {v u : Int} (S : Nat → Prop) (e : El) (A : Option Addr) (c : Nat) (os : List Of) (w0 w : World) (hr : Rel w0 w) (h : ExAt S w e (.mk 7 n nm [x, y])) (hl : offsOk os = true) (ho : OffArg w A c os) (q0 : toldN os d x = .ok (some v)) (q1 : toldN os d y = .ok (some u)) :
    Calls Tryz.prog 37 #[EV e, .slice A os.length c] w fun z w' => z = .returned (RV (.ok (some (min v u)))) ∧ Rel w0 w' := by
  obtain ⟨A', c', es, rfl, hk, hn, hm, hle, hrow, hsub⟩ := h.open
  have HR := Lib.hid hr
  have HB := Lib.hid (Bk.new w 38 #[.int .i64 7, .int .i64 n, .string (B nm), .slice A' 2 c'])
  have HA := Lib.hid (hr.self.alloc (.cells #[.int .i64 7, .int .i64 n, .string (B nm), .slice A' 2 c'] 38))
  have HO := Lib.hid ho
  obtain ⟨W, hW⟩ : ∃ W, w.alloc (.cells #[.int .i64 7, .int .i64 n, .string (B nm), .slice A' 2 c'] 38) = W := ⟨_, rfl⟩
  rw [hW] at HA HB
  obtain ⟨el0, hK0, ha0⟩ := kid_of hrow hsub hle HA.out 0 (by simp)
  obtain ⟨el1, hK1, ha1⟩ := kid_of hrow hsub hle HA.out 1 (by simp)
  obtain ⟨g, off, rfl⟩ := hK0.some
  have HK0 := Lib.hid (show KidAt W (some ⟨g, off, none⟩) 0 el0 from hK0)
  have HK1 := Lib.hid (show KidAt W (some ⟨g, off, none⟩) 4 el1 from hK1)
  have HC0 : Hid (∀ w', Rel W w' → Calls Tryz.prog 37 #[EV el0, .slice A os.length c] w' fun e w2 => e = .returned (.tuple #[.int .i64 v, .bool true, .int .i64 0]) ∧ Rel w' w2) := Lib.hid (told_kid H hf0 hc0 ha0 hl (ho.rel HA.out) (.ok (some v)) q0)
  have HC1 : Hid (∀ w', Rel W w' → Calls Tryz.prog 37 #[EV el1, .slice A os.length c] w' fun e w2 => e = .returned (.tuple #[.int .i64 u, .bool true, .int .i64 0]) ∧ Rel w' w2) := Lib.hid (told_kid H hf1 hc1 ha1 hl (ho.rel HA.out) (.ok (some u)) q1)
  obtain ⟨⟨b0, b1, b2, b3⟩, _⟩ := HB.out.four
  obtain ⟨x00, x01, x02, x03⟩ := HK0.out.at0
  clear hrow hsub h hK0 ha0 hK1 ha1 ho
  go_enter Tryz.func37, Tryz.ntmps37
  go_wp2_with (first
    | (go_at_call 37; (with_reducible refine (HC0.out _ (show Rel W W from HA.out.right2)).mono ?_); rintro e w1 ⟨rfl, h1⟩; have R1 := Lib.hid h1; obtain ⟨⟨d10, d11, d12, d13⟩, _⟩ := (HB.out.rel R1.out).four; obtain ⟨y10, y11, y12, y13⟩ := (HK1.out.rel R1.out).at)
    | (go_at_call 37; (with_reducible refine (HC1.out _ R1.out).mono ?_); rintro e w2 ⟨rfl, h2⟩; have R2 := Lib.hid (R1.out.trans h2); obtain ⟨⟨d20, d21, d22, d23⟩, _⟩ := (HB.out.rel R2.out).four))
  all_goals
    go_ret3
    exact ⟨ret_mm (by omega), (HR.out.trans HA.out).trans R2.out⟩
set_option maxRecDepth 100000 in
set_option maxHeartbeats 4000000 in
theorem rtold_8e (d : Nat) (n : Int) (nm : List UInt8) (x y : Ex) (H : RToldAt d) (hf0 : fine d x = true) (hc0 : isCond x.k = false) {er : Int} (he : (er != 0) = true) (S : Nat → Prop) (e : El) (A : Option Addr) (c : Nat) (os : List Of) (w0 w : World) (hr : Rel w0 w) (h : ExAt S w e (.mk 8 n nm [x, y])) (hl : offsOk os = true) (ho : OffArg w A c os) (q0 : toldN os d x = .error er) :
    Calls Tryz.prog 37 #[EV e, .slice A os.length c] w fun z w' => z = .returned (RV (.error er)) ∧ Rel w0 w' := by
  obtain ⟨A', c', es, rfl, hk, hn, hm, hle, hrow, hsub⟩ := h.open
  have HR := Lib.hid hr
  have HB := Lib.hid (Bk.new w 38 #[.int .i64 8, .int .i64 n, .string (B nm), .slice A' 2 c'])
  have HA := Lib.hid (hr.self.alloc (.cells #[.int .i64 8, .int .i64 n, .string (B nm), .slice A' 2 c'] 38))
  have HO := Lib.hid ho
  obtain ⟨W, hW⟩ : ∃ W, w.alloc (.cells #[.int .i64 8, .int .i64 n, .string (B nm), .slice A' 2 c'] 38) = W := ⟨_, rfl⟩
  rw [hW] at HA HB
  obtain ⟨el0, hK0, ha0⟩ := kid_of hrow hsub hle HA.out 0 (by simp)
  obtain ⟨el1, hK1, ha1⟩ := kid_of hrow hsub hle HA.out 1 (by simp)
  obtain ⟨g, off, rfl⟩ := hK0.some
  have HK0 := Lib.hid (show KidAt W (some ⟨g, off, none⟩) 0 el0 from hK0)
  have HK1 := Lib.hid (show KidAt W (some ⟨g, off, none⟩) 4 el1 from hK1)
  have HC0 : Hid (∀ w', Rel W w' → Calls Tryz.prog 37 #[EV el0, .slice A os.length c] w' fun e w2 => e = .returned (.tuple #[.int .i64 0, .bool false, .int .i64 er]) ∧ Rel w' w2) := Lib.hid (told_kid H hf0 hc0 ha0 hl (ho.rel HA.out) (.error er) q0)
  obtain ⟨⟨b0, b1, b2, b3⟩, _⟩ := HB.out.four
  obtain ⟨x00, x01, x02, x03⟩ := HK0.out.at0
  clear hrow hsub h hK0 ha0 hK1 ha1 ho
  go_enter Tryz.func37, Tryz.ntmps37
  go_wp2_with (first
    | (go_at_call 37; (with_reducible refine (HC0.out _ (show Rel W W from HA.out.right2)).mono ?_); rintro e w1 ⟨rfl, h1⟩; have R1 := Lib.hid h1; obtain ⟨⟨d10, d11, d12, d13⟩, _⟩ := (HB.out.rel R1.out).four))
  all_goals
    go_ret3
    exact ⟨rfl, (HR.out.trans HA.out).trans R1.out⟩
set_option maxRecDepth 100000 in
set_option maxHeartbeats 4000000 in
theorem rtold_8ne (d : Nat) (n : Int) (nm : List UInt8) (x y : Ex) (H : RToldAt d) (hf0 : fine d x = true) (hc0 : isCond x.k = false) (hf1 : fine d y = true) (hc1 : isCond y.k = false) {er : Int} (he : (er != 0) = true) (S : Nat → Prop) (e : El) (A : Option Addr) (c : Nat) (os : List Of) (w0 w : World) (hr : Rel w0 w) (h : ExAt S w e (.mk 8 n nm [x, y])) (hl : offsOk os = true) (ho : OffArg w A c os) (q0 : toldN os d x = .ok none) (q1 : toldN os d y = .error er) :
    Calls Tryz.prog 37 #[EV e, .slice A os.length c] w fun z w' => z = .returned (RV (.error er)) ∧ Rel w0 w' := by
  obtain ⟨A', c', es, rfl, hk, hn, hm, hle, hrow, hsub⟩ := h.open
  have HR := Lib.hid hr
  have HB := Lib.hid (Bk.new w 38 #[.int .i64 8, .int .i64 n, .string (B nm), .slice A' 2 c'])
  have HA := Lib.hid (hr.self.alloc (.cells #[.int .i64 8, .int .i64 n, .string (B nm), .slice A' 2 c'] 38))
  have HO := Lib.hid ho
  obtain ⟨W, hW⟩ : ∃ W, w.alloc (.cells #[.int .i64 8, .int .i64 n, .string (B nm), .slice A' 2 c'] 38) = W := ⟨_, rfl⟩
  rw [hW] at HA HB
  obtain ⟨el0, hK0, ha0⟩ := kid_of hrow hsub hle HA.out 0 (by simp)
  obtain ⟨el1, hK1, ha1⟩ := kid_of hrow hsub hle HA.out 1 (by simp)
  obtain ⟨g, off, rfl⟩ := hK0.some
  have HK0 := Lib.hid (show KidAt W (some ⟨g, off, none⟩) 0 el0 from hK0)
  have HK1 := Lib.hid (show KidAt W (some ⟨g, off, none⟩) 4 el1 from hK1)
  have HC0 : Hid (∀ w', Rel W w' → Calls Tryz.prog 37 #[EV el0, .slice A os.length c] w' fun e w2 => e = .returned (.tuple #[.int .i64 0, .bool false, .int .i64 0]) ∧ Rel w' w2) := Lib.hid (told_kid H hf0 hc0 ha0 hl (ho.rel HA.out) (.ok none) q0)
  have HC1 : Hid (∀ w', Rel W w' → Calls Tryz.prog 37 #[EV el1, .slice A os.length c] w' fun e w2 => e = .returned (.tuple #[.int .i64 0, .bool false, .int .i64 er]) ∧ Rel w' w2) := Lib.hid (told_kid H hf1 hc1 ha1 hl (ho.rel HA.out) (.error er) q1)
  obtain ⟨⟨b0, b1, b2, b3⟩, _⟩ := HB.out.four
  obtain ⟨x00, x01, x02, x03⟩ := HK0.out.at0
  clear hrow hsub h hK0 ha0 hK1 ha1 ho
  go_enter Tryz.func37, Tryz.ntmps37
  go_wp2_with (first
    | (go_at_call 37; (with_reducible refine (HC0.out _ (show Rel W W from HA.out.right2)).mono ?_); rintro e w1 ⟨rfl, h1⟩; have R1 := Lib.hid h1; obtain ⟨⟨d10, d11, d12, d13⟩, _⟩ := (HB.out.rel R1.out).four; obtain ⟨y10, y11, y12, y13⟩ := (HK1.out.rel R1.out).at)
    | (go_at_call 37; (with_reducible refine (HC1.out _ R1.out).mono ?_); rintro e w2 ⟨rfl, h2⟩; have R2 := Lib.hid (R1.out.trans h2); obtain ⟨⟨d20, d21, d22, d23⟩, _⟩ := (HB.out.rel R2.out).four))
  all_goals
    go_ret3
    exact ⟨rfl, (HR.out.trans HA.out).trans R2.out⟩
set_option maxRecDepth 100000 in
set_option maxHeartbeats 4000000 in
theorem rtold_8nn (d : Nat) (n : Int) (nm : List UInt8) (x y : Ex) (H : RToldAt d) (hf0 : fine d x = true) (hc0 : isCond x.k = false) (hf1 : fine d y = true) (hc1 : isCond y.k = false) (S : Nat → Prop) (e : El) (A : Option Addr) (c : Nat) (os : List Of) (w0 w : World) (hr : Rel w0 w) (h : ExAt S w e (.mk 8 n nm [x, y])) (hl : offsOk os = true) (ho : OffArg w A c os) (q0 : toldN os d x = .ok none) (q1 : toldN os d y = .ok none) :
    Calls Tryz.prog 37 #[EV e, .slice A os.length c] w fun z w' => z = .returned (RV (.ok none)) ∧ Rel w0 w' := by
  obtain ⟨A', c', es, rfl, hk, hn, hm, hle, hrow, hsub⟩ := h.open
  have HR := Lib.hid hr
  have HB := Lib.hid (Bk.new w 38 #[.int .i64 8, .int .i64 n, .string (B nm), .slice A' 2 c'])
  have HA := Lib.hid (hr.self.alloc (.cells #[.int .i64 8, .int .i64 n, .string (B nm), .slice A' 2 c'] 38))
  have HO := Lib.hid ho
  obtain ⟨W, hW⟩ : ∃ W, w.alloc (.cells #[.int .i64 8, .int .i64 n, .string (B nm), .slice A' 2 c'] 38) = W := ⟨_, rfl⟩
  rw [hW] at HA HB
  obtain ⟨el0, hK0, ha0⟩ := kid_of hrow hsub hle HA.out 0 (by simp)
  obtain ⟨el1, hK1, ha1⟩ := kid_of hrow hsub hle HA.out 1 (by simp)
  obtain ⟨g, off, rfl⟩ := hK0.some
  have HK0 := Lib.hid (show KidAt W (some ⟨g, off, none⟩) 0 el0 from hK0)
  have HK1 := Lib.hid (show KidAt W (some ⟨g, off, none⟩) 4 el1 from hK1)
  have HC0 : Hid (∀ w', Rel W w' → Calls Tryz.prog 37 #[EV el0, .slice A os.length c] w' fun e w2 => e = .returned (.tuple #[.int .i64 0, .bool false, .int .i64 0]) ∧ Rel w' w2) := Lib.hid (told_kid H hf0 hc0 ha0 hl (ho.rel HA.out) (.ok none) q0)
  have HC1 : Hid (∀ w', Rel W w' → Calls Tryz.prog 37 #[EV el1, .slice A os.length c] w' fun e w2 => e = .returned (.tuple #[.int .i64 0, .bool false, .int .i64 0]) ∧ Rel w' w2) := Lib.hid (told_kid H hf1 hc1 ha1 hl (ho.rel HA.out) (.ok none) q1)
  obtain ⟨⟨b0, b1, b2, b3⟩, _⟩ := HB.out.four
  obtain ⟨x00, x01, x02, x03⟩ := HK0.out.at0
  clear hrow hsub h hK0 ha0 hK1 ha1 ho
  go_enter Tryz.func37, Tryz.ntmps37
  go_wp2_with (first
    | (go_at_call 37; (with_reducible refine (HC0.out _ (show Rel W W from HA.out.right2)).mono ?_); rintro e w1 ⟨rfl, h1⟩; have R1 := Lib.hid h1; obtain ⟨⟨d10, d11, d12, d13⟩, _⟩ := (HB.out.rel R1.out).four; obtain ⟨y10, y11, y12, y13⟩ := (HK1.out.rel R1.out).at)
    | (go_at_call 37; (with_reducible refine (HC1.out _ R1.out).mono ?_); rintro e w2 ⟨rfl, h2⟩; have R2 := Lib.hid (R1.out.trans h2); obtain ⟨⟨d20, d21, d22, d23⟩, _⟩ := (HB.out.rel R2.out).four))
  all_goals
    go_ret3
    exact ⟨rfl, (HR.out.trans HA.out).trans R2.out⟩
set_option maxRecDepth 100000 in
set_option maxHeartbeats 4000000 in
theorem rtold_8se (d : Nat) (n : Int) (nm : List UInt8) (x y : Ex) (H : RToldAt d) (hf0 : fine d x = true) (hc0 : isCond x.k = false) (hf1 : fine d y = true) (hc1 : isCond y.k = false) {er : Int} (he : (er != 0) = true) {v : Int} (S : Nat → Prop) (e : El) (A : Option Addr) (c : Nat) (os : List Of) (w0 w : World) (hr : Rel w0 w) (h : ExAt S w e (.mk 8 n nm [x, y])) (hl : offsOk os = true) (ho : OffArg w A c os) (q0 : toldN os d x = .ok (some v)) (q1 : toldN os d y = .error er) :
    Calls Tryz.prog 37 #[EV e, .slice A os.length c] w fun z w' => z = .returned (RV (.error er)) ∧ Rel w0 w' := by
  obtain ⟨A', c', es, rfl, hk, hn, hm, hle, hrow, hsub⟩ := h.open
  have HR := Lib.hid hr
  have HB := Lib.hid (Bk.new w 38 #[.int .i64 8, .int .i64 n, .string (B nm), .slice A' 2 c'])
  have HA := Lib.hid (hr.self.alloc (.cells #[.int .i64 8, .int .i64 n, .string (B nm), .slice A' 2 c'] 38))
  have HO := Lib.hid ho
  obtain ⟨W, hW⟩ : ∃ W, w.alloc (.cells #[.int .i64 8, .int .i64 n, .string (B nm), .slice A' 2 c'] 38) = W := ⟨_, rfl⟩
  rw [hW] at HA HB
  obtain ⟨el0, hK0, ha0⟩ := kid_of hrow hsub hle HA.out 0 (by simp)
  obtain ⟨el1, hK1, ha1⟩ := kid_of hrow hsub hle HA.out 1 (by simp)
  obtain ⟨g, off, rfl⟩ := hK0.some
  have HK0 := Lib.hid (show KidAt W (some ⟨g, off, none⟩) 0 el0 from hK0)
  have HK1 := Lib.hid (show KidAt W (some ⟨g, off, none⟩) 4 el1 from hK1)
  have HC0 : Hid (∀ w', Rel W w' → Calls Tryz.prog 37 #[EV el0, .slice A os.length c] w' fun e w2 => e = .returned (.tuple #[.int .i64 v, .bool true, .int .i64 0]) ∧ Rel w' w2) := Lib.hid (told_kid H hf0 hc0 ha0 hl (ho.rel HA.out) (.ok (some v)) q0)
  have HC1 : Hid (∀ w', Rel W w' → Calls Tryz.prog 37 #[EV el1, .slice A os.length c] w' fun e w2 => e = .returned (.tuple #[.int .i64 0, .bool false, .int .i64 er]) ∧ Rel w' w2) := Lib.hid (told_kid H hf1 hc1 ha1 hl (ho.rel HA.out) (.error er) q1)
  obtain ⟨⟨b0, b1, b2, b3⟩, _⟩ := HB.out.four
  obtain ⟨x00, x01, x02, x03⟩ := HK0.out.at0
  clear hrow hsub h hK0 ha0 hK1 ha1 ho
  go_enter Tryz.func37, Tryz.ntmps37
  go_wp2_with (first
    | (go_at_call 37; (with_reducible refine (HC0.out _ (show Rel W W from HA.out.right2)).mono ?_); rintro e w1 ⟨rfl, h1⟩; have R1 := Lib.hid h1; obtain ⟨⟨d10, d11, d12, d13⟩, _⟩ := (HB.out.rel R1.out).four; obtain ⟨y10, y11, y12, y13⟩ := (HK1.out.rel R1.out).at)
    | (go_at_call 37; (with_reducible refine (HC1.out _ R1.out).mono ?_); rintro e w2 ⟨rfl, h2⟩; have R2 := Lib.hid (R1.out.trans h2); obtain ⟨⟨d20, d21, d22, d23⟩, _⟩ := (HB.out.rel R2.out).four))
  all_goals
    go_ret3
    exact ⟨rfl, (HR.out.trans HA.out).trans R2.out⟩
set_option maxRecDepth 100000 in
set_option maxHeartbeats 4000000 in
theorem rtold_8sn (d : Nat) (n : Int) (nm : List UInt8) (x y : Ex) (H : RToldAt d) (hf0 : fine d x = true) (hc0 : isCond x.k = false) (hf1 : fine d y = true) (hc1 : isCond y.k = false) {v : Int} (S : Nat → Prop) (e : El) (A : Option Addr) (c : Nat) (os : List Of) (w0 w : World) (hr : Rel w0 w) (h : ExAt S w e (.mk 8 n nm [x, y])) (hl : offsOk os = true) (ho : OffArg w A c os) (q0 : toldN os d x = .ok (some v)) (q1 : toldN os d y = .ok none) :
    Calls Tryz.prog 37 #[EV e, .slice A os.length c] w fun z w' => z = .returned (RV (.ok none)) ∧ Rel w0 w' := by
  obtain ⟨A', c', es, rfl, hk, hn, hm, hle, hrow, hsub⟩ := h.open
  have HR := Lib.hid hr
  have HB := Lib.hid (Bk.new w 38 #[.int .i64 8, .int .i64 n, .string (B nm), .slice A' 2 c'])
  have HA := Lib.hid (hr.self.alloc (.cells #[.int .i64 8, .int .i64 n, .string (B nm), .slice A' 2 c'] 38))
  have HO := Lib.hid ho
  obtain ⟨W, hW⟩ : ∃ W, w.alloc (.cells #[.int .i64 8, .int .i64 n, .string (B nm), .slice A' 2 c'] 38) = W := ⟨_, rfl⟩
  rw [hW] at HA HB
  obtain ⟨el0, hK0, ha0⟩ := kid_of hrow hsub hle HA.out 0 (by simp)
  obtain ⟨el1, hK1, ha1⟩ := kid_of hrow hsub hle HA.out 1 (by simp)
  obtain ⟨g, off, rfl⟩ := hK0.some
  have HK0 := Lib.hid (show KidAt W (some ⟨g, off, none⟩) 0 el0 from hK0)
  have HK1 := Lib.hid (show KidAt W (some ⟨g, off, none⟩) 4 el1 from hK1)
  have HC0 : Hid (∀ w', Rel W w' → Calls Tryz.prog 37 #[EV el0, .slice A os.length c] w' fun e w2 => e = .returned (.tuple #[.int .i64 v, .bool true, .int .i64 0]) ∧ Rel w' w2) := Lib.hid (told_kid H hf0 hc0 ha0 hl (ho.rel HA.out) (.ok (some v)) q0)
  have HC1 : Hid (∀ w', Rel W w' → Calls Tryz.prog 37 #[EV el1, .slice A os.length c] w' fun e w2 => e = .returned (.tuple #[.int .i64 0, .bool false, .int .i64 0]) ∧ Rel w' w2) := Lib.hid (told_kid H hf1 hc1 ha1 hl (ho.rel HA.out) (.ok none) q1)
  obtain ⟨⟨b0, b1, b2, b3⟩, _⟩ := HB.out.four
  obtain ⟨x00, x01, x02, x03⟩ := HK0.out.at0
  clear hrow hsub h hK0 ha0 hK1 ha1 ho
  go_enter Tryz.func37, Tryz.ntmps37
  go_wp2_with (first
    | (go_at_call 37; (with_reducible refine (HC0.out _ (show Rel W W from HA.out.right2)).mono ?_); rintro e w1 ⟨rfl, h1⟩; have R1 := Lib.hid h1; obtain ⟨⟨d10, d11, d12, d13⟩, _⟩ := (HB.out.rel R1.out).four; obtain ⟨y10, y11, y12, y13⟩ := (HK1.out.rel R1.out).at)
    | (go_at_call 37; (with_reducible refine (HC1.out _ R1.out).mono ?_); rintro e w2 ⟨rfl, h2⟩; have R2 := Lib.hid (R1.out.trans h2); obtain ⟨⟨d20, d21, d22, d23⟩, _⟩ := (HB.out.rel R2.out).four))
  all_goals
    go_ret3
    exact ⟨rfl, (HR.out.trans HA.out).trans R2.out⟩
set_option maxRecDepth 100000 in
set_option maxHeartbeats 4000000 in
theorem rtold_8ns (d : Nat) (n : Int) (nm : List UInt8) (x y : Ex) (H : RToldAt d) (hf0 : fine d x = true) (hc0 : isCond x.k = false) (hf1 : fine d y = true) (hc1 : isCond y.k = false) {u : Int} (S : Nat → Prop) (e : El) (A : Option Addr) (c : Nat) (os : List Of) (w0 w : World) (hr : Rel w0 w) (h : ExAt S w e (.mk 8 n nm [x, y])) (hl : offsOk os = true) (ho : OffArg w A c os) (q0 : toldN os d x = .ok none) (q1 : toldN os d y = .ok (some u)) :
    Calls Tryz.prog 37 #[EV e, .slice A os.length c] w fun z w' => z = .returned (RV (.ok none)) ∧ Rel w0 w' := by
  obtain ⟨A', c', es, rfl, hk, hn, hm, hle, hrow, hsub⟩ := h.open
  have HR := Lib.hid hr
  have HB := Lib.hid (Bk.new w 38 #[.int .i64 8, .int .i64 n, .string (B nm), .slice A' 2 c'])
  have HA := Lib.hid (hr.self.alloc (.cells #[.int .i64 8, .int .i64 n, .string (B nm), .slice A' 2 c'] 38))
  have HO := Lib.hid ho
  obtain ⟨W, hW⟩ : ∃ W, w.alloc (.cells #[.int .i64 8, .int .i64 n, .string (B nm), .slice A' 2 c'] 38) = W := ⟨_, rfl⟩
  rw [hW] at HA HB
  obtain ⟨el0, hK0, ha0⟩ := kid_of hrow hsub hle HA.out 0 (by simp)
  obtain ⟨el1, hK1, ha1⟩ := kid_of hrow hsub hle HA.out 1 (by simp)
  obtain ⟨g, off, rfl⟩ := hK0.some
  have HK0 := Lib.hid (show KidAt W (some ⟨g, off, none⟩) 0 el0 from hK0)
  have HK1 := Lib.hid (show KidAt W (some ⟨g, off, none⟩) 4 el1 from hK1)
  have HC0 : Hid (∀ w', Rel W w' → Calls Tryz.prog 37 #[EV el0, .slice A os.length c] w' fun e w2 => e = .returned (.tuple #[.int .i64 0, .bool false, .int .i64 0]) ∧ Rel w' w2) := Lib.hid (told_kid H hf0 hc0 ha0 hl (ho.rel HA.out) (.ok none) q0)
  have HC1 : Hid (∀ w', Rel W w' → Calls Tryz.prog 37 #[EV el1, .slice A os.length c] w' fun e w2 => e = .returned (.tuple #[.int .i64 u, .bool true, .int .i64 0]) ∧ Rel w' w2) := Lib.hid (told_kid H hf1 hc1 ha1 hl (ho.rel HA.out) (.ok (some u)) q1)
  obtain ⟨⟨b0, b1, b2, b3⟩, _⟩ := HB.out.four
  obtain ⟨x00, x01, x02, x03⟩ := HK0.out.at0
  clear hrow hsub h hK0 ha0 hK1 ha1 ho
  go_enter Tryz.func37, Tryz.ntmps37
  go_wp2_with (first
    | (go_at_call 37; (with_reducible refine (HC0.out _ (show Rel W W from HA.out.right2)).mono ?_); rintro e w1 ⟨rfl, h1⟩; have R1 := Lib.hid h1; obtain ⟨⟨d10, d11, d12, d13⟩, _⟩ := (HB.out.rel R1.out).four; obtain ⟨y10, y11, y12, y13⟩ := (HK1.out.rel R1.out).at)
    | (go_at_call 37; (with_reducible refine (HC1.out _ R1.out).mono ?_); rintro e w2 ⟨rfl, h2⟩; have R2 := Lib.hid (R1.out.trans h2); obtain ⟨⟨d20, d21, d22, d23⟩, _⟩ := (HB.out.rel R2.out).four))
  all_goals
    go_ret3
    exact ⟨rfl, (HR.out.trans HA.out).trans R2.out⟩
set_option maxRecDepth 100000 in
set_option maxHeartbeats 4000000 in
theorem rtold_8ss (d : Nat) (n : Int) (nm : List UInt8) (x y : Ex) (H : RToldAt d) (hf0 : fine d x = true) (hc0 : isCond x.k = false) (hf1 : fine d y = true) (hc1 : isCond y.k = false) {v u : Int} (S : Nat → Prop) (e : El) (A : Option Addr) (c : Nat) (os : List Of) (w0 w : World) (hr : Rel w0 w) (h : ExAt S w e (.mk 8 n nm [x, y])) (hl : offsOk os = true) (ho : OffArg w A c os) (q0 : toldN os d x = .ok (some v)) (q1 : toldN os d y = .ok (some u)) :
    Calls Tryz.prog 37 #[EV e, .slice A os.length c] w fun z w' => z = .returned (RV (.ok (some (max v u)))) ∧ Rel w0 w' := by
  obtain ⟨A', c', es, rfl, hk, hn, hm, hle, hrow, hsub⟩ := h.open
  have HR := Lib.hid hr
  have HB := Lib.hid (Bk.new w 38 #[.int .i64 8, .int .i64 n, .string (B nm), .slice A' 2 c'])
  have HA := Lib.hid (hr.self.alloc (.cells #[.int .i64 8, .int .i64 n, .string (B nm), .slice A' 2 c'] 38))
  have HO := Lib.hid ho
  obtain ⟨W, hW⟩ : ∃ W, w.alloc (.cells #[.int .i64 8, .int .i64 n, .string (B nm), .slice A' 2 c'] 38) = W := ⟨_, rfl⟩
  rw [hW] at HA HB
  obtain ⟨el0, hK0, ha0⟩ := kid_of hrow hsub hle HA.out 0 (by simp)
  obtain ⟨el1, hK1, ha1⟩ := kid_of hrow hsub hle HA.out 1 (by simp)
  obtain ⟨g, off, rfl⟩ := hK0.some
  have HK0 := Lib.hid (show KidAt W (some ⟨g, off, none⟩) 0 el0 from hK0)
  have HK1 := Lib.hid (show KidAt W (some ⟨g, off, none⟩) 4 el1 from hK1)
  have HC0 : Hid (∀ w', Rel W w' → Calls Tryz.prog 37 #[EV el0, .slice A os.length c] w' fun e w2 => e = .returned (.tuple #[.int .i64 v, .bool true, .int .i64 0]) ∧ Rel w' w2) := Lib.hid (told_kid H hf0 hc0 ha0 hl (ho.rel HA.out) (.ok (some v)) q0)
  have HC1 : Hid (∀ w', Rel W w' → Calls Tryz.prog 37 #[EV el1, .slice A os.length c] w' fun e w2 => e = .returned (.tuple #[.int .i64 u, .bool true, .int .i64 0]) ∧ Rel w' w2) := Lib.hid (told_kid H hf1 hc1 ha1 hl (ho.rel HA.out) (.ok (some u)) q1)
  obtain ⟨⟨b0, b1, b2, b3⟩, _⟩ := HB.out.four
  obtain ⟨x00, x01, x02, x03⟩ := HK0.out.at0
  clear hrow hsub h hK0 ha0 hK1 ha1 ho
  go_enter Tryz.func37, Tryz.ntmps37
  go_wp2_with (first
    | (go_at_call 37; (with_reducible refine (HC0.out _ (show Rel W W from HA.out.right2)).mono ?_); rintro e w1 ⟨rfl, h1⟩; have R1 := Lib.hid h1; obtain ⟨⟨d10, d11, d12, d13⟩, _⟩ := (HB.out.rel R1.out).four; obtain ⟨y10, y11, y12, y13⟩ := (HK1.out.rel R1.out).at)
    | (go_at_call 37; (with_reducible refine (HC1.out _ R1.out).mono ?_); rintro e w2 ⟨rfl, h2⟩; have R2 := Lib.hid (R1.out.trans h2); obtain ⟨⟨d20, d21, d22, d23⟩, _⟩ := (HB.out.rel R2.out).four))
  all_goals
    go_ret3
    exact ⟨ret_mm (by omega), (HR.out.trans HA.out).trans R2.out⟩
set_option maxRecDepth 100000 in
set_option maxHeartbeats 4000000 in
theorem rtold_9e (d : Nat) (n : Int) (nm : List UInt8) (x y : Ex) (H : RToldAt d) (hf0 : fine d x = true) (hc0 : isCond x.k = false) {er : Int} (he : (er != 0) = true) (S : Nat → Prop) (e : El) (A : Option Addr) (c : Nat) (os : List Of) (w0 w : World) (hr : Rel w0 w) (h : ExAt S w e (.mk 9 n nm [x, y])) (hl : offsOk os = true) (ho : OffArg w A c os) (q0 : toldN os d x = .error er) :
    Calls Tryz.prog 37 #[EV e, .slice A os.length c] w fun z w' => z = .returned (RV (.error er)) ∧ Rel w0 w' := by
  obtain ⟨A', c', es, rfl, hk, hn, hm, hle, hrow, hsub⟩ := h.open
  have HR := Lib.hid hr
  have HB := Lib.hid (Bk.new w 38 #[.int .i64 9, .int .i64 n, .string (B nm), .slice A' 2 c'])
  have HA := Lib.hid (hr.self.alloc (.cells #[.int .i64 9, .int .i64 n, .string (B nm), .slice A' 2 c'] 38))
  have HO := Lib.hid ho
  obtain ⟨W, hW⟩ : ∃ W, w.alloc (.cells #[.int .i64 9, .int .i64 n, .string (B nm), .slice A' 2 c'] 38) = W := ⟨_, rfl⟩
  rw [hW] at HA HB
  obtain ⟨el0, hK0, ha0⟩ := kid_of hrow hsub hle HA.out 0 (by simp)
  obtain ⟨el1, hK1, ha1⟩ := kid_of hrow hsub hle HA.out 1 (by simp)
  obtain ⟨g, off, rfl⟩ := hK0.some
  have HK0 := Lib.hid (show KidAt W (some ⟨g, off, none⟩) 0 el0 from hK0)
  have HK1 := Lib.hid (show KidAt W (some ⟨g, off, none⟩) 4 el1 from hK1)
  have HC0 : Hid (∀ w', Rel W w' → Calls Tryz.prog 37 #[EV el0, .slice A os.length c] w' fun e w2 => e = .returned (.tuple #[.int .i64 0, .bool false, .int .i64 er]) ∧ Rel w' w2) := Lib.hid (told_kid H hf0 hc0 ha0 hl (ho.rel HA.out) (.error er) q0)
  obtain ⟨⟨b0, b1, b2, b3⟩, _⟩ := HB.out.four
  obtain ⟨x00, x01, x02, x03⟩ := HK0.out.at0
  clear hrow hsub h hK0 ha0 hK1 ha1 ho
  go_enter Tryz.func37, Tryz.ntmps37
  go_wp2_with (first
    | (go_at_call 37; (with_reducible refine (HC0.out _ (show Rel W W from HA.out.right2)).mono ?_); rintro e w1 ⟨rfl, h1⟩; have R1 := Lib.hid h1; obtain ⟨⟨d10, d11, d12, d13⟩, _⟩ := (HB.out.rel R1.out).four; obtain ⟨y10, y11, y12, y13⟩ := (HK1.out.rel R1.out).at))
  all_goals
    go_ret3
    exact ⟨rfl, (HR.out.trans HA.out).trans R1.out⟩
set_option maxRecDepth 100000 in
set_option maxHeartbeats 4000000 in
theorem rtold_9s (d : Nat) (n : Int) (nm : List UInt8) (x y : Ex) (H : RToldAt d) (hf0 : fine d x = true) (hc0 : isCond x.k = false) {v : Int} (S : Nat → Prop) (e : El) (A : Option Addr) (c : Nat) (os : List Of) (w0 w : World) (hr : Rel w0 w) (h : ExAt S w e (.mk 9 n nm [x, y])) (hl : offsOk os = true) (ho : OffArg w A c os) (q0 : toldN os d x = .ok (some v)) :
    Calls Tryz.prog 37 #[EV e, .slice A os.length c] w fun z w' => z = .returned (RV (.ok (some v))) ∧ Rel w0 w' := by
  obtain ⟨A', c', es, rfl, hk, hn, hm, hle, hrow, hsub⟩ := h.open
  have HR := Lib.hid hr
  have HB := Lib.hid (Bk.new w 38 #[.int .i64 9, .int .i64 n, .string (B nm), .slice A' 2 c'])
  have HA := Lib.hid (hr.self.alloc (.cells #[.int .i64 9, .int .i64 n, .string (B nm), .slice A' 2 c'] 38))
  have HO := Lib.hid ho
  obtain ⟨W, hW⟩ : ∃ W, w.alloc (.cells #[.int .i64 9, .int .i64 n, .string (B nm), .slice A' 2 c'] 38) = W := ⟨_, rfl⟩
  rw [hW] at HA HB
  obtain ⟨el0, hK0, ha0⟩ := kid_of hrow hsub hle HA.out 0 (by simp)
  obtain ⟨el1, hK1, ha1⟩ := kid_of hrow hsub hle HA.out 1 (by simp)
  obtain ⟨g, off, rfl⟩ := hK0.some
  have HK0 := Lib.hid (show KidAt W (some ⟨g, off, none⟩) 0 el0 from hK0)
  have HK1 := Lib.hid (show KidAt W (some ⟨g, off, none⟩) 4 el1 from hK1)
  have HC0 : Hid (∀ w', Rel W w' → Calls Tryz.prog 37 #[EV el0, .slice A os.length c] w' fun e w2 => e = .returned (.tuple #[.int .i64 v, .bool true, .int .i64 0]) ∧ Rel w' w2) := Lib.hid (told_kid H hf0 hc0 ha0 hl (ho.rel HA.out) (.ok (some v)) q0)
  obtain ⟨⟨b0, b1, b2, b3⟩, _⟩ := HB.out.four
  obtain ⟨x00, x01, x02, x03⟩ := HK0.out.at0
  clear hrow hsub h hK0 ha0 hK1 ha1 ho
  go_enter Tryz.func37, Tryz.ntmps37
  go_wp2_with (first
    | (go_at_call 37; (with_reducible refine (HC0.out _ (show Rel W W from HA.out.right2)).mono ?_); rintro e w1 ⟨rfl, h1⟩; have R1 := Lib.hid h1; obtain ⟨⟨d10, d11, d12, d13⟩, _⟩ := (HB.out.rel R1.out).four; obtain ⟨y10, y11, y12, y13⟩ := (HK1.out.rel R1.out).at))
  all_goals
    go_ret3
    exact ⟨rfl, (HR.out.trans HA.out).trans R1.out⟩
set_option maxRecDepth 100000 in
set_option maxHeartbeats 4000000 in
theorem rtold_9n (d : Nat) (n : Int) (nm : List UInt8) (x y : Ex) (H : RToldAt d) (hf0 : fine d x = true) (hc0 : isCond x.k = false) (hf1 : fine d y = true) (hc1 : isCond y.k = false) {r : Rs} (S : Nat → Prop) (e : El) (A : Option Addr) (c : Nat) (os : List Of) (w0 w : World) (hr : Rel w0 w) (h : ExAt S w e (.mk 9 n nm [x, y])) (hl : offsOk os = true) (ho : OffArg w A c os) (q0 : toldN os d x = .ok none) (q1 : toldN os d y = r) :
    Calls Tryz.prog 37 #[EV e, .slice A os.length c] w fun z w' => z = .returned (RV (r)) ∧ Rel w0 w' := by
  obtain ⟨A', c', es, rfl, hk, hn, hm, hle, hrow, hsub⟩ := h.open
  have HR := Lib.hid hr
  have HB := Lib.hid (Bk.new w 38 #[.int .i64 9, .int .i64 n, .string (B nm), .slice A' 2 c'])
  have HA := Lib.hid (hr.self.alloc (.cells #[.int .i64 9, .int .i64 n, .string (B nm), .slice A' 2 c'] 38))
  have HO := Lib.hid ho
  obtain ⟨W, hW⟩ : ∃ W, w.alloc (.cells #[.int .i64 9, .int .i64 n, .string (B nm), .slice A' 2 c'] 38) = W := ⟨_, rfl⟩
  rw [hW] at HA HB
  obtain ⟨el0, hK0, ha0⟩ := kid_of hrow hsub hle HA.out 0 (by simp)
  obtain ⟨el1, hK1, ha1⟩ := kid_of hrow hsub hle HA.out 1 (by simp)
  obtain ⟨g, off, rfl⟩ := hK0.some
  have HK0 := Lib.hid (show KidAt W (some ⟨g, off, none⟩) 0 el0 from hK0)
  have HK1 := Lib.hid (show KidAt W (some ⟨g, off, none⟩) 4 el1 from hK1)
  have HC0 : Hid (∀ w', Rel W w' → Calls Tryz.prog 37 #[EV el0, .slice A os.length c] w' fun e w2 => e = .returned (.tuple #[.int .i64 0, .bool false, .int .i64 0]) ∧ Rel w' w2) := Lib.hid (told_kid H hf0 hc0 ha0 hl (ho.rel HA.out) (.ok none) q0)
  have HC1 : Hid (∀ w', Rel W w' → Calls Tryz.prog 37 #[EV el1, .slice A os.length c] w' fun e w2 => e = .returned (.tuple #[.int .i64 (rsV r), .bool (rsB r), .int .i64 (rsE r)]) ∧ Rel w' w2) := Lib.hid (told_kid H hf1 hc1 ha1 hl (ho.rel HA.out) (r) q1)
  obtain ⟨⟨b0, b1, b2, b3⟩, _⟩ := HB.out.four
  obtain ⟨x00, x01, x02, x03⟩ := HK0.out.at0
  clear hrow hsub h hK0 ha0 hK1 ha1 ho
  go_enter Tryz.func37, Tryz.ntmps37
  go_wp2_with (first
    | (go_at_call 37; (with_reducible refine (HC0.out _ (show Rel W W from HA.out.right2)).mono ?_); rintro e w1 ⟨rfl, h1⟩; have R1 := Lib.hid h1; obtain ⟨⟨d10, d11, d12, d13⟩, _⟩ := (HB.out.rel R1.out).four; obtain ⟨y10, y11, y12, y13⟩ := (HK1.out.rel R1.out).at)
    | (go_at_call 37; (with_reducible refine (HC1.out _ R1.out).mono ?_); rintro e w2 ⟨rfl, h2⟩; have R2 := Lib.hid (R1.out.trans h2); obtain ⟨⟨d20, d21, d22, d23⟩, _⟩ := (HB.out.rel R2.out).four))
  all_goals
    go_ret3
    exact ⟨rfl, (HR.out.trans HA.out).trans R2.out⟩
set_option maxRecDepth 100000 in
set_option maxHeartbeats 4000000 in
theorem rtold_10e (d : Nat) (n : Int) (nm : List UInt8) (k x y : Ex) (H : RToldAt d) (HCd : RCondAt d) (hf0 : fine d k = true) (hc0 : isCond k.k = true) {er : Int} (he : (er != 0) = true) (S : Nat → Prop) (e : El) (A : Option Addr) (c : Nat) (os : List Of) (w0 w : World) (hr : Rel w0 w) (h : ExAt S w e (.mk 10 n nm [k, x, y])) (hl : offsOk os = true) (ho : OffArg w A c os) (q0 : condN os d k = .error er) :
    Calls Tryz.prog 37 #[EV e, .slice A os.length c] w fun z w' => z = .returned (RV (.error er)) ∧ Rel w0 w' := by
  obtain ⟨A', c', es, rfl, hk, hn, hm, hle, hrow, hsub⟩ := h.open
  have HR := Lib.hid hr
  have HB := Lib.hid (Bk.new w 38 #[.int .i64 10, .int .i64 n, .string (B nm), .slice A' 3 c'])
  have HA := Lib.hid (hr.self.alloc (.cells #[.int .i64 10, .int .i64 n, .string (B nm), .slice A' 3 c'] 38))
  have HO := Lib.hid ho
  obtain ⟨W, hW⟩ : ∃ W, w.alloc (.cells #[.int .i64 10, .int .i64 n, .string (B nm), .slice A' 3 c'] 38) = W := ⟨_, rfl⟩
  rw [hW] at HA HB
  obtain ⟨el0, hK0, ha0⟩ := kid_of hrow hsub hle HA.out 0 (by simp)
  obtain ⟨el1, hK1, ha1⟩ := kid_of hrow hsub hle HA.out 1 (by simp)
  obtain ⟨el2, hK2, ha2⟩ := kid_of hrow hsub hle HA.out 2 (by simp)
  obtain ⟨g, off, rfl⟩ := hK0.some
  have HK0 := Lib.hid (show KidAt W (some ⟨g, off, none⟩) 0 el0 from hK0)
  have HK1 := Lib.hid (show KidAt W (some ⟨g, off, none⟩) 4 el1 from hK1)
  have HK2 := Lib.hid (show KidAt W (some ⟨g, off, none⟩) 8 el2 from hK2)
  have HC0 : Hid (∀ w', Rel W w' → Calls Tryz.prog 65 #[EV el0, .slice A os.length c] w' fun e w2 => e = .returned (.tuple #[.bool false, .int .i64 er]) ∧ Rel w' w2) := Lib.hid (cond_kid HCd hf0 hc0 ha0 hl (ho.rel HA.out) (.error er) q0)
  obtain ⟨⟨b0, b1, b2, b3⟩, _⟩ := HB.out.four
  obtain ⟨x00, x01, x02, x03⟩ := HK0.out.at0
  clear hrow hsub h hK0 ha0 hK1 ha1 hK2 ha2 ho
  go_enter Tryz.func37, Tryz.ntmps37
  go_wp2_with (first
    | (go_at_call 65; (with_reducible refine (HC0.out _ (show Rel W W from HA.out.right2)).mono ?_); rintro e w1 ⟨rfl, h1⟩; have R1 := Lib.hid h1; obtain ⟨⟨d10, d11, d12, d13⟩, _⟩ := (HB.out.rel R1.out).four; obtain ⟨y10, y11, y12, y13⟩ := (HK1.out.rel R1.out).at))
  all_goals
    go_ret3
    exact ⟨rfl, (HR.out.trans HA.out).trans R1.out⟩
set_option maxRecDepth 100000 in
set_option maxHeartbeats 4000000 in
theorem rtold_10t (d : Nat) (n : Int) (nm : List UInt8) (k x y : Ex) (H : RToldAt d) (HCd : RCondAt d) (hf0 : fine d k = true) (hc0 : isCond k.k = true) (hf1 : fine d x = true) (hc1 : isCond x.k = false) {r : Rs} (S : Nat → Prop) (e : El) (A : Option Addr) (c : Nat) (os : List Of) (w0 w : World) (hr : Rel w0 w) (h : ExAt S w e (.mk 10 n nm [k, x, y])) (hl : offsOk os = true) (ho : OffArg w A c os) (q0 : condN os d k = .ok true) (q1 : toldN os d x = r) :
    Calls Tryz.prog 37 #[EV e, .slice A os.length c] w fun z w' => z = .returned (RV (r)) ∧ Rel w0 w' := by
  obtain ⟨A', c', es, rfl, hk, hn, hm, hle, hrow, hsub⟩ := h.open
  have HR := Lib.hid hr
  have HB := Lib.hid (Bk.new w 38 #[.int .i64 10, .int .i64 n, .string (B nm), .slice A' 3 c'])
  have HA := Lib.hid (hr.self.alloc (.cells #[.int .i64 10, .int .i64 n, .string (B nm), .slice A' 3 c'] 38))
  have HO := Lib.hid ho
  obtain ⟨W, hW⟩ : ∃ W, w.alloc (.cells #[.int .i64 10, .int .i64 n, .string (B nm), .slice A' 3 c'] 38) = W := ⟨_, rfl⟩
  rw [hW] at HA HB
  obtain ⟨el0, hK0, ha0⟩ := kid_of hrow hsub hle HA.out 0 (by simp)
  obtain ⟨el1, hK1, ha1⟩ := kid_of hrow hsub hle HA.out 1 (by simp)
  obtain ⟨el2, hK2, ha2⟩ := kid_of hrow hsub hle HA.out 2 (by simp)
  obtain ⟨g, off, rfl⟩ := hK0.some
  have HK0 := Lib.hid (show KidAt W (some ⟨g, off, none⟩) 0 el0 from hK0)
  have HK1 := Lib.hid (show KidAt W (some ⟨g, off, none⟩) 4 el1 from hK1)
  have HK2 := Lib.hid (show KidAt W (some ⟨g, off, none⟩) 8 el2 from hK2)
  have HC0 : Hid (∀ w', Rel W w' → Calls Tryz.prog 65 #[EV el0, .slice A os.length c] w' fun e w2 => e = .returned (.tuple #[.bool true, .int .i64 0]) ∧ Rel w' w2) := Lib.hid (cond_kid HCd hf0 hc0 ha0 hl (ho.rel HA.out) (.ok true) q0)
  have HC1 : Hid (∀ w', Rel W w' → Calls Tryz.prog 37 #[EV el1, .slice A os.length c] w' fun e w2 => e = .returned (.tuple #[.int .i64 (rsV r), .bool (rsB r), .int .i64 (rsE r)]) ∧ Rel w' w2) := Lib.hid (told_kid H hf1 hc1 ha1 hl (ho.rel HA.out) (r) q1)
  obtain ⟨⟨b0, b1, b2, b3⟩, _⟩ := HB.out.four
  obtain ⟨x00, x01, x02, x03⟩ := HK0.out.at0
  clear hrow hsub h hK0 ha0 hK1 ha1 hK2 ha2 ho
  go_enter Tryz.func37, Tryz.ntmps37
  go_wp2_with (first
    | (go_at_call 65; (with_reducible refine (HC0.out _ (show Rel W W from HA.out.right2)).mono ?_); rintro e w1 ⟨rfl, h1⟩; have R1 := Lib.hid h1; obtain ⟨⟨d10, d11, d12, d13⟩, _⟩ := (HB.out.rel R1.out).four; obtain ⟨y10, y11, y12, y13⟩ := (HK1.out.rel R1.out).at)
    | (go_at_call 37; (with_reducible refine (HC1.out _ R1.out).mono ?_); rintro e w2 ⟨rfl, h2⟩; have R2 := Lib.hid (R1.out.trans h2); obtain ⟨⟨d20, d21, d22, d23⟩, _⟩ := (HB.out.rel R2.out).four))
  all_goals
    go_ret3
    exact ⟨rfl, (HR.out.trans HA.out).trans R2.out⟩
set_option maxRecDepth 100000 in
set_option maxHeartbeats 4000000 in
theorem rtold_10f (d : Nat) (n : Int) (nm : List UInt8) (k x y : Ex) (H : RToldAt d) (HCd : RCondAt d) (hf0 : fine d k = true) (hc0 : isCond k.k = true) (hf2 : fine d y = true) (hc2 : isCond y.k = false) {r : Rs} (S : Nat → Prop) (e : El) (A : Option Addr) (c : Nat) (os : List Of) (w0 w : World) (hr : Rel w0 w) (h : ExAt S w e (.mk 10 n nm [k, x, y])) (hl : offsOk os = true) (ho : OffArg w A c os) (q0 : condN os d k = .ok false) (q2 : toldN os d y = r) :
    Calls Tryz.prog 37 #[EV e, .slice A os.length c] w fun z w' => z = .returned (RV (r)) ∧ Rel w0 w' := by
  obtain ⟨A', c', es, rfl, hk, hn, hm, hle, hrow, hsub⟩ := h.open
  have HR := Lib.hid hr
  have HB := Lib.hid (Bk.new w 38 #[.int .i64 10, .int .i64 n, .string (B nm), .slice A' 3 c'])
  have HA := Lib.hid (hr.self.alloc (.cells #[.int .i64 10, .int .i64 n, .string (B nm), .slice A' 3 c'] 38))
  have HO := Lib.hid ho
  obtain ⟨W, hW⟩ : ∃ W, w.alloc (.cells #[.int .i64 10, .int .i64 n, .string (B nm), .slice A' 3 c'] 38) = W := ⟨_, rfl⟩
  rw [hW] at HA HB
  obtain ⟨el0, hK0, ha0⟩ := kid_of hrow hsub hle HA.out 0 (by simp)
  obtain ⟨el1, hK1, ha1⟩ := kid_of hrow hsub hle HA.out 1 (by simp)
  obtain ⟨el2, hK2, ha2⟩ := kid_of hrow hsub hle HA.out 2 (by simp)
  obtain ⟨g, off, rfl⟩ := hK0.some
  have HK0 := Lib.hid (show KidAt W (some ⟨g, off, none⟩) 0 el0 from hK0)
  have HK1 := Lib.hid (show KidAt W (some ⟨g, off, none⟩) 4 el1 from hK1)
  have HK2 := Lib.hid (show KidAt W (some ⟨g, off, none⟩) 8 el2 from hK2)
  have HC0 : Hid (∀ w', Rel W w' → Calls Tryz.prog 65 #[EV el0, .slice A os.length c] w' fun e w2 => e = .returned (.tuple #[.bool false, .int .i64 0]) ∧ Rel w' w2) := Lib.hid (cond_kid HCd hf0 hc0 ha0 hl (ho.rel HA.out) (.ok false) q0)
  have HC2 : Hid (∀ w', Rel W w' → Calls Tryz.prog 37 #[EV el2, .slice A os.length c] w' fun e w2 => e = .returned (.tuple #[.int .i64 (rsV r), .bool (rsB r), .int .i64 (rsE r)]) ∧ Rel w' w2) := Lib.hid (told_kid H hf2 hc2 ha2 hl (ho.rel HA.out) (r) q2)
  obtain ⟨⟨b0, b1, b2, b3⟩, _⟩ := HB.out.four
  obtain ⟨x00, x01, x02, x03⟩ := HK0.out.at0
  clear hrow hsub h hK0 ha0 hK1 ha1 hK2 ha2 ho
  go_enter Tryz.func37, Tryz.ntmps37
  go_wp2_with (first
    | (go_at_call 65; (with_reducible refine (HC0.out _ (show Rel W W from HA.out.right2)).mono ?_); rintro e w1 ⟨rfl, h1⟩; have R1 := Lib.hid h1; obtain ⟨⟨d10, d11, d12, d13⟩, _⟩ := (HB.out.rel R1.out).four; obtain ⟨y10, y11, y12, y13⟩ := (HK2.out.rel R1.out).at)
    | (go_at_call 37; (with_reducible refine (HC2.out _ R1.out).mono ?_); rintro e w2 ⟨rfl, h2⟩; have R2 := Lib.hid (R1.out.trans h2); obtain ⟨⟨d20, d21, d22, d23⟩, _⟩ := (HB.out.rel R2.out).four))
  all_goals
    go_ret3
    exact ⟨rfl, (HR.out.trans HA.out).trans R2.out⟩
set_option maxRecDepth 100000 in
set_option maxHeartbeats 4000000 in
theorem rcond_12e (d : Nat) (n : Int) (nm : List UInt8) (x y : Ex) (H : RToldAt d) (hf0 : fine d x = true) (hc0 : isCond x.k = false) {er : Int} (he : (er != 0) = true) (S : Nat → Prop) (e : El) (A : Option Addr) (c : Nat) (os : List Of) (w0 w : World) (hr : Rel w0 w) (h : ExAt S w e (.mk 12 n nm [x, y])) (hl : offsOk os = true) (ho : OffArg w A c os) (q0 : toldN os d x = .error er) :
    Calls Tryz.prog 65 #[EV e, .slice A os.length c] w fun z w' => z = .returned (CV (.error er)) ∧ Rel w0 w' := by
  obtain ⟨A', c', es, rfl, hk, hn, hm, hle, hrow, hsub⟩ := h.open
  have HR := Lib.hid hr
  have HB := Lib.hid (Bk.new w 38 #[.int .i64 12, .int .i64 n, .string (B nm), .slice A' 2 c'])
  have HA := Lib.hid (hr.self.alloc (.cells #[.int .i64 12, .int .i64 n, .string (B nm), .slice A' 2 c'] 38))
  have HO := Lib.hid ho
  obtain ⟨W, hW⟩ : ∃ W, w.alloc (.cells #[.int .i64 12, .int .i64 n, .string (B nm), .slice A' 2 c'] 38) = W := ⟨_, rfl⟩
  rw [hW] at HA HB
  obtain ⟨el0, hK0, ha0⟩ := kid_of hrow hsub hle HA.out 0 (by simp)
  obtain ⟨el1, hK1, ha1⟩ := kid_of hrow hsub hle HA.out 1 (by simp)
  obtain ⟨g, off, rfl⟩ := hK0.some
  have HK0 := Lib.hid (show KidAt W (some ⟨g, off, none⟩) 0 el0 from hK0)
  have HK1 := Lib.hid (show KidAt W (some ⟨g, off, none⟩) 4 el1 from hK1)
  have HC0 : Hid (∀ w', Rel W w' → Calls Tryz.prog 37 #[EV el0, .slice A os.length c] w' fun e w2 => e = .returned (.tuple #[.int .i64 0, .bool false, .int .i64 er]) ∧ Rel w' w2) := Lib.hid (told_kid H hf0 hc0 ha0 hl (ho.rel HA.out) (.error er) q0)
  obtain ⟨⟨b0, b1, b2, b3⟩, _⟩ := HB.out.four
  obtain ⟨x00, x01, x02, x03⟩ := HK0.out.at0
  clear hrow hsub h hK0 ha0 hK1 ha1 ho
  go_enter Tryz.func65, Tryz.ntmps65
  go_wp2_with (first
    | (go_at_call 37; (with_reducible refine (HC0.out _ (show Rel W W from HA.out.right2)).mono ?_); rintro e w1 ⟨rfl, h1⟩; have R1 := Lib.hid h1; obtain ⟨⟨d10, d11, d12, d13⟩, _⟩ := (HB.out.rel R1.out).four))
  all_goals
    go_ret2
    exact ⟨rfl, (HR.out.trans HA.out).trans R1.out⟩
set_option maxRecDepth 100000 in
set_option maxHeartbeats 4000000 in
theorem rcond_12ne (d : Nat) (n : Int) (nm : List UInt8) (x y : Ex) (H : RToldAt d) (hf0 : fine d x = true) (hc0 : isCond x.k = false) (hf1 : fine d y = true) (hc1 : isCond y.k = false) {er : Int} (he : (er != 0) = true) (S : Nat → Prop) (e : El) (A : Option Addr) (c : Nat) (os : List Of) (w0 w : World) (hr : Rel w0 w) (h : ExAt S w e (.mk 12 n nm [x, y])) (hl : offsOk os = true) (ho : OffArg w A c os) (q0 : toldN os d x = .ok none) (q1 : toldN os d y = .error er) :
    Calls Tryz.prog 65 #[EV e, .slice A os.length c] w fun z w' => z = .returned (CV (.error er)) ∧ Rel w0 w' := by
  obtain ⟨A', c', es, rfl, hk, hn, hm, hle, hrow, hsub⟩ := h.open
  have HR := Lib.hid hr
  have HB := Lib.hid (Bk.new w 38 #[.int .i64 12, .int .i64 n, .string (B nm), .slice A' 2 c'])
  have HA := Lib.hid (hr.self.alloc (.cells #[.int .i64 12, .int .i64 n, .string (B nm), .slice A' 2 c'] 38))
  have HO := Lib.hid ho
  obtain ⟨W, hW⟩ : ∃ W, w.alloc (.cells #[.int .i64 12, .int .i64 n, .string (B nm), .slice A' 2 c'] 38) = W := ⟨_, rfl⟩
  rw [hW] at HA HB
  obtain ⟨el0, hK0, ha0⟩ := kid_of hrow hsub hle HA.out 0 (by simp)
  obtain ⟨el1, hK1, ha1⟩ := kid_of hrow hsub hle HA.out 1 (by simp)
  obtain ⟨g, off, rfl⟩ := hK0.some
  have HK0 := Lib.hid (show KidAt W (some ⟨g, off, none⟩) 0 el0 from hK0)
  have HK1 := Lib.hid (show KidAt W (some ⟨g, off, none⟩) 4 el1 from hK1)
  have HC0 : Hid (∀ w', Rel W w' → Calls Tryz.prog 37 #[EV el0, .slice A os.length c] w' fun e w2 => e = .returned (.tuple #[.int .i64 0, .bool false, .int .i64 0]) ∧ Rel w' w2) := Lib.hid (told_kid H hf0 hc0 ha0 hl (ho.rel HA.out) (.ok none) q0)
  have HC1 : Hid (∀ w', Rel W w' → Calls Tryz.prog 37 #[EV el1, .slice A os.length c] w' fun e w2 => e = .returned (.tuple #[.int .i64 0, .bool false, .int .i64 er]) ∧ Rel w' w2) := Lib.hid (told_kid H hf1 hc1 ha1 hl (ho.rel HA.out) (.error er) q1)
  have he2 : (er == 0) = false := by simpa using he
  obtain ⟨⟨b0, b1, b2, b3⟩, _⟩ := HB.out.four
  obtain ⟨x00, x01, x02, x03⟩ := HK0.out.at0
  clear hrow hsub h hK0 ha0 hK1 ha1 ho
  go_enter Tryz.func65, Tryz.ntmps65
  go_wp2_with (first
    | (go_at_call 37; (with_reducible refine (HC0.out _ (show Rel W W from HA.out.right2)).mono ?_); rintro e w1 ⟨rfl, h1⟩; have R1 := Lib.hid h1; obtain ⟨⟨d10, d11, d12, d13⟩, _⟩ := (HB.out.rel R1.out).four; obtain ⟨y10, y11, y12, y13⟩ := (HK1.out.rel R1.out).at)
    | (go_at_call 37; (with_reducible refine (HC1.out _ R1.out).mono ?_); rintro e w2 ⟨rfl, h2⟩; have R2 := Lib.hid (R1.out.trans h2); obtain ⟨⟨d20, d21, d22, d23⟩, _⟩ := (HB.out.rel R2.out).four))
  all_goals
    go_ret2
    exact ⟨rfl, (HR.out.trans HA.out).trans R2.out⟩
set_option maxRecDepth 100000 in
set_option maxHeartbeats 4000000 in
theorem rcond_12nn (d : Nat) (n : Int) (nm : List UInt8) (x y : Ex) (H : RToldAt d) (hf0 : fine d x = true) (hc0 : isCond x.k = false) (hf1 : fine d y = true) (hc1 : isCond y.k = false) (S : Nat → Prop) (e : El) (A : Option Addr) (c : Nat) (os : List Of) (w0 w : World) (hr : Rel w0 w) (h : ExAt S w e (.mk 12 n nm [x, y])) (hl : offsOk os = true) (ho : OffArg w A c os) (q0 : toldN os d x = .ok none) (q1 : toldN os d y = .ok none) :
    Calls Tryz.prog 65 #[EV e, .slice A os.length c] w fun z w' => z = .returned (CV (.ok false)) ∧ Rel w0 w' := by
  obtain ⟨A', c', es, rfl, hk, hn, hm, hle, hrow, hsub⟩ := h.open
  have HR := Lib.hid hr
  have HB := Lib.hid (Bk.new w 38 #[.int .i64 12, .int .i64 n, .string (B nm), .slice A' 2 c'])
  have HA := Lib.hid (hr.self.alloc (.cells #[.int .i64 12, .int .i64 n, .string (B nm), .slice A' 2 c'] 38))
  have HO := Lib.hid ho
  obtain ⟨W, hW⟩ : ∃ W, w.alloc (.cells #[.int .i64 12, .int .i64 n, .string (B nm), .slice A' 2 c'] 38) = W := ⟨_, rfl⟩
  rw [hW] at HA HB
  obtain ⟨el0, hK0, ha0⟩ := kid_of hrow hsub hle HA.out 0 (by simp)
  obtain ⟨el1, hK1, ha1⟩ := kid_of hrow hsub hle HA.out 1 (by simp)
  obtain ⟨g, off, rfl⟩ := hK0.some
  have HK0 := Lib.hid (show KidAt W (some ⟨g, off, none⟩) 0 el0 from hK0)
  have HK1 := Lib.hid (show KidAt W (some ⟨g, off, none⟩) 4 el1 from hK1)
  have HC0 : Hid (∀ w', Rel W w' → Calls Tryz.prog 37 #[EV el0, .slice A os.length c] w' fun e w2 => e = .returned (.tuple #[.int .i64 0, .bool false, .int .i64 0]) ∧ Rel w' w2) := Lib.hid (told_kid H hf0 hc0 ha0 hl (ho.rel HA.out) (.ok none) q0)
  have HC1 : Hid (∀ w', Rel W w' → Calls Tryz.prog 37 #[EV el1, .slice A os.length c] w' fun e w2 => e = .returned (.tuple #[.int .i64 0, .bool false, .int .i64 0]) ∧ Rel w' w2) := Lib.hid (told_kid H hf1 hc1 ha1 hl (ho.rel HA.out) (.ok none) q1)
  obtain ⟨⟨b0, b1, b2, b3⟩, _⟩ := HB.out.four
  obtain ⟨x00, x01, x02, x03⟩ := HK0.out.at0
  clear hrow hsub h hK0 ha0 hK1 ha1 ho
  go_enter Tryz.func65, Tryz.ntmps65
  go_wp2_with (first
    | (go_at_call 37; (with_reducible refine (HC0.out _ (show Rel W W from HA.out.right2)).mono ?_); rintro e w1 ⟨rfl, h1⟩; have R1 := Lib.hid h1; obtain ⟨⟨d10, d11, d12, d13⟩, _⟩ := (HB.out.rel R1.out).four; obtain ⟨y10, y11, y12, y13⟩ := (HK1.out.rel R1.out).at)
    | (go_at_call 37; (with_reducible refine (HC1.out _ R1.out).mono ?_); rintro e w2 ⟨rfl, h2⟩; have R2 := Lib.hid (R1.out.trans h2); obtain ⟨⟨d20, d21, d22, d23⟩, _⟩ := (HB.out.rel R2.out).four))
  all_goals
    go_ret2
    exact ⟨rfl, (HR.out.trans HA.out).trans R2.out⟩
set_option maxRecDepth 100000 in
set_option maxHeartbeats 4000000 in
theorem rcond_12se (d : Nat) (n : Int) (nm : List UInt8) (x y : Ex) (H : RToldAt d) (hf0 : fine d x = true) (hc0 : isCond x.k = false) (hf1 : fine d y = true) (hc1 : isCond y.k = false) {er : Int} (he : (er != 0) = true) {v : Int} (S : Nat → Prop) (e : El) (A : Option Addr) (c : Nat) (os : List Of) (w0 w : World) (hr : Rel w0 w) (h : ExAt S w e (.mk 12 n nm [x, y])) (hl : offsOk os = true) (ho : OffArg w A c os) (q0 : toldN os d x = .ok (some v)) (q1 : toldN os d y = .error er) :
    Calls Tryz.prog 65 #[EV e, .slice A os.length c] w fun z w' => z = .returned (CV (.error er)) ∧ Rel w0 w' := by
  obtain ⟨A', c', es, rfl, hk, hn, hm, hle, hrow, hsub⟩ := h.open
  have HR := Lib.hid hr
  have HB := Lib.hid (Bk.new w 38 #[.int .i64 12, .int .i64 n, .string (B nm), .slice A' 2 c'])
  have HA := Lib.hid (hr.self.alloc (.cells #[.int .i64 12, .int .i64 n, .string (B nm), .slice A' 2 c'] 38))
  have HO := Lib.hid ho
  obtain ⟨W, hW⟩ : ∃ W, w.alloc (.cells #[.int .i64 12, .int .i64 n, .string (B nm), .slice A' 2 c'] 38) = W := ⟨_, rfl⟩
  rw [hW] at HA HB
  obtain ⟨el0, hK0, ha0⟩ := kid_of hrow hsub hle HA.out 0 (by simp)
  obtain ⟨el1, hK1, ha1⟩ := kid_of hrow hsub hle HA.out 1 (by simp)
  obtain ⟨g, off, rfl⟩ := hK0.some
  have HK0 := Lib.hid (show KidAt W (some ⟨g, off, none⟩) 0 el0 from hK0)
  have HK1 := Lib.hid (show KidAt W (some ⟨g, off, none⟩) 4 el1 from hK1)
  have HC0 : Hid (∀ w', Rel W w' → Calls Tryz.prog 37 #[EV el0, .slice A os.length c] w' fun e w2 => e = .returned (.tuple #[.int .i64 v, .bool true, .int .i64 0]) ∧ Rel w' w2) := Lib.hid (told_kid H hf0 hc0 ha0 hl (ho.rel HA.out) (.ok (some v)) q0)
  have HC1 : Hid (∀ w', Rel W w' → Calls Tryz.prog 37 #[EV el1, .slice A os.length c] w' fun e w2 => e = .returned (.tuple #[.int .i64 0, .bool false, .int .i64 er]) ∧ Rel w' w2) := Lib.hid (told_kid H hf1 hc1 ha1 hl (ho.rel HA.out) (.error er) q1)
  have he2 : (er == 0) = false := by simpa using he
  obtain ⟨⟨b0, b1, b2, b3⟩, _⟩ := HB.out.four
  obtain ⟨x00, x01, x02, x03⟩ := HK0.out.at0
  clear hrow hsub h hK0 ha0 hK1 ha1 ho
  go_enter Tryz.func65, Tryz.ntmps65
  go_wp2_with (first
    | (go_at_call 37; (with_reducible refine (HC0.out _ (show Rel W W from HA.out.right2)).mono ?_); rintro e w1 ⟨rfl, h1⟩; have R1 := Lib.hid h1; obtain ⟨⟨d10, d11, d12, d13⟩, _⟩ := (HB.out.rel R1.out).four; obtain ⟨y10, y11, y12, y13⟩ := (HK1.out.rel R1.out).at)
    | (go_at_call 37; (with_reducible refine (HC1.out _ R1.out).mono ?_); rintro e w2 ⟨rfl, h2⟩; have R2 := Lib.hid (R1.out.trans h2); obtain ⟨⟨d20, d21, d22, d23⟩, _⟩ := (HB.out.rel R2.out).four))
  all_goals
    go_ret2
    exact ⟨rfl, (HR.out.trans HA.out).trans R2.out⟩
set_option maxRecDepth 100000 in
set_option maxHeartbeats 4000000 in
theorem rcond_12sn (d : Nat) (n : Int) (nm : List UInt8) (x y : Ex) (H : RToldAt d) (hf0 : fine d x = true) (hc0 : isCond x.k = false) (hf1 : fine d y = true) (hc1 : isCond y.k = false) {v : Int} (S : Nat → Prop) (e : El) (A : Option Addr) (c : Nat) (os : List Of) (w0 w : World) (hr : Rel w0 w) (h : ExAt S w e (.mk 12 n nm [x, y])) (hl : offsOk os = true) (ho : OffArg w A c os) (q0 : toldN os d x = .ok (some v)) (q1 : toldN os d y = .ok none) :
    Calls Tryz.prog 65 #[EV e, .slice A os.length c] w fun z w' => z = .returned (CV (.ok false)) ∧ Rel w0 w' := by
  obtain ⟨A', c', es, rfl, hk, hn, hm, hle, hrow, hsub⟩ := h.open
  have HR := Lib.hid hr
  have HB := Lib.hid (Bk.new w 38 #[.int .i64 12, .int .i64 n, .string (B nm), .slice A' 2 c'])
  have HA := Lib.hid (hr.self.alloc (.cells #[.int .i64 12, .int .i64 n, .string (B nm), .slice A' 2 c'] 38))
  have HO := Lib.hid ho
  obtain ⟨W, hW⟩ : ∃ W, w.alloc (.cells #[.int .i64 12, .int .i64 n, .string (B nm), .slice A' 2 c'] 38) = W := ⟨_, rfl⟩
  rw [hW] at HA HB
  obtain ⟨el0, hK0, ha0⟩ := kid_of hrow hsub hle HA.out 0 (by simp)
  obtain ⟨el1, hK1, ha1⟩ := kid_of hrow hsub hle HA.out 1 (by simp)
  obtain ⟨g, off, rfl⟩ := hK0.some
  have HK0 := Lib.hid (show KidAt W (some ⟨g, off, none⟩) 0 el0 from hK0)
  have HK1 := Lib.hid (show KidAt W (some ⟨g, off, none⟩) 4 el1 from hK1)
  have HC0 : Hid (∀ w', Rel W w' → Calls Tryz.prog 37 #[EV el0, .slice A os.length c] w' fun e w2 => e = .returned (.tuple #[.int .i64 v, .bool true, .int .i64 0]) ∧ Rel w' w2) := Lib.hid (told_kid H hf0 hc0 ha0 hl (ho.rel HA.out) (.ok (some v)) q0)
  have HC1 : Hid (∀ w', Rel W w' → Calls Tryz.prog 37 #[EV el1, .slice A os.length c] w' fun e w2 => e = .returned (.tuple #[.int .i64 0, .bool false, .int .i64 0]) ∧ Rel w' w2) := Lib.hid (told_kid H hf1 hc1 ha1 hl (ho.rel HA.out) (.ok none) q1)
  obtain ⟨⟨b0, b1, b2, b3⟩, _⟩ := HB.out.four
  obtain ⟨x00, x01, x02, x03⟩ := HK0.out.at0
  clear hrow hsub h hK0 ha0 hK1 ha1 ho
  go_enter Tryz.func65, Tryz.ntmps65
  go_wp2_with (first
    | (go_at_call 37; (with_reducible refine (HC0.out _ (show Rel W W from HA.out.right2)).mono ?_); rintro e w1 ⟨rfl, h1⟩; have R1 := Lib.hid h1; obtain ⟨⟨d10, d11, d12, d13⟩, _⟩ := (HB.out.rel R1.out).four; obtain ⟨y10, y11, y12, y13⟩ := (HK1.out.rel R1.out).at)
    | (go_at_call 37; (with_reducible refine (HC1.out _ R1.out).mono ?_); rintro e w2 ⟨rfl, h2⟩; have R2 := Lib.hid (R1.out.trans h2); obtain ⟨⟨d20, d21, d22, d23⟩, _⟩ := (HB.out.rel R2.out).four))
  all_goals
    go_ret2
    exact ⟨rfl, (HR.out.trans HA.out).trans R2.out⟩
set_option maxRecDepth 100000 in
set_option maxHeartbeats 4000000 in
theorem rcond_12ns (d : Nat) (n : Int) (nm : List UInt8) (x y : Ex) (H : RToldAt d) (hf0 : fine d x = true) (hc0 : isCond x.k = false) (hf1 : fine d y = true) (hc1 : isCond y.k = false) {u : Int} (S : Nat → Prop) (e : El) (A : Option Addr) (c : Nat) (os : List Of) (w0 w : World) (hr : Rel w0 w) (h : ExAt S w e (.mk 12 n nm [x, y])) (hl : offsOk os = true) (ho : OffArg w A c os) (q0 : toldN os d x = .ok none) (q1 : toldN os d y = .ok (some u)) :
    Calls Tryz.prog 65 #[EV e, .slice A os.length c] w fun z w' => z = .returned (CV (.ok false)) ∧ Rel w0 w' := by
  obtain ⟨A', c', es, rfl, hk, hn, hm, hle, hrow, hsub⟩ := h.open
  have HR := Lib.hid hr
  have HB := Lib.hid (Bk.new w 38 #[.int .i64 12, .int .i64 n, .string (B nm), .slice A' 2 c'])
  have HA := Lib.hid (hr.self.alloc (.cells #[.int .i64 12, .int .i64 n, .string (B nm), .slice A' 2 c'] 38))
  have HO := Lib.hid ho
  obtain ⟨W, hW⟩ : ∃ W, w.alloc (.cells #[.int .i64 12, .int .i64 n, .string (B nm), .slice A' 2 c'] 38) = W := ⟨_, rfl⟩
  rw [hW] at HA HB
  obtain ⟨el0, hK0, ha0⟩ := kid_of hrow hsub hle HA.out 0 (by simp)
  obtain ⟨el1, hK1, ha1⟩ := kid_of hrow hsub hle HA.out 1 (by simp)
  obtain ⟨g, off, rfl⟩ := hK0.some
  have HK0 := Lib.hid (show KidAt W (some ⟨g, off, none⟩) 0 el0 from hK0)
  have HK1 := Lib.hid (show KidAt W (some ⟨g, off, none⟩) 4 el1 from hK1)
  have HC0 : Hid (∀ w', Rel W w' → Calls Tryz.prog 37 #[EV el0, .slice A os.length c] w' fun e w2 => e = .returned (.tuple #[.int .i64 0, .bool false, .int .i64 0]) ∧ Rel w' w2) := Lib.hid (told_kid H hf0 hc0 ha0 hl (ho.rel HA.out) (.ok none) q0)
  have HC1 : Hid (∀ w', Rel W w' → Calls Tryz.prog 37 #[EV el1, .slice A os.length c] w' fun e w2 => e = .returned (.tuple #[.int .i64 u, .bool true, .int .i64 0]) ∧ Rel w' w2) := Lib.hid (told_kid H hf1 hc1 ha1 hl (ho.rel HA.out) (.ok (some u)) q1)
  obtain ⟨⟨b0, b1, b2, b3⟩, _⟩ := HB.out.four
  obtain ⟨x00, x01, x02, x03⟩ := HK0.out.at0
  clear hrow hsub h hK0 ha0 hK1 ha1 ho
  go_enter Tryz.func65, Tryz.ntmps65
  go_wp2_with (first
    | (go_at_call 37; (with_reducible refine (HC0.out _ (show Rel W W from HA.out.right2)).mono ?_); rintro e w1 ⟨rfl, h1⟩; have R1 := Lib.hid h1; obtain ⟨⟨d10, d11, d12, d13⟩, _⟩ := (HB.out.rel R1.out).four; obtain ⟨y10, y11, y12, y13⟩ := (HK1.out.rel R1.out).at)
    | (go_at_call 37; (with_reducible refine (HC1.out _ R1.out).mono ?_); rintro e w2 ⟨rfl, h2⟩; have R2 := Lib.hid (R1.out.trans h2); obtain ⟨⟨d20, d21, d22, d23⟩, _⟩ := (HB.out.rel R2.out).four))
  all_goals
    go_ret2
    exact ⟨rfl, (HR.out.trans HA.out).trans R2.out⟩
set_option maxRecDepth 100000 in
set_option maxHeartbeats 4000000 in
theorem rcond_12ss (d : Nat) (n : Int) (nm : List UInt8) (x y : Ex) (H : RToldAt d) (hf0 : fine d x = true) (hc0 : isCond x.k = false) (hf1 : fine d y = true) (hc1 : isCond y.k = false) {v u : Int} (S : Nat → Prop) (e : El) (A : Option Addr) (c : Nat) (os : List Of) (w0 w : World) (hr : Rel w0 w) (h : ExAt S w e (.mk 12 n nm [x, y])) (hl : offsOk os = true) (ho : OffArg w A c os) (q0 : toldN os d x = .ok (some v)) (q1 : toldN os d y = .ok (some u)) :
    Calls Tryz.prog 65 #[EV e, .slice A os.length c] w fun z w' => z = .returned (CV (.ok (decide (u < v)))) ∧ Rel w0 w' := by
  obtain ⟨A', c', es, rfl, hk, hn, hm, hle, hrow, hsub⟩ := h.open
  have HR := Lib.hid hr
  have HB := Lib.hid (Bk.new w 38 #[.int .i64 12, .int .i64 n, .string (B nm), .slice A' 2 c'])
  have HA := Lib.hid (hr.self.alloc (.cells #[.int .i64 12, .int .i64 n, .string (B nm), .slice A' 2 c'] 38))
  have HO := Lib.hid ho
  obtain ⟨W, hW⟩ : ∃ W, w.alloc (.cells #[.int .i64 12, .int .i64 n, .string (B nm), .slice A' 2 c'] 38) = W := ⟨_, rfl⟩
  rw [hW] at HA HB
  obtain ⟨el0, hK0, ha0⟩ := kid_of hrow hsub hle HA.out 0 (by simp)
  obtain ⟨el1, hK1, ha1⟩ := kid_of hrow hsub hle HA.out 1 (by simp)
  obtain ⟨g, off, rfl⟩ := hK0.some
  have HK0 := Lib.hid (show KidAt W (some ⟨g, off, none⟩) 0 el0 from hK0)
  have HK1 := Lib.hid (show KidAt W (some ⟨g, off, none⟩) 4 el1 from hK1)
  have HC0 : Hid (∀ w', Rel W w' → Calls Tryz.prog 37 #[EV el0, .slice A os.length c] w' fun e w2 => e = .returned (.tuple #[.int .i64 v, .bool true, .int .i64 0]) ∧ Rel w' w2) := Lib.hid (told_kid H hf0 hc0 ha0 hl (ho.rel HA.out) (.ok (some v)) q0)
  have HC1 : Hid (∀ w', Rel W w' → Calls Tryz.prog 37 #[EV el1, .slice A os.length c] w' fun e w2 => e = .returned (.tuple #[.int .i64 u, .bool true, .int .i64 0]) ∧ Rel w' w2) := Lib.hid (told_kid H hf1 hc1 ha1 hl (ho.rel HA.out) (.ok (some u)) q1)
  obtain ⟨⟨b0, b1, b2, b3⟩, _⟩ := HB.out.four
  obtain ⟨x00, x01, x02, x03⟩ := HK0.out.at0
  clear hrow hsub h hK0 ha0 hK1 ha1 ho
  go_enter Tryz.func65, Tryz.ntmps65
  go_wp2_with (first
    | (go_at_call 37; (with_reducible refine (HC0.out _ (show Rel W W from HA.out.right2)).mono ?_); rintro e w1 ⟨rfl, h1⟩; have R1 := Lib.hid h1; obtain ⟨⟨d10, d11, d12, d13⟩, _⟩ := (HB.out.rel R1.out).four; obtain ⟨y10, y11, y12, y13⟩ := (HK1.out.rel R1.out).at)
    | (go_at_call 37; (with_reducible refine (HC1.out _ R1.out).mono ?_); rintro e w2 ⟨rfl, h2⟩; have R2 := Lib.hid (R1.out.trans h2); obtain ⟨⟨d20, d21, d22, d23⟩, _⟩ := (HB.out.rel R2.out).four))
  all_goals
    go_ret2
    exact ⟨rfl, (HR.out.trans HA.out).trans R2.out⟩
set_option maxRecDepth 100000 in
set_option maxHeartbeats 4000000 in
theorem rcond_11 (d : Nat) (n : Int) (nm : List UInt8) (S : Nat → Prop) (e : El) (A : Option Addr) (c : Nat) (os : List Of) (w0 w : World) (hr : Rel w0 w) (h : ExAt S w e (.mk 11 n nm [])) (hl : offsOk os = true) (ho : OffArg w A c os) :
    Calls Tryz.prog 65 #[EV e, .slice A os.length c] w fun r w' => r = .returned (CV (.ok (decide (n < (os.length : Int))))) ∧ Rel w0 w' := by
  obtain ⟨A', c', es, rfl, hk, hn, hm, hle, hrow, hsub⟩ := h.open
  have HR := Lib.hid hr
  have HB := Lib.hid (Bk.new w 38 #[.int .i64 11, .int .i64 n, .string (B nm), .slice A' 0 c'])
  have HA := Lib.hid (hr.self.alloc (.cells #[.int .i64 11, .int .i64 n, .string (B nm), .slice A' 0 c'] 38))
  have HO := Lib.hid ho
  obtain ⟨W, hW⟩ : ∃ W, w.alloc (.cells #[.int .i64 11, .int .i64 n, .string (B nm), .slice A' 0 c'] 38) = W := ⟨_, rfl⟩
  rw [hW] at HA HB
  obtain ⟨⟨c0, c1, c2, c3⟩, _⟩ := HB.out.four
  clear hrow hsub h ho
  go_enter Tryz.func65, Tryz.ntmps65
  go_wp2_with (fail)
  go_ret2
  exact ⟨rfl, HR.out.trans HA.out⟩
end Go.Proofs.YtcckemhelockaaaGreatDoor
