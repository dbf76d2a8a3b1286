/- The landed value code: both of two; the lesser and the greater one; the first or else the second one. -/
import Derived.Test.YtcckemhelockaaaGreatDoorZL
import Derived.Test.YtcckemhelockaaaGreatDoorZ00
import Derived.Test.YtcckemhelockaaaGreatDoorZ01
import Derived.Test.YtcckemhelockaaaGreatDoorZ02
import Derived.Test.YtcckemhelockaaaGreatDoorZ03
import Derived.Test.YtcckemhelockaaaGreatDoorZ04
import Derived.Test.YtcckemhelockaaaGreatDoorZ07
import Derived.Test.YtcckemhelockaaaGreatDoorZ08
import Derived.Test.YtcckemhelockaaaGreatDoorZ09
namespace Go.Proofs.YtcckemhelockaaaGreatDoor
open Go.RowKit Go.Lib
set_option linter.unusedVariables false
set_option linter.unusedSimpArgs false
set_option maxRecDepth 100000 in
set_option maxHeartbeats 4000000 in
theorem pboth_no0 (d : Nat) (K : Int) (n : Int) (nm : List UInt8) (x y : Ex) (H : PToldAt d) (f0 : fine d x = true) (g0 : isCond x.k = false) {er : Int} (S : Nat → Prop) (e : El) (A : Option Addr) (c : Nat) (os : List Of) (w0 w : World) (hr : Rel w0 w) (h : ExAt S w e (.mk K n nm [x, y])) (hl : offsOk os = true) (ho : OffArg w A c os) (q0 : toldN os d x = .error er) :
    Calls Tryz.prog 103 #[.slice A os.length c, EV e] w fun z w' => z = FLV ∧ Rel w0 w' := by
  obtain ⟨A', c', es, rfl, hk, hn, hm, hle, hrow, hsub⟩ := h.open
  have HR := Lib.hid hr
  have HB := Lib.hid (Bk.new w 38 #[.int .i64 K, .int .i64 n, .string (B nm), .slice A' 2 c'])
  have HA := Lib.hid (hr.self.alloc (.cells #[.int .i64 K, .int .i64 n, .string (B nm), .slice A' 2 c'] 38))
  obtain ⟨W, hW⟩ : ∃ W, w.alloc (.cells #[.int .i64 K, .int .i64 n, .string (B nm), .slice A' 2 c'] 38) = W := ⟨_, rfl⟩
  rw [hW] at HA HB
  obtain ⟨el0, hK0, ha0⟩ := kidp_of hrow hsub hle hr.self 0 (by simp)
  obtain ⟨el1, hK1, ha1⟩ := kidp_of hrow hsub hle hr.self 1 (by simp)
  obtain ⟨g, off, rfl⟩ := hK0.is
  have HK0 := Lib.hid (show KidP w (some ⟨g, off, none⟩) 0 el0 from hK0)
  have HK1 := Lib.hid (show KidP w (some ⟨g, off, none⟩) 4 el1 from hK1)
  have HC0 := Lib.hid (pkid_no H f0 g0 ha0 hl ho q0)
  obtain ⟨⟨b0, b1, b2, b3⟩, _⟩ := HB.out.four
  obtain ⟨x00, x01, x02, x03⟩ := (HK0.out.rel HA.out).at0
  clear hrow hsub h hr hK0 ha0 hK1 ha1 ho
  go_enter Tryz.func103, Tryz.ntmps103
  go_wp2_with (go_at_call 34; (with_reducible refine (HC0.out _ HA.out).mono ?_); rintro e w1 ⟨rfl, h1⟩)
  exact ⟨rfl, rfl, HR.out.trans (HA.out.trans h1)⟩
set_option maxRecDepth 100000 in
set_option maxHeartbeats 4000000 in
theorem pboth_no1 (d : Nat) (K : Int) (n : Int) (nm : List UInt8) (x y : Ex) (H : PToldAt d) (f0 : fine d x = true) (g0 : isCond x.k = false) (f1 : fine d y = true) (g1 : isCond y.k = false) {er : Int} {o0 : Option Int} (S : Nat → Prop) (e : El) (A : Option Addr) (c : Nat) (os : List Of) (w0 w : World) (hr : Rel w0 w) (h : ExAt S w e (.mk K n nm [x, y])) (hl : offsOk os = true) (ho : OffArg w A c os) (q0 : toldN os d x = .ok o0) (q1 : toldN os d y = .error er) :
    Calls Tryz.prog 103 #[.slice A os.length c, EV e] w fun z w' => z = FLV ∧ Rel w0 w' := by
  obtain ⟨A', c', es, rfl, hk, hn, hm, hle, hrow, hsub⟩ := h.open
  have HR := Lib.hid hr
  have HB := Lib.hid (Bk.new w 38 #[.int .i64 K, .int .i64 n, .string (B nm), .slice A' 2 c'])
  have HA := Lib.hid (hr.self.alloc (.cells #[.int .i64 K, .int .i64 n, .string (B nm), .slice A' 2 c'] 38))
  obtain ⟨W, hW⟩ : ∃ W, w.alloc (.cells #[.int .i64 K, .int .i64 n, .string (B nm), .slice A' 2 c'] 38) = W := ⟨_, rfl⟩
  rw [hW] at HA HB
  obtain ⟨el0, hK0, ha0⟩ := kidp_of hrow hsub hle hr.self 0 (by simp)
  obtain ⟨el1, hK1, ha1⟩ := kidp_of hrow hsub hle hr.self 1 (by simp)
  obtain ⟨g, off, rfl⟩ := hK0.is
  have HK0 := Lib.hid (show KidP w (some ⟨g, off, none⟩) 0 el0 from hK0)
  have HK1 := Lib.hid (show KidP w (some ⟨g, off, none⟩) 4 el1 from hK1)
  obtain ⟨V0, hV0⟩ : ∃ V, o0.getD 0 = V := ⟨_, rfl⟩
  obtain ⟨B0, hB0⟩ : ∃ b, o0.isSome = b := ⟨_, rfl⟩
  have HC0 := Lib.hid (pkid_ok H f0 g0 ha0 hl ho q0 hV0 hB0)
  have HC1 := Lib.hid (pkid_no H f1 g1 ha1 hl ho q1)
  obtain ⟨⟨b0, b1, b2, b3⟩, _⟩ := HB.out.four
  obtain ⟨x00, x01, x02, x03⟩ := (HK0.out.rel HA.out).at0
  clear hrow hsub h hr hK0 ha0 hK1 ha1 ho
  go_enter Tryz.func103, Tryz.ntmps103
  go_upto_region 2 with (go_at_call 34; (with_reducible refine (HC0.out _ HA.out).mono ?_); rintro e w1 ⟨rfl, h1⟩; have R1 := Lib.hid (HA.out.trans h1))
  have HU1 := Lib.hid (Bk.new w1 81 #[.int .i64 V0, .bool B0])
  have RU1 := Lib.hid (R1.out.alloc (.cells #[.int .i64 V0, .bool B0] 81))
  have RV1 := Lib.hid (h1.alloc (.cells #[.int .i64 V0, .bool B0] 81))
  obtain ⟨U1, hU1⟩ : ∃ U, w1.alloc (.cells #[.int .i64 V0, .bool B0] 81) = U := ⟨_, rfl⟩
  rw [hU1] at HU1 RU1 RV1 ⊢
  clear hU1
  obtain ⟨⟨y0, y1, y2, y3⟩, _⟩ := (HB.out.rel RV1.out).four
  obtain ⟨x10, x11, x12, x13⟩ := (HK1.out.rel RU1.out).at
  go_wp2_with (go_at_call 34; (with_reducible refine (HC1.out _ RU1.out).mono ?_); rintro e w2 ⟨rfl, h2⟩)
  exact ⟨rfl, rfl, HR.out.trans (RU1.out.trans h2)⟩
set_option maxRecDepth 100000 in
set_option maxHeartbeats 4000000 in
theorem pboth_ok (d : Nat) (K : Int) (n : Int) (nm : List UInt8) (x y : Ex) (H : PToldAt d) (f0 : fine d x = true) (g0 : isCond x.k = false) (f1 : fine d y = true) (g1 : isCond y.k = false) {o0 o1 : Option Int} (S : Nat → Prop) (e : El) (A : Option Addr) (c : Nat) (os : List Of) (w0 w : World) (hr : Rel w0 w) (h : ExAt S w e (.mk K n nm [x, y])) (hl : offsOk os = true) (ho : OffArg w A c os) (q0 : toldN os d x = .ok o0) (q1 : toldN os d y = .ok o1) :
    Calls Tryz.prog 103 #[.slice A os.length c, EV e] w fun z w' => z = .returned (.tuple #[.int .i64 (o0.getD 0), .int .i64 (o1.getD 0), .bool (o0.isSome && o1.isSome)]) ∧ Rel w0 w' := by
  obtain ⟨A', c', es, rfl, hk, hn, hm, hle, hrow, hsub⟩ := h.open
  have HR := Lib.hid hr
  have HB := Lib.hid (Bk.new w 38 #[.int .i64 K, .int .i64 n, .string (B nm), .slice A' 2 c'])
  have HA := Lib.hid (hr.self.alloc (.cells #[.int .i64 K, .int .i64 n, .string (B nm), .slice A' 2 c'] 38))
  obtain ⟨W, hW⟩ : ∃ W, w.alloc (.cells #[.int .i64 K, .int .i64 n, .string (B nm), .slice A' 2 c'] 38) = W := ⟨_, rfl⟩
  rw [hW] at HA HB
  obtain ⟨el0, hK0, ha0⟩ := kidp_of hrow hsub hle hr.self 0 (by simp)
  obtain ⟨el1, hK1, ha1⟩ := kidp_of hrow hsub hle hr.self 1 (by simp)
  obtain ⟨g, off, rfl⟩ := hK0.is
  have HK0 := Lib.hid (show KidP w (some ⟨g, off, none⟩) 0 el0 from hK0)
  have HK1 := Lib.hid (show KidP w (some ⟨g, off, none⟩) 4 el1 from hK1)
  obtain ⟨V0, hV0⟩ : ∃ V, o0.getD 0 = V := ⟨_, rfl⟩
  obtain ⟨B0, hB0⟩ : ∃ b, o0.isSome = b := ⟨_, rfl⟩
  have HC0 := Lib.hid (pkid_ok H f0 g0 ha0 hl ho q0 hV0 hB0)
  obtain ⟨V1, hV1⟩ : ∃ V, o1.getD 0 = V := ⟨_, rfl⟩
  obtain ⟨B1, hB1⟩ : ∃ b, o1.isSome = b := ⟨_, rfl⟩
  have HC1 := Lib.hid (pkid_ok H f1 g1 ha1 hl ho q1 hV1 hB1)
  obtain ⟨⟨b0, b1, b2, b3⟩, _⟩ := HB.out.four
  obtain ⟨x00, x01, x02, x03⟩ := (HK0.out.rel HA.out).at0
  clear hrow hsub h hr hK0 ha0 hK1 ha1 ho
  rw [hV0, hB0, hV1, hB1]
  clear hV0 hB0 hV1 hB1
  cases B0
  · go_enter Tryz.func103, Tryz.ntmps103
    go_upto_region 2 with (go_at_call 34; (with_reducible refine (HC0.out _ HA.out).mono ?_); rintro e w1 ⟨rfl, h1⟩; have R1 := Lib.hid (HA.out.trans h1))
    have HU1 := Lib.hid (Bk.new w1 81 #[.int .i64 V0, .bool false])
    have RU1 := Lib.hid (R1.out.alloc (.cells #[.int .i64 V0, .bool false] 81))
    have RV1 := Lib.hid (h1.alloc (.cells #[.int .i64 V0, .bool false] 81))
    obtain ⟨U1, hU1⟩ : ∃ U, w1.alloc (.cells #[.int .i64 V0, .bool false] 81) = U := ⟨_, rfl⟩
    rw [hU1] at HU1 RU1 RV1 ⊢
    clear hU1
    obtain ⟨⟨y0, y1, y2, y3⟩, _⟩ := (HB.out.rel RV1.out).four
    obtain ⟨x10, x11, x12, x13⟩ := (HK1.out.rel RU1.out).at
    go_upto_region 3 with (go_at_call 34; (with_reducible refine (HC1.out _ RU1.out).mono ?_); rintro e w2 ⟨rfl, h2⟩; have R2 := Lib.hid (RU1.out.trans h2))
    have HU2 := Lib.hid (Bk.new w2 81 #[.int .i64 V1, .bool B1])
    have RU2 := Lib.hid (R2.out.alloc (.cells #[.int .i64 V1, .bool B1] 81))
    have RV2 := Lib.hid (h2.alloc (.cells #[.int .i64 V1, .bool B1] 81))
    obtain ⟨U2, hU2⟩ : ∃ U, w2.alloc (.cells #[.int .i64 V1, .bool B1] 81) = U := ⟨_, rfl⟩
    rw [hU2] at HU2 RU2 RV2 ⊢
    clear hU2
    obtain ⟨⟨p0, p1⟩, _⟩ := (HU1.out.rel RV2.out).two
    obtain ⟨⟨r0, r1⟩, _⟩ := HU2.out.two
    go_quiet (fail)
    go_wp2_with (fail)
    go_ret3
    exact ⟨rfl, (HR.out.trans RU2.out).drewN _⟩
  · go_enter Tryz.func103, Tryz.ntmps103
    go_upto_region 2 with (go_at_call 34; (with_reducible refine (HC0.out _ HA.out).mono ?_); rintro e w1 ⟨rfl, h1⟩; have R1 := Lib.hid (HA.out.trans h1))
    have HU1 := Lib.hid (Bk.new w1 81 #[.int .i64 V0, .bool true])
    have RU1 := Lib.hid (R1.out.alloc (.cells #[.int .i64 V0, .bool true] 81))
    have RV1 := Lib.hid (h1.alloc (.cells #[.int .i64 V0, .bool true] 81))
    obtain ⟨U1, hU1⟩ : ∃ U, w1.alloc (.cells #[.int .i64 V0, .bool true] 81) = U := ⟨_, rfl⟩
    rw [hU1] at HU1 RU1 RV1 ⊢
    clear hU1
    obtain ⟨⟨y0, y1, y2, y3⟩, _⟩ := (HB.out.rel RV1.out).four
    obtain ⟨x10, x11, x12, x13⟩ := (HK1.out.rel RU1.out).at
    go_upto_region 3 with (go_at_call 34; (with_reducible refine (HC1.out _ RU1.out).mono ?_); rintro e w2 ⟨rfl, h2⟩; have R2 := Lib.hid (RU1.out.trans h2))
    have HU2 := Lib.hid (Bk.new w2 81 #[.int .i64 V1, .bool B1])
    have RU2 := Lib.hid (R2.out.alloc (.cells #[.int .i64 V1, .bool B1] 81))
    have RV2 := Lib.hid (h2.alloc (.cells #[.int .i64 V1, .bool B1] 81))
    obtain ⟨U2, hU2⟩ : ∃ U, w2.alloc (.cells #[.int .i64 V1, .bool B1] 81) = U := ⟨_, rfl⟩
    rw [hU2] at HU2 RU2 RV2 ⊢
    clear hU2
    obtain ⟨⟨p0, p1⟩, _⟩ := (HU1.out.rel RV2.out).two
    obtain ⟨⟨r0, r1⟩, _⟩ := HU2.out.two
    go_quiet (fail)
    go_wp2_with (fail)
    go_ret3
    exact ⟨rfl, (HR.out.trans RU2.out).drewN _⟩
set_option maxRecDepth 100000 in
set_option maxHeartbeats 4000000 in
theorem pchosen_no (k n : Int) (nm : List UInt8) (A1 : Option Addr) (m c1 : Nat) (ov : Value) (w0 w : World) (hr : Rel w0 w) (hb : ∀ w', Rel w w' → Calls Tryz.prog 103 #[ov, .agg #[.int .i64 k, .int .i64 n, .string (B nm), .slice A1 m c1]] w' fun z w2 => z = FLV ∧ Rel w' w2) :
    Calls Tryz.prog 56 #[ov, .agg #[.int .i64 k, .int .i64 n, .string (B nm), .slice A1 m c1]] w fun z w' => z = FLV ∧ Rel w0 w' := by
  have HR := Lib.hid hr
  have HC := Lib.hid hb
  have HS := Lib.hid (SB.new hr.self 38 #[.int .i64 k, .int .i64 n, .string (B nm), .slice A1 m c1])
  obtain ⟨W, hW⟩ : ∃ W, (w.alloc (.cells #[.int .i64 k, .int .i64 n, .string (B nm), .slice A1 m c1] 38)).alloc (.cells #[.int .i64 0, .bool false] 81) = W := ⟨_, rfl⟩
  rw [hW] at HS
  have hS9 := HS.out
  obtain ⟨⟨c0, c1', c2, c3⟩, _⟩ := hS9.2.1.four
  clear hr hS9 hb
  go_enter Tryz.func56, Tryz.ntmps56
  go_wp2_with (go_at_call 103; (with_reducible refine (HC.out _ HS.out.r).mono ?_); rintro e w1 ⟨rfl, h1⟩)
  exact ⟨rfl, rfl, HR.out.trans (HS.out.r.trans h1)⟩
set_option maxRecDepth 100000 in
set_option maxHeartbeats 4000000 in
theorem pchosen_none (k n : Int) (nm : List UInt8) (A1 : Option Addr) (m c1 : Nat) (ov : Value) (V0 V1 : Int) (w0 w : World) (hr : Rel w0 w) (hb : ∀ w', Rel w w' → Calls Tryz.prog 103 #[ov, .agg #[.int .i64 k, .int .i64 n, .string (B nm), .slice A1 m c1]] w' fun z w2 => z = .returned (.tuple #[.int .i64 V0, .int .i64 V1, .bool false]) ∧ Rel w' w2) :
    Calls Tryz.prog 56 #[ov, .agg #[.int .i64 k, .int .i64 n, .string (B nm), .slice A1 m c1]] w fun z w' => z = .returned (.agg #[.int .i64 0, .bool false]) ∧ Rel w0 w' := by
  have HR := Lib.hid hr
  have HC := Lib.hid hb
  have HS := Lib.hid (SB.new hr.self 38 #[.int .i64 k, .int .i64 n, .string (B nm), .slice A1 m c1])
  obtain ⟨W, hW⟩ : ∃ W, (w.alloc (.cells #[.int .i64 k, .int .i64 n, .string (B nm), .slice A1 m c1] 38)).alloc (.cells #[.int .i64 0, .bool false] 81) = W := ⟨_, rfl⟩
  rw [hW] at HS
  have hS9 := HS.out
  obtain ⟨⟨c0, c1', c2, c3⟩, _⟩ := hS9.2.1.four
  clear hr hS9 hb
  go_enter Tryz.func56, Tryz.ntmps56
  go_wp2_with (go_at_call 103; (with_reducible refine (HC.out _ HS.out.r).mono ?_); rintro e w1 ⟨rfl, h1⟩; have hS9 := HS.out.rel h1; obtain ⟨⟨y0, y1, y2, y3⟩, _⟩ := hS9.2.1.four; obtain ⟨a9, b9, hb9⟩ := hS9.2.2; obtain ⟨⟨d0, d1⟩, e0, e1⟩ := hb9.two; have HS1 := Lib.hid hS9; clear hS9 hb9)
  exact bodyPost_ret (v := TV none) (by simp [results, Tryz.results56, go_sem, d0, d1]) rfl ⟨rfl, HR.out.trans (HS1.out.put _ _).1⟩
set_option maxRecDepth 100000 in
set_option maxHeartbeats 4000000 in
theorem pchosen_min (n : Int) (nm : List UInt8) (A1 : Option Addr) (m c1 : Nat) (ov : Value) (V0 V1 : Int) (w0 w : World) (hr : Rel w0 w) (hb : ∀ w', Rel w w' → Calls Tryz.prog 103 #[ov, .agg #[.int .i64 7, .int .i64 n, .string (B nm), .slice A1 m c1]] w' fun z w2 => z = .returned (.tuple #[.int .i64 V0, .int .i64 V1, .bool true]) ∧ Rel w' w2) :
    Calls Tryz.prog 56 #[ov, .agg #[.int .i64 7, .int .i64 n, .string (B nm), .slice A1 m c1]] w fun z w' => z = .returned (.agg #[.int .i64 (min V0 V1), .bool true]) ∧ Rel w0 w' := by
  have HR := Lib.hid hr
  have HC := Lib.hid hb
  have HS := Lib.hid (SB.new hr.self 38 #[.int .i64 7, .int .i64 n, .string (B nm), .slice A1 m c1])
  obtain ⟨W, hW⟩ : ∃ W, (w.alloc (.cells #[.int .i64 7, .int .i64 n, .string (B nm), .slice A1 m c1] 38)).alloc (.cells #[.int .i64 0, .bool false] 81) = W := ⟨_, rfl⟩
  rw [hW] at HS
  have hS9 := HS.out
  obtain ⟨⟨c0, c1', c2, c3⟩, _⟩ := hS9.2.1.four
  clear hr hS9 hb
  go_enter Tryz.func56, Tryz.ntmps56
  go_wp2_with (first
    | (go_at_call 103; (with_reducible refine (HC.out _ HS.out.r).mono ?_); rintro e w1 ⟨rfl, h1⟩; have hS9 := HS.out.rel h1; obtain ⟨⟨y0, y1, y2, y3⟩, _⟩ := hS9.2.1.four; obtain ⟨a9, b9, hb9⟩ := hS9.2.2; obtain ⟨⟨d0, d1⟩, e0, e1⟩ := hb9.two; have HS1 := Lib.hid hS9; clear hS9 hb9)
    | (go_at_call 59; (with_reducible refine (vamount_any _ _ _ HS1.out.self).mono ?_); rintro e w2 ⟨rfl, h2⟩; have hS9 := HS1.out.rel h2; obtain ⟨a9, b9, hb9⟩ := hS9.2.2; obtain ⟨⟨d0, d1⟩, e0, e1⟩ := hb9.two; have HS2 := Lib.hid hS9; clear hS9 hb9))
  all_goals
    first
      | exact bodyPost_ret (v := .agg #[.int .i64 (min V0 V1), .bool true]) (by simp [results, Tryz.results56, go_sem, d0, d1]) rfl ⟨rfl, HR.out.trans (HS2.out.put _ _).1⟩
      | exact bodyPost_ret (v := .agg #[.int .i64 _, .bool true]) (by simp [results, Tryz.results56, go_sem, d0, d1]; rfl) rfl ⟨by congr 5; omega, HR.out.trans (HS2.out.put _ _).1⟩
set_option maxRecDepth 100000 in
set_option maxHeartbeats 4000000 in
theorem pchosen_max (n : Int) (nm : List UInt8) (A1 : Option Addr) (m c1 : Nat) (ov : Value) (V0 V1 : Int) (w0 w : World) (hr : Rel w0 w) (hb : ∀ w', Rel w w' → Calls Tryz.prog 103 #[ov, .agg #[.int .i64 8, .int .i64 n, .string (B nm), .slice A1 m c1]] w' fun z w2 => z = .returned (.tuple #[.int .i64 V0, .int .i64 V1, .bool true]) ∧ Rel w' w2) :
    Calls Tryz.prog 56 #[ov, .agg #[.int .i64 8, .int .i64 n, .string (B nm), .slice A1 m c1]] w fun z w' => z = .returned (.agg #[.int .i64 (max V0 V1), .bool true]) ∧ Rel w0 w' := by
  have HR := Lib.hid hr
  have HC := Lib.hid hb
  have HS := Lib.hid (SB.new hr.self 38 #[.int .i64 8, .int .i64 n, .string (B nm), .slice A1 m c1])
  obtain ⟨W, hW⟩ : ∃ W, (w.alloc (.cells #[.int .i64 8, .int .i64 n, .string (B nm), .slice A1 m c1] 38)).alloc (.cells #[.int .i64 0, .bool false] 81) = W := ⟨_, rfl⟩
  rw [hW] at HS
  have hS9 := HS.out
  obtain ⟨⟨c0, c1', c2, c3⟩, _⟩ := hS9.2.1.four
  clear hr hS9 hb
  go_enter Tryz.func56, Tryz.ntmps56
  go_wp2_with (first
    | (go_at_call 103; (with_reducible refine (HC.out _ HS.out.r).mono ?_); rintro e w1 ⟨rfl, h1⟩; have hS9 := HS.out.rel h1; obtain ⟨⟨y0, y1, y2, y3⟩, _⟩ := hS9.2.1.four; obtain ⟨a9, b9, hb9⟩ := hS9.2.2; obtain ⟨⟨d0, d1⟩, e0, e1⟩ := hb9.two; have HS1 := Lib.hid hS9; clear hS9 hb9)
    | (go_at_call 59; (with_reducible refine (vamount_any _ _ _ HS1.out.self).mono ?_); rintro e w2 ⟨rfl, h2⟩; have hS9 := HS1.out.rel h2; obtain ⟨a9, b9, hb9⟩ := hS9.2.2; obtain ⟨⟨d0, d1⟩, e0, e1⟩ := hb9.two; have HS2 := Lib.hid hS9; clear hS9 hb9))
  all_goals
    first
      | exact bodyPost_ret (v := .agg #[.int .i64 (max V0 V1), .bool true]) (by simp [results, Tryz.results56, go_sem, d0, d1]) rfl ⟨rfl, HR.out.trans (HS2.out.put _ _).1⟩
      | exact bodyPost_ret (v := .agg #[.int .i64 _, .bool true]) (by simp [results, Tryz.results56, go_sem, d0, d1]; rfl) rfl ⟨by congr 5; omega, HR.out.trans (HS2.out.put _ _).1⟩
theorem oth_world {w : World} (xs ys : Array Value) (hr : Rel w w) : Hid (Bk (((w.alloc (.cells xs 38)).alloc (.cells ys 38)).alloc (.cells #[.int .i64 0, .bool false] 81)) w.heap.size 38 xs) ∧ Hid (Bk (((w.alloc (.cells xs 38)).alloc (.cells ys 38)).alloc (.cells #[.int .i64 0, .bool false] 81)) (w.heap.size + 1) 38 ys) ∧ Hid (Bk (((w.alloc (.cells xs 38)).alloc (.cells ys 38)).alloc (.cells #[.int .i64 0, .bool false] 81)) (w.heap.size + 1 + 1) 81 #[.int .i64 0, .bool false]) ∧ Hid (Rel w (((w.alloc (.cells xs 38)).alloc (.cells ys 38)).alloc (.cells #[.int .i64 0, .bool false] 81))) := by
  have b3 := Bk.new ((w.alloc (.cells xs 38)).alloc (.cells ys 38)) 81 #[.int .i64 0, .bool false]
  rw [World.size_alloc, World.size_alloc] at b3
  exact ⟨Lib.hid (((Bk.new w 38 xs).alloc _).alloc _), Lib.hid ((Bk.snd w xs ys 38 38).alloc _), Lib.hid b3, Lib.hid (((hr.alloc _).alloc _).alloc _)⟩
set_option maxRecDepth 100000 in
set_option maxHeartbeats 4000000 in
theorem poth_no (k n : Int) (nm : List UInt8) (A1 : Option Addr) (m c1 : Nat) (k' n' : Int) (nm' : List UInt8) (A1' : Option Addr) (m' c1' : Nat) (ov : Value) (w0 w : World) (hr : Rel w0 w) (hb : ∀ w', Rel w w' → Calls Tryz.prog 34 #[ov, .agg #[.int .i64 k, .int .i64 n, .string (B nm), .slice A1 m c1]] w' fun z w2 => z = FLV ∧ Rel w' w2) :
    Calls Tryz.prog 57 #[ov, .agg #[.int .i64 k, .int .i64 n, .string (B nm), .slice A1 m c1], .agg #[.int .i64 k', .int .i64 n', .string (B nm'), .slice A1' m' c1']] w fun z w' => z = FLV ∧ Rel w0 w' := by
  have HR := Lib.hid hr
  have hz := hr.size
  have HC1 := Lib.hid hb
  clear hb
  obtain ⟨HB1, HB2, HT, HA⟩ := oth_world #[.int .i64 k, .int .i64 n, .string (B nm), .slice A1 m c1] #[.int .i64 k', .int .i64 n', .string (B nm'), .slice A1' m' c1'] hr.self
  obtain ⟨W, hW⟩ : ∃ W, ((w.alloc (.cells #[.int .i64 k, .int .i64 n, .string (B nm), .slice A1 m c1] 38)).alloc (.cells #[.int .i64 k', .int .i64 n', .string (B nm'), .slice A1' m' c1'] 38)).alloc (.cells #[.int .i64 0, .bool false] 81) = W := ⟨_, rfl⟩
  rw [hW] at HB1 HB2 HT HA
  obtain ⟨⟨c0, c1q, c2, c3⟩, _⟩ := HB1.out.four
  clear hr
  go_enter Tryz.func57, Tryz.ntmps57
  go_wp2_with (go_at_call 34; (with_reducible refine (HC1.out _ HA.out).mono ?_); rintro e w1 ⟨rfl, h1⟩)
  exact ⟨rfl, rfl, HR.out.trans (HA.out.trans h1)⟩
set_option maxRecDepth 100000 in
set_option maxHeartbeats 4000000 in
theorem poth_some (k n : Int) (nm : List UInt8) (A1 : Option Addr) (m c1 : Nat) (k' n' : Int) (nm' : List UInt8) (A1' : Option Addr) (m' c1' : Nat) (ov : Value) (V : Int) (w0 w : World) (hr : Rel w0 w) (hb : ∀ w', Rel w w' → Calls Tryz.prog 34 #[ov, .agg #[.int .i64 k, .int .i64 n, .string (B nm), .slice A1 m c1]] w' fun z w2 => z = .returned (.agg #[.int .i64 V, .bool true]) ∧ Rel w' w2) :
    Calls Tryz.prog 57 #[ov, .agg #[.int .i64 k, .int .i64 n, .string (B nm), .slice A1 m c1], .agg #[.int .i64 k', .int .i64 n', .string (B nm'), .slice A1' m' c1']] w fun z w' => z = .returned (.agg #[.int .i64 V, .bool true]) ∧ Rel w0 w' := by
  have HR := Lib.hid hr
  have hz := hr.size
  have HC1 := Lib.hid hb
  clear hb
  obtain ⟨HB1, HB2, HT, HA⟩ := oth_world #[.int .i64 k, .int .i64 n, .string (B nm), .slice A1 m c1] #[.int .i64 k', .int .i64 n', .string (B nm'), .slice A1' m' c1'] hr.self
  obtain ⟨W, hW⟩ : ∃ W, ((w.alloc (.cells #[.int .i64 k, .int .i64 n, .string (B nm), .slice A1 m c1] 38)).alloc (.cells #[.int .i64 k', .int .i64 n', .string (B nm'), .slice A1' m' c1'] 38)).alloc (.cells #[.int .i64 0, .bool false] 81) = W := ⟨_, rfl⟩
  rw [hW] at HB1 HB2 HT HA
  obtain ⟨⟨c0, c1q, c2, c3⟩, _⟩ := HB1.out.four
  clear hr
  go_enter Tryz.func57, Tryz.ntmps57
  go_upto_region 2 with (go_at_call 34; (with_reducible refine (HC1.out _ HA.out).mono ?_); rintro e w1 ⟨rfl, h1⟩; have R1 := Lib.hid h1)
  have HU1 := Lib.hid (Bk.new w1 81 #[.int .i64 V, .bool true])
  have HAU := Lib.hid ((HA.out.trans R1.out).alloc (.cells #[.int .i64 V, .bool true] 81))
  have HRU := Lib.hid (R1.out.alloc (.cells #[.int .i64 V, .bool true] 81))
  obtain ⟨U1, hU1⟩ : ∃ U, w1.alloc (.cells #[.int .i64 V, .bool true] 81) = U := ⟨_, rfl⟩
  rw [hU1] at HU1 HAU HRU ⊢
  clear hU1
  obtain ⟨⟨p0, p1⟩, _⟩ := HU1.out.two
  obtain ⟨⟨d0, d1⟩, e0, e1⟩ := (HT.out.rel HRU.out).two
  go_wp2_with (fail)
  exact bodyPost_ret (v := TV (some V)) (by simp [results, Tryz.results57, go_sem, d0, d1]) rfl ⟨rfl, ((HR.out.trans HAU.out).setCell (Nat.le_succ_of_le (Nat.le_succ_of_le hz)) _).setCell (Nat.le_succ_of_le (Nat.le_succ_of_le hz)) _⟩
set_option maxRecDepth 100000 in
set_option maxHeartbeats 4000000 in
theorem poth_none (k n : Int) (nm : List UInt8) (A1 : Option Addr) (m c1 : Nat) (k' n' : Int) (nm' : List UInt8) (A1' : Option Addr) (m' c1' : Nat) (ov : Value) (V : Int) (b : Bool) (w0 w : World) (hr : Rel w0 w) (hb : ∀ w', Rel w w' → Calls Tryz.prog 34 #[ov, .agg #[.int .i64 k, .int .i64 n, .string (B nm), .slice A1 m c1]] w' fun z w2 => z = .returned (.agg #[.int .i64 0, .bool false]) ∧ Rel w' w2) (hb2 : ∀ w', Rel w w' → Calls Tryz.prog 34 #[ov, .agg #[.int .i64 k', .int .i64 n', .string (B nm'), .slice A1' m' c1']] w' fun z w2 => z = .returned (.agg #[.int .i64 V, .bool b]) ∧ Rel w' w2) :
    Calls Tryz.prog 57 #[ov, .agg #[.int .i64 k, .int .i64 n, .string (B nm), .slice A1 m c1], .agg #[.int .i64 k', .int .i64 n', .string (B nm'), .slice A1' m' c1']] w fun z w' => z = .returned (.agg #[.int .i64 V, .bool b]) ∧ Rel w0 w' := by
  have HR := Lib.hid hr
  have hz := hr.size
  have HC1 := Lib.hid hb
  have HC2 := Lib.hid hb2
  clear hb hb2
  obtain ⟨HB1, HB2, HT, HA⟩ := oth_world #[.int .i64 k, .int .i64 n, .string (B nm), .slice A1 m c1] #[.int .i64 k', .int .i64 n', .string (B nm'), .slice A1' m' c1'] hr.self
  obtain ⟨W, hW⟩ : ∃ W, ((w.alloc (.cells #[.int .i64 k, .int .i64 n, .string (B nm), .slice A1 m c1] 38)).alloc (.cells #[.int .i64 k', .int .i64 n', .string (B nm'), .slice A1' m' c1'] 38)).alloc (.cells #[.int .i64 0, .bool false] 81) = W := ⟨_, rfl⟩
  rw [hW] at HB1 HB2 HT HA
  obtain ⟨⟨c0, c1q, c2, c3⟩, _⟩ := HB1.out.four
  clear hr
  go_enter Tryz.func57, Tryz.ntmps57
  go_upto_region 2 with (go_at_call 34; (with_reducible refine (HC1.out _ HA.out).mono ?_); rintro e w1 ⟨rfl, h1⟩; have R1 := Lib.hid h1)
  have HU1 := Lib.hid (Bk.new w1 81 #[.int .i64 0, .bool false])
  have HAU := Lib.hid ((HA.out.trans R1.out).alloc (.cells #[.int .i64 0, .bool false] 81))
  have HRU := Lib.hid (R1.out.alloc (.cells #[.int .i64 0, .bool false] 81))
  obtain ⟨U1, hU1⟩ : ∃ U, w1.alloc (.cells #[.int .i64 0, .bool false] 81) = U := ⟨_, rfl⟩
  rw [hU1] at HU1 HAU HRU ⊢
  clear hU1
  obtain ⟨⟨p0, p1⟩, _⟩ := HU1.out.two
  obtain ⟨⟨q0, q1, q2, q3⟩, _⟩ := (HB2.out.rel HRU.out).four
  go_wp2_with (go_at_call 34; (with_reducible refine (HC2.out _ HAU.out).mono ?_); rintro e w2 ⟨rfl, h2⟩; have R2 := Lib.hid h2; obtain ⟨⟨d0, d1⟩, e0, e1⟩ := (HT.out.rel (HRU.out.trans h2)).two)
  exact bodyPost_ret (v := .agg #[.int .i64 V, .bool b]) (by simp [results, Tryz.results57, go_sem, d0, d1]) rfl ⟨rfl, (((HR.out.trans HAU.out).trans R2.out).setCell (Nat.le_succ_of_le (Nat.le_succ_of_le hz)) _).setCell (Nat.le_succ_of_le (Nat.le_succ_of_le hz)) _⟩
set_option maxRecDepth 100000 in
set_option maxHeartbeats 4000000 in
theorem poth_none_no (k n : Int) (nm : List UInt8) (A1 : Option Addr) (m c1 : Nat) (k' n' : Int) (nm' : List UInt8) (A1' : Option Addr) (m' c1' : Nat) (ov : Value) (w0 w : World) (hr : Rel w0 w) (hb : ∀ w', Rel w w' → Calls Tryz.prog 34 #[ov, .agg #[.int .i64 k, .int .i64 n, .string (B nm), .slice A1 m c1]] w' fun z w2 => z = .returned (.agg #[.int .i64 0, .bool false]) ∧ Rel w' w2) (hb2 : ∀ w', Rel w w' → Calls Tryz.prog 34 #[ov, .agg #[.int .i64 k', .int .i64 n', .string (B nm'), .slice A1' m' c1']] w' fun z w2 => z = FLV ∧ Rel w' w2) :
    Calls Tryz.prog 57 #[ov, .agg #[.int .i64 k, .int .i64 n, .string (B nm), .slice A1 m c1], .agg #[.int .i64 k', .int .i64 n', .string (B nm'), .slice A1' m' c1']] w fun z w' => z = FLV ∧ Rel w0 w' := by
  have HR := Lib.hid hr
  have hz := hr.size
  have HC1 := Lib.hid hb
  have HC2 := Lib.hid hb2
  clear hb hb2
  obtain ⟨HB1, HB2, HT, HA⟩ := oth_world #[.int .i64 k, .int .i64 n, .string (B nm), .slice A1 m c1] #[.int .i64 k', .int .i64 n', .string (B nm'), .slice A1' m' c1'] hr.self
  obtain ⟨W, hW⟩ : ∃ W, ((w.alloc (.cells #[.int .i64 k, .int .i64 n, .string (B nm), .slice A1 m c1] 38)).alloc (.cells #[.int .i64 k', .int .i64 n', .string (B nm'), .slice A1' m' c1'] 38)).alloc (.cells #[.int .i64 0, .bool false] 81) = W := ⟨_, rfl⟩
  rw [hW] at HB1 HB2 HT HA
  obtain ⟨⟨c0, c1q, c2, c3⟩, _⟩ := HB1.out.four
  clear hr
  go_enter Tryz.func57, Tryz.ntmps57
  go_upto_region 2 with (go_at_call 34; (with_reducible refine (HC1.out _ HA.out).mono ?_); rintro e w1 ⟨rfl, h1⟩; have R1 := Lib.hid h1)
  have HU1 := Lib.hid (Bk.new w1 81 #[.int .i64 0, .bool false])
  have HAU := Lib.hid ((HA.out.trans R1.out).alloc (.cells #[.int .i64 0, .bool false] 81))
  have HRU := Lib.hid (R1.out.alloc (.cells #[.int .i64 0, .bool false] 81))
  obtain ⟨U1, hU1⟩ : ∃ U, w1.alloc (.cells #[.int .i64 0, .bool false] 81) = U := ⟨_, rfl⟩
  rw [hU1] at HU1 HAU HRU ⊢
  clear hU1
  obtain ⟨⟨p0, p1⟩, _⟩ := HU1.out.two
  obtain ⟨⟨q0, q1, q2, q3⟩, _⟩ := (HB2.out.rel HRU.out).four
  go_wp2_with (go_at_call 34; (with_reducible refine (HC2.out _ HAU.out).mono ?_); rintro e w2 ⟨rfl, h2⟩)
  exact ⟨rfl, rfl, (HR.out.trans HAU.out).trans h2⟩
end Go.Proofs.YtcckemhelockaaaGreatDoor
