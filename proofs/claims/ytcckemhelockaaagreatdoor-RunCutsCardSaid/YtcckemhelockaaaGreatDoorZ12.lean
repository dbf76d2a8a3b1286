/- The landed value code: what any expression tells, and any condition; The landed value code: a reckoning, and the error that ends one; The landed value code: a reckoning of an amount, and of a condition. -/
import Derived.Test.YtcckemhelockaaaGreatDoorZL
import Derived.Test.YtcckemhelockaaaGreatDoorZ00
import Derived.Test.YtcckemhelockaaaGreatDoorZ01
import Derived.Test.YtcckemhelockaaaGreatDoorZ02
import Derived.Test.YtcckemhelockaaaGreatDoorZ03
import Derived.Test.YtcckemhelockaaaGreatDoorZ04
import Derived.Test.YtcckemhelockaaaGreatDoorZ07
import Derived.Test.YtcckemhelockaaaGreatDoorZ08
import Derived.Test.YtcckemhelockaaaGreatDoorZ09
import Derived.Test.YtcckemhelockaaaGreatDoorZ10
import Derived.Test.YtcckemhelockaaaGreatDoorZ11
namespace Go.Proofs.YtcckemhelockaaaGreatDoor
open Go.RowKit Go.Lib
set_option linter.unusedVariables false
set_option linter.unusedSimpArgs false
set_option maxRecDepth 100000 in
set_option maxHeartbeats 4000000 in
theorem pcd11 (n : Int) (nm : List UInt8) (A1 : Option Addr) (c1 : Nat) (A : Option Addr) (len c : Nat) (w0 w : World) (hr : Rel w0 w) :
    Calls Tryz.prog 58 #[.slice A len c, .agg #[.int .i64 11, .int .i64 n, .string (B nm), .slice A1 0 c1]] w fun z w' => z = .returned (.bool (decide (n < (len : Int)))) ∧ Rel w0 w' := by
  have HR := Lib.hid hr
  have HB := Lib.hid (Bk.new w 38 #[.int .i64 11, .int .i64 n, .string (B nm), .slice A1 0 c1])
  have HA := Lib.hid (hr.self.alloc (.cells #[.int .i64 11, .int .i64 n, .string (B nm), .slice A1 0 c1] 38))
  obtain ⟨W, hW⟩ : ∃ W, w.alloc (.cells #[.int .i64 11, .int .i64 n, .string (B nm), .slice A1 0 c1] 38) = W := ⟨_, rfl⟩
  rw [hW] at HA HB
  obtain ⟨⟨b0, b1, b2, b3⟩, _⟩ := HB.out.four
  clear hr 
  go_enter Tryz.func58, Tryz.ntmps58
  go_wp2_with (fail)
  go_ret
  exact ⟨rfl, HR.out.trans HA.out⟩
set_option maxRecDepth 100000 in
set_option maxHeartbeats 4000000 in
theorem pcd12_no (n : Int) (nm : List UInt8) (A1 : Option Addr) (c1 : Nat) (ov : Value) (w0 w : World) (hr : Rel w0 w) (hb : ∀ w', Rel w w' → Calls Tryz.prog 103 #[ov, .agg #[.int .i64 12, .int .i64 n, .string (B nm), .slice A1 2 c1]] w' fun z w2 => z = FLV ∧ Rel w' w2) :
    Calls Tryz.prog 58 #[ov, .agg #[.int .i64 12, .int .i64 n, .string (B nm), .slice A1 2 c1]] w fun z w' => z = FLV ∧ Rel w0 w' := by
  have HR := Lib.hid hr
  have Hhb := Lib.hid hb
  have HB := Lib.hid (Bk.new w 38 #[.int .i64 12, .int .i64 n, .string (B nm), .slice A1 2 c1])
  have HA := Lib.hid (hr.self.alloc (.cells #[.int .i64 12, .int .i64 n, .string (B nm), .slice A1 2 c1] 38))
  obtain ⟨W, hW⟩ : ∃ W, w.alloc (.cells #[.int .i64 12, .int .i64 n, .string (B nm), .slice A1 2 c1] 38) = W := ⟨_, rfl⟩
  rw [hW] at HA HB
  obtain ⟨⟨b0, b1, b2, b3⟩, _⟩ := HB.out.four
  clear hr hb
  go_enter Tryz.func58, Tryz.ntmps58
  go_wp2_with (go_at_call 103; (with_reducible refine (Hhb.out _ HA.out).mono ?_); rintro e w1 ⟨rfl, h1⟩)
  exact ⟨rfl, rfl, HR.out.trans (HA.out.trans h1)⟩
set_option maxRecDepth 100000 in
set_option maxHeartbeats 4000000 in
theorem pcd12_false (n : Int) (nm : List UInt8) (A1 : Option Addr) (c1 : Nat) (ov : Value) (w0 w : World) (hr : Rel w0 w) (V0 V1 : Int) (hb : ∀ w', Rel w w' → Calls Tryz.prog 103 #[ov, .agg #[.int .i64 12, .int .i64 n, .string (B nm), .slice A1 2 c1]] w' fun z w2 => z = .returned (.tuple #[.int .i64 V0, .int .i64 V1, .bool false]) ∧ Rel w' w2) :
    Calls Tryz.prog 58 #[ov, .agg #[.int .i64 12, .int .i64 n, .string (B nm), .slice A1 2 c1]] w fun z w' => z = .returned (.bool false) ∧ Rel w0 w' := by
  have HR := Lib.hid hr
  have Hhb := Lib.hid hb
  have HB := Lib.hid (Bk.new w 38 #[.int .i64 12, .int .i64 n, .string (B nm), .slice A1 2 c1])
  have HA := Lib.hid (hr.self.alloc (.cells #[.int .i64 12, .int .i64 n, .string (B nm), .slice A1 2 c1] 38))
  obtain ⟨W, hW⟩ : ∃ W, w.alloc (.cells #[.int .i64 12, .int .i64 n, .string (B nm), .slice A1 2 c1] 38) = W := ⟨_, rfl⟩
  rw [hW] at HA HB
  obtain ⟨⟨b0, b1, b2, b3⟩, _⟩ := HB.out.four
  clear hr hb
  go_enter Tryz.func58, Tryz.ntmps58
  go_wp2_with (go_at_call 103; (with_reducible refine (Hhb.out _ HA.out).mono ?_); rintro e w1 ⟨rfl, h1⟩)
  go_ret
  exact ⟨rfl, HR.out.trans (HA.out.trans h1)⟩
set_option maxRecDepth 100000 in
set_option maxHeartbeats 4000000 in
theorem pcd12_true (n : Int) (nm : List UInt8) (A1 : Option Addr) (c1 : Nat) (ov : Value) (w0 w : World) (hr : Rel w0 w) (V0 V1 : Int) (hb : ∀ w', Rel w w' → Calls Tryz.prog 103 #[ov, .agg #[.int .i64 12, .int .i64 n, .string (B nm), .slice A1 2 c1]] w' fun z w2 => z = .returned (.tuple #[.int .i64 V0, .int .i64 V1, .bool true]) ∧ Rel w' w2) :
    Calls Tryz.prog 58 #[ov, .agg #[.int .i64 12, .int .i64 n, .string (B nm), .slice A1 2 c1]] w fun z w' => z = .returned (.bool (decide (V1 < V0))) ∧ Rel w0 w' := by
  have HR := Lib.hid hr
  have Hhb := Lib.hid hb
  have HB := Lib.hid (Bk.new w 38 #[.int .i64 12, .int .i64 n, .string (B nm), .slice A1 2 c1])
  have HA := Lib.hid (hr.self.alloc (.cells #[.int .i64 12, .int .i64 n, .string (B nm), .slice A1 2 c1] 38))
  obtain ⟨W, hW⟩ : ∃ W, w.alloc (.cells #[.int .i64 12, .int .i64 n, .string (B nm), .slice A1 2 c1] 38) = W := ⟨_, rfl⟩
  rw [hW] at HA HB
  obtain ⟨⟨b0, b1, b2, b3⟩, _⟩ := HB.out.four
  clear hr hb
  go_enter Tryz.func58, Tryz.ntmps58
  go_wp2_with (go_at_call 103; (with_reducible refine (Hhb.out _ HA.out).mono ?_); rintro e w1 ⟨rfl, h1⟩)
  go_ret
  exact ⟨rfl, HR.out.trans (HA.out.trans h1)⟩
theorem tp_of_ok {f : FuncId} {args : Array Value} {w w0 : World} {r : Rs} {o : Option Int} {V : Int} {b : Bool} (hr : r = .ok o) (hV : o.getD 0 = V) (hb : o.isSome = b) (h : Calls Tryz.prog f args w fun e w' => e = .returned (.agg #[.int .i64 V, .bool b]) ∧ Rel w0 w') : Calls Tryz.prog f args w (TPost w0 r) := by subst hr; subst hV; subst hb; exact h
theorem tp_of_no {f : FuncId} {args : Array Value} {w w0 : World} {r : Rs} {er : Int} (hr : r = .error er) (h : Calls Tryz.prog f args w fun e w' => e = FLV ∧ Rel w0 w') : Calls Tryz.prog f args w (TPost w0 r) := by subst hr; exact h
theorem cp_of_ok {f : FuncId} {args : Array Value} {w w0 : World} {r : Except Int Bool} {b : Bool} (hr : r = .ok b) (h : Calls Tryz.prog f args w fun e w' => e = .returned (.bool b) ∧ Rel w0 w') : Calls Tryz.prog f args w (CPost w0 r) := by subst hr; exact h
theorem cp_of_no {f : FuncId} {args : Array Value} {w w0 : World} {r : Except Int Bool} {er : Int} (hr : r = .error er) (h : Calls Tryz.prog f args w fun e w' => e = FLV ∧ Rel w0 w') : Calls Tryz.prog f args w (CPost w0 r) := by subst hr; exact h
set_option maxRecDepth 100000 in
theorem ptold_all : ∀ d, PToldAt d ∧ PCondAt d := by
  intro d
  induction d with
  | zero => exact ⟨fun x S e A c os w0 w hx => (by cases hx), fun x S e A c os w0 w hx => (by cases hx)⟩
  | succ d ih =>
    obtain ⟨H, HCd⟩ := ih
    refine ⟨fun x S e A c os w0 w hx hc hr h hl ho => ?_, fun x S e A c os w0 w hx hc hr h hl ho => ?_⟩
    · cases x with
      | mk k n nm xs =>
        obtain ⟨p1, p2, p3, p4, p5⟩ := fine_parts hx
        have hk := kind_list (k := k) (by omega)
        have h8 := offs_len hl
        obtain ⟨A', c', es, rfl, hk', hn, hm, hle, hrow, hsub⟩ := h.open
        rcases hk with rfl | rfl | rfl | rfl | rfl | rfl | rfl | rfl | rfl | rfl | rfl | rfl
        · obtain rfl := len0 p1
          exact tp_of_ok (told_one os d (.mk 1 n nm []) rfl) rfl rfl (pex1 n nm A' c' (.slice A os.length c) w0 w hr _ _ (fun w' hw => vranked_any 0 (by omega) A c os h8 w' w' hw.self (ho.rel hw)))
        · obtain rfl := len0 p1
          exact tp_of_ok (told_two os d (.mk 2 n nm []) rfl) rfl rfl (pex2 n nm A' c' (.slice A os.length c) w0 w hr _ _ (fun w' hw => vranked_any 1 (by omega) A c os h8 w' w' hw.self (ho.rel hw)))
        · obtain rfl := len0 p1
          exact tp_of_ok (told_from os d (.mk 3 n nm []) rfl) rfl rfl (pex3 n nm A' c' (.slice A os.length c) w0 w hr _ _ (fun w' hw => vfrom_any nm A c os w' w' hw.self (ho.rel hw)))
        · obtain rfl := len0 p1
          exact tp_of_ok (told_fix os d (.mk 4 n nm []) rfl) rfl rfl (pex4 n nm A' c' (.slice A os.length c) w0 w hr)
        · obtain ⟨y, rfl⟩ := len1 p1
          obtain ⟨g0, f0⟩ := p5 0 (by simp)
          have hh := told_less5 os d n nm y
          obtain ⟨el0, hK0, ha0⟩ := kidp_of hrow hsub hle hr.self 0 (by simp)
          cases q0 : toldN os d y with
          | error er => exact tp_of_no (hh.trans (by rw [q0])) (pex5_no n nm A' c' (.slice A os.length c) w0 w el0 hK0 hr (pkid_no H f0 g0 ha0 hl ho q0))
          | ok o =>
            cases o with
            | none => exact tp_of_ok (o := none) (hh.trans (by rw [q0])) rfl rfl (pex5_ok n nm A' c' (.slice A os.length c) w0 w el0 hK0 hr 0 false 0 false (pkid_ok H f0 g0 ha0 hl ho q0 rfl rfl) (fun w' hw => vless_none 0 n w' w' hw.self))
            | some v =>
              cases qs : subR v n with
              | error er => exact tp_of_no (hh.trans (by rw [q0]; exact qs)) (pex5_end n nm A' c' (.slice A os.length c) w0 w el0 hK0 hr v true (pkid_ok H f0 g0 ha0 hl ho q0 rfl rfl) (fun w' hw => tp_no (vless_some v n w' w' hw.self) qs))
              | ok o => exact tp_of_ok (hh.trans (by rw [q0]; exact qs)) rfl rfl (pex5_ok n nm A' c' (.slice A os.length c) w0 w el0 hK0 hr v true _ _ (pkid_ok H f0 g0 ha0 hl ho q0 rfl rfl) (fun w' hw => tp_ok (vless_some v n w' w' hw.self) qs rfl rfl))
        · obtain ⟨y, rfl⟩ := len1 p1
          obtain ⟨g0, f0⟩ := p5 0 (by simp)
          have hh := told_cut6 os d n nm y
          obtain ⟨el0, hK0, ha0⟩ := kidp_of hrow hsub hle hr.self 0 (by simp)
          cases q0 : toldN os d y with
          | error er => exact tp_of_no (hh.trans (by rw [q0])) (pex6_no n nm A' c' (.slice A os.length c) w0 w el0 hK0 hr (pkid_no H f0 g0 ha0 hl ho q0))
          | ok o =>
            cases o with
            | none => exact tp_of_ok (o := none) (hh.trans (by rw [q0])) rfl rfl (pex6_ok n nm A' c' (.slice A os.length c) w0 w el0 hK0 hr 0 false 0 false (pkid_ok H f0 g0 ha0 hl ho q0 rfl rfl) (fun w' hw => vcut_none 0 n w' w' hw.self))
            | some v =>
              cases qs : cutR v n with
              | error er => exact tp_of_no (hh.trans (by rw [q0]; exact qs)) (pex6_end n nm A' c' (.slice A os.length c) w0 w el0 hK0 hr v true (pkid_ok H f0 g0 ha0 hl ho q0 rfl rfl) (fun w' hw => tp_no (vcut_any v n w' w' hw.self) qs))
              | ok o => exact tp_of_ok (hh.trans (by rw [q0]; exact qs)) rfl rfl (pex6_ok n nm A' c' (.slice A os.length c) w0 w el0 hK0 hr v true _ _ (pkid_ok H f0 g0 ha0 hl ho q0 rfl rfl) (fun w' hw => tp_ok (vcut_any v n w' w' hw.self) qs rfl rfl))
        · obtain ⟨x, y, rfl⟩ := len2 p1
          obtain ⟨g0, f0⟩ := p5 0 (by simp)
          obtain ⟨g1, f1⟩ := p5 1 (by simp)
          have hh := told_both os d 7 n nm x y (by omega)
          cases q0 : toldN os d x with
          | error er => exact tp_of_no (hh.trans (by rw [q0])) (pex7_no n nm A' c' (.slice A os.length c) w0 w hr (fun w' hw => pchosen_no 7 n nm A' 2 c' (.slice A os.length c) w' w' hw.self (fun w2 h2 => pboth_no0 d 7 n nm x y H f0 g0 S (7, n, nm, A', 2, c') A c os w2 w2 h2.self (h.rel (hw.trans h2)) hl (ho.rel (hw.trans h2)) q0)))
          | ok o =>
            cases q1 : toldN os d y with
            | error er => exact tp_of_no (hh.trans (by rw [q0, q1])) (pex7_no n nm A' c' (.slice A os.length c) w0 w hr (fun w' hw => pchosen_no 7 n nm A' 2 c' (.slice A os.length c) w' w' hw.self (fun w2 h2 => pboth_no1 d 7 n nm x y H f0 g0 f1 g1 S (7, n, nm, A', 2, c') A c os w2 w2 h2.self (h.rel (hw.trans h2)) hl (ho.rel (hw.trans h2)) q0 q1)))
            | ok o1 =>
              cases o with
              | none => exact tp_of_ok (o := none) (hh.trans (by rw [q0, q1]; rfl)) rfl rfl (pex7_ok n nm A' c' (.slice A os.length c) w0 w hr 0 false (fun w' hw => pchosen_none 7 n nm A' 2 c' (.slice A os.length c) 0 (o1.getD 0) w' w' hw.self (fun w2 h2 => pboth_ok d 7 n nm x y H f0 g0 f1 g1 S (7, n, nm, A', 2, c') A c os w2 w2 h2.self (h.rel (hw.trans h2)) hl (ho.rel (hw.trans h2)) q0 q1)))
              | some v =>
                cases o1 with
                | none => exact tp_of_ok (o := none) (hh.trans (by rw [q0, q1]; rfl)) rfl rfl (pex7_ok n nm A' c' (.slice A os.length c) w0 w hr 0 false (fun w' hw => pchosen_none 7 n nm A' 2 c' (.slice A os.length c) v 0 w' w' hw.self (fun w2 h2 => pboth_ok d 7 n nm x y H f0 g0 f1 g1 S (7, n, nm, A', 2, c') A c os w2 w2 h2.self (h.rel (hw.trans h2)) hl (ho.rel (hw.trans h2)) q0 q1)))
                | some u => exact tp_of_ok (o := some (min v u)) (hh.trans (by rw [q0, q1]; rfl)) rfl rfl (pex7_ok n nm A' c' (.slice A os.length c) w0 w hr (min v u) true (fun w' hw => pchosen_min n nm A' 2 c' (.slice A os.length c) v u w' w' hw.self (fun w2 h2 => pboth_ok d 7 n nm x y H f0 g0 f1 g1 S (7, n, nm, A', 2, c') A c os w2 w2 h2.self (h.rel (hw.trans h2)) hl (ho.rel (hw.trans h2)) q0 q1)))
        · obtain ⟨x, y, rfl⟩ := len2 p1
          obtain ⟨g0, f0⟩ := p5 0 (by simp)
          obtain ⟨g1, f1⟩ := p5 1 (by simp)
          have hh := told_both os d 8 n nm x y (by omega)
          cases q0 : toldN os d x with
          | error er => exact tp_of_no (hh.trans (by rw [q0])) (pex8_no n nm A' c' (.slice A os.length c) w0 w hr (fun w' hw => pchosen_no 8 n nm A' 2 c' (.slice A os.length c) w' w' hw.self (fun w2 h2 => pboth_no0 d 8 n nm x y H f0 g0 S (8, n, nm, A', 2, c') A c os w2 w2 h2.self (h.rel (hw.trans h2)) hl (ho.rel (hw.trans h2)) q0)))
          | ok o =>
            cases q1 : toldN os d y with
            | error er => exact tp_of_no (hh.trans (by rw [q0, q1])) (pex8_no n nm A' c' (.slice A os.length c) w0 w hr (fun w' hw => pchosen_no 8 n nm A' 2 c' (.slice A os.length c) w' w' hw.self (fun w2 h2 => pboth_no1 d 8 n nm x y H f0 g0 f1 g1 S (8, n, nm, A', 2, c') A c os w2 w2 h2.self (h.rel (hw.trans h2)) hl (ho.rel (hw.trans h2)) q0 q1)))
            | ok o1 =>
              cases o with
              | none => exact tp_of_ok (o := none) (hh.trans (by rw [q0, q1]; rfl)) rfl rfl (pex8_ok n nm A' c' (.slice A os.length c) w0 w hr 0 false (fun w' hw => pchosen_none 8 n nm A' 2 c' (.slice A os.length c) 0 (o1.getD 0) w' w' hw.self (fun w2 h2 => pboth_ok d 8 n nm x y H f0 g0 f1 g1 S (8, n, nm, A', 2, c') A c os w2 w2 h2.self (h.rel (hw.trans h2)) hl (ho.rel (hw.trans h2)) q0 q1)))
              | some v =>
                cases o1 with
                | none => exact tp_of_ok (o := none) (hh.trans (by rw [q0, q1]; rfl)) rfl rfl (pex8_ok n nm A' c' (.slice A os.length c) w0 w hr 0 false (fun w' hw => pchosen_none 8 n nm A' 2 c' (.slice A os.length c) v 0 w' w' hw.self (fun w2 h2 => pboth_ok d 8 n nm x y H f0 g0 f1 g1 S (8, n, nm, A', 2, c') A c os w2 w2 h2.self (h.rel (hw.trans h2)) hl (ho.rel (hw.trans h2)) q0 q1)))
                | some u => exact tp_of_ok (o := some (max v u)) (hh.trans (by rw [q0, q1]; rfl)) rfl rfl (pex8_ok n nm A' c' (.slice A os.length c) w0 w hr (max v u) true (fun w' hw => pchosen_max n nm A' 2 c' (.slice A os.length c) v u w' w' hw.self (fun w2 h2 => pboth_ok d 8 n nm x y H f0 g0 f1 g1 S (8, n, nm, A', 2, c') A c os w2 w2 h2.self (h.rel (hw.trans h2)) hl (ho.rel (hw.trans h2)) q0 q1)))
        · obtain ⟨x, y, rfl⟩ := len2 p1
          obtain ⟨g0, f0⟩ := p5 0 (by simp)
          obtain ⟨g1, f1⟩ := p5 1 (by simp)
          have hh := told_else os d n nm x y
          obtain ⟨el0, hK0, ha0⟩ := kidp_of hrow hsub hle hr.self 0 (by simp)
          obtain ⟨el1, hK1, ha1⟩ := kidp_of hrow hsub hle hr.self 1 (by simp)
          cases q0 : toldN os d x with
          | error er => exact tp_of_no (hh.trans (by rw [q0])) (pex9_no n nm A' c' (.slice A os.length c) w0 w el0 el1 hK0 hK1 hr (fun w' hw => poth_no _ _ _ _ _ _ _ _ _ _ _ _ (.slice A os.length c) w' w' hw.self (fun w2 h2 => pkid_no H f0 g0 ha0 hl ho q0 w2 (hw.trans h2))))
          | ok o =>
            cases o with
            | some v => exact tp_of_ok (o := some v) (hh.trans (by rw [q0])) rfl rfl (pex9_ok n nm A' c' (.slice A os.length c) w0 w el0 el1 hK0 hK1 hr v true (fun w' hw => poth_some _ _ _ _ _ _ _ _ _ _ _ _ (.slice A os.length c) v w' w' hw.self (fun w2 h2 => pkid_ok H f0 g0 ha0 hl ho q0 rfl rfl w2 (hw.trans h2))))
            | none =>
              cases q1 : toldN os d y with
              | error er => exact tp_of_no (hh.trans (by rw [q0]; exact q1)) (pex9_no n nm A' c' (.slice A os.length c) w0 w el0 el1 hK0 hK1 hr (fun w' hw => poth_none_no _ _ _ _ _ _ _ _ _ _ _ _ (.slice A os.length c) w' w' hw.self (fun w2 h2 => pkid_ok H f0 g0 ha0 hl ho q0 rfl rfl w2 (hw.trans h2)) (fun w2 h2 => pkid_no H f1 g1 ha1 hl ho q1 w2 (hw.trans h2))))
              | ok o1 => exact tp_of_ok (hh.trans (by rw [q0]; exact q1)) rfl rfl (pex9_ok n nm A' c' (.slice A os.length c) w0 w el0 el1 hK0 hK1 hr _ _ (fun w' hw => poth_none _ _ _ _ _ _ _ _ _ _ _ _ (.slice A os.length c) _ _ w' w' hw.self (fun w2 h2 => pkid_ok H f0 g0 ha0 hl ho q0 rfl rfl w2 (hw.trans h2)) (fun w2 h2 => pkid_ok H f1 g1 ha1 hl ho q1 rfl rfl w2 (hw.trans h2))))
        · obtain ⟨k, x, y, rfl⟩ := len3 p1
          obtain ⟨g0, f0⟩ := p5 0 (by simp)
          obtain ⟨g1, f1⟩ := p5 1 (by simp)
          obtain ⟨g2, f2⟩ := p5 2 (by simp)
          have hh := told_if os d n nm k x y
          obtain ⟨el0, hK0, ha0⟩ := kidp_of hrow hsub hle hr.self 0 (by simp)
          obtain ⟨el1, hK1, ha1⟩ := kidp_of hrow hsub hle hr.self 1 (by simp)
          obtain ⟨el2, hK2, ha2⟩ := kidp_of hrow hsub hle hr.self 2 (by simp)
          cases q0 : condN os d k with
          | error er => exact tp_of_no (hh.trans (by rw [q0])) (pex10_no n nm A' c' (.slice A os.length c) w0 w el0 hK0 hr (pcnd_no HCd f0 g0 ha0 hl ho q0))
          | ok b =>
            cases b with
            | true =>
              cases q1 : toldN os d x with
              | error er => exact tp_of_no (hh.trans (by rw [q0]; exact q1)) (pex10_true_no n nm A' c' (.slice A os.length c) w0 w el0 el1 hK0 hK1 hr (pcnd_ok HCd f0 g0 ha0 hl ho q0) (pkid_no H f1 g1 ha1 hl ho q1))
              | ok o1 => exact tp_of_ok (hh.trans (by rw [q0]; exact q1)) rfl rfl (pex10_true_ok n nm A' c' (.slice A os.length c) w0 w el0 el1 hK0 hK1 hr _ _ (pcnd_ok HCd f0 g0 ha0 hl ho q0) (pkid_ok H f1 g1 ha1 hl ho q1 rfl rfl))
            | false =>
              cases q1 : toldN os d y with
              | error er => exact tp_of_no (hh.trans (by rw [q0]; exact q1)) (pex10_false_no n nm A' c' (.slice A os.length c) w0 w el0 el2 hK0 hK2 hr (pcnd_ok HCd f0 g0 ha0 hl ho q0) (pkid_no H f2 g2 ha2 hl ho q1))
              | ok o1 => exact tp_of_ok (hh.trans (by rw [q0]; exact q1)) rfl rfl (pex10_false_ok n nm A' c' (.slice A os.length c) w0 w el0 el2 hK0 hK2 hr _ _ (pcnd_ok HCd f0 g0 ha0 hl ho q0) (pkid_ok H f2 g2 ha2 hl ho q1 rfl rfl))
        · cases hc
        · cases hc
    · cases x with
      | mk k n nm xs =>
        obtain ⟨p1, p2, p3, p4, p5⟩ := fine_parts hx
        have hk : k = 11 ∨ k = 12 := by simpa [isCond, Ex.k] using hc
        obtain ⟨A', c', es, rfl, hk', hn, hm, hle, hrow, hsub⟩ := h.open
        rcases hk with rfl | rfl
        · obtain rfl := len0 p1
          exact cp_of_ok rfl (pcd11 n nm A' c' A os.length c w0 w hr)
        · obtain ⟨x, y, rfl⟩ := len2 p1
          obtain ⟨g0, f0⟩ := p5 0 (by simp)
          obtain ⟨g1, f1⟩ := p5 1 (by simp)
          have hh : condN os (d + 1) (.mk 12 n nm [x, y]) = match toldN os d x with | .error e => .error e | .ok a => match toldN os d y with | .error e => .error e | .ok b => .ok (match a, b with | some a, some b => decide (b < a) | _, _ => false) := by
            rw [cond_above, (told_less os d (d + 1) (by omega) x f0).1 g0, (told_less os d (d + 1) (by omega) y f1).1 g1]; rfl
          cases q0 : toldN os d x with
          | error er => exact cp_of_no (hh.trans (by rw [q0])) (pcd12_no n nm A' c' (.slice A os.length c) w0 w hr (fun w2 h2 => pboth_no0 d 12 n nm x y H f0 g0 S (12, n, nm, A', 2, c') A c os w2 w2 h2.self (h.rel h2) hl (ho.rel h2) q0))
          | ok o =>
            cases q1 : toldN os d y with
            | error er => exact cp_of_no (hh.trans (by rw [q0, q1])) (pcd12_no n nm A' c' (.slice A os.length c) w0 w hr (fun w2 h2 => pboth_no1 d 12 n nm x y H f0 g0 f1 g1 S (12, n, nm, A', 2, c') A c os w2 w2 h2.self (h.rel h2) hl (ho.rel h2) q0 q1))
            | ok o1 =>
              cases o with
              | none => exact cp_of_ok (hh.trans (by rw [q0, q1])) (pcd12_false n nm A' c' (.slice A os.length c) w0 w hr 0 (o1.getD 0) (fun w2 h2 => pboth_ok d 12 n nm x y H f0 g0 f1 g1 S (12, n, nm, A', 2, c') A c os w2 w2 h2.self (h.rel h2) hl (ho.rel h2) q0 q1))
              | some v =>
                cases o1 with
                | none => exact cp_of_ok (hh.trans (by rw [q0, q1])) (pcd12_false n nm A' c' (.slice A os.length c) w0 w hr v 0 (fun w2 h2 => pboth_ok d 12 n nm x y H f0 g0 f1 g1 S (12, n, nm, A', 2, c') A c os w2 w2 h2.self (h.rel h2) hl (ho.rel h2) q0 q1))
                | some u => exact cp_of_ok (hh.trans (by rw [q0, q1])) (pcd12_true n nm A' c' (.slice A os.length c) w0 w hr v u (fun w2 h2 => pboth_ok d 12 n nm x y H f0 g0 f1 g1 S (12, n, nm, A', 2, c') A c os w2 w2 h2.self (h.rel h2) hl (ho.rel h2) q0 q1))
end Go.Proofs.YtcckemhelockaaaGreatDoor

namespace Go.Proofs.YtcckemhelockaaaGreatDoor
open Go.RowKit Go.Lib
set_option linter.unusedVariables false
set_option linter.unusedSimpArgs false
abbrev PE (r : Bool) : PanicEntry := { v := .iface 30 (.int .i64 10), recovered := r }
set_option maxRecDepth 100000 in
theorem err_ta (w : World) : (Instr.typeAssert (.iface 30 (.int .i64 10)) 20 30 true).run Tryz.prog w = .ok (.tuple #[.int .i64 10, .bool true]) w := by rfl
set_option maxRecDepth 100000 in
theorem nil_ta (w : World) : (Instr.typeAssert .nilIface 20 30 true).run Tryz.prog w = .ok (.tuple #[.int .i64 0, .bool false]) w := by rfl
set_option maxRecDepth 100000 in
set_option maxHeartbeats 2000000 in
theorem vcatch1_panicking (pe : Nat) (w : World) (o : List PanicEntry) {e0 : Value} (he : Bk w pe 30 #[e0]) :
    CallsD Tryz.prog 52 #[.pointer (some ⟨pe, 0, none⟩)] (.panicking (PE false :: o)) w fun e u' w' =>
      e = .returned (.tuple #[]) ∧ u' = .panicking (PE true :: o) ∧ w' = w.setCell ⟨pe, 0, none⟩ (.int .i64 10) := by
  refine callsD_of_wpS Tryz.func52 rfl fun c₀ cs hu => ?_
  have hta := err_ta
  have c0 := he.cell 0
  have f0 := he.frozen 0
  simp only [List.getElem?_toArray, List.getElem?_cons_zero] at c0
  change Code.wpS _ _ _ { tmps := #[.pointer (some ⟨pe, 0, none⟩), undef, undef, undef, undef, undef, undef, undef, undef, undef], defers := [] } _ _
  apply wpS_seq
  apply wpS_region
  simp [wpOpsS, go_sem, recoverD, hu, Exit.thenS, hta]
  apply wpS_seq
  apply wpS_region
  simp [wpOpsS, go_sem, Exit.thenS]
  refine wpS_cond (t := true) (by simp [Act.eval]) ?_
  simp only [if_true]
  apply wpS_region
  simp [wpOpsS, go_sem, Exit.thenS, c0, f0]
  cases c₀
  simp_all [bodyPostS, results, Tryz.results52]
set_option maxRecDepth 100000 in
set_option maxHeartbeats 2000000 in
theorem vcatch1_idle (pe : Nat) (w : World) :
    CallsD Tryz.prog 52 #[.pointer (some ⟨pe, 0, none⟩)] .returning w fun e u' w' => e = .returned (.tuple #[]) ∧ u' = .returning ∧ w' = w := by
  refine callsD_of_wpS Tryz.func52 rfl fun c₀ cs hu => ?_
  have hta := nil_ta
  change Code.wpS _ _ _ { tmps := #[.pointer (some ⟨pe, 0, none⟩), undef, undef, undef, undef, undef, undef, undef, undef, undef], defers := [] } _ _
  apply wpS_seq
  apply wpS_region
  simp [wpOpsS, go_sem, recoverD, hu, Exit.thenS, hta]
  apply wpS_seq
  apply wpS_region
  simp [wpOpsS, go_sem, Exit.thenS]
  refine wpS_cond (t := false) (by simp [Act.eval]) ?_
  simp only [Bool.false_eq_true, if_false]
  refine wpS_of_wp (wp_skip ?_)
  cases c₀
  simp_all [bodyPostS, results, Tryz.results52]
end Go.Proofs.YtcckemhelockaaaGreatDoor

namespace Go.Proofs.YtcckemhelockaaaGreatDoor
open Go.RowKit Go.Lib
set_option linter.unusedVariables false
set_option linter.unusedSimpArgs false
set_option maxRecDepth 100000 in
set_option maxHeartbeats 4000000 in
theorem veval1_ok (k n : Int) (nm : List UInt8) (A1 : Option Addr) (m c1 : Nat) (ov : Value) (pl px : Nat) (V : Int) (b : Bool) (w0 w : World) (hr : Rel w0 w) (hl : Bk w pl 24 #[ov]) (hx : Bk w px 38 #[.int .i64 k, .int .i64 n, .string (B nm), .slice A1 m c1]) (hb : ∀ w', Rel w w' → Calls Tryz.prog 34 #[ov, .agg #[.int .i64 k, .int .i64 n, .string (B nm), .slice A1 m c1]] w' fun z w2 => z = .returned (.agg #[.int .i64 V, .bool b]) ∧ Rel w' w2) :
    Calls Tryz.prog 33 #[.pointer (some ⟨pl, 0, none⟩), .pointer (some ⟨px, 0, none⟩)] w fun z w' => z = .returned (.agg #[.int .i64 V, .bool b]) ∧ Rel w0 w' := by
  have HR := Lib.hid hr
  have hz := hr.size
  have HC := Lib.hid hb
  have HT := Lib.hid (Bk.new w 81 #[.int .i64 0, .bool false])
  have HA := Lib.hid (hr.self.alloc (.cells #[.int .i64 0, .bool false] 81))
  have l0 := (hl.alloc (.cells #[.int .i64 0, .bool false] 81)).cell 0
  obtain ⟨⟨x0, x1, x2, x3⟩, _⟩ := (hx.alloc (.cells #[.int .i64 0, .bool false] 81)).four
  obtain ⟨W, hW⟩ : ∃ W, w.alloc (.cells #[.int .i64 0, .bool false] 81) = W := ⟨_, rfl⟩
  rw [hW] at HT HA l0 x0 x1 x2 x3
  simp only [List.getElem?_toArray, List.getElem?_cons_zero] at l0
  clear hr hl hx hb
  go_enter Tryz.func33, Tryz.ntmps33
  go_wp2_with (go_at_call 34; (with_reducible refine (HC.out _ HA.out).mono ?_); rintro e w1 ⟨rfl, h1⟩; have R1 := Lib.hid h1; obtain ⟨⟨d0, d1⟩, e0, e1⟩ := (HT.out.rel h1).two)
  exact bodyPost_ret (v := .agg #[.int .i64 V, .bool b]) (by simp [results, Tryz.results33, go_sem, d0, d1]) rfl ⟨rfl, (((HR.out.trans HA.out).trans R1.out).setCell hz _).setCell hz _⟩
set_option maxRecDepth 100000 in
set_option maxHeartbeats 4000000 in
theorem veval1_no (k n : Int) (nm : List UInt8) (A1 : Option Addr) (m c1 : Nat) (ov : Value) (pl px : Nat) (w0 w : World) (hr : Rel w0 w) (hl : Bk w pl 24 #[ov]) (hx : Bk w px 38 #[.int .i64 k, .int .i64 n, .string (B nm), .slice A1 m c1]) (hb : ∀ w', Rel w w' → Calls Tryz.prog 34 #[ov, .agg #[.int .i64 k, .int .i64 n, .string (B nm), .slice A1 m c1]] w' fun z w2 => z = FLV ∧ Rel w' w2) :
    Calls Tryz.prog 33 #[.pointer (some ⟨pl, 0, none⟩), .pointer (some ⟨px, 0, none⟩)] w fun z w' => z = FLV ∧ Rel w0 w' := by
  have HR := Lib.hid hr
  have hz := hr.size
  have HC := Lib.hid hb
  have HT := Lib.hid (Bk.new w 81 #[.int .i64 0, .bool false])
  have HA := Lib.hid (hr.self.alloc (.cells #[.int .i64 0, .bool false] 81))
  have l0 := (hl.alloc (.cells #[.int .i64 0, .bool false] 81)).cell 0
  obtain ⟨⟨x0, x1, x2, x3⟩, _⟩ := (hx.alloc (.cells #[.int .i64 0, .bool false] 81)).four
  obtain ⟨W, hW⟩ : ∃ W, w.alloc (.cells #[.int .i64 0, .bool false] 81) = W := ⟨_, rfl⟩
  rw [hW] at HT HA l0 x0 x1 x2 x3
  simp only [List.getElem?_toArray, List.getElem?_cons_zero] at l0
  clear hr hl hx hb
  go_enter Tryz.func33, Tryz.ntmps33
  go_wp2_with (go_at_call 34; (with_reducible refine (HC.out _ HA.out).mono ?_); rintro e w1 ⟨rfl, h1⟩)
  exact ⟨rfl, rfl, (HR.out.trans HA.out).trans h1⟩
theorem rk_fin {w w2 : World} {a b e : Value} (hr : Rel w w2) (h1 : Bk w2 w.heap.size 81 #[a, b]) (h2 : Bk w2 (w.heap.size + 1) 30 #[e]) (V B n : Value) {w5 : World} (hw : (((w2.setCell ⟨w.heap.size, 0, none⟩ V).setCell ⟨w.heap.size, 1, none⟩ B).setCell ⟨w.heap.size + 1, 0, none⟩ n) = w5) :
    Rel w w5 ∧ Bk w5 w.heap.size 81 #[V, B] ∧ Bk w5 (w.heap.size + 1) 30 #[n] := by
  subst hw
  refine ⟨((hr.setCell (Nat.le_refl _) _).setCell (Nat.le_refl _) _).setCell (Nat.le_succ _) _, ?_, ?_⟩
  · exact ((h1.set_ 0 V).set_ 1 B).far (Nat.ne_of_lt (Nat.lt_succ_self _)) _
  · exact ((h2.far (Nat.ne_of_gt (Nat.lt_succ_self _)) V).far (Nat.ne_of_gt (Nat.lt_succ_self _)) B).set_ 0 n
set_option maxRecDepth 100000 in
set_option maxHeartbeats 4000000 in
theorem vreckon_ok (pl px : Nat) (V : Int) (b : Bool) (w0 w : World) (hr : Rel w0 w) (hb : ∀ w', Rel w w' → Calls Tryz.prog 33 #[.pointer (some ⟨pl, 0, none⟩), .pointer (some ⟨px, 0, none⟩)] w' fun z w2 => z = .returned (.agg #[.int .i64 V, .bool b]) ∧ Rel w' w2) :
    Calls Tryz.prog 32 #[.func (.func 33) #[] #[.pointer (some ⟨pl, 0, none⟩), .pointer (some ⟨px, 0, none⟩)]] w fun z w' => z = .returned (.tuple #[.agg #[.int .i64 V, .bool b], .int .i64 0]) ∧ Rel w0 w' := by
  have HR := Lib.hid hr
  have HC := Lib.hid hb
  have hmf : ∀ (fn : Fn) (first cap : Array Value) (w : World), (Instr.makeFunc fn first cap).run Tryz.prog w = .ok (.func fn first cap) w := fun _ _ _ _ => rfl
  have HT := Lib.hid ((Bk.new w 81 #[.int .i64 0, .bool false]).alloc (.cells #[.int .i64 0] 30))
  have HE := Lib.hid (Bk.snd w #[.int .i64 0, .bool false] #[.int .i64 0] 81 30)
  have HA := Lib.hid ((hr.self.alloc (.cells #[.int .i64 0, .bool false] 81)).alloc (.cells #[.int .i64 0] 30))
  obtain ⟨W, hW⟩ : ∃ W, (w.alloc (.cells #[.int .i64 0, .bool false] 81)).alloc (.cells #[.int .i64 0] 30) = W := ⟨_, rfl⟩
  rw [hW] at HT HE HA
  clear hr hb
  go_enter_defers Tryz.func32, Tryz.ntmps32
  go_wp2_with (go_at_call 33; (with_reducible refine (HC.out _ HA.out).mono ?_); rintro e w1 ⟨rfl, h1⟩; have R1 := Lib.hid h1; obtain ⟨⟨d0, d1⟩, e0, e1⟩ := (HT.out.rel h1).two; have q0 := (HE.out.rel h1).cell 0; have f0 := (HE.out.rel h1).frozen 0; simp only [List.getElem?_toArray, List.getElem?_cons_zero] at q0)
  obtain ⟨w5, hw5⟩ : ∃ w5, (((w1.setCell ⟨w.heap.size, 0, none⟩ (.int .i64 V)).setCell ⟨w.heap.size, 1, none⟩ (.bool b)).setCell ⟨w.heap.size + 1, 0, none⟩ (.int .i64 0)) = w5 := ⟨_, rfl⟩
  obtain ⟨R5, k1, k2⟩ := rk_fin (HA.out.trans R1.out) (HT.out.rel R1.out) (HE.out.rel R1.out) (.int .i64 V) (.bool b) (.int .i64 0) hw5
  rw [hw5]
  clear hw5
  refine leaves_cons (f := 52) (args := #[.pointer (some ⟨w.heap.size + 1, 0, none⟩)]) (by simp) (by simp [go_sem]) ?_
  refine (vcatch1_idle (w.heap.size + 1) w5).mono ?_
  rintro e u' w7 ⟨rfl, rfl, rfl⟩
  obtain ⟨⟨z0, z1⟩, _⟩ := k1.two
  have z2 := k2.cell 0
  simp only [List.getElem?_toArray, List.getElem?_cons_zero] at z2
  exact ⟨.tuple #[.agg #[.int .i64 V, .bool b], .int .i64 0], by simp [results, Tryz.results32, go_sem, z0, z1, z2], rfl, HR.out.trans R5⟩
set_option maxRecDepth 100000 in
set_option maxHeartbeats 4000000 in
theorem vreckon_no (pl px : Nat) (w0 w : World) (hr : Rel w0 w) (hb : ∀ w', Rel w w' → Calls Tryz.prog 33 #[.pointer (some ⟨pl, 0, none⟩), .pointer (some ⟨px, 0, none⟩)] w' fun z w2 => z = FLV ∧ Rel w' w2) :
    Calls Tryz.prog 32 #[.func (.func 33) #[] #[.pointer (some ⟨pl, 0, none⟩), .pointer (some ⟨px, 0, none⟩)]] w fun z w' => z = .returned (.tuple #[.agg #[.int .i64 0, .bool false], .int .i64 10]) ∧ Rel w0 w' := by
  have HR := Lib.hid hr
  have HC := Lib.hid hb
  have hmf : ∀ (fn : Fn) (first cap : Array Value) (w : World), (Instr.makeFunc fn first cap).run Tryz.prog w = .ok (.func fn first cap) w := fun _ _ _ _ => rfl
  have HT := Lib.hid ((Bk.new w 81 #[.int .i64 0, .bool false]).alloc (.cells #[.int .i64 0] 30))
  have HE := Lib.hid (Bk.snd w #[.int .i64 0, .bool false] #[.int .i64 0] 81 30)
  have HA := Lib.hid ((hr.self.alloc (.cells #[.int .i64 0, .bool false] 81)).alloc (.cells #[.int .i64 0] 30))
  obtain ⟨W, hW⟩ : ∃ W, (w.alloc (.cells #[.int .i64 0, .bool false] 81)).alloc (.cells #[.int .i64 0] 30) = W := ⟨_, rfl⟩
  rw [hW] at HT HE HA
  clear hr hb
  go_enter_defers Tryz.func32, Tryz.ntmps32
  go_wp2_with (go_at_call 33; (with_reducible refine (HC.out _ HA.out).mono ?_); rintro e w1 ⟨rfl, h1⟩; have R1 := Lib.hid h1)
  refine leaves_cons (f := 52) (args := #[.pointer (some ⟨w.heap.size + 1, 0, none⟩)]) (by simp) (by simp [go_sem]) ?_
  refine (vcatch1_panicking (w.heap.size + 1) w1 [] (HE.out.rel R1.out)).mono ?_
  rintro e u' w7 ⟨rfl, rfl, rfl⟩
  obtain ⟨⟨z0, z1⟩, _⟩ := ((HT.out.rel R1.out).far (p := ⟨w.heap.size + 1, 0, none⟩) (Nat.ne_of_lt (Nat.lt_succ_self _)) (.int .i64 10)).two
  have z2 := ((HE.out.rel R1.out).set_ 0 (.int .i64 10)).cell 0
  simp only [List.setIfInBounds_toArray, List.set_cons_zero, List.getElem?_toArray, List.getElem?_cons_zero] at z2
  have R5 := (HA.out.trans R1.out).setCell (p := ⟨w.heap.size + 1, 0, none⟩) (Nat.le_succ _) (.int .i64 10)
  obtain ⟨w5, hw5⟩ : ∃ w5, w1.setCell ⟨w.heap.size + 1, 0, none⟩ (.int .i64 10) = w5 := ⟨_, rfl⟩
  rw [hw5] at z0 z1 z2 R5 ⊢
  exact ⟨.tuple #[.agg #[.int .i64 0, .bool false], .int .i64 10], by simp [results, Tryz.results32, go_sem, z0, z1, z2], rfl, HR.out.trans R5⟩
end Go.Proofs.YtcckemhelockaaaGreatDoor
