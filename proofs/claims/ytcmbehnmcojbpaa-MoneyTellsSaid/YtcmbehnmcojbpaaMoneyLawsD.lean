/- The walks of layer 1's statements (all as the document says): each of them answers true, for all numbers. -/
import Derived.Test.YtcmbehnmcojbpaaMoneyLawsC
import Derived.Test.YtcmbehnmcojbpaaMoneyTimes
import Derived.OpenShut
namespace Go.Proofs.Ytcmbehnmcojbpaa
open Go.RowKit
set_option linter.unusedVariables false


theorem quiet_mine {f : FuncId} {args : Array Value} {w : World} {n : Nat} {v : Value}
    (h : Calls Try.prog f args (w.drewN n) fun e w' => e = .returned v ∧ w.drewN n = w') : Calls Try.prog f args (w.drewN n) fun e w'' => e = .returned v ∧ ∃ m, w'' = w.drewN m :=
  h.mono fun _ _ ⟨he, hm⟩ => ⟨he, n, hm.symm⟩
theorem quiet_mine2 {f : FuncId} {args : Array Value} {w : World} {a n : Nat} {v : Value}
    (h : Calls Try.prog f args (w.drewN (a + n)) fun e w' => e = .returned v ∧ w.drewN (a + n) = w') : Calls Try.prog f args (w.drewN (a + n)) fun e w'' => e = .returned v ∧ ∃ m, w'' = w.drewN (a + m) :=
  h.mono fun _ _ ⟨he, hm⟩ => ⟨he, n, hm.symm⟩

theorem cells12 (w : World) (x0 x1 x2 x3 x4 x5 x6 x7 x8 x9 x10 x11 : Int) (t : TypeId) : ∀ k : Nat, k < 4 → ∃ p q r : Int, (w.alloc (Obj.cells #[Value.int IntKind.i64 x0, Value.int IntKind.i64 x1, Value.int IntKind.i64 x2, Value.int IntKind.i64 x3, Value.int IntKind.i64 x4, Value.int IntKind.i64 x5, Value.int IntKind.i64 x6, Value.int IntKind.i64 x7, Value.int IntKind.i64 x8, Value.int IntKind.i64 x9, Value.int IntKind.i64 x10, Value.int IntKind.i64 x11] t)).cell? ⟨w.heap.size, k * 3, none⟩ = some (.int .i64 p) ∧ (w.alloc (Obj.cells #[Value.int IntKind.i64 x0, Value.int IntKind.i64 x1, Value.int IntKind.i64 x2, Value.int IntKind.i64 x3, Value.int IntKind.i64 x4, Value.int IntKind.i64 x5, Value.int IntKind.i64 x6, Value.int IntKind.i64 x7, Value.int IntKind.i64 x8, Value.int IntKind.i64 x9, Value.int IntKind.i64 x10, Value.int IntKind.i64 x11] t)).cell? ⟨w.heap.size, k * 3 + 1, none⟩ = some (.int .i64 q) ∧ (w.alloc (Obj.cells #[Value.int IntKind.i64 x0, Value.int IntKind.i64 x1, Value.int IntKind.i64 x2, Value.int IntKind.i64 x3, Value.int IntKind.i64 x4, Value.int IntKind.i64 x5, Value.int IntKind.i64 x6, Value.int IntKind.i64 x7, Value.int IntKind.i64 x8, Value.int IntKind.i64 x9, Value.int IntKind.i64 x10, Value.int IntKind.i64 x11] t)).cell? ⟨w.heap.size, k * 3 + 2, none⟩ = some (.int .i64 r) := by
  intro k hk
  simp only [World.cell?_alloc_new]
  match k, hk with
  | 0, _ => exact ⟨_, _, _, rfl, rfl, rfl⟩
  | 1, _ => exact ⟨_, _, _, rfl, rfl, rfl⟩
  | 2, _ => exact ⟨_, _, _, rfl, rfl, rfl⟩
  | 3, _ => exact ⟨_, _, _, rfl, rfl, rfl⟩

set_option maxRecDepth 100000 in
set_option maxHeartbeats 1000000 in
theorem MoneyTells_walk (a0 : Int) (a1 : Int) (a2 : Int) (a3 : Bool) (w : World) (w0 : (Lit.int .i64 a0).wf = true) (w1 : (Lit.int .i64 a1).wf = true) (w2 : (Lit.int .i64 a2).wf = true) :
    Calls Try.prog 3 #[.int .i64 a0, .int .i64 a1, .int .i64 a2, .bool a3] w fun e w' => e = .returned (.bool true) ∧ Below w.heap.size w w' := by
  obtain ⟨w0a, w0b⟩ := bd64 w0
  obtain ⟨w1a, w1b⟩ := bd64 w1
  obtain ⟨w2a, w2b⟩ := bd64 w2
  go_enter Try.func3, Try.ntmps3
  have mX := @pk_bd a0 (2000000000001) (by omega)
  obtain ⟨X, qX⟩ : ∃ x, pk a0 2000000000001 - 1000000000000 = x := ⟨_, rfl⟩
  have mX1 : -1000000000000 ≤ X := by omega
  have mX2 : X ≤ 1000000000000 := by omega
  have HX := Lib.hid qX; clear qX mX
  have mY := @pk_bd a1 (2000000000001) (by omega)
  obtain ⟨Y, qY⟩ : ∃ x, pk a1 2000000000001 - 1000000000000 = x := ⟨_, rfl⟩
  have mY1 : -1000000000000 ≤ Y := by omega
  have mY2 : Y ≤ 1000000000000 := by omega
  have HY := Lib.hid qY; clear qY mY
  have mZ := @pk_bd a2 (2000000000001) (by omega)
  obtain ⟨Z, qZ⟩ : ∃ x, pk a2 2000000000001 - 1000000000000 = x := ⟨_, rfl⟩
  have mZ1 : -1000000000000 ≤ Z := by omega
  have mZ2 : Z ≤ 1000000000000 := by omega
  have HZ := Lib.hid qZ; clear qZ mZ
  have mJ := @pk_bd a1 (200001) (by omega)
  generalize qJ : pk a1 (200001) = J at mJ
  have HJ := Lib.hid qJ; clear qJ
  obtain ⟨mJ1, mJ2⟩ := mJ
  have mL0 := @pk_bd a0 (2000000) (by omega)
  generalize qL0 : pk a0 (2000000) = L0 at mL0
  have HL0 := Lib.hid qL0; clear qL0
  obtain ⟨mL01, mL02⟩ := mL0
  have mL1 := @pk_bd a1 (2000000) (by omega)
  generalize qL1 : pk a1 (2000000) = L1 at mL1
  have HL1 := Lib.hid qL1; clear qL1
  obtain ⟨mL11, mL12⟩ := mL1
  have mL2 := @pk_bd a2 (2000000) (by omega)
  generalize qL2 : pk a2 (2000000) = L2 at mL2
  have HL2 := Lib.hid qL2; clear qL2
  obtain ⟨mL21, mL22⟩ := mL2

  go_wp2_with (first | (go_at_call 10; refine (awake_any _).mono ?_; rintro e w' ⟨rfl, rfl⟩) | (go_at_call 11; (with_reducible refine (int_at X (amount_any a0 w0a w0b _) HX).mono ?_); rintro e w' ⟨rfl, rfl⟩) | (go_at_call 11; (with_reducible refine (int_at Y (amount_any a1 w1a w1b _) HY).mono ?_); rintro e w' ⟨rfl, rfl⟩) | (go_at_call 11; (with_reducible refine (int_at Z (amount_any a2 w2a w2b _) HZ).mono ?_); rintro e w' ⟨rfl, rfl⟩) | (go_at_call 12; (with_reducible refine (int_at J (pick_any a1 (200001) w1a w1b (by omega) (by omega) _) HJ).mono ?_); rintro e w' ⟨rfl, rfl⟩) | (go_at_call 12; (with_reducible refine (int_at L0 (pick_any a0 (2000000) w0a w0b (by omega) (by omega) _) HL0).mono ?_); rintro e w' ⟨rfl, rfl⟩) | (go_at_call 12; (with_reducible refine (int_at L1 (pick_any a1 (2000000) w1a w1b (by omega) (by omega) _) HL1).mono ?_); rintro e w' ⟨rfl, rfl⟩) | (go_at_call 12; (with_reducible refine (int_at L2 (pick_any a2 (2000000) w2a w2b (by omega) (by omega) _) HL2).mono ?_); rintro e w' ⟨rfl, rfl⟩))
  obtain ⟨W1, hW1⟩ : ∃ W : World, W = w.alloc (Obj.cells #[Value.int IntKind.i64 a0, Value.int IntKind.i64 a1, Value.int IntKind.i64 a2, Value.int IntKind.i64 X, Value.int IntKind.i64 Y, Value.int IntKind.i64 Z, Value.int IntKind.i64 X, Value.int IntKind.i64 (J - 100000), Value.int IntKind.i64 a2, Value.int IntKind.i64 L0, Value.int IntKind.i64 L1, Value.int IntKind.i64 L2] 23) := ⟨_, rfl⟩
  rw [← hW1]
  have hz : w.heap.size < W1.heap.size := by rw [hW1]; simp
  have hbel : Below w.heap.size w W1 := by rw [hW1]; exact (Below.refl _ _).alloc (Nat.le_refl _) _
  have hcell : ∀ k : Nat, k < 4 → ∃ p q r : Int, W1.cell? ⟨w.heap.size, k * 3, none⟩ = some (.int .i64 p) ∧ W1.cell? ⟨w.heap.size, k * 3 + 1, none⟩ = some (.int .i64 q) ∧ W1.cell? ⟨w.heap.size, k * 3 + 2, none⟩ = some (.int .i64 r) := by
    rw [hW1]; exact cells12 w _ _ _ _ _ _ _ _ _ _ _ _ _
  clear hW1
  have HB := Lib.hid hbel; clear hbel
  have HC := Lib.hid hcell; clear hcell
  go_loopw [44] (fun i wr => ∃ k : Nat, k ≤ 4 ∧ i = .int .i64 k ∧ Below W1.heap.size W1 wr) (fun i _ => 4 - (intOf i).toNat)
  case atStart => exact ⟨0, by omega, rfl, Below.refl _ _⟩
  case round =>
    obtain ⟨k, hk, rfl, hb⟩ := hrel
    by_cases hlt : k < 4
    · obtain ⟨p, q, r, c0, c1, c2⟩ := HC.out k hlt
      rw [← hb.cell (by exact hz)] at c0 c1 c2
      have HB2 := Lib.hid hb; clear hb
      go_wp2_with (first | (go_at_call 13; refine (add_any _ _ _).mono ?_; rintro e w' ⟨rfl, rfl⟩) | (go_at_call 14; refine (radd_any _ _ _).mono ?_; rintro e w' ⟨rfl, rfl⟩) | (go_at_call 17; refine (sub_any _ _ _).mono ?_; rintro e w' ⟨rfl, rfl⟩) | (go_at_call 18; refine (rsub_any _ _ _).mono ?_; rintro e w' ⟨rfl, rfl⟩) | (go_at_call 19; refine (times_any _ _ _).mono ?_; rintro e w' ⟨rfl, rfl⟩) | (go_at_call 20; refine (rtimes_any _ _ _).mono ?_; rintro e w' ⟨rfl, rfl⟩) | (go_at_call 21; refine (part_any _ _ _ _).mono ?_; rintro e w' ⟨rfl, rfl⟩) | (go_at_call 22; refine (rpart_any _ _ _ _).mono ?_; rintro e w' ⟨rfl, rfl⟩))
      go_quiet ((first | (go_at_call 15; exact quiet_mine (right_any _ _)) | (go_at_call 16; exact quiet_mine (rright_any _ _)) | (go_at_call 23; exact quiet_mine (clamp_any _ _ _ _)) | (go_at_call 24; exact quiet_mine (rclamp_any _ _ _ _)) | (go_at_call 25; exact quiet_mine (later_any _ _ _)) | (go_at_call 26; exact quiet_mine (rlater_any _ _ _))))
      go_wp2_with (first | (go_at_call 13; refine (add_any _ _ _).mono ?_; rintro e w' ⟨rfl, rfl⟩) | (go_at_call 14; refine (radd_any _ _ _).mono ?_; rintro e w' ⟨rfl, rfl⟩) | (go_at_call 17; refine (sub_any _ _ _).mono ?_; rintro e w' ⟨rfl, rfl⟩) | (go_at_call 18; refine (rsub_any _ _ _).mono ?_; rintro e w' ⟨rfl, rfl⟩) | (go_at_call 19; refine (times_any _ _ _).mono ?_; rintro e w' ⟨rfl, rfl⟩) | (go_at_call 20; refine (rtimes_any _ _ _).mono ?_; rintro e w' ⟨rfl, rfl⟩) | (go_at_call 21; refine (part_any _ _ _ _).mono ?_; rintro e w' ⟨rfl, rfl⟩) | (go_at_call 22; refine (rpart_any _ _ _ _).mono ?_; rintro e w' ⟨rfl, rfl⟩))
      go_quiet ((first | (go_at_call 15; exact quiet_mine2 (right_any _ _)) | (go_at_call 16; exact quiet_mine2 (rright_any _ _)) | (go_at_call 23; exact quiet_mine2 (clamp_any _ _ _ _)) | (go_at_call 24; exact quiet_mine2 (rclamp_any _ _ _ _)) | (go_at_call 25; exact quiet_mine2 (later_any _ _ _)) | (go_at_call 26; exact quiet_mine2 (rlater_any _ _ _))))
      go_wp2
      go_roundw
      case rel => exact ⟨k + 1, by omega, by go_num, below_drewN (HB2.out.alloc HB2.out.size _) _⟩
      case measure => simp [intOf]; omega
    · go_wp2
      go_ret
      exact ⟨rfl, HB.out.trans (hb.mono HB.out.size)⟩

end Go.Proofs.Ytcmbehnmcojbpaa
