/- The walk of DecBack. -/
import Derived.Test.YtfpcpmkkeigcmaaDoorDecLawA
namespace Go.Proofs.YtfpcpmkkeigcmaaDoor
open Go.RowKit Go.Lib
set_option linter.unusedVariables false
set_option linter.unusedSimpArgs false

theorem Rel.trans {a b c : World} (h : Rel a b) (k : Rel b c) : Rel a c := h.step k.2
theorem Rel.cell {a b : World} (h : Rel a b) {p : Addr} (hp : p.block < a.heap.size) : b.cell? p = a.cell? p := h.2.cell hp
theorem Rel.self {a b : World} (h : Rel a b) : Rel b b := Rel.start h.tab
theorem tx_data (a : Int) : (tx a).data.toList = txt a := tx_list a
theorem three_cells {x0 x1 x2 : Value} {t : TypeId} {w wr : World} (h : Rel (w.alloc (.cells #[x0, x1, x2] t)) wr) :
    wr.cell? ⟨w.heap.size, 0, none⟩ = some x0 ∧ wr.cell? ⟨w.heap.size, 1, none⟩ = some x1 ∧ wr.cell? ⟨w.heap.size, 2, none⟩ = some x2 := by
  have hs : w.heap.size < (w.alloc (.cells #[x0, x1, x2] t)).heap.size := by simp
  refine ⟨?_, ?_, ?_⟩
  · rw [h.cell (p := ⟨w.heap.size, 0, none⟩) hs]; simp [go_sem]
  · rw [h.cell (p := ⟨w.heap.size, 1, none⟩) hs]; simp [go_sem]
  · rw [h.cell (p := ⟨w.heap.size, 2, none⟩) hs]; simp [go_sem]
set_option maxHeartbeats 1000000 in
set_option maxRecDepth 100000 in
theorem DecBack_walk (a0 a1 : Int) (w : World) (w0 : (Lit.int .i64 a0).wf = true) (w1 : (Lit.int .i64 a1).wf = true) (hT : Tab w) :
    Calls Tryd.prog 4 #[.int .i64 a0, .int .i64 a1] w fun e w' => e = .returned (.bool true) ∧ Below w.heap.size w w' := by
  have hr := Rel.start hT
  obtain ⟨u0, u1⟩ := bd64 w0
  obtain ⟨u2, u3⟩ := bd64 w1
  obtain ⟨A, hA⟩ : ∃ A, amt a0 = A := ⟨_, rfl⟩
  obtain ⟨p, hp⟩ : ∃ p, pk a0 300 = p := ⟨_, rfl⟩
  obtain ⟨k, hk⟩ : ∃ k, pk a1 1000000000001 = k := ⟨_, rfl⟩
  have bA := amt_bd a0
  have bp := pk_bd a0 300 (by omega)
  have bk := pk_bd a1 1000000000001 (by omega)
  rw [hA] at bA; rw [hp] at bp; rw [hk] at bk
  obtain ⟨b0, b1⟩ := bA
  obtain ⟨b2, b3⟩ := bp
  obtain ⟨b4, b5⟩ := bk
  have HA := Lib.hid hA
  have HP := Lib.hid hp
  have HK := Lib.hid hk
  clear hA hp hk
  have z1 := num_size k (by omega) (by omega)
  have hn : (num k).data.toList = decDigits k.toNat := by rw [num_pos k b4]; exact B_list _
  have N1 := Lib.hid (show cnt (num k).data.toList 1000000000000 = k by rw [hn, cnt_dd, if_pos (by omega)]; omega)
  have N2 := Lib.hid (show cnt (num k).data.toList k = k by rw [hn, cnt_dd, if_pos (by omega)]; omega)
  have N3 := Lib.hid (show cnt (num k).data.toList (k - 1) = -1 by rw [hn, cnt_dd, if_neg (by omega)])
  clear hn
  go_enter Tryd.func4, Tryd.ntmps4
  go_wp2_with (first
    | (go_at_call 9; (with_reducible refine (awake_any _ _ hr).mono ?_); rintro e wa ⟨rfl, ha⟩)
    | (go_at_call 10; (with_reducible refine (int_at A (amount_any a0 u0 u1 _) HA).mono ?_); rintro e w' ⟨rfl, rfl⟩)
    | (go_at_call 11; (with_reducible refine (int_at p (pick_any a0 _ u0 u1 (by omega) (by omega) _) HP).mono ?_); rintro e w' ⟨rfl, rfl⟩))
  go_loopw [22] (fun i wr => ∃ j : Nat, j ≤ 3 ∧ i = .int .i64 (j : Int) ∧ Rel (wa.alloc (.cells #[.int .i64 A, .int .i64 (p - 150), .int .i64 (-A)] 3)) wr) (fun i _ => 3 - (RowKit.intOf i).toNat)
  case atStart => exact ⟨0, by omega, rfl, (ha.alloc _).self⟩
  case round =>
    obtain ⟨j, hj, rfl, hR⟩ := hrel
    obtain ⟨c0, c1, c2⟩ := three_cells hR
    by_cases hlt : j < 3
    · have key : ∀ x : Int, -1000000000000 ≤ x → x ≤ 1000000000000 → Hid (prs1 (tx x).data.toList = x) ∧ Hid (prs2 (tx x).data.toList = 0) ∧ (tx x).size ≤ 9223372036854775807 := fun x h h' =>
        ⟨Lib.hid (by rw [tx_data]; exact prs1_txt (rt_yes h h')), Lib.hid (by rw [tx_data]; exact prs2_txt (rt_yes h h')), by have := tx_size x; omega⟩
      obtain rfl | rfl | rfl : j = 0 ∨ j = 1 ∨ j = 2 := by omega
      · obtain ⟨K1, K2, K3⟩ := key A (by omega) (by omega)
        clear key
        go_wp2_with (first
          | (go_at_call 12; (with_reducible refine (text_at _ A (by omega) (by omega) (by omega) _ _ (by assumption)).mono ?_); rintro e w' ⟨rfl, hr'⟩)
          | (go_at_call 16; (with_reducible refine (two_at _ _ (parse_any _ K3 _ _ (by assumption)) K1 K2).mono ?_); rintro e w' ⟨rfl, hr'⟩))
        go_roundw
        case rel => exact ⟨1, by omega, by go_num, by assumption⟩
        case measure => simp [RowKit.intOf]
      · obtain ⟨K1, K2, K3⟩ := key (p - 150) (by omega) (by omega)
        clear key
        go_wp2_with (first
          | (go_at_call 12; (with_reducible refine (text_at _ (p - 150) (by omega) (by omega) (by omega) _ _ (by assumption)).mono ?_); rintro e w' ⟨rfl, hr'⟩)
          | (go_at_call 16; (with_reducible refine (two_at _ _ (parse_any _ K3 _ _ (by assumption)) K1 K2).mono ?_); rintro e w' ⟨rfl, hr'⟩))
        go_roundw
        case rel => exact ⟨2, by omega, by go_num, by assumption⟩
        case measure => simp [RowKit.intOf]
      · obtain ⟨K1, K2, K3⟩ := key (-A) (by omega) (by omega)
        clear key
        go_wp2_with (first
          | (go_at_call 12; (with_reducible refine (text_at _ (-A) (by omega) (by omega) (by omega) _ _ (by assumption)).mono ?_); rintro e w' ⟨rfl, hr'⟩)
          | (go_at_call 16; (with_reducible refine (two_at _ _ (parse_any _ K3 _ _ (by assumption)) K1 K2).mono ?_); rintro e w' ⟨rfl, hr'⟩))
        go_roundw
        case rel => exact ⟨3, by omega, by go_num, by assumption⟩
        case measure => simp [RowKit.intOf]
    · obtain rfl : j = 3 := by omega
      go_wp2_with (first
        | (go_at_call 11; (with_reducible refine (int_at k (pick_any a1 _ u2 u3 (by omega) (by omega) _) HK).mono ?_); rintro e w' ⟨rfl, rfl⟩)
        | (go_at_call 14; (with_reducible refine (num_at _ k (by omega) (by omega) (by omega) _ _ (by assumption)).mono ?_); rintro e w' ⟨rfl, hr'⟩)
        | (go_at_call 18; (first | (with_reducible refine (int_at _ (count_any _ _ (by omega) _ _ (by assumption)) N1).mono ?_) | (with_reducible refine (int_at _ (count_any _ _ (by omega) _ _ (by assumption)) N2).mono ?_) | (with_reducible refine (int_at _ (count_any _ _ (by omega) _ _ (by assumption)) N3).mono ?_)); rintro e w' ⟨rfl, hr'⟩))
      go_ret
      exact ⟨rfl, Rel.below ((ha.alloc _).trans (by assumption))⟩
end Go.Proofs.YtfpcpmkkeigcmaaDoor
