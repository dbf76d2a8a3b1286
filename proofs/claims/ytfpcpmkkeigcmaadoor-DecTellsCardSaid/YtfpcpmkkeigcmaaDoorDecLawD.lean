/- The walk of DecTells. -/
import Derived.Test.YtfpcpmkkeigcmaaDoorDecLawC
import Derived.Deep.RegionHeld3
namespace Go.Proofs.YtfpcpmkkeigcmaaDoor
open Go.RowKit Go.Lib
set_option linter.unusedVariables false
set_option linter.unusedSimpArgs false

theorem five_cells {x0 x1 x2 x3 x4 : Value} {t : TypeId} {w wr : World} (h : Rel (w.alloc (.cells #[x0, x1, x2, x3, x4] t)) wr) :
    wr.cell? ⟨w.heap.size, 0, none⟩ = some x0 ∧ wr.cell? ⟨w.heap.size, 1, none⟩ = some x1 ∧ wr.cell? ⟨w.heap.size, 2, none⟩ = some x2 ∧ wr.cell? ⟨w.heap.size, 3, none⟩ = some x3 ∧ wr.cell? ⟨w.heap.size, 4, none⟩ = some x4 := by
  have hs : w.heap.size < (w.alloc (.cells #[x0, x1, x2, x3, x4] t)).heap.size := by simp
  refine ⟨?_, ?_, ?_, ?_, ?_⟩
  · rw [h.cell (p := ⟨w.heap.size, 0, none⟩) hs]; simp [go_sem]
  · rw [h.cell (p := ⟨w.heap.size, 1, none⟩) hs]; simp [go_sem]
  · rw [h.cell (p := ⟨w.heap.size, 2, none⟩) hs]; simp [go_sem]
  · rw [h.cell (p := ⟨w.heap.size, 3, none⟩) hs]; simp [go_sem]
  · rw [h.cell (p := ⟨w.heap.size, 4, none⟩) hs]; simp [go_sem]
theorem num_size' (n : Int) (h0 : -9223372036854775808 ≤ n) (h1 : n ≤ 9223372036854775807) : (num n).size ≤ 20 := by
  by_cases h : 0 ≤ n
  · have := num_size n h h1; omega
  · rw [← num_neg n (by omega), dash, B_size]
    have := nd_le 19 (-n).toNat (by have e : 10 ^ 19 = 10000000000000000000 := by decide
                                    omega) (by omega)
    simp; omega
set_option maxHeartbeats 4000000 in
set_option maxRecDepth 100000 in
theorem DecTells_walk (a0 : Int) (a1 : ByteArray) (a2 a3 : Int) (a4 : ByteArray) (w : World) (w0 : (Lit.int .i64 a0).wf = true) (s1 : a1.size ≤ 140737488351232) (w2 : (Lit.int .i64 a2).wf = true) (w3 : (Lit.int .i64 a3).wf = true) (s4 : a4.size ≤ 140737488351232) (hT : Tab w) :
    Calls Tryd.prog 3 #[.int .i64 a0, .string a1, .int .i64 a2, .int .i64 a3, .string a4] w fun e w' => e = .returned (.bool true) ∧ Below w.heap.size w w' := by
  have hr := Rel.start hT
  obtain ⟨u0, u1⟩ := bd64 w0
  obtain ⟨u2, u3⟩ := bd64 w2
  obtain ⟨u4, u5⟩ := bd64 w3
  obtain ⟨A, hA⟩ : ∃ A, amt a0 = A := ⟨_, rfl⟩
  obtain ⟨p, hp⟩ : ∃ p, pk a0 20000 = p := ⟨_, rfl⟩
  have bA := amt_bd a0
  have bp := pk_bd a0 20000 (by omega)
  rw [hA] at bA; rw [hp] at bp
  obtain ⟨b0, b1⟩ := bA
  obtain ⟨b2, b3⟩ := bp
  have HA := Lib.hid hA
  have HP := Lib.hid hp
  clear hA hp
  go_enter Tryd.func3, Tryd.ntmps3
  go_wp2_with (first
    | (go_at_call 9; (with_reducible refine (awake_any _ _ hr).mono ?_); rintro e wa ⟨rfl, ha⟩)
    | (go_at_call 10; (with_reducible refine (int_at A (amount_any a0 u0 u1 _) HA).mono ?_); rintro e w' ⟨rfl, rfl⟩)
    | (go_at_call 11; (with_reducible refine (int_at p (pick_any a0 _ u0 u1 (by omega) (by omega) _) HP).mono ?_); rintro e w' ⟨rfl, rfl⟩))
  go_loopw [33] (fun i wr => ∃ q : Nat, q ≤ 3 ∧ i = .int .i64 (q : Int) ∧ Rel (wa.alloc (.cells #[.int .i64 a0, .int .i64 A, .int .i64 (p - 10000)] 3)) wr) (fun i _ => 3 - (RowKit.intOf i).toNat)
  case atStart => exact ⟨0, by omega, rfl, (ha.alloc _).self⟩
  case round =>
    obtain ⟨q, hq, rfl, hR⟩ := hrel
    by_cases hlt : q < 3
    · obtain ⟨x, hx, x0, x1⟩ : ∃ x : Int, wr.cell? ⟨wa.heap.size, q, none⟩ = some (.int .i64 x) ∧ -9223372036854775808 ≤ x ∧ x ≤ 9223372036854775807 := by
        obtain ⟨c0, c1, c2⟩ := three_cells hR
        obtain rfl | rfl | rfl : q = 0 ∨ q = 1 ∨ q = 2 := by omega
        · exact ⟨_, c0, by omega, by omega⟩
        · exact ⟨_, c1, by omega, by omega⟩
        · exact ⟨_, c2, by omega, by omega⟩
      obtain ⟨t, ht⟩ : ∃ t, tx x = t := ⟨_, rfl⟩
      have z1 := tx_size x
      rw [ht] at z1
      have HTX := Lib.hid ht
      obtain ⟨v, hv⟩ : ∃ v, num x = v := ⟨_, rfl⟩
      have z2 := num_size' x x0 x1
      rw [hv] at z2
      have HV := Lib.hid hv
      obtain ⟨p', hp⟩ : ∃ p, pk a3 ((t.size : Int) + 1) = p := ⟨_, rfl⟩
      have bp := pk_bd a3 ((t.size : Int) + 1) (by omega)
      rw [hp] at bp
      obtain ⟨b4, b5⟩ := bp
      have HP := Lib.hid hp
      clear ht hp hv
      obtain ⟨k, rfl⟩ : ∃ k : Nat, p' = (k : Int) := ⟨p'.toNat, by omega⟩
      have b6 : (k : Int) ≤ t.size := by omega
      obtain ⟨j, hj⟩ : ∃ j : Nat, min ((k : Int) + a4.size) (t.size : Int) = (j : Int) := ⟨(min ((k : Int) + a4.size) (t.size : Int)).toNat, by omega⟩
      have b7 : (j : Int) ≤ t.size := by omega
      have cw : IntKind.i64.wrap ((k : Int) + a4.size) = (k : Int) + a4.size := IntWalk.i64_in _ (by omega)
      go_wp2_with (first
        | (go_at_call 12; (with_reducible refine (str_at _ (text_any x x0 x1 _ _ (by assumption)) HTX).mono ?_); rintro e wt ⟨rfl, ht⟩)
        | (go_at_call 13; (with_reducible refine (str_at _ (rtext_any x x0 x1 _ _ (by assumption)) HTX).mono ?_); rintro e wt ⟨rfl, ht⟩)
        | (go_at_call 14; (with_reducible refine (str_at _ (num_any x x0 x1 _ _ (by assumption)) HV).mono ?_); rintro e wt ⟨rfl, ht⟩)
        | (go_at_call 15; (with_reducible refine (str_at _ (rnum_any x x0 x1 _ _ (by assumption)) HV).mono ?_); rintro e wt ⟨rfl, ht⟩)
        | (go_at_call 11; (with_reducible refine (int_at (k : Int) (pick_any a3 _ u4 u5 (by omega) (by omega) _) HP).mono ?_); rintro e w' ⟨rfl, rfl⟩))
      obtain ⟨e1, he1⟩ : ∃ e, t.extract 0 k = e := ⟨_, rfl⟩
      obtain ⟨e2, he2⟩ : ∃ e, t.extract j t.size = e := ⟨_, rfl⟩
      obtain ⟨e3, he3⟩ : ∃ e, t.extract k t.size = e := ⟨_, rfl⟩
      have g1 : e1.size ≤ 43 := by rw [← he1]; exact Nat.le_trans (ex_size _ _ _) z1
      have g2 : e2.size ≤ 43 := by rw [← he2]; exact Nat.le_trans (ex_size _ _ _) z1
      have g3 : e3.size ≤ 43 := by rw [← he3]; exact Nat.le_trans (ex_size _ _ _) z1
      obtain ⟨e4, he4⟩ : ∃ e, e1 ++ a4 = e := ⟨_, rfl⟩
      have g4 : e4.size = e1.size + a4.size := by rw [← he4, app_size]
      have n1 : ¬ 9223372036854775807 < e1.size + a4.size := by omega
      have n2 : ¬ 9223372036854775807 < e4.size + e2.size := by omega
      have n3 : ¬ 9223372036854775807 < e4.size + e3.size := by omega
      have n4 : ¬ 9223372036854775807 < v.size + a4.size := by omega
      obtain ⟨y2, hy2⟩ : ∃ e, e4 ++ e2 = e := ⟨_, rfl⟩
      obtain ⟨y3, hy3⟩ : ∃ e, e4 ++ e3 = e := ⟨_, rfl⟩
      obtain ⟨y4, hy4⟩ : ∃ e, v ++ a4 = e := ⟨_, rfl⟩
      have q2 : y2.size ≤ 9223372036854775807 := by rw [← hy2, app_size]; omega
      have q3 : y3.size ≤ 9223372036854775807 := by rw [← hy3, app_size]; omega
      have q4 : y4.size ≤ 9223372036854775807 := by rw [← hy4, app_size]; omega
      clear g4
      go_region_held3 (fun w' => Rel (wa.alloc (.cells #[.int .i64 a0, .int .i64 A, .int .i64 (p - 10000)] 3)) w') (first | assumption | exact Rel.alloc (by assumption) _ | exact Rel.drew (by assumption))
        (first | (go_at_call 15; (with_reducible refine (str_at _ (rnum_any x x0 x1 _ _ (by assumption)) HV).mono ?_); rintro e wn ⟨rfl, hn⟩))
      all_goals
        clear he1 he2 he3 he4 hy2 hy3 hy4 n1 n2 n3 n4 g1 g2 g3 hj cw hx
        go_wp2_with (fail)
        go_loopw [88] (fun i wr => ∃ r : Nat, r ≤ 5 ∧ i = .int .i64 (r : Int) ∧ Rel (wn.alloc (.cells #[.string a1, .string t, .string y2, .string y3, .string y4] 9)) wr) (fun i _ => 5 - (RowKit.intOf i).toNat)
        case atStart => exact ⟨0, by omega, rfl, (hn.alloc _).self⟩
        case round =>
          obtain ⟨r, hr5, rfl, hR2⟩ := hrel
          by_cases hlt2 : r < 5
          · obtain ⟨y, hy, hys⟩ : ∃ y : ByteArray, wr.cell? ⟨wn.heap.size, r, none⟩ = some (.string y) ∧ y.size ≤ 9223372036854775807 := by
              obtain ⟨c0, c1, c2, c3, c4⟩ := five_cells hR2
              obtain rfl | rfl | rfl | rfl | rfl : r = 0 ∨ r = 1 ∨ r = 2 ∨ r = 3 ∨ r = 4 := by omega
              · exact ⟨_, c0, by omega⟩
              · exact ⟨_, c1, by omega⟩
              · exact ⟨_, c2, q2⟩
              · exact ⟨_, c3, q3⟩
              · exact ⟨_, c4, q4⟩
            obtain ⟨d1, hd1⟩ : ∃ d, prs1 y.data.toList = d := ⟨_, rfl⟩
            obtain ⟨d2, hd2⟩ : ∃ d, prs2 y.data.toList = d := ⟨_, rfl⟩
            obtain ⟨m2, hm2⟩ : ∃ d, pk a2 2000 = d := ⟨_, rfl⟩
            obtain ⟨d3, hd3⟩ : ∃ d, cnt y.data.toList a2 = d := ⟨_, rfl⟩
            obtain ⟨d4, hd4⟩ : ∃ d, cnt y.data.toList m2 = d := ⟨_, rfl⟩
            have K1 := Lib.hid hd1
            have K2 := Lib.hid hd2
            have K3 := Lib.hid hd3
            have K4 := Lib.hid hd4
            have KM := Lib.hid hm2
            clear hd1 hd2 hd3 hd4 hm2
            go_wp2_with (first
              | (go_at_call 16; (with_reducible refine (two_at _ _ (parse_any _ hys _ _ (by assumption)) K1 K2).mono ?_); rintro e w' ⟨rfl, hr'⟩)
              | (go_at_call 17; (with_reducible refine (two_at _ _ (rparse_any _ hys _ _ (by assumption)) K1 K2).mono ?_); rintro e w' ⟨rfl, hr'⟩)
              | (go_at_call 18; (first | (with_reducible refine (int_at _ (count_any _ _ hys _ _ (by assumption)) K3).mono ?_) | (with_reducible refine (int_at _ (count_any _ _ hys _ _ (by assumption)) K4).mono ?_)); rintro e w' ⟨rfl, hr'⟩)
              | (go_at_call 19; (first | (with_reducible refine (int_at _ (rcount_any _ _ hys _ _ (by assumption)) K3).mono ?_) | (with_reducible refine (int_at _ (rcount_any _ _ hys _ _ (by assumption)) K4).mono ?_)); rintro e w' ⟨rfl, hr'⟩)
              | (go_at_call 11; (with_reducible refine (int_at m2 (pick_any a2 _ u2 u3 (by omega) (by omega) _) KM).mono ?_); rintro e w' ⟨rfl, rfl⟩))
            go_roundw
            case rel => exact ⟨r + 1, by omega, by go_num, by assumption⟩
            case measure => simp [RowKit.intOf]; omega
          · obtain rfl : r = 5 := by omega
            go_wp2_with (fail)
            go_roundw
            case rel => exact ⟨q + 1, by omega, by go_num, (hn.alloc _).trans (by assumption)⟩
            case measure => simp [RowKit.intOf]; omega
    · obtain rfl : q = 3 := by omega
      go_wp2_with (fail)
      go_ret
      exact ⟨rfl, Rel.below ((ha.alloc _).trans (by assumption))⟩
end Go.Proofs.YtfpcpmkkeigcmaaDoor
