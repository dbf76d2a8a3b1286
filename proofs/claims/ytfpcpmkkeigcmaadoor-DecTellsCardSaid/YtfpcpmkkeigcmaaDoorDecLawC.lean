/- The walk of DecForth. -/
import Derived.Test.YtfpcpmkkeigcmaaDoorDecLawB
import Derived.BigRegion
namespace Go.Proofs.YtfpcpmkkeigcmaaDoor
open Go.RowKit Go.Lib
set_option linter.unusedVariables false
set_option linter.unusedSimpArgs false

theorem ex_size (t : ByteArray) (i j : Nat) : (t.extract i j).size ≤ t.size := by
  rw [ByteArray.size_extract]; omega
theorem join_size (t m : ByteArray) (i j k l : Nat) (h : t.size ≤ 43) (h' : m.size ≤ 140737488351232) : (t.extract i j ++ m ++ t.extract k l).size ≤ 9223372036854775807 := by
  rw [app_size, app_size]
  have := ex_size t i j
  have := ex_size t k l
  omega
set_option maxHeartbeats 2000000 in
set_option maxRecDepth 100000 in
theorem DecForth_walk (a0 : ByteArray) (a1 a2 : Int) (a3 : ByteArray) (w : World) (s0 : a0.size ≤ 140737488351232) (w1 : (Lit.int .i64 a1).wf = true) (w2 : (Lit.int .i64 a2).wf = true) (s3 : a3.size ≤ 140737488351232) (hT : Tab w) :
    Calls Tryd.prog 5 #[.string a0, .int .i64 a1, .int .i64 a2, .string a3] w fun e w' => e = .returned (.bool true) ∧ Below w.heap.size w w' := by
  have hr := Rel.start hT
  obtain ⟨u0, u1⟩ := bd64 w1
  obtain ⟨u2, u3⟩ := bd64 w2
  obtain ⟨A, hA⟩ : ∃ A, amt a1 = A := ⟨_, rfl⟩
  have bA := amt_bd a1
  rw [hA] at bA
  obtain ⟨b0, b1⟩ := bA
  have HA := Lib.hid hA
  obtain ⟨t, ht⟩ : ∃ t, tx A = t := ⟨_, rfl⟩
  have z1 := tx_size A
  rw [ht] at z1
  have HTX := Lib.hid ht
  obtain ⟨p, hp⟩ : ∃ p, pk a2 ((t.size : Int) + 1) = p := ⟨_, rfl⟩
  have bp := pk_bd a2 ((t.size : Int) + 1) (by omega)
  rw [hp] at bp
  obtain ⟨b2, b3⟩ := bp
  have HP := Lib.hid hp
  clear hA ht hp
  obtain ⟨k, rfl⟩ : ∃ k : Nat, p = (k : Int) := ⟨p.toNat, by omega⟩
  have b4 : (k : Int) ≤ t.size := by omega
  obtain ⟨j, hj⟩ : ∃ j : Nat, min ((k : Int) + a3.size) (t.size : Int) = (j : Int) := ⟨(min ((k : Int) + a3.size) (t.size : Int)).toNat, by omega⟩
  have b5 : (j : Int) ≤ t.size := by omega
  have cw : IntKind.i64.wrap ((k : Int) + a3.size) = (k : Int) + a3.size := IntWalk.i64_in _ (by omega)
  go_enter Tryd.func5, Tryd.ntmps5
  go_wp2_with (first
    | (go_at_call 9; (with_reducible refine (awake_any _ _ hr).mono ?_); rintro e wb ⟨rfl, hb⟩)
    | (go_at_call 10; (with_reducible refine (int_at A (amount_any a1 u0 u1 _) HA).mono ?_); rintro e w' ⟨rfl, rfl⟩)
    | (go_at_call 12; (with_reducible refine (str_at _ (text_at _ A (by omega) (by omega) (by omega) _ _ (by assumption)) HTX).mono ?_); rintro e wa ⟨rfl, ha⟩)
    | (go_at_call 11; (with_reducible refine (int_at (k : Int) (pick_any a2 _ u2 u3 (by omega) (by omega) _) HP).mono ?_); rintro e w' ⟨rfl, rfl⟩))
  go_region
  go_wp2_with (fail)
  go_loopw [53] (fun i wr => ∃ q : Nat, q ≤ 3 ∧ i = .int .i64 (q : Int) ∧ Rel (wa.alloc (.cells #[.string a0, .string (t.extract 0 k ++ a3 ++ t.extract j t.size), .string (t.extract 0 k ++ a3 ++ t.extract k t.size)] 9)) wr) (fun i _ => 3 - (RowKit.intOf i).toNat)
  case atStart => exact ⟨0, by omega, rfl, (ha.alloc _).self.drew⟩
  case round =>
    obtain ⟨q, hq, rfl, hR⟩ := hrel
    by_cases hlt : q < 3
    · obtain ⟨y, hy, hys⟩ : ∃ y : ByteArray, wr.cell? ⟨wa.heap.size, q, none⟩ = some (.string y) ∧ y.size ≤ 9223372036854775807 := by
        obtain ⟨c0, c1, c2⟩ := three_cells hR
        obtain rfl | rfl | rfl : q = 0 ∨ q = 1 ∨ q = 2 := by omega
        · exact ⟨_, c0, by omega⟩
        · exact ⟨_, c1, join_size _ _ _ _ _ _ z1 s3⟩
        · exact ⟨_, c2, join_size _ _ _ _ _ _ z1 s3⟩
      obtain ⟨m, hm⟩ : ∃ m, cnt y.data.toList 1000000000000 = m := ⟨_, rfl⟩
      have mb := cnt_bd y.data.toList 1000000000000
      rw [hm] at mb
      have m0 : -1 ≤ m := mb.1
      have m1 : m ≤ 1000000000000 := mb.2.1
      have HM := Lib.hid hm
      have HN := Lib.hid (show 0 ≤ m → num m = y from fun h => by
        have := dd_of_cnt (l := y.data.toList) (most := 1000000000000) (by rw [hm]; exact h)
        unfold num
        rw [← hm, this, B_of])
      clear mb hm
      cases hp : prs y.data.toList with
      | none =>
        have K1 := Lib.hid (q1 hp)
        have K2 := Lib.hid (q2 hp)
        clear hp
        by_cases hm : 0 ≤ m
        · have HN := Lib.hid (HN.out hm)
          go_wp2_with (first
            | (go_at_call 16; (with_reducible refine (two_at _ _ (parse_any _ hys _ _ (by assumption)) K1 K2).mono ?_); rintro e w' ⟨rfl, hr'⟩)
            | (go_at_call 12; (with_reducible refine (str_at _ (text_any _ (by omega) (by omega) _ _ (by assumption)) HT).mono ?_); rintro e w' ⟨rfl, hr'⟩)
            | (go_at_call 18; (with_reducible refine (int_at _ (count_any _ _ hys _ _ (by assumption)) HM).mono ?_); rintro e w' ⟨rfl, hr'⟩)
            | (go_at_call 14; (with_reducible refine (str_at _ (num_any _ (by omega) (by omega) _ _ (by assumption)) HN).mono ?_); rintro e w' ⟨rfl, hr'⟩))
          go_roundw
          case rel => exact ⟨q + 1, by omega, by go_num, by assumption⟩
          case measure => simp [RowKit.intOf]; omega
        · go_wp2_with (first
            | (go_at_call 16; (with_reducible refine (two_at _ _ (parse_any _ hys _ _ (by assumption)) K1 K2).mono ?_); rintro e w' ⟨rfl, hr'⟩)
            | (go_at_call 12; (with_reducible refine (str_at _ (text_any _ (by omega) (by omega) _ _ (by assumption)) HT).mono ?_); rintro e w' ⟨rfl, hr'⟩)
            | (go_at_call 18; (with_reducible refine (int_at _ (count_any _ _ hys _ _ (by assumption)) HM).mono ?_); rintro e w' ⟨rfl, hr'⟩)
            | (go_at_call 14; (with_reducible refine (str_at _ (num_any _ (by omega) (by omega) _ _ (by assumption)) HN).mono ?_); rintro e w' ⟨rfl, hr'⟩))
          go_roundw
          case rel => exact ⟨q + 1, by omega, by go_num, by assumption⟩
          case measure => simp [RowKit.intOf]; omega
      | some a =>
        have K1 := Lib.hid (p1 hp)
        have K2 := Lib.hid (p2 hp)
        obtain ⟨hrt, htx⟩ := txt_of_prs hp
        obtain ⟨a4, a5⟩ := rt_iff.1 hrt
        have HT := Lib.hid (show tx a = y by unfold tx; rw [htx, B_of])
        clear hp hrt htx
        by_cases hm : 0 ≤ m
        · have HN := Lib.hid (HN.out hm)
          go_wp2_with (first
            | (go_at_call 16; (with_reducible refine (two_at _ _ (parse_any _ hys _ _ (by assumption)) K1 K2).mono ?_); rintro e w' ⟨rfl, hr'⟩)
            | (go_at_call 12; (with_reducible refine (str_at _ (text_any _ (by omega) (by omega) _ _ (by assumption)) HT).mono ?_); rintro e w' ⟨rfl, hr'⟩)
            | (go_at_call 18; (with_reducible refine (int_at _ (count_any _ _ hys _ _ (by assumption)) HM).mono ?_); rintro e w' ⟨rfl, hr'⟩)
            | (go_at_call 14; (with_reducible refine (str_at _ (num_any _ (by omega) (by omega) _ _ (by assumption)) HN).mono ?_); rintro e w' ⟨rfl, hr'⟩))
          go_roundw
          case rel => exact ⟨q + 1, by omega, by go_num, by assumption⟩
          case measure => simp [RowKit.intOf]; omega
        · go_wp2_with (first
            | (go_at_call 16; (with_reducible refine (two_at _ _ (parse_any _ hys _ _ (by assumption)) K1 K2).mono ?_); rintro e w' ⟨rfl, hr'⟩)
            | (go_at_call 12; (with_reducible refine (str_at _ (text_any _ (by omega) (by omega) _ _ (by assumption)) HT).mono ?_); rintro e w' ⟨rfl, hr'⟩)
            | (go_at_call 18; (with_reducible refine (int_at _ (count_any _ _ hys _ _ (by assumption)) HM).mono ?_); rintro e w' ⟨rfl, hr'⟩)
            | (go_at_call 14; (with_reducible refine (str_at _ (num_any _ (by omega) (by omega) _ _ (by assumption)) HN).mono ?_); rintro e w' ⟨rfl, hr'⟩))
          go_roundw
          case rel => exact ⟨q + 1, by omega, by go_num, by assumption⟩
          case measure => simp [RowKit.intOf]; omega
    · obtain rfl : q = 3 := by omega
      go_wp2_with (fail)
      go_ret
      exact ⟨rfl, Rel.below ((ha.alloc _).trans (by assumption))⟩
end Go.Proofs.YtfpcpmkkeigcmaaDoor
