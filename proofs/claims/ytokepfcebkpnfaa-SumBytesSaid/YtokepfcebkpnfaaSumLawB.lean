/- The walk of SumBytes. -/
import Derived.Test.YtokepfcebkpnfaaSumLawA
import Derived.BigRegion
import Derived.Deep.RegionHeld3
namespace Go.Proofs.Ytokepfcebkpnfaa
open Go.RowKit Go.Lib
set_option linter.unusedVariables false
set_option linter.unusedSimpArgs false

theorem bt_two (n : Int) (h0 : 0 ≤ n) (h1 : n < 65536) : ∃ p q : UInt8, bt n = B [p, q] ∧ (p.toNat : Int) * 256 + (q.toNat : Int) = n := by
  obtain ⟨k, rfl⟩ := Int.eq_ofNat_of_zero_le h0
  rw [bt_yes k (by omega)]
  refine ⟨_, _, rfl, ?_⟩
  rw [two_hi (by omega), two_lo]
  omega
theorem bt_same (n m : Int) (h0 : 0 ≤ n) (h1 : n < 65536) (h2 : 0 ≤ m) (h3 : m < 65536) : bt n = bt m ↔ n = m := by
  obtain ⟨k, rfl⟩ := Int.eq_ofNat_of_zero_le h0
  obtain ⟨l, rfl⟩ := Int.eq_ofNat_of_zero_le h2
  rw [bt_yes k (by omega), bt_yes l (by omega), B_inj, two_inj (by omega) (by omega)]
  omega
set_option maxHeartbeats 1000000 in
theorem SumBytes_walk (a0 a1 : Int) (w : World) (w0 : (Lit.int .i64 a0).wf = true) (w1 : (Lit.int .i64 a1).wf = true) :
    Calls Try.prog 6 #[.int .i64 a0, .int .i64 a1] w fun e w' => e = .returned (.bool true) ∧ Below w.heap.size w w' := by
  have hr := Rel.start w
  obtain ⟨u0, u1⟩ := bd64 w0
  obtain ⟨u2, u3⟩ := bd64 w1
  obtain ⟨x, hx⟩ : ∃ x, pk a0 65536 = x := ⟨_, rfl⟩
  obtain ⟨y, hy⟩ : ∃ y, pk a1 65536 = y := ⟨_, rfl⟩
  have hb := pk_bd a0 65536 (by omega)
  have hb' := pk_bd a1 65536 (by omega)
  rw [hx] at hb
  rw [hy] at hb'
  obtain ⟨b0, b1⟩ := hb
  obtain ⟨b2, b3⟩ := hb'
  have HX := Lib.hid hx
  have HY := Lib.hid hy
  clear hx hy
  obtain ⟨b, hb⟩ : ∃ b, bt x = b := ⟨_, rfl⟩
  obtain ⟨p, q, hpq, hs⟩ := bt_two x b0 b1
  have hz : b.size = 2 := by rw [← hb, hpq]; rfl
  have l0 : 0 < b.size := by omega
  have l1 : 1 < b.size := by omega
  have g0 : b[0].toNat = p.toNat := by
    have h : b = B [p, q] := by rw [← hb, hpq]
    subst h
    rfl
  have g1 : b[1].toNat = q.toNat := by
    have h : b = B [p, q] := by rw [← hb, hpq]
    subst h
    rfl
  have k1 : ((b.size : Int) == 2) = true := by rw [beq_iff_eq]; omega
  have HE : Hid (IntKind.i64.wrap (b[0].toNat : Int) = (b[0].toNat : Int) ∧ IntKind.i64.wrap (b[1].toNat : Int) = (b[1].toNat : Int) ∧ IntKind.i64.wrap ((b[0].toNat : Int) * 256) = (b[0].toNat : Int) * 256 ∧ IntKind.i64.wrap ((b[0].toNat : Int) * (256 : Int) + (b[1].toNat : Int)) = x) := by
    have h0 := u8_lt p
    have h1 := u8_lt q
    refine Lib.hid ⟨?_, ?_, ?_, ?_⟩ <;> rw [IntKind.wrap_i64] <;> omega
  have HB := Lib.hid hb
  clear hz g0 g1 hpq hs
  by_cases hxy : x = y
  · subst hxy
    clear hb
    go_enter Try.func6, Try.ntmps6
    go_wp2_with (first
      | (go_at_call 9; (with_reducible refine (awake_any _ _ (by assumption)).mono ?_); rintro e w' ⟨rfl, hr'⟩)
      | (go_at_call 14; (first | (with_reducible refine (int_at _ (pick_any _ _ u0 u1 (by omega) (by omega) _) HX).mono ?_) | (with_reducible refine (int_at _ (pick_any _ _ u2 u3 (by omega) (by omega) _) HY).mono ?_)); rintro e w' ⟨rfl, rfl⟩)
      | (go_at_call 12; (with_reducible refine (str_at _ (bytes_all _ _ _ (by assumption)) HB).mono ?_); rintro e w' ⟨rfl, hr''⟩))
    obtain ⟨e0, e1, e2, e3⟩ := HE.out
    go_region_held3 (fun wr => Rel w wr) (first | assumption | exact Rel.alloc (by assumption) _ | exact Rel.drew (by assumption))
      (first | (go_at_call 12; (with_reducible refine (str_at _ (bytes_all _ _ _ (by assumption)) HB).mono ?_); rintro e wn ⟨rfl, hn⟩))
    all_goals
      go_wp2_with (fail)
      go_ret
      exact ⟨rfl, Rel.below (by assumption)⟩
  · obtain ⟨c, hc⟩ : ∃ c, bt y = c := ⟨_, rfl⟩
    have f1 : (x == y) = false := by rw [beq_eq_false_iff_ne]; exact hxy
    have f2 := same_list (fun h : b = c => hxy ((bt_same x y b0 b1 b2 b3).1 (by rw [hb, hc, h])))
    have HC := Lib.hid hc
    clear hb hc
    go_enter Try.func6, Try.ntmps6
    go_wp2_with (first
      | (go_at_call 9; (with_reducible refine (awake_any _ _ (by assumption)).mono ?_); rintro e w' ⟨rfl, hr'⟩)
      | (go_at_call 14; (first | (with_reducible refine (int_at _ (pick_any _ _ u0 u1 (by omega) (by omega) _) HX).mono ?_) | (with_reducible refine (int_at _ (pick_any _ _ u2 u3 (by omega) (by omega) _) HY).mono ?_)); rintro e w' ⟨rfl, rfl⟩)
      | (go_at_call 12; (with_reducible refine (str_at _ (bytes_all _ _ _ (by assumption)) HB).mono ?_); rintro e w' ⟨rfl, hr''⟩))
    obtain ⟨e0, e1, e2, e3⟩ := HE.out
    go_region_held3 (fun wr => Rel w wr) (first | assumption | exact Rel.alloc (by assumption) _ | exact Rel.drew (by assumption))
      (first | (go_at_call 12; (with_reducible refine (str_at _ (bytes_all _ _ _ (by assumption)) HC).mono ?_); rintro e wn ⟨rfl, hn⟩))
    all_goals
      go_wp2_with (fail)
      go_ret
      exact ⟨rfl, Rel.below (by assumption)⟩
end Go.Proofs.Ytokepfcebkpnfaa
