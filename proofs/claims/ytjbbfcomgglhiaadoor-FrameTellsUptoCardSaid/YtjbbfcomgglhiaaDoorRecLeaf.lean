/- Records as the walks meet them; which may be. -/
import Derived.Test.YtjbbfcomgglhiaaDoorBaseLeaf
import Derived.Test.YtjbbfcomgglhiaaDoorFrameMath
namespace Go.Proofs.YtjbbfcomgglhiaaDoor
open Go.RowKit Go.Lib
set_option linter.unusedVariables false
set_option linter.unusedSimpArgs false

/-- The cells from A on are these numbers. -/
def IntsAt (w : World) (A : Option Addr) (xs : List Int) : Prop := ∀ j (h : j < xs.length), ∃ a, A = some a ∧ a.block < w.heap.size ∧ w.cell? (a.add j) = some (.int .i64 xs[j])
theorem block_add (a : Addr) (n : Nat) : (a.add n).block = a.block := by unfold Addr.add; split <;> rfl
theorem IntsAt.below {w w' : World} {A : Option Addr} {xs : List Int} (h : IntsAt w A xs) (hb : Below w.heap.size w w') : IntsAt w' A xs := by
  intro j hj
  obtain ⟨a, e, hl, hc⟩ := h j hj
  exact ⟨a, e, by have := hb.size; omega, (hb.cell (p := a.add j) (by rw [block_add]; exact hl)).trans hc⟩
theorem IntsAt.rel {w w' : World} {A : Option Addr} {xs : List Int} (h : IntsAt w A xs) (hr : Rel w w') : IntsAt w' A xs := h.below hr.2
def okInt (n : Int) : Bool := decide (-1125899906842624 ≤ n ∧ n ≤ 1125899906842624)
def rtB (k : Int) (xs : List Int) (t : ByteArray) : Bool := xs.all okInt && (decide (1 ≤ k) && decide (k ≤ 255) && decide (xs.length ≤ 20) && decide (t.size ≤ 2000))
theorem all_snoc (xs : List Int) (j : Nat) (h : j < xs.length) : (xs.take (j + 1)).all okInt = ((xs.take j).all okInt && okInt xs[j]) := by
  rw [List.take_succ_eq_append_getElem h, List.all_append]; simp
theorem all_no (xs : List Int) (j : Nat) (h : j < xs.length) (hx : okInt xs[j] = false) : xs.all okInt = false := by
  rw [List.all_eq_false]
  exact ⟨xs[j], List.getElem_mem h, by simp [hx]⟩
theorem rtB_yes {k : Int} {xs : List Int} {t : ByteArray} (h : xs.all okInt = true) (c1 : 1 ≤ k) (c2 : k ≤ 255) (c3 : xs.length ≤ 20) (c4 : t.size ≤ 2000) : rtB k xs t = true := by
  unfold rtB; rw [h, decide_eq_true c1, decide_eq_true c2, decide_eq_true c3, decide_eq_true c4]; rfl
theorem rtB_no {k : Int} {xs : List Int} {t : ByteArray} (h : xs.all okInt = false ∨ ¬ 1 ≤ k ∨ ¬ k ≤ 255 ∨ ¬ xs.length ≤ 20 ∨ ¬ t.size ≤ 2000) : rtB k xs t = false := by
  unfold rtB
  rcases h with h | h | h | h | h
  · rw [h]; rfl
  · rw [decide_eq_false h]; simp
  · rw [decide_eq_false h]; simp
  · rw [decide_eq_false h]; simp
  · rw [decide_eq_false h]; simp
theorem okInt_iff {n : Int} : okInt n = true ↔ -1125899906842624 ≤ n ∧ n ≤ 1125899906842624 := by simp [okInt]
theorem rtB_iff {k : Int} {xs : List Int} {t : ByteArray} : rtB k xs t = true ↔ frRight (k, xs, t.data.toList) := by
  have e : t.data.toList.length = t.size := by simp
  constructor
  · intro h
    unfold rtB at h
    simp only [Bool.and_eq_true, decide_eq_true_eq] at h
    exact ⟨h.2.1.1.1, h.2.1.1.2, h.2.1.2, fun n hn => okInt_iff.1 (List.all_eq_true.1 h.1 n hn), by rw [e]; exact h.2.2⟩
  · rintro ⟨h1, h2, h3, h4, h5⟩
    exact rtB_yes (List.all_eq_true.2 fun n hn => okInt_iff.2 (h4 n hn)) h1 h2 h3 (by rw [← e]; exact h5)
def w64 (xs : List Int) : Prop := ∀ n ∈ xs, -9223372036854775808 ≤ n ∧ n ≤ 9223372036854775807
set_option maxHeartbeats 1000000 in
theorem rright_any (k : Int) (A : Option Addr) (cap : Nat) (xs : List Int) (t : ByteArray) (hl : xs.length ≤ 9223372036854775807) (ht : t.size ≤ 9223372036854775807) (w0 w : World) (hr : Rel w0 w) (hx : Hid (IntsAt w A xs)) :
    Calls Tryd.prog 14 #[.agg #[.int .i64 k, .slice A xs.length cap, .string t]] w fun e w' => e = .returned (.bool (rtB k xs t)) ∧ Rel w0 w' := by
  have hr1 := Lib.hid (hr.alloc (.cells #[.int .i64 k, .slice A xs.length cap, .string t] 24))
  go_enter Tryd.func14, Tryd.ntmps14
  go_wp2
  go_loop [3] (fun i => ∃ j : Nat, j ≤ xs.length ∧ i = .int .i64 j ∧ Hid ((xs.take j).all okInt = true)) (fun i => xs.length - (intOf i).toNat)
  case atStart => exact ⟨0, by omega, rfl, Lib.hid rfl⟩
  case round =>
    obtain ⟨j, hj, rfl, HJ⟩ := hrel
    by_cases hlt : j < xs.length
    · obtain ⟨a, rfl, hb, hc⟩ := hx.out j hlt
      have hc1 : (w.alloc (.cells #[.int .i64 k, .slice (some a) xs.length cap, .string t] 24)).cell? (a.add j) = some (.int .i64 xs[j]) :=
        (World.cell?_alloc_lt w _ _ (by rw [block_add]; exact hb)).trans hc
      obtain ⟨x, hX⟩ : ∃ x, xs[j] = x := ⟨_, rfl⟩
      rw [hX] at hc1
      have HX := Lib.hid hX
      clear hX hc
      have hs := Lib.hid (all_snoc xs j hlt)
      by_cases b1 : -1125899906842624 ≤ x
      · by_cases b2 : x ≤ 1125899906842624
        · go_wp2_with (fail)
          go_round
          case rel => exact ⟨j + 1, by omega, by go_num, Lib.hid (by rw [hs.out, HJ.out, HX.out]; simp [okInt, b1, b2])⟩
          case measure => simp [intOf]; omega
        · go_wp2_with (fail)
          go_ret
          exact ⟨ret_bool (by rw [rtB_no (.inl (all_no xs j hlt (by rw [HX.out]; simp [okInt]; omega)))]), hr1.out⟩
      · go_wp2_with (fail)
        go_ret
        exact ⟨ret_bool (by rw [rtB_no (.inl (all_no xs j hlt (by rw [HX.out]; simp [okInt]; omega)))]), hr1.out⟩
    · obtain rfl : j = xs.length := by omega
      have ha : xs.all okInt = true := by have := HJ.out; rwa [List.take_length] at this
      have HA := Lib.hid ha
      clear ha
      by_cases c1 : 1 ≤ k
      · by_cases c2 : k ≤ 255
        · by_cases c3 : xs.length ≤ 20
          · by_cases c4 : t.size ≤ 2000
            · go_wp2_with (fail)
              go_ret
              exact ⟨ret_bool (by rw [rtB_yes HA.out c1 c2 c3 c4]; try (first | rfl | (simp <;> omega))), hr1.out⟩
            · go_wp2_with (fail)
              go_ret
              exact ⟨ret_bool (by rw [rtB_no (.inr (.inr (.inr (.inr (by omega)))))]; try (first | rfl | (simp <;> omega))), hr1.out⟩
          · go_wp2_with (fail)
            go_ret
            exact ⟨ret_bool (by rw [rtB_no (.inr (.inr (.inr (.inl (by omega)))))]; try (first | rfl | (simp <;> omega))), hr1.out⟩
        · go_wp2_with (fail)
          go_ret
          exact ⟨ret_bool (by rw [rtB_no (.inr (.inr (.inl (by omega))))]; try (first | rfl | (simp <;> omega))), hr1.out⟩
      · go_wp2_with (fail)
        go_ret
        exact ⟨ret_bool (by rw [rtB_no (.inr (.inl (by omega)))]; try (first | rfl | (simp <;> omega))), hr1.out⟩
end Go.Proofs.YtjbbfcomgglhiaaDoor
