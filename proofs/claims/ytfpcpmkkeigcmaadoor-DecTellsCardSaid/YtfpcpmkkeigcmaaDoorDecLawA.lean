/- The walks of DecSigns and DecOrder. -/
import Derived.Test.YtfpcpmkkeigcmaaDoorDecAwake
import Derived.Test.YtfpcpmkkeigcmaaDoorDecMathC
namespace Go.Proofs.YtfpcpmkkeigcmaaDoor
open Go.RowKit Go.Lib
set_option linter.unusedVariables false
set_option linter.unusedSimpArgs false

theorem bd64 {a : Int} (h : (Lit.int .i64 a).wf = true) : -9223372036854775808 ≤ a ∧ a ≤ 9223372036854775807 := by
  have := bounds_i64 h; omega
theorem Rel.below {w0 w : World} (h : Rel w0 w) : Below w0.heap.size w0 w := h.2
theorem text_at (x A : Int) (h : x = A) (h0 : -9223372036854775808 ≤ x) (h1 : x ≤ 9223372036854775807) (w0 w : World) (hr : Rel w0 w) :
    Calls Tryd.prog 12 #[.int .i64 x] w fun e w' => e = .returned (.string (tx A)) ∧ Rel w0 w' := by subst h; exact text_any x h0 h1 w0 w hr
theorem num_at (x A : Int) (h : x = A) (h0 : -9223372036854775808 ≤ x) (h1 : x ≤ 9223372036854775807) (w0 w : World) (hr : Rel w0 w) :
    Calls Tryd.prog 14 #[.int .i64 x] w fun e w' => e = .returned (.string (num A)) ∧ Rel w0 w' := by subst h; exact num_any x h0 h1 w0 w hr
theorem dash_list (b : ByteArray) : ((⟨#[45]⟩ : ByteArray) ++ b).data.toList = 45 :: b.data.toList := by simp [ByteArray.data_append]
theorem dash2_list (b : ByteArray) : ((⟨#[45, 45]⟩ : ByteArray) ++ b).data.toList = 45 :: 45 :: b.data.toList := by simp [ByteArray.data_append]
theorem tx_list (a : Int) : (tx a).data.toList = txt a := B_list _
theorem sign1 {x : Int} (h : 1 ≤ x) (h' : x ≤ 1000000000000) : prs ((⟨#[45]⟩ : ByteArray) ++ tx x).data.toList = some (-x) := by
  have e := tx_neg (-x) (by omega) (by omega)
  rw [Int.neg_neg] at e
  rw [e, tx_list]
  exact prs_txt (rt_yes (by omega) (by omega))
theorem sign2 {x : Int} (h : 0 ≤ x) : prs ((⟨#[45, 45]⟩ : ByteArray) ++ tx x).data.toList = none := by
  rw [dash2_list]
  cases hp : prs (45 :: 45 :: (tx x).data.toList) with
  | none => rfl
  | some a =>
    exfalso
    have ht := (txt_of_prs hp).2
    unfold txt at ht
    split at ht
    · split at ht
      · have := pos_head a.natAbs
        simp only [List.cons.injEq, true_and] at ht
        rw [ht] at this
        exact this rfl
      · have := pos_head a.natAbs
        rw [ht] at this
        exact this rfl
    · cases ht
theorem sign0 : prs ((⟨#[45]⟩ : ByteArray) ++ tx 0).data.toList = none := by
  rw [dash_list, tx_list, show txt 0 = [48, 46, 48, 48] from (txt_of_prs (l := [48, 46, 48, 48]) (by decide)).2]
  decide
theorem num_dash {x : Int} (h : 1 ≤ x) : num (-x) = (⟨#[45]⟩ : ByteArray) ++ num x := by
  rw [num_pos x (by omega), ← num_neg (-x) (by omega), Int.neg_neg]
theorem p1 {l : List UInt8} {a : Int} (h : prs l = some a) : prs1 l = a := by unfold prs1; rw [h]; rfl
theorem p2 {l : List UInt8} {a : Int} (h : prs l = some a) : prs2 l = 0 := by unfold prs2; rw [h]; rfl
theorem q1 {l : List UInt8} (h : prs l = none) : prs1 l = 0 := by unfold prs1; rw [h]; rfl
theorem q2 {l : List UInt8} (h : prs l = none) : prs2 l = 20 := by unfold prs2; rw [h]; rfl
theorem app_size (a b : ByteArray) : (a ++ b).size = a.size + b.size := by simp
set_option maxHeartbeats 1000000 in
theorem DecSigns_walk (a0 : Int) (w : World) (w0 : (Lit.int .i64 a0).wf = true) (hT : Tab w) :
    Calls Tryd.prog 8 #[.int .i64 a0] w fun e w' => e = .returned (.bool true) ∧ Below w.heap.size w w' := by
  have hr := Rel.start hT
  obtain ⟨u0, u1⟩ := bd64 w0
  obtain ⟨p, hp⟩ : ∃ p, pk a0 1000000000000 = p := ⟨_, rfl⟩
  have hb := pk_bd a0 1000000000000 (by omega)
  rw [hp] at hb
  obtain ⟨b0, b1⟩ := hb
  have HP := Lib.hid hp
  clear hp
  have z1 := tx_size (1 + p)
  have z2 := tx_size 0
  have z3 := num_size (1 + p) (by omega) (by omega)
  have k1 : (⟨#[45]⟩ : ByteArray).size = 1 := rfl
  have k2 : (⟨#[45, 45]⟩ : ByteArray).size = 2 := rfl
  have y1 : ((⟨#[45]⟩ : ByteArray) ++ tx (1 + p)).size ≤ 100 := by rw [app_size, k1]; omega
  have y2 : ((⟨#[45, 45]⟩ : ByteArray) ++ tx (1 + p)).size ≤ 100 := by rw [app_size, k2]; omega
  have y3 : ((⟨#[45]⟩ : ByteArray) ++ tx 0).size ≤ 100 := by rw [app_size, k1]; omega
  clear k1 k2
  have S1 := sign1 (x := 1 + p) (by omega) (by omega)
  have S2 := sign2 (x := 1 + p) (by omega)
  have A1 := Lib.hid (p1 S1)
  have A2 := Lib.hid (p2 S1)
  have B1 := Lib.hid (q1 S2)
  have B2 := Lib.hid (q2 S2)
  have C1 := Lib.hid (q1 sign0)
  have C2 := Lib.hid (q2 sign0)
  clear S1 S2
  have T1 := Lib.hid (show tx (-(1 + p)) = (⟨#[45]⟩ : ByteArray) ++ tx (1 + p) by rw [← tx_neg (-(1 + p)) (by omega) (by omega), Int.neg_neg])
  have N1 := Lib.hid (num_dash (x := 1 + p) (by omega))
  go_enter Tryd.func8, Tryd.ntmps8
  go_wp2_with (first
    | (go_at_call 9; (with_reducible refine (awake_any _ _ hr).mono ?_); rintro e w' ⟨rfl, hr'⟩)
    | (go_at_call 11; (with_reducible refine (int_at p (pick_any _ _ u0 u1 (by omega) (by omega) _) HP).mono ?_); rintro e w' ⟨rfl, rfl⟩)
    | (go_at_call 16; (first | (with_reducible refine (two_at _ _ (parse_any _ (by omega) _ _ (by assumption)) A1 A2).mono ?_) | (with_reducible refine (two_at _ _ (parse_any _ (by omega) _ _ (by assumption)) B1 B2).mono ?_) | (with_reducible refine (two_at _ _ (parse_any _ (by omega) _ _ (by assumption)) C1 C2).mono ?_)); rintro e w' ⟨rfl, hr'⟩)
    | (go_at_call 12; (first | (with_reducible refine (str_at _ (text_at _ (-(1 + p)) (by omega) (by omega) (by omega) _ _ (by assumption)) T1).mono ?_) | (with_reducible refine (text_any _ (by omega) (by omega) _ _ (by assumption)).mono ?_)); rintro e w' ⟨rfl, hr'⟩)
    | (go_at_call 14; (first | (with_reducible refine (str_at _ (num_at _ (-(1 + p)) (by omega) (by omega) (by omega) _ _ (by assumption)) N1).mono ?_) | (with_reducible refine (num_any _ (by omega) (by omega) _ _ (by assumption)).mono ?_)); rintro e w' ⟨rfl, hr'⟩))
  go_ret
  exact ⟨rfl, Rel.below (by assumption)⟩
theorem ord_four {u : Int} (h : 0 ≤ u) (h' : u ≤ 1000000000000) : 4 ≤ (tx u).size := by
  unfold tx; rw [B_size, txt_pos h h']; exact pos_four _
theorem ord_le {u v : Int} (h : 0 ≤ u) (h' : v ≤ 1000000000000) (hh : u ≤ v) : (tx u).size ≤ (tx v).size := by
  unfold tx; rw [B_size, B_size, txt_pos h (by omega), txt_pos (by omega) h']; exact pos_mono (by omega)
theorem ord_lt {u v : Int} (h : 0 ≤ u) (h' : v ≤ 1000000000000) (hh : u < v) (he : (tx u).size = (tx v).size) : Op.bytesLess (tx u).toList (tx v).toList = true := by
  unfold tx at he ⊢
  rw [B_size, B_size] at he
  rw [B_toList, B_toList]
  rw [txt_pos h (by omega), txt_pos (by omega) h'] at he ⊢
  exact pos_less (by omega) he
theorem ord_ne {u v : Int} (h : 0 ≤ u) (h' : v ≤ 1000000000000) (hh : u < v) : ((tx u).toList == (tx v).toList) = false := by
  unfold tx
  rw [B_toList, B_toList, beq_eq_false_iff_ne]
  intro e
  have := txt_inj (rt_yes (by omega) (by omega)) (rt_yes (by omega) (by omega)) e
  omega
set_option maxHeartbeats 1000000 in
theorem DecOrder_walk (a0 a1 : Int) (w : World) (w0 : (Lit.int .i64 a0).wf = true) (w1 : (Lit.int .i64 a1).wf = true) (hT : Tab w) :
    Calls Tryd.prog 7 #[.int .i64 a0, .int .i64 a1] w fun e w' => e = .returned (.bool true) ∧ Below w.heap.size w w' := by
  have hr := Rel.start hT
  obtain ⟨u0, u1⟩ := bd64 w0
  obtain ⟨u2, u3⟩ := bd64 w1
  obtain ⟨p, hp⟩ : ∃ p, pk a0 1000000000001 = p := ⟨_, rfl⟩
  obtain ⟨q, hq⟩ : ∃ q, pk a1 1000000000001 = q := ⟨_, rfl⟩
  have hb := pk_bd a0 1000000000001 (by omega)
  have hb' := pk_bd a1 1000000000001 (by omega)
  rw [hp] at hb
  rw [hq] at hb'
  obtain ⟨b0, b1⟩ := hb
  obtain ⟨b2, b3⟩ := hb'
  have HP := Lib.hid hp
  have HQ := Lib.hid hq
  clear hp hq
  by_cases hpq : p = q
  · subst hpq
    have L1 := less_irr (tx p).toList
    have z1 := ord_four b0 (by omega)
    have z2 := tx_size p
    go_enter Tryd.func7, Tryd.ntmps7
    go_wp2_with (first
      | (go_at_call 9; (with_reducible refine (awake_any _ _ hr).mono ?_); rintro e w' ⟨rfl, hr'⟩)
      | (go_at_call 11; (first | (with_reducible refine (int_at p (pick_any a0 _ u0 u1 (by omega) (by omega) _) HP).mono ?_) | (with_reducible refine (int_at p (pick_any a1 _ u2 u3 (by omega) (by omega) _) HQ).mono ?_)); rintro e w' ⟨rfl, rfl⟩)
      | (go_at_call 12; (with_reducible refine (text_at _ p (by omega) (by omega) (by omega) _ _ (by assumption)).mono ?_); rintro e w' ⟨rfl, hr'⟩))
    go_ret
    exact ⟨rfl, Rel.below (by assumption)⟩
  · obtain ⟨lo, hlo⟩ : ∃ lo, lo = min p q := ⟨_, rfl⟩
    obtain ⟨hi, hhi⟩ : ∃ hi, hi = max p q := ⟨_, rfl⟩
    have hne : (p == q) = false := by simpa using hpq
    have hne' : (p != q) = true := by simpa using hpq
    have c0 : 0 ≤ lo := by omega
    have c1 : lo < hi := by omega
    have c2 : hi ≤ 1000000000000 := by omega
    have HLO := Lib.hid hlo
    have HHI := Lib.hid hhi
    clear hlo hhi hpq
    have z1 := ord_four c0 (by omega)
    have z2 := tx_size lo
    have z3 := tx_size hi
    have z4 := ord_le c0 c2 (by omega)
    have L2 := ord_ne c0 c2 c1
    by_cases he : (tx lo).size < (tx hi).size
    · have he' : ((tx lo).size : Int) < ((tx hi).size : Int) := by omega
      go_enter Tryd.func7, Tryd.ntmps7
      go_wp2_with (first
        | (go_at_call 9; (with_reducible refine (awake_any _ _ hr).mono ?_); rintro e w' ⟨rfl, hr'⟩)
        | (go_at_call 11; (first | (with_reducible refine (int_at p (pick_any a0 _ u0 u1 (by omega) (by omega) _) HP).mono ?_) | (with_reducible refine (int_at q (pick_any a1 _ u2 u3 (by omega) (by omega) _) HQ).mono ?_)); rintro e w' ⟨rfl, rfl⟩)
        | (go_at_call 12; (first | (with_reducible refine (text_at _ lo (by have := HLO.out; omega) (by omega) (by omega) _ _ (by assumption)).mono ?_) | (with_reducible refine (text_at _ hi (by have := HHI.out; omega) (by omega) (by omega) _ _ (by assumption)).mono ?_)); rintro e w' ⟨rfl, hr'⟩))
      go_ret
      exact ⟨rfl, Rel.below (by assumption)⟩
    · have L1 := ord_lt c0 c2 c1 (by omega)
      have he' : ¬ ((tx lo).size : Int) < ((tx hi).size : Int) := by omega
      go_enter Tryd.func7, Tryd.ntmps7
      go_wp2_with (first
        | (go_at_call 9; (with_reducible refine (awake_any _ _ hr).mono ?_); rintro e w' ⟨rfl, hr'⟩)
        | (go_at_call 11; (first | (with_reducible refine (int_at p (pick_any a0 _ u0 u1 (by omega) (by omega) _) HP).mono ?_) | (with_reducible refine (int_at q (pick_any a1 _ u2 u3 (by omega) (by omega) _) HQ).mono ?_)); rintro e w' ⟨rfl, rfl⟩)
        | (go_at_call 12; (first | (with_reducible refine (text_at _ lo (by have := HLO.out; omega) (by omega) (by omega) _ _ (by assumption)).mono ?_) | (with_reducible refine (text_at _ hi (by have := HHI.out; omega) (by omega) (by omega) _ _ (by assumption)).mono ?_)); rintro e w' ⟨rfl, hr'⟩))
      go_ret
      exact ⟨rfl, Rel.below (by assumption)⟩
end Go.Proofs.YtfpcpmkkeigcmaaDoor
