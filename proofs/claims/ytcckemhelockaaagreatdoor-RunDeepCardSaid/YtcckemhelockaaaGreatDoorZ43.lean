/- The document's own answers of layer 10: which code may be run. -/
import Derived.Test.YtcckemhelockaaaGreatDoorZL
import Derived.Test.YtcckemhelockaaaGreatDoorZ00
import Derived.Test.YtcckemhelockaaaGreatDoorZ01
import Derived.Test.YtcckemhelockaaaGreatDoorZ02
import Derived.Test.YtcckemhelockaaaGreatDoorZ03
import Derived.Test.YtcckemhelockaaaGreatDoorZ36
namespace Go.Proofs.YtcckemhelockaaaGreatDoor
open Go.RowKit Go.Lib
set_option linter.unusedVariables false
set_option linter.unusedSimpArgs false
theorem to_not {o : Int} (h9 : o ≠ 9) (h12 : o ≠ 12) (h13 : o ≠ 13) : isTo o = false := by
  unfold isTo; simp [h9, h12, h13]
set_option maxRecDepth 100000 in
set_option maxHeartbeats 8000000 in
theorem rright10_any (A : Option Addr) (c : Nat) (l : List In) (w0 w : World) (hr : Rel w0 w) (h : InsArg w A c l) :
    Calls Tryz.prog 22 #[.slice A l.length c] w fun e w' => e = .returned (.bool (codeOk l)) ∧ Rel w0 w' := by
  have HR := Lib.hid hr
  have HS := Lib.hid hr.self
  have HA := Lib.hid h.2.2.2
  have HF := Lib.hid h.2.2.1
  have hl : l.length ≤ 9223372036854775807 := by have := h.1; have := h.2.1; unfold maxLen at this; omega
  clear h hr
  by_cases h5 : 5000 < l.length
  · have HB := Lib.hid (code_many h5)
    have t1 : decide ((5000 : Int) < (l.length : Int)) = true := decide_eq_true (by omega)
    go_enter Tryz.func22, Tryz.ntmps22
    go_wp2_with (fail)
    go_ret
    exact ⟨ret_bool HB.out.symm, HR.out⟩
  have t1 : decide ((5000 : Int) < (l.length : Int)) = false := decide_eq_false (by omega)
  go_enter Tryz.func22, Tryz.ntmps22
  go_wp2_with (fail)
  go_loopw [3] (fun i wr => ∃ j : Nat, j ≤ l.length ∧ i = .int .i64 (j : Int) ∧ Hid (okTo l j = true) ∧ Rel w wr) (fun i _ => l.length - (RowKit.intOf i).toNat)
  case atStart => exact ⟨0, by omega, rfl, Lib.hid rfl, HS.out⟩
  case round =>
    obtain ⟨i, hi, rfl, HN, hRw⟩ := hrel
    have HRw := Lib.hid hRw
    by_cases hlt : i < l.length
    · obtain ⟨g, off, o, n, nm, rfl, c0, c1, c2, ho⟩ := ins_at HA.out hRw i hlt
      have hs : nm.length ≤ 9223372036854775807 := by have := (HF.out _ (List.getElem_mem hlt)).2.2; rw [ho] at this; exact this
      have HO := Lib.hid ho
      have hw1 : IntKind.i64.wrap ((i : Int) + 1) = (i : Int) + 1 := IntWalk.i64_in _ (by omega)
      have HE := Lib.hid (inOk_eq l.length i o n nm)
      obtain ⟨L, hL⟩ : ∃ L, leastO i o = L := ⟨_, rfl⟩
      obtain ⟨M, hM⟩ : ∃ M, mostO l.length o = M := ⟨_, rfl⟩
      rw [hL, hM] at HE
      have HL := Lib.hid hL
      have HM := Lib.hid hM
      clear ho hRw hL hM
      go_upto_block 2 with (fail)
      go_cut [4, 5] (fun a b wx => a = .int .i64 L ∧ b = .int .i64 M ∧ wx = wr)
      case first =>
        by_cases e9 : o = 9
        · obtain ⟨q1, q2⟩ := to_is (.inl e9) i l.length
          have HL2 := Lib.hid (HL.out.symm.trans q1)
          have HM2 := Lib.hid (HM.out.symm.trans q2)
          have k1 : (o == 9) = true := by simpa using e9
          clear e9 q1 q2
          go_wp2_with (fail)
          go_meet
          exact ⟨by rw [HL2.out], by rw [HM2.out], rfl⟩
        · have k1 : (o == 9) = false := by simpa using e9
          by_cases e12 : o = 12
          · obtain ⟨q1, q2⟩ := to_is (.inr (.inl e12)) i l.length
            have HL2 := Lib.hid (HL.out.symm.trans q1)
            have HM2 := Lib.hid (HM.out.symm.trans q2)
            have k2 : (o == 12) = true := by simpa using e12
            clear e12 q1 q2 e9
            go_wp2_with (fail)
            go_meet
            exact ⟨by rw [HL2.out], by rw [HM2.out], rfl⟩
          · have k2 : (o == 12) = false := by simpa using e12
            by_cases e13 : o = 13
            · obtain ⟨q1, q2⟩ := to_is (.inr (.inr e13)) i l.length
              have HL2 := Lib.hid (HL.out.symm.trans q1)
              have HM2 := Lib.hid (HM.out.symm.trans q2)
              have k3 : (o == 13) = true := by simpa using e13
              clear e13 q1 q2 e9 e12
              go_wp2_with (fail)
              go_meet
              exact ⟨by rw [HL2.out], by rw [HM2.out], rfl⟩
            · have k3 : (o == 13) = false := by simpa using e13
              have ht := to_not e9 e12 e13
              have HL2 := Lib.hid (show L = 0 by rw [← HL.out]; unfold leastO; rw [if_neg (by simp [ht])])
              have hm : mostO l.length o = if o = 1 ∨ o = 5 then 1000000000000 else if o = 6 then 100000 else if o = 10 then 1000 else 0 := by unfold mostO; rw [if_neg (by simp [ht])]
              by_cases e1 : o = 1
              · have HM2 := Lib.hid (show M = 1000000000000 by rw [← HM.out, hm, if_pos (.inl e1)])
                have k4 : (o == 1) = true := by simpa using e1
                clear e1 e9 e12 e13 hm ht
                go_wp2_with (fail)
                go_meet
                exact ⟨by rw [HL2.out], by rw [HM2.out], rfl⟩
              · have k4 : (o == 1) = false := by simpa using e1
                by_cases e5 : o = 5
                · have HM2 := Lib.hid (show M = 1000000000000 by rw [← HM.out, hm, if_pos (.inr e5)])
                  have k5 : (o == 5) = true := by simpa using e5
                  clear e5 e1 e9 e12 e13 hm ht
                  go_wp2_with (fail)
                  go_meet
                  exact ⟨by rw [HL2.out], by rw [HM2.out], rfl⟩
                · have k5 : (o == 5) = false := by simpa using e5
                  have n15 : ¬ (o = 1 ∨ o = 5) := by omega
                  by_cases e6 : o = 6
                  · have HM2 := Lib.hid (show M = 100000 by rw [← HM.out, hm, if_neg n15, if_pos e6])
                    have k6 : (o == 6) = true := by simpa using e6
                    clear e6 e5 e1 e9 e12 e13 hm ht n15
                    go_wp2_with (fail)
                    go_meet
                    exact ⟨by rw [HL2.out], by rw [HM2.out], rfl⟩
                  · have k6 : (o == 6) = false := by simpa using e6
                    by_cases e10 : o = 10
                    · have HM2 := Lib.hid (show M = 1000 by rw [← HM.out, hm, if_neg n15, if_neg e6, if_pos e10])
                      have k7 : (o == 10) = true := by simpa using e10
                      clear e10 e6 e5 e1 e9 e12 e13 hm ht n15
                      go_wp2_with (fail)
                      go_meet
                      exact ⟨by rw [HL2.out], by rw [HM2.out], rfl⟩
                    · have k7 : (o == 10) = false := by simpa using e10
                      have HM2 := Lib.hid (show M = 0 by rw [← HM.out, hm, if_neg n15, if_neg e6, if_neg e10])
                      clear e10 e6 e5 e1 e9 e12 e13 hm ht n15
                      go_wp2_with (fail)
                      go_meet
                      exact ⟨by rw [HL2.out], by rw [HM2.out], rfl⟩
      obtain ⟨rfl, rfl, rfl⟩ := hcut
      by_cases p1 : o < 1
      · have k1 : decide (o < 1) = true := decide_eq_true p1
        have HB := Lib.hid (code_bad hlt HO.out (by rw [HE.out, decide_eq_false (by omega)]; rfl))
        go_wp2_with (fail)
        go_ret
        exact ⟨ret_bool HB.out.symm, HR.out.trans HRw.out⟩
      · have k1 : decide (o < 1) = false := decide_eq_false p1
        by_cases p2 : 13 < o
        · have k2 : decide (13 < o) = true := decide_eq_true p2
          have HB := Lib.hid (code_bad hlt HO.out (by rw [HE.out, decide_eq_false (by omega)]; rfl))
          go_wp2_with (fail)
          go_ret
          exact ⟨ret_bool HB.out.symm, HR.out.trans HRw.out⟩
        · have k2 : decide (13 < o) = false := decide_eq_false p2
          by_cases p3 : n < L
          · have k3 : decide (n < L) = true := decide_eq_true p3
            have HB := Lib.hid (code_bad hlt HO.out (by rw [HE.out, decide_eq_true (show 1 ≤ o ∧ o ≤ 13 by omega), decide_eq_false (show ¬ (L ≤ n ∧ n ≤ M) by omega)]; rfl))
            go_wp2_with (fail)
            go_ret
            exact ⟨ret_bool HB.out.symm, HR.out.trans HRw.out⟩
          · have k3 : decide (n < L) = false := decide_eq_false p3
            by_cases p4 : M < n
            · have k4 : decide (M < n) = true := decide_eq_true p4
              have HB := Lib.hid (code_bad hlt HO.out (by rw [HE.out, decide_eq_true (show 1 ≤ o ∧ o ≤ 13 by omega), decide_eq_false (show ¬ (L ≤ n ∧ n ≤ M) by omega)]; rfl))
              go_wp2_with (fail)
              go_ret
              exact ⟨ret_bool HB.out.symm, HR.out.trans HRw.out⟩
            · have k4 : decide (M < n) = false := decide_eq_false p4
              have HE2 := Lib.hid (show inOk l.length i (o, n, nm) = (if o = 4 then isName nm else decide (nm = [])) by rw [HE.out, decide_eq_true (show 1 ≤ o ∧ o ≤ 13 by omega), decide_eq_true (show L ≤ n ∧ n ≤ M by omega)]; rfl)
              clear p1 p2 p3 p4
              by_cases e4 : o = 4
              · have k5 : (o == 4) = true := by simpa using e4
                have k5' : (o != 4) = false := by simpa using e4
                obtain ⟨b, hb⟩ : ∃ b, isName nm = b := ⟨_, rfl⟩
                have hC := fun (w0 w : World) (hr : Rel w0 w) => rname_list nm (by omega) w0 w hr
                rw [hb] at hC
                have HC := Lib.hid hC
                have HE3 := Lib.hid (show inOk l.length i (o, n, nm) = b by rw [HE2.out, if_pos e4, hb])
                clear hC hb e4
                cases b with
                | false =>
                  have HB := Lib.hid (code_bad hlt HO.out HE3.out)
                  go_wp2_with (go_at_call 38; (with_reducible refine (HC.out _ _ HRw.out.self).mono ?_); rintro e w1 ⟨rfl, h1⟩)
                  go_ret
                  exact ⟨ret_bool HB.out.symm, (HR.out.trans HRw.out).trans h1⟩
                | true =>
                  have HN2 := Lib.hid (okTo_step hlt HO.out HN.out HE3.out)
                  go_wp2_with (go_at_call 38; (with_reducible refine (HC.out _ _ HRw.out.self).mono ?_); rintro e w1 ⟨rfl, h1⟩; have d0 := (h1.2.cell (p := ⟨g, off + i * 3, none⟩) (blk_of_cell c0)).trans c0)
                  go_roundw
                  case rel => exact ⟨i + 1, by omega, by go_num, HN2, HRw.out.trans h1⟩
                  case measure => simp [RowKit.intOf]; omega
              · have k5 : (o == 4) = false := by simpa using e4
                have k5' : (o != 4) = true := by simpa using e4
                obtain ⟨Y, hY⟩ : ∃ Y, B nm = Y := ⟨_, rfl⟩
                by_cases en : nm = []
                · have HE3 := Lib.hid (show inOk l.length i (o, n, nm) = true by rw [HE2.out, if_neg e4, decide_eq_true en])
                  have HN2 := Lib.hid (okTo_step hlt HO.out HN.out HE3.out)
                  obtain ⟨k6, k7⟩ : (Y.toList != []) = false ∧ (Y.toList == []) = true := by
                    rw [← hY, B_toList, en]; exact ⟨rfl, rfl⟩
                  rw [hY] at c2
                  clear e4 hY en
                  go_wp2_with (fail)
                  go_roundw
                  case rel => exact ⟨i + 1, by omega, by go_num, HN2, HRw.out⟩
                  case measure => simp [RowKit.intOf]; omega
                · have HE3 := Lib.hid (show inOk l.length i (o, n, nm) = false by rw [HE2.out, if_neg e4, decide_eq_false en])
                  have HB := Lib.hid (code_bad hlt HO.out HE3.out)
                  obtain ⟨k6, k7⟩ : (Y.toList != []) = true ∧ (Y.toList == []) = false := by
                    rw [← hY, B_toList]
                    cases nm with
                    | nil => exact absurd rfl en
                    | cons a t => exact ⟨rfl, rfl⟩
                  rw [hY] at c2
                  clear en e4 hY
                  go_wp2_with (fail)
                  go_ret
                  exact ⟨ret_bool HB.out.symm, HR.out.trans HRw.out⟩
    · obtain rfl : i = l.length := by omega
      have HB := Lib.hid (code_full (by omega) HN.out)
      go_wp2_with (fail)
      go_ret
      exact ⟨ret_bool HB.out.symm, HR.out.trans HRw.out⟩
end Go.Proofs.YtcckemhelockaaaGreatDoor
