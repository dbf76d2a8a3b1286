/- The document's own answers of layer 9: which offers may be (Right). -/
import Derived.Test.YtfplhpkolcgpiaaZL
import Derived.Test.YtfplhpkolcgpiaaZ00
import Derived.Test.YtfplhpkolcgpiaaZ01
import Derived.Test.YtfplhpkolcgpiaaZ07
import Derived.Test.YtfplhpkolcgpiaaZ09
import Derived.Test.YtfplhpkolcgpiaaZ18
import Derived.Test.YtfplhpkolcgpiaaZ29
namespace Go.Proofs.Ytfplhpkolcgpiaa
open Go.RowKit Go.Lib
set_option linter.unusedVariables false
set_option linter.unusedSimpArgs false
theorem offsTo_step {os : List Of} {i : Nat} (hi : i < os.length) (h : offsTo os i = true) (h1 : offOk os[i] = true) (h2 : ∀ k (hk : k < os.length), k < i → os[k].1 ≠ os[i].1) : offsTo os (i + 1) = true := by
  rw [offsTo_iff (by omega)] at h ⊢
  intro j hj hji
  by_cases e : j = i
  · subst e; exact ⟨h1, h2⟩
  · exact h j hj (by omega)
theorem offs_bad {os : List Of} {i : Nat} (hi : i < os.length) (h : offOk os[i] = false ∨ ∃ k, ∃ hk : k < os.length, k < i ∧ os[k].1 = os[i].1) : offsOk os = false := by
  cases e : offsOk os
  · rfl
  · obtain ⟨_, h2⟩ := offs_iff.1 e
    obtain ⟨h3, h4⟩ := h2 i hi
    rcases h with h | ⟨k, hk, hki, he⟩
    · rw [h3] at h; cases h
    · exact absurd he (h4 k hk hki)
theorem offs_many {os : List Of} (h : 8 < os.length) : offsOk os = false := by
  cases e : offsOk os
  · rfl
  · have := (offs_iff.1 e).1; omega
theorem offs_full {os : List Of} (h : os.length ≤ 8) (h2 : offsTo os os.length = true) : offsOk os = true := by
  unfold offsOk; rw [h2]; simp [h]
theorem offOk_mk {o : Of} {s : List UInt8} {p : Int} (h : o = (s, p)) (b : Bool) (hb : (isName s && decide (1 ≤ p ∧ p ≤ 1000000000000)) = b) : offOk o = b := by subst h; exact hb
set_option maxRecDepth 100000 in
set_option maxHeartbeats 4000000 in
theorem rright9_any (A : Option Addr) (c : Nat) (os : List Of) (w0 w : World) (hr : Rel w0 w) (h : OffArg w A c os) :
    Calls Try.prog 26 #[.slice A os.length c] w fun e w' => e = .returned (.bool (offsOk os)) ∧ Rel w0 w' := by
  have HR := Lib.hid hr
  have HS := Lib.hid hr.self
  have HA := Lib.hid h.2.2.2
  have HF := Lib.hid h.2.2.1
  have hl : os.length ≤ 9223372036854775807 := by have := h.1; have := h.2.1; unfold maxLen at this; omega
  clear h hr
  by_cases h8 : 8 < os.length
  · have HB := Lib.hid (offs_many h8)
    have t1 : decide ((8 : Int) < (os.length : Int)) = true := decide_eq_true (by omega)
    go_enter Try.func26, Try.ntmps26
    go_wp2_with (fail)
    go_ret
    exact ⟨ret_bool HB.out.symm, HR.out⟩
  have t1 : decide ((8 : Int) < (os.length : Int)) = false := decide_eq_false (by omega)
  go_enter Try.func26, Try.ntmps26
  go_wp2_with (fail)
  go_loopw [3] (fun i wr => ∃ j : Nat, j ≤ os.length ∧ i = .int .i64 (j : Int) ∧ Hid (offsTo os j = true) ∧ Rel w wr) (fun i _ => os.length - (RowKit.intOf i).toNat)
  case atStart => exact ⟨0, by omega, rfl, Lib.hid rfl, HS.out⟩
  case round =>
    obtain ⟨i, hi, rfl, HN, hRw⟩ := hrel
    have HRw := Lib.hid hRw
    by_cases hlt : i < os.length
    · obtain ⟨g, off, s, p, rfl, c0, c1, ho⟩ := offs_at HA.out hRw i hlt
      have hs : s.length ≤ 9223372036854775807 := by have := (HF.out _ (List.getElem_mem hlt)).1; rw [ho] at this; exact this
      have HO := Lib.hid ho
      obtain ⟨X, hX⟩ : ∃ X, B s = X := ⟨_, rfl⟩
      obtain ⟨b, hb⟩ : ∃ b, isName s = b := ⟨_, rfl⟩
      have hC := fun (w0 w : World) (hr : Rel w0 w) => rname_list s (by omega) w0 w hr
      rw [hX, hb] at hC
      rw [hX] at c0
      have HC := Lib.hid hC
      have HX := Lib.hid hX
      have HBn := Lib.hid hb
      clear ho hC hX hb
      cases b with
      | false =>
        have HB := Lib.hid (offs_bad hlt (.inl (offOk_mk HO.out false (by rw [HBn.out]; rfl))))
        go_wp2_with (go_at_call 34; (with_reducible refine (HC.out _ _ HRw.out.self).mono ?_); rintro e w1 ⟨rfl, h1⟩)
        go_ret
        exact ⟨ret_bool HB.out.symm, (HR.out.trans HRw.out).trans h1⟩
      | true =>
        by_cases p1 : p < 1
        · have t2 : decide (p < 1) = true := decide_eq_true p1
          have HB := Lib.hid (offs_bad hlt (.inl (offOk_mk HO.out false (by rw [HBn.out]; simp; omega))))
          go_wp2_with (go_at_call 34; (with_reducible refine (HC.out _ _ HRw.out.self).mono ?_); rintro e w1 ⟨rfl, h1⟩; have c1 := (h1.2.cell (p := ⟨g, off + i * 2 + 1, none⟩) (blk_of_cell c1)).trans c1)
          go_ret
          exact ⟨ret_bool HB.out.symm, (HR.out.trans HRw.out).trans h1⟩
        · have t2 : decide (p < 1) = false := decide_eq_false p1
          by_cases p2 : 1000000000000 < p
          · have t3 : decide (1000000000000 < p) = true := decide_eq_true p2
            have HB := Lib.hid (offs_bad hlt (.inl (offOk_mk HO.out false (by rw [HBn.out]; simp; omega))))
            go_wp2_with (go_at_call 34; (with_reducible refine (HC.out _ _ HRw.out.self).mono ?_); rintro e w1 ⟨rfl, h1⟩; have c1 := (h1.2.cell (p := ⟨g, off + i * 2 + 1, none⟩) (blk_of_cell c1)).trans c1)
            go_ret
            exact ⟨ret_bool HB.out.symm, (HR.out.trans HRw.out).trans h1⟩
          · have t3 : decide (1000000000000 < p) = false := decide_eq_false p2
            have HOk := Lib.hid (offOk_mk HO.out true (by rw [HBn.out]; simp; omega))
            go_wp2_with (go_at_call 34; (with_reducible refine (HC.out _ _ HRw.out.self).mono ?_); rintro e w1 ⟨rfl, h1⟩; have c1 := (h1.2.cell (p := ⟨g, off + i * 2 + 1, none⟩) (blk_of_cell c1)).trans c1)
            have c0 := (h1.2.cell (p := ⟨g, off + i * 2, none⟩) (blk_of_cell c0)).trans c0
            have HR1 := Lib.hid h1
            clear t2 t3 p1 p2 h1
            go_loopw [4] (fun k wr => ∃ j : Nat, j ≤ i ∧ k = .int .i64 (j : Int) ∧ Hid (∀ k (hk : k < os.length), k < j → os[k].1 ≠ os[i].1) ∧ Rel w1 wr) (fun k _ => i - (RowKit.intOf k).toNat)
            case atStart => exact ⟨0, by omega, rfl, Lib.hid (fun k _ hk => absurd hk (by omega)), Rel.start HR1.out.tab⟩
            case round =>
              obtain ⟨j, hj, rfl, HM, hRi⟩ := hrel
              have HRi := Lib.hid hRi
              by_cases hlt2 : j < i
              · obtain ⟨g', off', s', p', e, d0, d1, ho2⟩ := offs_at HA.out ((HRw.out.trans HR1.out).trans hRi) j (by omega)
                injection e with e
                injection e with e1 e2
                subst e1
                subst e2
                have c0' := (hRi.2.cell (p := ⟨g, off + i * 2, none⟩) (blk_of_cell c0)).trans c0
                obtain ⟨Y, hY⟩ : ∃ Y, B s' = Y := ⟨_, rfl⟩
                rw [hY] at d0
                have HO2 := Lib.hid ho2
                have HY := Lib.hid hY
                have hji : (j : Int) < (i : Int) := by omega
                clear ho2 hRi hY d1
                by_cases he : X = Y
                · have k1 := list_of.2 he
                  have HB := Lib.hid (offs_bad hlt (.inr ⟨j, by omega, hlt2, by rw [HO.out, HO2.out]; show s' = s; rw [← B_list s', ← B_list s, HX.out, HY.out, he]⟩))
                  clear he
                  go_wp2_with (fail)
                  go_quiet (fail)
                  go_wp2_with (fail)
                  go_ret
                  exact ⟨ret_bool HB.out.symm, (((HR.out.trans HRw.out).trans HR1.out).trans HRi.out).drewN _⟩
                · have k1 := list_ne he
                  have HM2 : Hid (∀ k (hk : k < os.length), k < j + 1 → os[k].1 ≠ os[i].1) := Lib.hid (fun k hk hkj => by
                    by_cases e : k = j
                    · subst e
                      rw [HO.out, HO2.out]
                      show s' ≠ s
                      intro e; subst e; exact he (HX.out.symm.trans HY.out)
                    · exact HM.out k hk (by omega))
                  clear he
                  go_wp2_with (fail)
                  go_quiet (fail)
                  go_wp2_with (fail)
                  go_roundw
                  case rel => exact ⟨j + 1, by omega, by go_num, HM2, HRi.out.drewN _⟩
                  case measure => simp [RowKit.intOf]; omega
              · obtain rfl : j = i := by omega
                have HN2 := Lib.hid (offsTo_step hlt HN.out HOk.out HM.out)
                go_wp2_with (fail)
                go_roundw
                case rel => exact ⟨j + 1, by omega, by go_num, HN2, (HRw.out.trans HR1.out).trans HRi.out⟩
                case measure => simp [RowKit.intOf]; omega
    · obtain rfl : i = os.length := by omega
      have HB := Lib.hid (offs_full (by omega) HN.out)
      go_wp2_with (fail)
      go_ret
      exact ⟨ret_bool HB.out.symm, HR.out.trans HRw.out⟩
end Go.Proofs.Ytfplhpkolcgpiaa
