/- The document's own Same. -/
import Derived.Test.YtldopbkjchgcnaaDoorZ08
namespace Go.Proofs.YtldopbkjchgcnaaDoor
open Go.RowKit Go.Lib
set_option linter.unusedVariables false
set_option linter.unusedSimpArgs false

theorem str_bne (a b : List UInt8) : ((B a).toList != (B b).toList) = !(decide (a = b)) := by
  rw [B_toList, B_toList]
  by_cases h : a = b <;> simp [h]
theorem lists_eq {l l' : List Ex} (hl : l.length = l'.length) (h : ∀ i (h : i < l.length) (h' : i < l'.length), l[i] = l'[i]) : l = l' := List.ext_getElem hl h
set_option maxRecDepth 100000 in
set_option maxHeartbeats 4000000 in
theorem rsame_any : ∀ (x y : Ex) (S S' : Nat → Prop) (e e' : El) (b : Bool) (w0 w : World), Rel w0 w → ExAt S w e x → ExAt S' w e' y → size x ≤ 1000000 → size y ≤ 1000000 → Hid (b = true ↔ x = y) →
    Calls Tryd.prog 21 #[EV e, EV e'] w fun r w' => r = .returned (.bool b) ∧ Rel w0 w' := ex_ind fun k n nm l ih y S S' e e' b w0 w hr h h' hz hz' hb => by
  cases y with
  | mk k' n' nm' l' =>
    obtain ⟨A, c, es, rfl, hk, hn, hm, hl, hrow, hsub⟩ := h.open
    obtain ⟨A', c', es', rfl, hk', hn', hm', hl', hrow', hsub'⟩ := h'.open
    have len_le : ∀ l : List Ex, l.length ≤ sizes l := fun l => by
      induction l with
      | nil => simp
      | cons x t ih => rw [sizes_cons, List.length_cons]; have := size_pos x; omega
    rw [size_mk] at hz hz'
    have hll := len_le l
    have hll' := len_le l'
    have HRow := Lib.hid hrow
    have HSub := Lib.hid hsub
    have HRow' := Lib.hid hrow'
    have HSub' := Lib.hid hsub'
    have HIH := Lib.hid (fun j hj => ih _ (List.getElem_mem (l := l) (n := j) hj))
    have HR := Lib.hid hr
    have HB := Lib.hid ((Bk.new w 27 #[.int .i64 k, .int .i64 n, .string (B nm), .slice A l.length c]).alloc (.cells #[.int .i64 k', .int .i64 n', .string (B nm'), .slice A' l'.length c'] 27))
    have HB' := Lib.hid (Bk.snd w #[.int .i64 k, .int .i64 n, .string (B nm), .slice A l.length c] #[.int .i64 k', .int .i64 n', .string (B nm'), .slice A' l'.length c'] 27 27)
    have HA := Lib.hid ((hr.self.alloc (.cells #[.int .i64 k, .int .i64 n, .string (B nm), .slice A l.length c] 27)).alloc (.cells #[.int .i64 k', .int .i64 n', .string (B nm'), .slice A' l'.length c'] 27))
    have he := str_bne nm nm'
    have hno : (k ≠ k' ∨ n ≠ n' ∨ nm ≠ nm' ∨ l.length ≠ l'.length) → b = false := fun hd => by
      cases b with
      | false => rfl
      | true =>
        have := hb.out.1 rfl
        injection this with a1 a2 a3 a4
        rcases hd with h | h | h | h
        · exact absurd a1 h
        · exact absurd a2 h
        · exact absurd a3 h
        · exact absurd (by rw [a4]) h
    have HNo := Lib.hid hno
    clear hrow hsub hrow' hsub' ih h h' hno len_le
    by_cases d1 : k = k'
    · by_cases d2 : n = n'
      · by_cases d3 : nm = nm'
        · by_cases d4 : l.length = l'.length
          · subst d1; subst d2; subst d3
            have q1 : (k != k) = false := by simp
            have q2 : (n != n) = false := by simp
            have q3 : ((B nm).toList != (B nm).toList) = false := by simp
            have q4 : ((l.length : Int) != (l'.length : Int)) = false := by simp [d4]
            have HEq := Lib.hid (show (b = true ↔ l = l') by
              rw [hb.out]
              exact ⟨fun h => by injection h, fun h => by rw [h]⟩)
            clear he
            have D4 := Lib.hid d4
            clear d4
            go_enter Tryd.func21, Tryd.ntmps21
            go_wp2_with (fail)
            obtain ⟨W, hW⟩ : ∃ W, (w.alloc (.cells #[.int .i64 k, .int .i64 n, .string (B nm), .slice A l.length c] 27)).alloc (.cells #[.int .i64 k, .int .i64 n, .string (B nm), .slice A' l'.length c'] 27) = W := ⟨_, rfl⟩
            rw [hW] at HB HB' HA ⊢
            clear hW
            go_loopw [5] (fun i wr => ∃ j : Nat, j ≤ l.length ∧ i = .int .i64 (j : Int) ∧ Hid (∀ i (h : i < l.length) (h' : i < l'.length), i < j → l[i] = l'[i]) ∧ Rel W wr) (fun i _ => l.length - (RowKit.intOf i).toNat)
            case atStart => exact ⟨0, by omega, rfl, Lib.hid (fun i h h' hi => absurd hi (by omega)), (HR.out.trans HA.out).self⟩
            case round =>
              obtain ⟨j, hj, rfl, HJ, hRw⟩ := hrel
              obtain ⟨⟨c0, c1, c2, c3⟩, _⟩ := (HB.out.rel hRw).four
              obtain ⟨⟨b0, b1, b2, b3⟩, _⟩ := (HB'.out.rel hRw).four
              have HRw := Lib.hid hRw
              by_cases hlt : j < l.length
              · have hlt' : j < l'.length := by have := D4.out; omega
                obtain ⟨g, off, k1, n1, nm1, A1, m1, c1', hA, a0, a1, a2, a3, ha⟩ := ExAt.arg HRow.out HSub.out hl (HA.out.trans hRw) j hlt
                obtain ⟨g', off', k2, n2, nm2, A2, m2, c2', hA', a0', a1', a2', a3', ha'⟩ := ExAt.arg HRow'.out HSub'.out hl' (HA.out.trans hRw) j hlt'
                subst hA; subst hA'
                have hs1 := size_mem (List.getElem_mem (l := l) (n := j) hlt)
                have hs2 := size_mem (List.getElem_mem (l := l') (n := j) hlt')
                by_cases he : l[j] = l'[j]
                · have HC := Lib.hid (HIH.out j hlt _ S S' (k1, n1, nm1, A1, m1, c1') (k2, n2, nm2, A2, m2, c2') true wr.drew wr.drew ((HR.out.trans HA.out).trans hRw).drew.self (ha.rel ((HR.out.trans HA.out).trans hRw).self.drew) (ha'.rel ((HR.out.trans HA.out).trans hRw).self.drew) (by omega) (by omega) (Lib.hid ⟨fun _ => he, fun _ => rfl⟩))
                  have HNx := Lib.hid (show ∀ i (h : i < l.length) (h' : i < l'.length), i < j + 1 → l[i] = l'[i] from fun i h h' hi => by
                    rcases Nat.lt_or_ge i j with q | q
                    · exact HJ.out i h h' q
                    · obtain rfl : i = j := by omega
                      exact he)
                  clear ha ha' he
                  go_wp2_with (fail)
                  go_still_tail 10, (by kernel_rfl)
                  change wpList _ _ _ _ _ wr.drew
                  go_wp2_with (go_at_call 21; (with_reducible refine HC.out.mono ?_); rintro e w2 ⟨rfl, h2⟩)
                  go_roundw
                  case rel => exact ⟨j + 1, by omega, by go_num, HNx, HRw.out.drew.trans h2⟩
                  case measure => simp [RowKit.intOf]; omega
                · have HC := Lib.hid (HIH.out j hlt _ S S' (k1, n1, nm1, A1, m1, c1') (k2, n2, nm2, A2, m2, c2') false wr.drew wr.drew ((HR.out.trans HA.out).trans hRw).drew.self (ha.rel ((HR.out.trans HA.out).trans hRw).self.drew) (ha'.rel ((HR.out.trans HA.out).trans hRw).self.drew) (by omega) (by omega) (Lib.hid ⟨(fun h => by cases h), fun h => absurd h he⟩))
                  have hbf : b = false := by
                    cases b with
                    | false => rfl
                    | true =>
                      have e := HEq.out.1 rfl
                      subst e
                      exact absurd rfl he
                  subst hbf
                  clear ha ha' he
                  go_wp2_with (fail)
                  go_still_tail 10, (by kernel_rfl)
                  change wpList _ _ _ _ _ wr.drew
                  go_wp2_with (go_at_call 21; (with_reducible refine HC.out.mono ?_); rintro e w2 ⟨rfl, h2⟩)
                  go_ret
                  exact ⟨rfl, ((HR.out.trans HA.out).trans HRw.out).drew.trans h2⟩
              · obtain rfl : j = l.length := by omega
                have hbt : b = true := HEq.out.2 (lists_eq D4.out fun i h h' => HJ.out i h h' h)
                subst hbt
                go_wp2_with (fail)
                go_ret
                exact ⟨rfl, (HR.out.trans HA.out).trans HRw.out⟩
          · subst d1; subst d2; subst d3
            have q1 : (k != k) = false := by simp
            have q2 : (n != n) = false := by simp
            have q3 : ((B nm).toList != (B nm).toList) = false := by simp
            have q4 : ((l.length : Int) != (l'.length : Int)) = true := by simp; omega
            have hbf := HNo.out (.inr (.inr (.inr d4)))
            subst hbf
            clear he
            go_enter Tryd.func21, Tryd.ntmps21
            go_wp2_with (fail)
            go_ret
            exact ⟨rfl, HR.out.trans HA.out⟩
        · subst d1; subst d2
          have q1 : (k != k) = false := by simp
          have q2 : (n != n) = false := by simp
          have q3 : ((B nm).toList != (B nm').toList) = true := by rw [he]; simp [d3]
          have q3' : ((B nm).toList == (B nm').toList) = false := by rw [B_toList, B_toList]; simpa using d3
          have hbf := HNo.out (.inr (.inr (.inl d3)))
          subst hbf
          clear he
          go_enter Tryd.func21, Tryd.ntmps21
          go_wp2_with (fail)
          go_ret
          exact ⟨rfl, HR.out.trans HA.out⟩
      · subst d1
        have q1 : (k != k) = false := by simp
        have q2 : (n != n') = true := by simpa using d2
        have hbf := HNo.out (.inr (.inl d2))
        subst hbf
        clear he
        go_enter Tryd.func21, Tryd.ntmps21
        go_wp2_with (fail)
        go_ret
        exact ⟨rfl, HR.out.trans HA.out⟩
    · have q1 : (k != k') = true := by simpa using d1
      have hbf := HNo.out (.inl d1)
      subst hbf
      go_enter Tryd.func21, Tryd.ntmps21
      go_wp2_with (fail)
      go_ret
      exact ⟨rfl, HR.out.trans HA.out⟩
end Go.Proofs.YtldopbkjchgcnaaDoor
