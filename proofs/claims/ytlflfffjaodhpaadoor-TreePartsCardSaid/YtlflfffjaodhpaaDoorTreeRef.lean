/- The document's own readings of an expression: how many, how deep, which are the same. -/
import Derived.Test.YtlflfffjaodhpaaDoorTreeExpr
import Derived.Test.YtlflfffjaodhpaaDoorLexRef
namespace Go.Proofs.YtlflfffjaodhpaaDoor
open Go.RowKit Go.Lib
set_option linter.unusedVariables false
set_option linter.unusedSimpArgs false

theorem rcond_any (k : Int) (w : World) : Calls Tryd.prog 33 #[.int .i64 k] w fun e w' => e = .returned (.bool (isCond k)) ∧ w = w' := by
  cases h1 : (k == 11) <;> cases h2 : (k == 12)
  all_goals
    have HF := Lib.hid (show isCond k = (_ || _) from rfl)
    rw [h1, h2] at HF
    go_enter Tryd.func33, Tryd.ntmps33
    go_wp2_with (fail)
    go_ret
    exact ⟨ret_bool HF.out.symm, rfl⟩
theorem rmost_any (k : Int) (w : World) : Calls Tryd.prog 50 #[.int .i64 k] w fun e w' => e = .returned (.int .i64 (mostN k)) ∧ w = w' := by
  rcases kinds k with h | ⟨k1, k2, k3, k4, k5, k6, k7, k8, k9, k10, k11, k12, _, ha, _⟩
  · rcases h with rfl | rfl | rfl | rfl | rfl | rfl | rfl | rfl | rfl | rfl | rfl | rfl
    all_goals
      go_enter Tryd.func50, Tryd.ntmps50
      go_wp2_with (fail)
      go_ret
      exact ⟨rfl, rfl⟩
  · have HA := Lib.hid ha
    clear ha
    go_enter Tryd.func50, Tryd.ntmps50
    go_wp2_with (fail)
    go_ret
    exact ⟨ret_int HA.out.symm, rfl⟩
theorem sizes_take (l : List Ex) (j : Nat) (h : j < l.length) : sizes (l.take (j + 1)) = sizes (l.take j) + size l[j] := by
  rw [List.take_succ_eq_append_getElem h, sizes_append, sizes_cons, sizes_nil]; omega
theorem deeps_take (l : List Ex) (j : Nat) (h : j < l.length) : deeps (l.take (j + 1)) = max (deeps (l.take j)) (deep l[j]) := by
  rw [List.take_succ_eq_append_getElem h, deeps_append, deeps_cons, deeps_nil]; omega
/-- An argument, in the world of a round. -/
theorem ExAt.arg {S : Nat → Prop} {w wr : World} {A : Option Addr} {es : List El} {l : List Ex} (hrow : RowE S w A es) (hsub : ∀ i (h : i < es.length) (h' : i < l.length), ExAt S w es[i] l[i]) (hl : es.length = l.length) (hr : Rel w wr) (j : Nat) (hj : j < l.length) :
    ∃ (g off : Nat) (k n : Int) (nm : List UInt8) (A' : Option Addr) (m c : Nat), A = some ⟨g, off, none⟩ ∧ wr.cell? ⟨g, off + j * 4, none⟩ = some (.int .i64 k) ∧ wr.cell? ⟨g, off + j * 4 + 1, none⟩ = some (.int .i64 n) ∧ wr.cell? ⟨g, off + j * 4 + 2, none⟩ = some (.string (B nm)) ∧ wr.cell? ⟨g, off + j * 4 + 3, none⟩ = some (.slice A' m c) ∧ ExAt S wr (k, n, nm, A', m, c) l[j] := by
  obtain ⟨g, off, e, hl2, _, h0, h1, h2, h3⟩ := hrow j (by omega)
  have hs := (hsub j (by omega) hj).rel hr
  generalize es[j] = e0 at *
  obtain ⟨k, n, nm, A', m, c⟩ := e0
  have hk : ∀ i, wr.cell? ⟨g, i, none⟩ = w.cell? ⟨g, i, none⟩ := fun i => hr.2.cell (p := ⟨g, i, none⟩) hl2
  exact ⟨g, off, k, n, nm, A', m, c, e, by rw [hk]; exact h0, by rw [hk]; exact h1, by rw [hk]; exact h2, by rw [hk]; exact h3, hs⟩
theorem fine_arg {l : List Ex} {P : Ex → Prop} (h : ∀ x ∈ l, P x) (j : Nat) (hj : j < l.length) : P l[j] := h _ (List.getElem_mem hj)
set_option maxRecDepth 100000 in
set_option maxHeartbeats 2000000 in
theorem rsize_any : ∀ (x : Ex) (S : Nat → Prop) (e : El) (w0 w : World), Rel w0 w → ExAt S w e x → size x ≤ 1000000 →
    Calls Tryd.prog 17 #[EV e] w fun r w' => r = .returned (.int .i64 (size x : Int)) ∧ Rel w0 w' := ex_ind fun k n nm l ih S e w0 w hr h hz => by
  obtain ⟨A, c, es, rfl, hk, hn, hm, hl, hrow, hsub⟩ := h.open
  have HRow := Lib.hid hrow
  have HSub := Lib.hid hsub
  have HIH := Lib.hid (fun j hj => ih _ (List.getElem_mem (l := l) (n := j) hj))
  have HR := Lib.hid hr
  rw [size_mk] at hz
  have HZ := Lib.hid (size_mk k n nm l)
  have hll : l.length ≤ 1000000 := by
    have : ∀ l : List Ex, l.length ≤ sizes l := fun l => by
      induction l with
      | nil => simp
      | cons x t ih => rw [sizes_cons, List.length_cons]; have := size_pos x; omega
    have := this l; omega
  have HB := Lib.hid (Bk.new w 26 #[.int .i64 k, .int .i64 n, .string (B nm), .slice A l.length c])
  have HA := Lib.hid (hr.self.alloc (.cells #[.int .i64 k, .int .i64 n, .string (B nm), .slice A l.length c] 26))
  obtain ⟨W, hW⟩ : ∃ W, w.alloc (.cells #[.int .i64 k, .int .i64 n, .string (B nm), .slice A l.length c] 26) = W := ⟨_, rfl⟩
  rw [hW] at HB HA
  have HW := Lib.hid hW
  clear hrow hsub ih h hW
  go_enter Tryd.func17, Tryd.ntmps17
  go_wp2_with (fail)
  rw [HW.out]
  go_loopw [3, 4] (fun n i wr => ∃ j : Nat, j ≤ l.length ∧ i = .int .i64 (j : Int) ∧ Hid (n = .int .i64 ((1 + sizes (l.take j) : Nat) : Int)) ∧ Rel W wr) (fun _ i _ => l.length - (RowKit.intOf i).toNat)
  case atStart => exact ⟨0, by omega, rfl, Lib.hid (by simp [sizes_nil]), (HR.out.trans HA.out).self⟩
  case round =>
    obtain ⟨j, hj, rfl, HN, hRw⟩ := hrel
    have hb := HB.out.rel hRw
    obtain ⟨⟨c0, c1, c2, c3⟩, _⟩ := hb.four
    obtain ⟨q, hq⟩ : ∃ q : Nat, 1 + sizes (l.take j) = q := ⟨_, rfl⟩
    have hn' := HN.out
    rw [hq] at hn'
    subst hn'
    have HQ := Lib.hid hq
    have HRw := Lib.hid hRw
    clear hb hq
    by_cases hlt : j < l.length
    · obtain ⟨g, off, k', n', nm', A', m', c', hA, a0, a1, a2, a3, ha⟩ := ExAt.arg HRow.out HSub.out hl (HA.out.trans hRw) j hlt
      subst hA
      have hsz : size l[j] + q ≤ 1000000 := by
        have e1 := sizes_take l j hlt
        have e2 : sizes (l.take (j + 1)) ≤ sizes l := by
          have : sizes l = sizes (l.take (j + 1)) + sizes (l.drop (j + 1)) := by rw [← sizes_append, List.take_append_drop]
          omega
        have := HQ.out; omega
      obtain ⟨sj, hsj⟩ : ∃ s, size l[j] = s := ⟨_, rfl⟩
      have HNx := Lib.hid (show 1 + sizes (l.take (j + 1)) = q + sj by rw [sizes_take l j hlt, hsj]; have := HQ.out; omega)
      rw [hsj] at hsz
      have HC := Lib.hid (HIH.out j hlt S (k', n', nm', A', m', c') wr wr ((HR.out.trans HA.out).trans hRw).self ha (by rw [hsj]; omega))
      rw [hsj] at HC
      clear ha hsj
      go_wp2_with (go_at_call 17; (with_reducible refine HC.out.mono ?_); rintro e w2 ⟨rfl, h2⟩)
      go_roundw
      case rel => exact ⟨j + 1, by omega, by go_num, Lib.hid (by rw [HNx.out]; go_num), HRw.out.trans h2⟩
      case measure => simp [RowKit.intOf]; omega
    · obtain rfl : j = l.length := by omega
      have HF := Lib.hid (show size (.mk k n nm l) = q by have := HQ.out; rw [List.take_length] at this; rw [size_mk, this])
      go_wp2_with (fail)
      go_ret
      exact ⟨ret_int (by rw [HF.out]), (HR.out.trans HA.out).trans HRw.out⟩
set_option maxRecDepth 100000 in
set_option maxHeartbeats 2000000 in
theorem rdeep_any : ∀ (x : Ex) (S : Nat → Prop) (e : El) (w0 w : World), Rel w0 w → ExAt S w e x → size x ≤ 1000000 →
    Calls Tryd.prog 19 #[EV e] w fun r w' => r = .returned (.int .i64 (deep x : Int)) ∧ Rel w0 w' := ex_ind fun k n nm l ih S e w0 w hr h hz => by
  obtain ⟨A, c, es, rfl, hk, hn, hm, hl, hrow, hsub⟩ := h.open
  have HRow := Lib.hid hrow
  have HSub := Lib.hid hsub
  have HIH := Lib.hid (fun j hj => ih _ (List.getElem_mem (l := l) (n := j) hj))
  have HR := Lib.hid hr
  rw [size_mk] at hz
  have hll : l.length ≤ 1000000 := by
    have : ∀ l : List Ex, l.length ≤ sizes l := fun l => by
      induction l with
      | nil => simp
      | cons x t ih => rw [sizes_cons, List.length_cons]; have := size_pos x; omega
    have := this l; omega
  have HB := Lib.hid (Bk.new w 26 #[.int .i64 k, .int .i64 n, .string (B nm), .slice A l.length c])
  have HA := Lib.hid (hr.self.alloc (.cells #[.int .i64 k, .int .i64 n, .string (B nm), .slice A l.length c] 26))
  obtain ⟨W, hW⟩ : ∃ W, w.alloc (.cells #[.int .i64 k, .int .i64 n, .string (B nm), .slice A l.length c] 26) = W := ⟨_, rfl⟩
  rw [hW] at HB HA
  have HW := Lib.hid hW
  clear hrow hsub ih h hW
  go_enter Tryd.func19, Tryd.ntmps19
  go_wp2_with (fail)
  rw [HW.out]
  go_loopw [3, 4] (fun n i wr => ∃ j : Nat, j ≤ l.length ∧ i = .int .i64 (j : Int) ∧ Hid (n = .int .i64 ((deeps (l.take j) : Nat) : Int)) ∧ Rel W wr) (fun _ i _ => l.length - (RowKit.intOf i).toNat)
  case atStart => exact ⟨0, by omega, rfl, Lib.hid (by simp [deeps_nil]), (HR.out.trans HA.out).self⟩
  case round =>
    obtain ⟨j, hj, rfl, HN, hRw⟩ := hrel
    have hb := HB.out.rel hRw
    obtain ⟨⟨c0, c1, c2, c3⟩, _⟩ := hb.four
    obtain ⟨q, hq⟩ : ∃ q : Nat, deeps (l.take j) = q := ⟨_, rfl⟩
    have hn' := HN.out
    rw [hq] at hn'
    subst hn'
    have HQ := Lib.hid hq
    have HRw := Lib.hid hRw
    clear hb hq
    by_cases hlt : j < l.length
    · obtain ⟨g, off, k', n', nm', A', m', c', hA, a0, a1, a2, a3, ha⟩ := ExAt.arg HRow.out HSub.out hl (HA.out.trans hRw) j hlt
      subst hA
      have hsz : size l[j] ≤ 1000000 := by have := size_mem (List.getElem_mem (l := l) (n := j) hlt); omega
      have hdz : deep l[j] ≤ 1000000 := by have := deep_le_size l[j]; omega
      have hqz : q ≤ 1000000 := by
        have hd : ∀ m : List Ex, deeps m ≤ sizes m := fun m => by
          induction m with
          | nil => rw [deeps_nil]; omega
          | cons x t ih => rw [deeps_cons, sizes_cons]; have := deep_le_size x; omega
        have e1 := hd (l.take j)
        have e2 : sizes l = sizes (l.take j) + sizes (l.drop j) := by rw [← sizes_append, List.take_append_drop]
        have := HQ.out; omega
      obtain ⟨sj, hsj⟩ : ∃ s, deep l[j] = s := ⟨_, rfl⟩
      have HNx := Lib.hid (show ((deeps (l.take (j + 1)) : Nat) : Int) = max (q : Int) (sj : Int) by rw [deeps_take l j hlt, hsj, HQ.out]; omega)
      rw [hsj] at hdz
      have HC := Lib.hid (HIH.out j hlt S (k', n', nm', A', m', c') wr wr ((HR.out.trans HA.out).trans hRw).self ha hsz)
      rw [hsj] at HC
      clear ha hsj
      go_wp2_with (go_at_call 19; (with_reducible refine HC.out.mono ?_); rintro e w2 ⟨rfl, h2⟩)
      go_roundw
      case rel => exact ⟨j + 1, by omega, by go_num, Lib.hid (by rw [HNx.out]; congr 1; split <;> omega), HRw.out.trans h2⟩
      case measure => simp [RowKit.intOf]; omega
    · obtain rfl : j = l.length := by omega
      have HF := Lib.hid (show deep (.mk k n nm l) = q + 1 by have := HQ.out; rw [List.take_length] at this; rw [deep_mk, this])
      have hqz : q ≤ 1000000 := by
        have e1 := deep_le_size (.mk k n nm l)
        rw [HF.out, size_mk] at e1; omega
      go_wp2_with (fail)
      go_ret
      exact ⟨ret_int (by rw [HF.out]; go_num), (HR.out.trans HA.out).trans HRw.out⟩
end Go.Proofs.YtlflfffjaodhpaaDoor
