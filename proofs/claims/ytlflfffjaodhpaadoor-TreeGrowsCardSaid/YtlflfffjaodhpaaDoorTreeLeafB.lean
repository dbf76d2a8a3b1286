/- What the landed package tree tells of what is the same. -/
import Derived.Test.YtlflfffjaodhpaaDoorTreeLeafA
import Derived.Test.YtlflfffjaodhpaaDoorTreeSame
namespace Go.Proofs.YtlflfffjaodhpaaDoor
open Go.RowKit Go.Lib
set_option linter.unusedVariables false
set_option linter.unusedSimpArgs false

theorem str_beq (a b : List UInt8) : ((B a).toList == (B b).toList) = decide (a = b) := by
  rw [B_toList, B_toList]
  by_cases h : a = b <;> simp [h]
def SameC (x : Ex) : Prop := ∀ (y : Ex) (S S' : Nat → Prop) (e e' : El) (b : Bool) (w0 w : World), Rel w0 w → ExAt S w e x → ExAt S' w e' y → size x ≤ 1000000 → size y ≤ 1000000 → Hid (b = true ↔ x = y) →
    Calls Tryd.prog 20 #[EV e, EV e'] w fun r w' => r = .returned (.bool b) ∧ Rel w0 w'
set_option maxRecDepth 100000 in
set_option maxHeartbeats 4000000 in
theorem teq_any (l l' : List Ex) (S S' : Nat → Prop) (A A' : Option Addr) (c c' : Nat) (es es' : List El) (b : Bool) (w0 w : World) (hr : Rel w0 w) (HIH : Hid (∀ j (hj : j < l.length), SameC l[j]))
    (hl : es.length = l.length) (hl' : es'.length = l'.length) (HRow : Hid (RowE S w A es)) (HRow' : Hid (RowE S' w A' es')) (HSub : Hid (∀ i (h : i < es.length) (h' : i < l.length), ExAt S w es[i] l[i])) (HSub' : Hid (∀ i (h : i < es'.length) (h' : i < l'.length), ExAt S' w es'[i] l'[i]))
    (hz : sizes l ≤ 1000000) (hz' : sizes l' ≤ 1000000) (hb : Hid (b = true ↔ l = l')) :
    Calls Tryd.prog 34 #[.slice A l.length c, .slice A' l'.length c', .func (.func 20) #[] #[]] w fun r w' => r = .returned (.bool b) ∧ Rel w0 w' := by
  have hll := len_le l
  have hll' := len_le l'
  have HR := Lib.hid hr
  by_cases d4 : l.length = l'.length
  · have q4 : ((l.length : Int) != (l'.length : Int)) = false := by simp [d4]
    have D4 := Lib.hid d4
    clear d4 hr
    go_enter Tryd.func34, Tryd.ntmps34
    go_wp2_with (fail)
    go_loopw [17] (fun i wr => ∃ j : Nat, j ≤ l.length ∧ i = .int .i64 (j : Int) ∧ Hid (∀ i (h : i < l.length) (h' : i < l'.length), i < j → l[i] = l'[i]) ∧ Rel w wr) (fun i _ => l.length - (RowKit.intOf i).toNat)
    case atStart => exact ⟨0, by omega, rfl, Lib.hid (fun i h h' hi => absurd hi (by omega)), HR.out.self⟩
    case round =>
      obtain ⟨j, hj, rfl, HJ, hRw⟩ := hrel
      have HRw := Lib.hid hRw
      by_cases hlt : j < l.length
      · have hlt' : j < l'.length := by have := D4.out; omega
        obtain ⟨g, off, k1, n1, nm1, A1, m1, c1', hA, a0, a1, a2, a3, ha⟩ := ExAt.arg HRow.out HSub.out hl hRw j hlt
        obtain ⟨g', off', k2, n2, nm2, A2, m2, c2', hA', a0', a1', a2', a3', ha'⟩ := ExAt.arg HRow'.out HSub'.out hl' hRw j hlt'
        subst hA; subst hA'
        have hs1 := size_mem (List.getElem_mem (l := l) (n := j) hlt)
        have hs2 := size_mem (List.getElem_mem (l := l') (n := j) hlt')
        have B1 := Bk.new wr 26 #[.int .i64 k1, .int .i64 n1, .string (B nm1), .slice A1 m1 c1']
        have B2 := Bk.snd wr #[.int .i64 k1, .int .i64 n1, .string (B nm1), .slice A1 m1 c1'] #[.int .i64 k2, .int .i64 n2, .string (B nm2), .slice A2 m2 c2'] 26 26
        have R2 := (((HR.out.trans hRw).self.alloc (.cells #[.int .i64 k1, .int .i64 n1, .string (B nm1), .slice A1 m1 c1'] 26)).alloc (.cells #[.int .i64 k2, .int .i64 n2, .string (B nm2), .slice A2 m2 c2'] 26))
        have HR2 := Lib.hid R2
        have g0 : ∀ {q : Nat} {v : Value}, wr.cell? ⟨g', q, none⟩ = some v → (wr.alloc (.cells #[.int .i64 k1, .int .i64 n1, .string (B nm1), .slice A1 m1 c1'] 26)).cell? ⟨g', q, none⟩ = some v := fun {q v} h => by
          have := blk_of_cell h
          exact (World.cell?_alloc_lt wr _ _ this).trans h
        have e0 := g0 a0'
        have e1 := g0 a1'
        have e2 := g0 a2'
        have e3 := g0 a3'
        obtain ⟨⟨x0, x1, x2, x3⟩, _⟩ := (B1.alloc (.cells #[.int .i64 k2, .int .i64 n2, .string (B nm2), .slice A2 m2 c2'] 26)).four
        obtain ⟨⟨y0, y1, y2, y3⟩, _⟩ := B2.four
        by_cases he : l[j] = l'[j]
        · have HC := Lib.hid (HIH.out j hlt l'[j] S S' (k1, n1, nm1, A1, m1, c1') (k2, n2, nm2, A2, m2, c2') true _ _ R2.self (ha.rel R2) (ha'.rel R2) (by omega) (by omega) (Lib.hid ⟨fun _ => he, fun _ => rfl⟩))
          have HNx := Lib.hid (show ∀ i (h : i < l.length) (h' : i < l'.length), i < j + 1 → l[i] = l'[i] from fun i h h' hi => by
            rcases Nat.lt_or_ge i j with q | q
            · exact HJ.out i h h' q
            · obtain rfl : i = j := by omega
              exact he)
          clear ha ha' he B1 B2 R2 g0
          go_wp2_with (go_at_call 20; (with_reducible refine HC.out.mono ?_); rintro e w2 ⟨rfl, h2⟩)
          go_roundw
          case rel => exact ⟨j + 1, by omega, by go_num, HNx, (HRw.out.trans HR2.out).trans h2⟩
          case measure => simp [RowKit.intOf]; omega
        · have HC := Lib.hid (HIH.out j hlt l'[j] S S' (k1, n1, nm1, A1, m1, c1') (k2, n2, nm2, A2, m2, c2') false _ _ R2.self (ha.rel R2) (ha'.rel R2) (by omega) (by omega) (Lib.hid ⟨(fun h => by cases h), fun h => absurd h he⟩))
          have hbf : b = false := by
            cases b with
            | false => rfl
            | true =>
              have e := hb.out.1 rfl
              subst e
              exact absurd rfl he
          subst hbf
          clear ha ha' he B1 B2 R2 g0
          go_wp2_with (go_at_call 20; (with_reducible refine HC.out.mono ?_); rintro e w2 ⟨rfl, h2⟩)
          go_ret
          exact ⟨rfl, ((HR.out.trans HRw.out).trans HR2.out).trans h2⟩
      · obtain rfl : j = l.length := by omega
        have hbt : b = true := hb.out.2 (lists_eq D4.out fun i h h' => HJ.out i h h' h)
        subst hbt
        go_wp2_with (fail)
        go_ret
        exact ⟨rfl, HR.out.trans HRw.out⟩
  · have q4 : ((l.length : Int) != (l'.length : Int)) = true := by simp; omega
    have hbf : b = false := by
      cases b with
      | false => rfl
      | true => exact absurd (by rw [hb.out.1 rfl]) d4
    subst hbf
    go_enter Tryd.func34, Tryd.ntmps34
    go_wp2_with (fail)
    go_ret
    exact ⟨rfl, HR.out⟩
set_option maxRecDepth 100000 in
set_option maxHeartbeats 4000000 in
theorem tsame_any : ∀ (x : Ex), SameC x := ex_ind fun k n nm l ih y S S' e e' b w0 w hr h h' hz hz' hb => by
  cases y with
  | mk k' n' nm' l' =>
    obtain ⟨A, c, es, rfl, hk, hn, hm, hl, hrow, hsub⟩ := h.open
    obtain ⟨A', c', es', rfl, hk', hn', hm', hl', hrow', hsub'⟩ := h'.open
    rw [size_mk] at hz hz'
    have HR := Lib.hid hr
    have RA := (hr.self.alloc (.cells #[.int .i64 k, .int .i64 n, .string (B nm), .slice A l.length c] 26)).alloc (.cells #[.int .i64 k', .int .i64 n', .string (B nm'), .slice A' l'.length c'] 26)
    have HA := Lib.hid RA
    have he := str_beq nm nm'
    have hno : (k ≠ k' ∨ n ≠ n' ∨ nm ≠ nm') → b = false := fun hd => by
      cases b with
      | false => rfl
      | true =>
        have := hb.out.1 rfl
        injection this with a1 a2 a3 a4
        rcases hd with h | h | h
        · exact absurd a1 h
        · exact absurd a2 h
        · exact absurd a3 h
    by_cases d1 : k = k'
    · by_cases d2 : n = n'
      · by_cases d3 : nm = nm'
        · subst d1; subst d2; subst d3
          have q1 : (k == k) = true := by simp
          have q2 : (n == n) = true := by simp
          have q3 : ((B nm).toList == (B nm).toList) = true := by simp
          have HC := Lib.hid (teq_any l l' S S' A A' c c' es es' b _ _ RA.self (Lib.hid (fun j hj => ih _ (List.getElem_mem (l := l) (n := j) hj))) hl hl' (Lib.hid (hrow.mono RA.size fun g hS hl => ⟨hS, RA.2.block g hl⟩)) (Lib.hid (hrow'.mono RA.size fun g hS hl => ⟨hS, RA.2.block g hl⟩))
            (Lib.hid fun i h h' => (hsub i h h').rel RA) (Lib.hid fun i h h' => (hsub' i h h').rel RA) (by omega) (by omega) (Lib.hid (by
              rw [hb.out]
              exact ⟨fun h => by injection h, fun h => by rw [h]⟩)))
          clear hrow hsub hrow' hsub' ih h h' hno RA he hr
          go_enter Tryd.func20, Tryd.ntmps20
          go_wp2_with (go_at_call 34; (with_reducible refine HC.out.mono ?_); rintro e w2 ⟨rfl, h2⟩)
          go_ret
          exact ⟨rfl, (HR.out.trans HA.out).trans h2⟩
        · subst d1; subst d2
          have q1 : (k == k) = true := by simp
          have q2 : (n == n) = true := by simp
          have q3 : ((B nm).toList == (B nm').toList) = false := by rw [he]; simp [d3]
          have hbf := hno (.inr (.inr d3))
          subst hbf
          clear he hrow hsub hrow' hsub' ih h h' hno RA hr
          go_enter Tryd.func20, Tryd.ntmps20
          go_wp2_with (fail)
          go_ret
          exact ⟨rfl, HR.out.trans HA.out⟩
      · subst d1
        have q1 : (k == k) = true := by simp
        have q2 : (n == n') = false := by simpa using d2
        have hbf := hno (.inr (.inl d2))
        subst hbf
        clear he hrow hsub hrow' hsub' ih h h' hno RA hr
        go_enter Tryd.func20, Tryd.ntmps20
        go_wp2_with (fail)
        go_ret
        exact ⟨rfl, HR.out.trans HA.out⟩
    · have q1 : (k == k') = false := by simpa using d1
      have hbf := hno (.inl d1)
      subst hbf
      clear he hrow hsub hrow' hsub' ih h h' hno RA hr
      go_enter Tryd.func20, Tryd.ntmps20
      go_wp2_with (fail)
      go_ret
      exact ⟨rfl, HR.out.trans HA.out⟩
end Go.Proofs.YtlflfffjaodhpaaDoor
