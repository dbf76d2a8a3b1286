/- What the landed package tree tells of kinds, names, and of what may be, but for the arguments. -/
import Derived.Test.YtjhjdiaomnpkmaaDoorZL
import Derived.Test.YtjhjdiaomnpkmaaDoorZ00
import Derived.Test.YtjhjdiaomnpkmaaDoorZ01
import Derived.Test.YtjhjdiaomnpkmaaDoorZ03
import Derived.Test.YtjhjdiaomnpkmaaDoorZ05
import Derived.Test.YtjhjdiaomnpkmaaDoorZ07
namespace Go.Proofs.YtjhjdiaomnpkmaaDoor
open Go.RowKit Go.Lib
set_option linter.unusedVariables false
set_option linter.unusedSimpArgs false
set_option maxHeartbeats 1000000 in
theorem trow_any (k : Int) (w : World) :
    Calls Tryd.prog 48 #[.int .i64 k] w fun e w' => e = .returned (.tuple #[.string (B (wordK k)), .int .i64 (mostN k), .int .i64 (argsN k)]) ∧ w = w' := by
  rcases kinds k with h | ⟨k1, k2, k3, k4, k5, k6, k7, k8, k9, k10, k11, k12, ha, hm, _⟩
  · rcases h with rfl | rfl | rfl | rfl | rfl | rfl | rfl | rfl | rfl | rfl | rfl | rfl
    all_goals
      go_enter Tryd.func48, Tryd.ntmps48
      go_wp2_with (fail)
      go_ret3
      exact ⟨rfl, rfl⟩
  · have HE := Lib.hid (wordK_other ⟨k1, k2, k3, k5, k6, k7, k8, k9, k10, k11, k12⟩)
    have HA := Lib.hid ha
    have HM := Lib.hid hm
    clear ha hm
    go_enter Tryd.func48, Tryd.ntmps48
    go_wp2_with (fail)
    go_ret3
    exact ⟨by rw [HE.out, HA.out, HM.out]; rfl, rfl⟩
theorem trow_as (k : Int) (T : ByteArray) (m a : Int) (h : Hid (B (wordK k) = T ∧ mostN k = m ∧ argsN k = a)) (w : World) :
    Calls Tryd.prog 48 #[.int .i64 k] w fun e w' => e = .returned (.tuple #[.string T, .int .i64 m, .int .i64 a]) ∧ w = w' := by
  rw [← h.out.1, ← h.out.2.1, ← h.out.2.2]; exact trow_any k w
theorem tcond_any (k n : Int) (NM : ByteArray) (A : Option Addr) (m c : Nat) (w0 w : World) (hr : Rel w0 w) :
    Calls Tryd.prog 31 #[.agg #[.int .i64 k, .int .i64 n, .string NM, .slice A m c]] w fun e w' => e = .returned (.bool (isCond k)) ∧ Rel w0 w' := by
  have HA := Lib.hid (hr.alloc (.cells #[.int .i64 k, .int .i64 n, .string NM, .slice A m c] 46))
  cases h1 : (k == 11) <;> cases h2 : (k == 12)
  all_goals
    have HF := Lib.hid (show isCond k = (_ || _) from rfl)
    rw [h1, h2] at HF
    go_enter Tryd.func31, Tryd.ntmps31
    go_wp2_with (fail)
    go_ret
    exact ⟨ret_bool HF.out.symm, HA.out⟩
theorem tcond_as (k n : Int) (NM : ByteArray) (A : Option Addr) (m c : Nat) (b : Bool) (hb : Hid (isCond k = b)) (w0 w : World) (hr : Rel w0 w) :
    Calls Tryd.prog 31 #[.agg #[.int .i64 k, .int .i64 n, .string NM, .slice A m c]] w fun e w' => e = .returned (.bool b) ∧ Rel w0 w' := by
  rw [← hb.out]; exact tcond_any k n NM A m c w0 w hr
def namedB (k : Int) (nm : List UInt8) : Bool := if k = 3 then isName nm else decide (nm = [])
theorem tnamed_any (k n : Int) (nm : List UInt8) (hm : nm.length ≤ 100) (A : Option Addr) (m c : Nat) (w0 w : World) (hr : Rel w0 w) :
    Calls Tryd.prog 63 #[.agg #[.int .i64 k, .int .i64 n, .string (B nm), .slice A m c]] w fun e w' => e = .returned (.bool (namedB k nm)) ∧ Rel w0 w' := by
  have HA := Lib.hid (hr.alloc (.cells #[.int .i64 k, .int .i64 n, .string (B nm), .slice A m c] 46))
  by_cases hk : k = 3
  · subst hk
    have HF := Lib.hid (show namedB 3 nm = isName nm from rfl)
    go_enter Tryd.func63, Tryd.ntmps63
    go_wp2_with (go_at_call 55; (with_reducible refine (lname_list nm (by omega) _ _ HA.out.self).mono ?_); rintro e w2 ⟨rfl, h2⟩)
    go_ret
    exact ⟨ret_bool HF.out.symm, HA.out.trans h2⟩
  · have k3 : (k == 3) = false := by simpa using hk
    have HF := Lib.hid (show (B nm).toList.isEmpty = namedB k nm by unfold namedB; rw [if_neg hk, B_toList]; cases nm <;> rfl)
    clear hk
    go_enter Tryd.func63, Tryd.ntmps63
    go_wp2_with (fail)
    go_ret
    exact ⟨ret_bool HF.out, HA.out⟩
theorem tnamed_as (k n : Int) (nm : List UInt8) (hm : nm.length ≤ 100) (A : Option Addr) (m c : Nat) (b : Bool) (hb : Hid (namedB k nm = b)) (w0 w : World) (hr : Rel w0 w) :
    Calls Tryd.prog 63 #[.agg #[.int .i64 k, .int .i64 n, .string (B nm), .slice A m c]] w fun e w' => e = .returned (.bool b) ∧ Rel w0 w' := by
  rw [← hb.out]; exact tnamed_any k n nm hm A m c w0 w hr
/-- Is an expression as the table says, but for what its arguments are themselves? -/
def condsOk (k : Int) (l : List Ex) : Prop := ∀ i (h : i < l.length), isCond l[i].k = (decide (k = 10) && decide (i = 0))
def fitsP (k n : Int) (nm : List UInt8) (l : List Ex) : Prop := (0 ≤ n ∧ n ≤ mostN k) ∧ namedB k nm = true ∧ argsN k = (l.length : Int) ∧ condsOk k l
theorem named_iff (k : Int) (nm : List UInt8) : namedB k nm = true ↔ (nm ≠ [] ↔ k = 3) ∧ (k = 3 → isName nm = true) := by
  unfold namedB
  split
  · rename_i h
    constructor
    · intro hn
      exact ⟨⟨fun _ => h, fun _ => (name_parts hn).1⟩, fun _ => hn⟩
    · intro hn; exact hn.2 h
  · rename_i h
    constructor
    · intro hn
      have hn : nm = [] := of_decide_eq_true hn
      exact ⟨⟨fun e => absurd hn e, fun e => absurd e h⟩, fun e => absurd e h⟩
    · intro hn
      apply decide_eq_true
      rcases nm with _ | ⟨a, t⟩
      · rfl
      · exact absurd (hn.1.1 (by simp)) h
theorem fine_fits (d : Nat) (k n : Int) (nm : List UInt8) (l : List Ex) : fine (d + 1) (.mk k n nm l) = true ↔ fitsP k n nm l ∧ ∀ i (h : i < l.length), fine d l[i] = true := by
  constructor
  · intro h
    obtain ⟨h1, h2, h3, h4, h5⟩ := fine_parts h
    exact ⟨⟨h2, (named_iff k nm).2 ⟨h3, h4⟩, h1, fun i hi => (h5 i hi).1⟩, fun i hi => (h5 i hi).2⟩
  · rintro ⟨⟨h1, h2, h3, h4⟩, h5⟩
    obtain ⟨h6, h7⟩ := (named_iff k nm).1 h2
    exact fine_mk h3 h1 h6 h7 fun i hi => ⟨h4 i hi, h5 i hi⟩
set_option maxRecDepth 100000 in
set_option maxHeartbeats 4000000 in
theorem tfits_any (k n : Int) (nm : List UInt8) (l : List Ex) (hm : nm.length ≤ 100) (hl9 : l.length ≤ 1000000) (A : Option Addr) (c : Nat) (es : List El) (S : Nat → Prop) (w0 w : World) (hr : Rel w0 w) (hl : es.length = l.length) (HRow : Hid (RowE S w A es)) (HSub : Hid (∀ i (h : i < es.length) (h' : i < l.length), ExAt S w es[i] l[i]))
    (b : Bool) (hb : Hid (b = true ↔ fitsP k n nm l)) :
    Calls Tryd.prog 47 #[.agg #[.int .i64 k, .int .i64 n, .string (B nm), .slice A l.length c]] w fun e w' => e = .returned (.bool b) ∧ Rel w0 w' := by
  have HR := Lib.hid hr
  have HB := Lib.hid (Bk.new w 46 #[.int .i64 k, .int .i64 n, .string (B nm), .slice A l.length c])
  have HA := Lib.hid (hr.self.alloc (.cells #[.int .i64 k, .int .i64 n, .string (B nm), .slice A l.length c] 46))
  obtain ⟨T, hT⟩ : ∃ T, B (wordK k) = T := ⟨_, rfl⟩
  obtain ⟨m, hmn⟩ : ∃ m, mostN k = m := ⟨_, rfl⟩
  obtain ⟨a, ha⟩ : ∃ a, argsN k = a := ⟨_, rfl⟩
  have HRo := Lib.hid (And.intro hT (And.intro hmn ha))
  obtain ⟨bn, hbn⟩ : ∃ b, namedB k nm = b := ⟨_, rfl⟩
  have HBn := Lib.hid hbn
  have hno : ¬ ((0 ≤ n ∧ n ≤ m) ∧ bn = true ∧ a = (l.length : Int)) → b = false := fun hd => by
    cases b with
    | false => rfl
    | true =>
      obtain ⟨h1, h2, h3, _⟩ := hb.out.1 rfl
      exact absurd ⟨by rw [← hmn]; exact h1, by rw [← hbn]; exact h2, by rw [← ha]; exact h3⟩ hd
  have HNo := Lib.hid hno
  have HYes := Lib.hid (show ((0 ≤ n ∧ n ≤ m) ∧ bn = true ∧ a = (l.length : Int)) → (b = true ↔ condsOk k l) from fun hd => by
    rw [hb.out]
    constructor
    · exact fun h => h.2.2.2
    · exact fun h => ⟨by rw [hmn]; exact hd.1, by rw [hbn]; exact hd.2.1, by rw [ha]; exact hd.2.2, h⟩)
  obtain ⟨W, hW⟩ : ∃ W, w.alloc (.cells #[.int .i64 k, .int .i64 n, .string (B nm), .slice A l.length c] 46) = W := ⟨_, rfl⟩
  rw [hW] at HB HA
  have HW := Lib.hid hW
  have cc := HB.out.four.1
  obtain ⟨c0, c1, c2, c3⟩ := cc
  clear hW hT hmn ha hbn hno hr
  by_cases n1 : n < 0
  · have hbf := HNo.out (fun h => by omega)
    subst hbf
    go_enter Tryd.func47, Tryd.ntmps47
    go_wp2_with (go_at_call 48; (with_reducible refine (trow_as k T m a HRo _).mono ?_); rintro e w1 ⟨rfl, rfl⟩)
    go_ret
    exact ⟨rfl, by rw [HW.out]; exact HR.out.trans HA.out⟩
  · by_cases n2 : m < n
    · have hbf := HNo.out (fun h => by omega)
      subst hbf
      go_enter Tryd.func47, Tryd.ntmps47
      go_wp2_with (go_at_call 48; (with_reducible refine (trow_as k T m a HRo _).mono ?_); rintro e w1 ⟨rfl, rfl⟩)
      go_ret
      exact ⟨rfl, by rw [HW.out]; exact HR.out.trans HA.out⟩
    · cases bn with
      | false =>
        have hbf := HNo.out (fun h => by cases h.2.1)
        subst hbf
        go_enter Tryd.func47, Tryd.ntmps47
        go_wp2_with (first
          | (go_at_call 48; (with_reducible refine (trow_as k T m a HRo _).mono ?_); rintro e w1 ⟨rfl, rfl⟩; rw [HW.out])
          | (go_at_call 63; (with_reducible refine (tnamed_as k n nm hm A l.length c false HBn _ _ (HR.out.trans HA.out).self).mono ?_); rintro e w2 ⟨rfl, h2⟩; obtain ⟨⟨d0, d1, d2, d3⟩, _⟩ := (HB.out.rel h2).four))
        go_ret
        exact ⟨rfl, (HR.out.trans HA.out).trans h2⟩
      | true =>
        by_cases n4 : a = (l.length : Int)
        · have HCo := Lib.hid (HYes.out ⟨by omega, rfl, n4⟩)
          have q4 : ((l.length : Int) != a) = false := by simp [n4]
          go_enter Tryd.func47, Tryd.ntmps47
          go_wp2_with (first
            | (go_at_call 48; (with_reducible refine (trow_as k T m a HRo _).mono ?_); rintro e w1 ⟨rfl, rfl⟩; rw [HW.out])
            | (go_at_call 63; (with_reducible refine (tnamed_as k n nm hm A l.length c true HBn _ _ (HR.out.trans HA.out).self).mono ?_); rintro e w2 ⟨rfl, h2⟩; obtain ⟨⟨d0, d1, d2, d3⟩, _⟩ := (HB.out.rel h2).four))
          have HH2 := Lib.hid h2
          clear c0 c1 c2 c3 d0 d1 d2 d3 h2
          go_loopw [39] (fun i wr => ∃ j : Nat, j ≤ l.length ∧ i = .int .i64 (j : Int) ∧ Hid (∀ i (h : i < l.length), i < j → isCond l[i].k = (decide (k = 10) && decide (i = 0))) ∧ Rel w2 wr) (fun i _ => l.length - (RowKit.intOf i).toNat)
          case atStart => exact ⟨0, by omega, rfl, Lib.hid (fun i h hi => absurd hi (by omega)), ((HR.out.trans HA.out).trans HH2.out).self⟩
          case round =>
            obtain ⟨j, hj, rfl, HJ, hRw⟩ := hrel
            have HRw := Lib.hid hRw
            by_cases hlt : j < l.length
            · obtain ⟨g, off, k1, n1', nm1, A1, m1, c1', hA, a0, a1, a2, a3, hx⟩ := ExAt.arg HRow.out HSub.out hl ((HA.out.trans HH2.out).trans hRw) j hlt
              subst hA
              have hkx : l[j].k = k1 := by
                cases hlj : l[j] with
                | mk k' n' nm' l' =>
                  rw [hlj] at hx
                  obtain ⟨_, _, _, e, _⟩ := hx.open
                  injection e with e1
                  exact e1.symm
              obtain ⟨bc, hbc⟩ : ∃ b, isCond k1 = b := ⟨_, rfl⟩
              have HBc := Lib.hid hbc
              have HNx := Lib.hid (show bc = (decide (k = 10) && decide (j = 0)) → ∀ i (h : i < l.length), i < j + 1 → isCond l[i].k = (decide (k = 10) && decide (i = 0)) from fun hc i h hi => by
                rcases Nat.lt_or_ge i j with q | q
                · exact HJ.out i h q
                · obtain rfl : i = j := by omega
                  rw [hkx, hbc, hc])
              have HNo2 := Lib.hid (show bc ≠ (decide (k = 10) && decide (j = 0)) → b = false from fun hc => by
                cases b with
                | false => rfl
                | true =>
                  have := HCo.out.1 rfl j hlt
                  rw [hkx, hbc] at this
                  exact absurd this hc)
              clear hx hkx hbc
              have RV := (((HR.out.trans HA.out).trans HH2.out).trans hRw).self.alloc (.cells #[.int .i64 k1, .int .i64 n1', .string (B nm1), .slice A1 m1 c1'] 46)
              have HRV := Lib.hid RV
              obtain ⟨⟨e0, e1, e2, e3⟩, _⟩ := ((((HB.out.rel HH2.out).rel hRw).rel RV)).four
              have BX := Bk.new wr 46 #[.int .i64 k1, .int .i64 n1', .string (B nm1), .slice A1 m1 c1']
              have HBX := Lib.hid BX
              obtain ⟨⟨x0, x1, x2, x3⟩, _⟩ := BX.four
              have HW2 := Lib.hid (((HB.out.rel HH2.out).rel hRw).rel RV)
              clear RV BX
              go_wp2_with (fail)
              by_cases e10 : k = 10
              · by_cases ej : j = 0
                · skip
                  have k10 : (k == 10) = true := by simp [e10]
                  have kj : ((j : Int) == 0) = true := by simp [ej]
                  have hw : (decide (k = 10) && decide (j = 0)) = true := by simp [e10, ej]
                  rw [hw] at HNx HNo2
                  clear hw e10 ej
                  cases bc
                  · skip
                    have hbf := HNo2.out (by simp)
                    subst hbf
                    go_wp2_with (fail)
                    refine wp_region_held_drew (S := (fun w' => w'.cell? ⟨wr.heap.size, 0, none⟩ = some (.int .i64 k1) ∧ w'.cell? ⟨wr.heap.size, 1, none⟩ = some (.int .i64 n1') ∧ w'.cell? ⟨wr.heap.size, 2, none⟩ = some (.string (B nm1)) ∧ w'.cell? ⟨wr.heap.size, 3, none⟩ = some (.slice A1 m1 c1') ∧ w'.cell? ⟨w.heap.size, 0, none⟩ = some (.int .i64 k))) (by kernel_rfl) ⟨x0, x1, x2, x3, e0⟩ (fun hHeld => ?_)
                    refine held_take (i := 0) (v := ?_) (some 44) rfl rfl (by kernel_rfl) (by kernel_rfl) (by kernel_rfl) (fun _ _ _ h => h) (Or.inl ⟨by rfl, ?_⟩) hHeld ?_
                    rotate_left 1
                    · rintro w' ⟨s0, s1, s2, s3, s4⟩; go_simp; try with_reducible rfl
                    try simp only [Act.put, List.setIfInBounds_toArray, List.set_cons_zero, List.set_cons_succ]
                    refine held_take (i := 2) (v := ?_) (some 46) rfl rfl (by kernel_rfl) (by kernel_rfl) (by kernel_rfl) (fun _ _ _ h => h) (Or.inl ⟨by rfl, ?_⟩) hHeld ?_
                    rotate_left 1
                    · rintro w' ⟨s0, s1, s2, s3, s4⟩; go_simp; try with_reducible rfl
                    try simp only [Act.put, List.setIfInBounds_toArray, List.set_cons_zero, List.set_cons_succ]
                    refine held_take (i := 3) (v := ?_) (some 47) rfl rfl (by kernel_rfl) (by kernel_rfl) (by kernel_rfl) (fun _ _ _ h => h) (Or.inl ⟨by rfl, ?_⟩) hHeld ?_
                    rotate_left 1
                    · rintro w' ⟨s0, s1, s2, s3, s4⟩; go_simp; try with_reducible rfl
                    try simp only [Act.put, List.setIfInBounds_toArray, List.set_cons_zero, List.set_cons_succ]
                    refine held_take (i := 4) (v := ?_) (some 48) rfl rfl (by kernel_rfl) (by kernel_rfl) (by kernel_rfl) (fun _ _ _ h => h) (Or.inl ⟨by rfl, ?_⟩) hHeld ?_
                    rotate_left 1
                    · rintro w' ⟨s0, s1, s2, s3, s4⟩; go_simp; try with_reducible rfl
                    try simp only [Act.put, List.setIfInBounds_toArray, List.set_cons_zero, List.set_cons_succ]
                    refine held_one (j := 1) (by kernel_rfl) rfl (fun K hK => ?_)
                    try simp only [List.getElem_toArray, List.getElem_cons_succ, List.getElem_cons_zero]
                    rw [if_pos (by rfl)]
                    go_simp
                    go_at_call 31
                    (with_reducible refine (tcond_as k1 n1' (B nm1) A1 m1 c1' false HBc _ _ HRV.out.drew.self).mono ?_)
                    rintro e w3 ⟨rfl, h3⟩
                    obtain ⟨⟨f0, f1, f2, f3⟩, _⟩ := (HBX.out.drew.rel h3).four
                    obtain ⟨⟨g0, g1, g2, g3⟩, _⟩ := (HW2.out.drew.rel h3).four
                    refine hK.out _ _ ⟨f0, f1, f2, f3, g0⟩ (fun hHeld => ?_)
                    clear hK K
                    try simp only [Act.put, List.setIfInBounds_toArray, List.set_cons_zero, List.set_cons_succ]
                    refine held_take (i := 5) (v := ?_) (some 49) rfl rfl (by kernel_rfl) (by kernel_rfl) (by kernel_rfl) (fun _ _ _ h => h) (Or.inl ⟨by rfl, ?_⟩) hHeld ?_
                    rotate_left 1
                    · rintro w' ⟨s0, s1, s2, s3, s4⟩; go_simp; try with_reducible rfl
                    try simp only [Act.put, List.setIfInBounds_toArray, List.set_cons_zero, List.set_cons_succ]
                    refine held_take (i := 6) (v := ?_) (some 50) rfl rfl (by kernel_rfl) (by kernel_rfl) (by kernel_rfl) (fun _ _ _ h => h) (Or.inl ⟨by rfl, ?_⟩) hHeld ?_
                    rotate_left 1
                    · rintro w' ⟨s0, s1, s2, s3, s4⟩; go_simp; try with_reducible rfl
                    try simp only [Act.put, List.setIfInBounds_toArray, List.set_cons_zero, List.set_cons_succ]
                    refine held_take (i := 7) (v := ?_) (some 51) rfl rfl (by kernel_rfl) (by kernel_rfl) (by kernel_rfl) (fun _ _ _ h => h) (Or.inl ⟨by rfl, ?_⟩) hHeld ?_
                    rotate_left 1
                    · rintro w' ⟨s0, s1, s2, s3, s4⟩; go_simp; try with_reducible rfl
                    try simp only [Act.put, List.setIfInBounds_toArray, List.set_cons_zero, List.set_cons_succ]
                    refine held_take (i := 8) (v := ?_) (some 52) rfl rfl (by kernel_rfl) (by kernel_rfl) (by kernel_rfl) (fun _ _ _ h => h) (Or.inl ⟨by rfl, ?_⟩) hHeld ?_
                    rotate_left 1
                    · rintro w' ⟨s0, s1, s2, s3, s4⟩; go_simp; try with_reducible rfl
                    try simp only [Act.put, List.setIfInBounds_toArray, List.set_cons_zero, List.set_cons_succ]
                    refine held_take (i := 9) (v := ?_) (some 53) rfl rfl (by kernel_rfl) (by kernel_rfl) (by kernel_rfl) (fun _ _ _ h => h) (Or.inl ⟨by rfl, ?_⟩) hHeld ?_
                    rotate_left 1
                    · rintro w' ⟨s0, s1, s2, s3, s4⟩; go_simp; try with_reducible rfl
                    try simp only [Act.put, List.setIfInBounds_toArray, List.set_cons_zero, List.set_cons_succ]
                    refine wpAnyH_done (by kernel_rfl) ?_ _
                    go_wp2_with (fail)
                    go_ret
                    exact ⟨rfl, (((((HR.out.trans HA.out).trans HH2.out).trans HRw.out).trans HRV.out).drew).trans h3⟩
                  · skip
                    have HNx3 := Lib.hid (HNx.out rfl)
                    go_wp2_with (fail)
                    refine wp_region_held_drew (S := (fun w' => w'.cell? ⟨wr.heap.size, 0, none⟩ = some (.int .i64 k1) ∧ w'.cell? ⟨wr.heap.size, 1, none⟩ = some (.int .i64 n1') ∧ w'.cell? ⟨wr.heap.size, 2, none⟩ = some (.string (B nm1)) ∧ w'.cell? ⟨wr.heap.size, 3, none⟩ = some (.slice A1 m1 c1') ∧ w'.cell? ⟨w.heap.size, 0, none⟩ = some (.int .i64 k))) (by kernel_rfl) ⟨x0, x1, x2, x3, e0⟩ (fun hHeld => ?_)
                    refine held_take (i := 0) (v := ?_) (some 44) rfl rfl (by kernel_rfl) (by kernel_rfl) (by kernel_rfl) (fun _ _ _ h => h) (Or.inl ⟨by rfl, ?_⟩) hHeld ?_
                    rotate_left 1
                    · rintro w' ⟨s0, s1, s2, s3, s4⟩; go_simp; try with_reducible rfl
                    try simp only [Act.put, List.setIfInBounds_toArray, List.set_cons_zero, List.set_cons_succ]
                    refine held_take (i := 2) (v := ?_) (some 46) rfl rfl (by kernel_rfl) (by kernel_rfl) (by kernel_rfl) (fun _ _ _ h => h) (Or.inl ⟨by rfl, ?_⟩) hHeld ?_
                    rotate_left 1
                    · rintro w' ⟨s0, s1, s2, s3, s4⟩; go_simp; try with_reducible rfl
                    try simp only [Act.put, List.setIfInBounds_toArray, List.set_cons_zero, List.set_cons_succ]
                    refine held_take (i := 3) (v := ?_) (some 47) rfl rfl (by kernel_rfl) (by kernel_rfl) (by kernel_rfl) (fun _ _ _ h => h) (Or.inl ⟨by rfl, ?_⟩) hHeld ?_
                    rotate_left 1
                    · rintro w' ⟨s0, s1, s2, s3, s4⟩; go_simp; try with_reducible rfl
                    try simp only [Act.put, List.setIfInBounds_toArray, List.set_cons_zero, List.set_cons_succ]
                    refine held_take (i := 4) (v := ?_) (some 48) rfl rfl (by kernel_rfl) (by kernel_rfl) (by kernel_rfl) (fun _ _ _ h => h) (Or.inl ⟨by rfl, ?_⟩) hHeld ?_
                    rotate_left 1
                    · rintro w' ⟨s0, s1, s2, s3, s4⟩; go_simp; try with_reducible rfl
                    try simp only [Act.put, List.setIfInBounds_toArray, List.set_cons_zero, List.set_cons_succ]
                    refine held_one (j := 1) (by kernel_rfl) rfl (fun K hK => ?_)
                    try simp only [List.getElem_toArray, List.getElem_cons_succ, List.getElem_cons_zero]
                    rw [if_pos (by rfl)]
                    go_simp
                    go_at_call 31
                    (with_reducible refine (tcond_as k1 n1' (B nm1) A1 m1 c1' true HBc _ _ HRV.out.drew.self).mono ?_)
                    rintro e w3 ⟨rfl, h3⟩
                    obtain ⟨⟨f0, f1, f2, f3⟩, _⟩ := (HBX.out.drew.rel h3).four
                    obtain ⟨⟨g0, g1, g2, g3⟩, _⟩ := (HW2.out.drew.rel h3).four
                    refine hK.out _ _ ⟨f0, f1, f2, f3, g0⟩ (fun hHeld => ?_)
                    clear hK K
                    try simp only [Act.put, List.setIfInBounds_toArray, List.set_cons_zero, List.set_cons_succ]
                    refine held_take (i := 5) (v := ?_) (some 49) rfl rfl (by kernel_rfl) (by kernel_rfl) (by kernel_rfl) (fun _ _ _ h => h) (Or.inl ⟨by rfl, ?_⟩) hHeld ?_
                    rotate_left 1
                    · rintro w' ⟨s0, s1, s2, s3, s4⟩; go_simp; try with_reducible rfl
                    try simp only [Act.put, List.setIfInBounds_toArray, List.set_cons_zero, List.set_cons_succ]
                    refine held_take (i := 6) (v := ?_) (some 50) rfl rfl (by kernel_rfl) (by kernel_rfl) (by kernel_rfl) (fun _ _ _ h => h) (Or.inl ⟨by rfl, ?_⟩) hHeld ?_
                    rotate_left 1
                    · rintro w' ⟨s0, s1, s2, s3, s4⟩; go_simp; try with_reducible rfl
                    try simp only [Act.put, List.setIfInBounds_toArray, List.set_cons_zero, List.set_cons_succ]
                    refine held_take (i := 7) (v := ?_) (some 51) rfl rfl (by kernel_rfl) (by kernel_rfl) (by kernel_rfl) (fun _ _ _ h => h) (Or.inl ⟨by rfl, ?_⟩) hHeld ?_
                    rotate_left 1
                    · rintro w' ⟨s0, s1, s2, s3, s4⟩; go_simp; try with_reducible rfl
                    try simp only [Act.put, List.setIfInBounds_toArray, List.set_cons_zero, List.set_cons_succ]
                    refine held_take (i := 8) (v := ?_) (some 52) rfl rfl (by kernel_rfl) (by kernel_rfl) (by kernel_rfl) (fun _ _ _ h => h) (Or.inl ⟨by rfl, ?_⟩) hHeld ?_
                    rotate_left 1
                    · rintro w' ⟨s0, s1, s2, s3, s4⟩; go_simp; try with_reducible rfl
                    try simp only [Act.put, List.setIfInBounds_toArray, List.set_cons_zero, List.set_cons_succ]
                    refine held_take (i := 9) (v := ?_) (some 53) rfl rfl (by kernel_rfl) (by kernel_rfl) (by kernel_rfl) (fun _ _ _ h => h) (Or.inl ⟨by rfl, ?_⟩) hHeld ?_
                    rotate_left 1
                    · rintro w' ⟨s0, s1, s2, s3, s4⟩; go_simp; try with_reducible rfl
                    try simp only [Act.put, List.setIfInBounds_toArray, List.set_cons_zero, List.set_cons_succ]
                    refine wpAnyH_done (by kernel_rfl) ?_ _
                    go_wp2_with (fail)
                    go_roundw
                    case rel => exact ⟨j + 1, by omega, by go_num, HNx3, ((HRw.out.trans HRV.out).drew).trans h3⟩
                    case measure => simp [RowKit.intOf]; omega
                · skip
                  have k10 : (k == 10) = true := by simp [e10]
                  have kj : ((j : Int) == 0) = false := by simp [ej]
                  have hw : (decide (k = 10) && decide (j = 0)) = false := by simp [e10, ej]
                  rw [hw] at HNx HNo2
                  clear hw e10 ej
                  cases bc
                  · skip
                    have HNx3 := Lib.hid (HNx.out rfl)
                    go_wp2_with (fail)
                    refine wp_region_held_drew (S := (fun w' => w'.cell? ⟨wr.heap.size, 0, none⟩ = some (.int .i64 k1) ∧ w'.cell? ⟨wr.heap.size, 1, none⟩ = some (.int .i64 n1') ∧ w'.cell? ⟨wr.heap.size, 2, none⟩ = some (.string (B nm1)) ∧ w'.cell? ⟨wr.heap.size, 3, none⟩ = some (.slice A1 m1 c1') ∧ w'.cell? ⟨w.heap.size, 0, none⟩ = some (.int .i64 k))) (by kernel_rfl) ⟨x0, x1, x2, x3, e0⟩ (fun hHeld => ?_)
                    refine held_take (i := 0) (v := ?_) (some 44) rfl rfl (by kernel_rfl) (by kernel_rfl) (by kernel_rfl) (fun _ _ _ h => h) (Or.inl ⟨by rfl, ?_⟩) hHeld ?_
                    rotate_left 1
                    · rintro w' ⟨s0, s1, s2, s3, s4⟩; go_simp; try with_reducible rfl
                    try simp only [Act.put, List.setIfInBounds_toArray, List.set_cons_zero, List.set_cons_succ]
                    refine held_take (i := 2) (v := ?_) (some 46) rfl rfl (by kernel_rfl) (by kernel_rfl) (by kernel_rfl) (fun _ _ _ h => h) (Or.inl ⟨by rfl, ?_⟩) hHeld ?_
                    rotate_left 1
                    · rintro w' ⟨s0, s1, s2, s3, s4⟩; go_simp; try with_reducible rfl
                    try simp only [Act.put, List.setIfInBounds_toArray, List.set_cons_zero, List.set_cons_succ]
                    refine held_take (i := 3) (v := ?_) (some 47) rfl rfl (by kernel_rfl) (by kernel_rfl) (by kernel_rfl) (fun _ _ _ h => h) (Or.inl ⟨by rfl, ?_⟩) hHeld ?_
                    rotate_left 1
                    · rintro w' ⟨s0, s1, s2, s3, s4⟩; go_simp; try with_reducible rfl
                    try simp only [Act.put, List.setIfInBounds_toArray, List.set_cons_zero, List.set_cons_succ]
                    refine held_take (i := 4) (v := ?_) (some 48) rfl rfl (by kernel_rfl) (by kernel_rfl) (by kernel_rfl) (fun _ _ _ h => h) (Or.inl ⟨by rfl, ?_⟩) hHeld ?_
                    rotate_left 1
                    · rintro w' ⟨s0, s1, s2, s3, s4⟩; go_simp; try with_reducible rfl
                    try simp only [Act.put, List.setIfInBounds_toArray, List.set_cons_zero, List.set_cons_succ]
                    refine held_one (j := 1) (by kernel_rfl) rfl (fun K hK => ?_)
                    try simp only [List.getElem_toArray, List.getElem_cons_succ, List.getElem_cons_zero]
                    rw [if_pos (by rfl)]
                    go_simp
                    go_at_call 31
                    (with_reducible refine (tcond_as k1 n1' (B nm1) A1 m1 c1' false HBc _ _ HRV.out.drew.self).mono ?_)
                    rintro e w3 ⟨rfl, h3⟩
                    obtain ⟨⟨f0, f1, f2, f3⟩, _⟩ := (HBX.out.drew.rel h3).four
                    obtain ⟨⟨g0, g1, g2, g3⟩, _⟩ := (HW2.out.drew.rel h3).four
                    refine hK.out _ _ ⟨f0, f1, f2, f3, g0⟩ (fun hHeld => ?_)
                    clear hK K
                    try simp only [Act.put, List.setIfInBounds_toArray, List.set_cons_zero, List.set_cons_succ]
                    refine held_take (i := 5) (v := ?_) (some 49) rfl rfl (by kernel_rfl) (by kernel_rfl) (by kernel_rfl) (fun _ _ _ h => h) (Or.inl ⟨by rfl, ?_⟩) hHeld ?_
                    rotate_left 1
                    · rintro w' ⟨s0, s1, s2, s3, s4⟩; go_simp; try with_reducible rfl
                    try simp only [Act.put, List.setIfInBounds_toArray, List.set_cons_zero, List.set_cons_succ]
                    refine held_take (i := 6) (v := ?_) (some 50) rfl rfl (by kernel_rfl) (by kernel_rfl) (by kernel_rfl) (fun _ _ _ h => h) (Or.inl ⟨by rfl, ?_⟩) hHeld ?_
                    rotate_left 1
                    · rintro w' ⟨s0, s1, s2, s3, s4⟩; go_simp; try with_reducible rfl
                    try simp only [Act.put, List.setIfInBounds_toArray, List.set_cons_zero, List.set_cons_succ]
                    refine held_take (i := 7) (v := ?_) (some 51) rfl rfl (by kernel_rfl) (by kernel_rfl) (by kernel_rfl) (fun _ _ _ h => h) (Or.inl ⟨by rfl, ?_⟩) hHeld ?_
                    rotate_left 1
                    · rintro w' ⟨s0, s1, s2, s3, s4⟩; go_simp; try with_reducible rfl
                    try simp only [Act.put, List.setIfInBounds_toArray, List.set_cons_zero, List.set_cons_succ]
                    refine held_take (i := 8) (v := ?_) (some 52) rfl rfl (by kernel_rfl) (by kernel_rfl) (by kernel_rfl) (fun _ _ _ h => h) (Or.inl ⟨by rfl, ?_⟩) hHeld ?_
                    rotate_left 1
                    · rintro w' ⟨s0, s1, s2, s3, s4⟩; go_simp; try with_reducible rfl
                    try simp only [Act.put, List.setIfInBounds_toArray, List.set_cons_zero, List.set_cons_succ]
                    refine held_take (i := 9) (v := ?_) (some 53) rfl rfl (by kernel_rfl) (by kernel_rfl) (by kernel_rfl) (fun _ _ _ h => h) (Or.inl ⟨by rfl, ?_⟩) hHeld ?_
                    rotate_left 1
                    · rintro w' ⟨s0, s1, s2, s3, s4⟩; go_simp; try with_reducible rfl
                    try simp only [Act.put, List.setIfInBounds_toArray, List.set_cons_zero, List.set_cons_succ]
                    refine wpAnyH_done (by kernel_rfl) ?_ _
                    go_wp2_with (fail)
                    go_roundw
                    case rel => exact ⟨j + 1, by omega, by go_num, HNx3, ((HRw.out.trans HRV.out).drew).trans h3⟩
                    case measure => simp [RowKit.intOf]; omega
                  · skip
                    have hbf := HNo2.out (by simp)
                    subst hbf
                    go_wp2_with (fail)
                    refine wp_region_held_drew (S := (fun w' => w'.cell? ⟨wr.heap.size, 0, none⟩ = some (.int .i64 k1) ∧ w'.cell? ⟨wr.heap.size, 1, none⟩ = some (.int .i64 n1') ∧ w'.cell? ⟨wr.heap.size, 2, none⟩ = some (.string (B nm1)) ∧ w'.cell? ⟨wr.heap.size, 3, none⟩ = some (.slice A1 m1 c1') ∧ w'.cell? ⟨w.heap.size, 0, none⟩ = some (.int .i64 k))) (by kernel_rfl) ⟨x0, x1, x2, x3, e0⟩ (fun hHeld => ?_)
                    refine held_take (i := 0) (v := ?_) (some 44) rfl rfl (by kernel_rfl) (by kernel_rfl) (by kernel_rfl) (fun _ _ _ h => h) (Or.inl ⟨by rfl, ?_⟩) hHeld ?_
                    rotate_left 1
                    · rintro w' ⟨s0, s1, s2, s3, s4⟩; go_simp; try with_reducible rfl
                    try simp only [Act.put, List.setIfInBounds_toArray, List.set_cons_zero, List.set_cons_succ]
                    refine held_take (i := 2) (v := ?_) (some 46) rfl rfl (by kernel_rfl) (by kernel_rfl) (by kernel_rfl) (fun _ _ _ h => h) (Or.inl ⟨by rfl, ?_⟩) hHeld ?_
                    rotate_left 1
                    · rintro w' ⟨s0, s1, s2, s3, s4⟩; go_simp; try with_reducible rfl
                    try simp only [Act.put, List.setIfInBounds_toArray, List.set_cons_zero, List.set_cons_succ]
                    refine held_take (i := 3) (v := ?_) (some 47) rfl rfl (by kernel_rfl) (by kernel_rfl) (by kernel_rfl) (fun _ _ _ h => h) (Or.inl ⟨by rfl, ?_⟩) hHeld ?_
                    rotate_left 1
                    · rintro w' ⟨s0, s1, s2, s3, s4⟩; go_simp; try with_reducible rfl
                    try simp only [Act.put, List.setIfInBounds_toArray, List.set_cons_zero, List.set_cons_succ]
                    refine held_take (i := 4) (v := ?_) (some 48) rfl rfl (by kernel_rfl) (by kernel_rfl) (by kernel_rfl) (fun _ _ _ h => h) (Or.inl ⟨by rfl, ?_⟩) hHeld ?_
                    rotate_left 1
                    · rintro w' ⟨s0, s1, s2, s3, s4⟩; go_simp; try with_reducible rfl
                    try simp only [Act.put, List.setIfInBounds_toArray, List.set_cons_zero, List.set_cons_succ]
                    refine held_one (j := 1) (by kernel_rfl) rfl (fun K hK => ?_)
                    try simp only [List.getElem_toArray, List.getElem_cons_succ, List.getElem_cons_zero]
                    rw [if_pos (by rfl)]
                    go_simp
                    go_at_call 31
                    (with_reducible refine (tcond_as k1 n1' (B nm1) A1 m1 c1' true HBc _ _ HRV.out.drew.self).mono ?_)
                    rintro e w3 ⟨rfl, h3⟩
                    obtain ⟨⟨f0, f1, f2, f3⟩, _⟩ := (HBX.out.drew.rel h3).four
                    obtain ⟨⟨g0, g1, g2, g3⟩, _⟩ := (HW2.out.drew.rel h3).four
                    refine hK.out _ _ ⟨f0, f1, f2, f3, g0⟩ (fun hHeld => ?_)
                    clear hK K
                    try simp only [Act.put, List.setIfInBounds_toArray, List.set_cons_zero, List.set_cons_succ]
                    refine held_take (i := 5) (v := ?_) (some 49) rfl rfl (by kernel_rfl) (by kernel_rfl) (by kernel_rfl) (fun _ _ _ h => h) (Or.inl ⟨by rfl, ?_⟩) hHeld ?_
                    rotate_left 1
                    · rintro w' ⟨s0, s1, s2, s3, s4⟩; go_simp; try with_reducible rfl
                    try simp only [Act.put, List.setIfInBounds_toArray, List.set_cons_zero, List.set_cons_succ]
                    refine held_take (i := 6) (v := ?_) (some 50) rfl rfl (by kernel_rfl) (by kernel_rfl) (by kernel_rfl) (fun _ _ _ h => h) (Or.inl ⟨by rfl, ?_⟩) hHeld ?_
                    rotate_left 1
                    · rintro w' ⟨s0, s1, s2, s3, s4⟩; go_simp; try with_reducible rfl
                    try simp only [Act.put, List.setIfInBounds_toArray, List.set_cons_zero, List.set_cons_succ]
                    refine held_take (i := 7) (v := ?_) (some 51) rfl rfl (by kernel_rfl) (by kernel_rfl) (by kernel_rfl) (fun _ _ _ h => h) (Or.inl ⟨by rfl, ?_⟩) hHeld ?_
                    rotate_left 1
                    · rintro w' ⟨s0, s1, s2, s3, s4⟩; go_simp; try with_reducible rfl
                    try simp only [Act.put, List.setIfInBounds_toArray, List.set_cons_zero, List.set_cons_succ]
                    refine held_take (i := 8) (v := ?_) (some 52) rfl rfl (by kernel_rfl) (by kernel_rfl) (by kernel_rfl) (fun _ _ _ h => h) (Or.inl ⟨by rfl, ?_⟩) hHeld ?_
                    rotate_left 1
                    · rintro w' ⟨s0, s1, s2, s3, s4⟩; go_simp; try with_reducible rfl
                    try simp only [Act.put, List.setIfInBounds_toArray, List.set_cons_zero, List.set_cons_succ]
                    refine held_take (i := 9) (v := ?_) (some 53) rfl rfl (by kernel_rfl) (by kernel_rfl) (by kernel_rfl) (fun _ _ _ h => h) (Or.inl ⟨by rfl, ?_⟩) hHeld ?_
                    rotate_left 1
                    · rintro w' ⟨s0, s1, s2, s3, s4⟩; go_simp; try with_reducible rfl
                    try simp only [Act.put, List.setIfInBounds_toArray, List.set_cons_zero, List.set_cons_succ]
                    refine wpAnyH_done (by kernel_rfl) ?_ _
                    go_wp2_with (fail)
                    go_ret
                    exact ⟨rfl, (((((HR.out.trans HA.out).trans HH2.out).trans HRw.out).trans HRV.out).drew).trans h3⟩
              · skip
                have k10 : (k == 10) = false := by simp [e10]
                have hw : (decide (k = 10) && decide (j = 0)) = false := by simp [e10]
                rw [hw] at HNx HNo2
                clear hw e10
                cases bc
                · skip
                  have HNx3 := Lib.hid (HNx.out rfl)
                  go_wp2_with (fail)
                  refine wp_region_held_drew (S := (fun w' => w'.cell? ⟨wr.heap.size, 0, none⟩ = some (.int .i64 k1) ∧ w'.cell? ⟨wr.heap.size, 1, none⟩ = some (.int .i64 n1') ∧ w'.cell? ⟨wr.heap.size, 2, none⟩ = some (.string (B nm1)) ∧ w'.cell? ⟨wr.heap.size, 3, none⟩ = some (.slice A1 m1 c1') ∧ w'.cell? ⟨w.heap.size, 0, none⟩ = some (.int .i64 k))) (by kernel_rfl) ⟨x0, x1, x2, x3, e0⟩ (fun hHeld => ?_)
                  refine held_take (i := 0) (v := ?_) (some 44) rfl rfl (by kernel_rfl) (by kernel_rfl) (by kernel_rfl) (fun _ _ _ h => h) (Or.inl ⟨by rfl, ?_⟩) hHeld ?_
                  rotate_left 1
                  · rintro w' ⟨s0, s1, s2, s3, s4⟩; go_simp; try with_reducible rfl
                  try simp only [Act.put, List.setIfInBounds_toArray, List.set_cons_zero, List.set_cons_succ]
                  refine held_take (i := 2) (v := ?_) (some 46) rfl rfl (by kernel_rfl) (by kernel_rfl) (by kernel_rfl) (fun _ _ _ h => h) (Or.inl ⟨by rfl, ?_⟩) hHeld ?_
                  rotate_left 1
                  · rintro w' ⟨s0, s1, s2, s3, s4⟩; go_simp; try with_reducible rfl
                  try simp only [Act.put, List.setIfInBounds_toArray, List.set_cons_zero, List.set_cons_succ]
                  refine held_take (i := 3) (v := ?_) (some 47) rfl rfl (by kernel_rfl) (by kernel_rfl) (by kernel_rfl) (fun _ _ _ h => h) (Or.inl ⟨by rfl, ?_⟩) hHeld ?_
                  rotate_left 1
                  · rintro w' ⟨s0, s1, s2, s3, s4⟩; go_simp; try with_reducible rfl
                  try simp only [Act.put, List.setIfInBounds_toArray, List.set_cons_zero, List.set_cons_succ]
                  refine held_take (i := 4) (v := ?_) (some 48) rfl rfl (by kernel_rfl) (by kernel_rfl) (by kernel_rfl) (fun _ _ _ h => h) (Or.inl ⟨by rfl, ?_⟩) hHeld ?_
                  rotate_left 1
                  · rintro w' ⟨s0, s1, s2, s3, s4⟩; go_simp; try with_reducible rfl
                  try simp only [Act.put, List.setIfInBounds_toArray, List.set_cons_zero, List.set_cons_succ]
                  refine held_one (j := 1) (by kernel_rfl) rfl (fun K hK => ?_)
                  try simp only [List.getElem_toArray, List.getElem_cons_succ, List.getElem_cons_zero]
                  rw [if_pos (by rfl)]
                  go_simp
                  go_at_call 31
                  (with_reducible refine (tcond_as k1 n1' (B nm1) A1 m1 c1' false HBc _ _ HRV.out.drew.self).mono ?_)
                  rintro e w3 ⟨rfl, h3⟩
                  obtain ⟨⟨f0, f1, f2, f3⟩, _⟩ := (HBX.out.drew.rel h3).four
                  obtain ⟨⟨g0, g1, g2, g3⟩, _⟩ := (HW2.out.drew.rel h3).four
                  refine hK.out _ _ ⟨f0, f1, f2, f3, g0⟩ (fun hHeld => ?_)
                  clear hK K
                  try simp only [Act.put, List.setIfInBounds_toArray, List.set_cons_zero, List.set_cons_succ]
                  refine held_take (i := 5) (v := ?_) (some 49) rfl rfl (by kernel_rfl) (by kernel_rfl) (by kernel_rfl) (fun _ _ _ h => h) (Or.inl ⟨by rfl, ?_⟩) hHeld ?_
                  rotate_left 1
                  · rintro w' ⟨s0, s1, s2, s3, s4⟩; go_simp; try with_reducible rfl
                  try simp only [Act.put, List.setIfInBounds_toArray, List.set_cons_zero, List.set_cons_succ]
                  refine held_take (i := 6) (v := undef) (some 50) rfl rfl (by kernel_rfl) (by kernel_rfl) (by kernel_rfl) (fun _ _ _ h => h) (Or.inr ⟨by rfl, rfl⟩) hHeld ?_
                  try simp only [Act.put, List.setIfInBounds_toArray, List.set_cons_zero, List.set_cons_succ]
                  refine held_take (i := 7) (v := undef) (some 51) rfl rfl (by kernel_rfl) (by kernel_rfl) (by kernel_rfl) (fun _ _ _ h => h) (Or.inr ⟨by rfl, rfl⟩) hHeld ?_
                  try simp only [Act.put, List.setIfInBounds_toArray, List.set_cons_zero, List.set_cons_succ]
                  refine held_take (i := 8) (v := ?_) (some 52) rfl rfl (by kernel_rfl) (by kernel_rfl) (by kernel_rfl) (fun _ _ _ h => h) (Or.inl ⟨by rfl, ?_⟩) hHeld ?_
                  rotate_left 1
                  · rintro w' ⟨s0, s1, s2, s3, s4⟩; go_simp; try with_reducible rfl
                  try simp only [Act.put, List.setIfInBounds_toArray, List.set_cons_zero, List.set_cons_succ]
                  refine held_take (i := 9) (v := ?_) (some 53) rfl rfl (by kernel_rfl) (by kernel_rfl) (by kernel_rfl) (fun _ _ _ h => h) (Or.inl ⟨by rfl, ?_⟩) hHeld ?_
                  rotate_left 1
                  · rintro w' ⟨s0, s1, s2, s3, s4⟩; go_simp; try with_reducible rfl
                  try simp only [Act.put, List.setIfInBounds_toArray, List.set_cons_zero, List.set_cons_succ]
                  refine wpAnyH_done (by kernel_rfl) ?_ _
                  go_wp2_with (fail)
                  go_roundw
                  case rel => exact ⟨j + 1, by omega, by go_num, HNx3, ((HRw.out.trans HRV.out).drew).trans h3⟩
                  case measure => simp [RowKit.intOf]; omega
                · skip
                  have hbf := HNo2.out (by simp)
                  subst hbf
                  go_wp2_with (fail)
                  refine wp_region_held_drew (S := (fun w' => w'.cell? ⟨wr.heap.size, 0, none⟩ = some (.int .i64 k1) ∧ w'.cell? ⟨wr.heap.size, 1, none⟩ = some (.int .i64 n1') ∧ w'.cell? ⟨wr.heap.size, 2, none⟩ = some (.string (B nm1)) ∧ w'.cell? ⟨wr.heap.size, 3, none⟩ = some (.slice A1 m1 c1') ∧ w'.cell? ⟨w.heap.size, 0, none⟩ = some (.int .i64 k))) (by kernel_rfl) ⟨x0, x1, x2, x3, e0⟩ (fun hHeld => ?_)
                  refine held_take (i := 0) (v := ?_) (some 44) rfl rfl (by kernel_rfl) (by kernel_rfl) (by kernel_rfl) (fun _ _ _ h => h) (Or.inl ⟨by rfl, ?_⟩) hHeld ?_
                  rotate_left 1
                  · rintro w' ⟨s0, s1, s2, s3, s4⟩; go_simp; try with_reducible rfl
                  try simp only [Act.put, List.setIfInBounds_toArray, List.set_cons_zero, List.set_cons_succ]
                  refine held_take (i := 2) (v := ?_) (some 46) rfl rfl (by kernel_rfl) (by kernel_rfl) (by kernel_rfl) (fun _ _ _ h => h) (Or.inl ⟨by rfl, ?_⟩) hHeld ?_
                  rotate_left 1
                  · rintro w' ⟨s0, s1, s2, s3, s4⟩; go_simp; try with_reducible rfl
                  try simp only [Act.put, List.setIfInBounds_toArray, List.set_cons_zero, List.set_cons_succ]
                  refine held_take (i := 3) (v := ?_) (some 47) rfl rfl (by kernel_rfl) (by kernel_rfl) (by kernel_rfl) (fun _ _ _ h => h) (Or.inl ⟨by rfl, ?_⟩) hHeld ?_
                  rotate_left 1
                  · rintro w' ⟨s0, s1, s2, s3, s4⟩; go_simp; try with_reducible rfl
                  try simp only [Act.put, List.setIfInBounds_toArray, List.set_cons_zero, List.set_cons_succ]
                  refine held_take (i := 4) (v := ?_) (some 48) rfl rfl (by kernel_rfl) (by kernel_rfl) (by kernel_rfl) (fun _ _ _ h => h) (Or.inl ⟨by rfl, ?_⟩) hHeld ?_
                  rotate_left 1
                  · rintro w' ⟨s0, s1, s2, s3, s4⟩; go_simp; try with_reducible rfl
                  try simp only [Act.put, List.setIfInBounds_toArray, List.set_cons_zero, List.set_cons_succ]
                  refine held_one (j := 1) (by kernel_rfl) rfl (fun K hK => ?_)
                  try simp only [List.getElem_toArray, List.getElem_cons_succ, List.getElem_cons_zero]
                  rw [if_pos (by rfl)]
                  go_simp
                  go_at_call 31
                  (with_reducible refine (tcond_as k1 n1' (B nm1) A1 m1 c1' true HBc _ _ HRV.out.drew.self).mono ?_)
                  rintro e w3 ⟨rfl, h3⟩
                  obtain ⟨⟨f0, f1, f2, f3⟩, _⟩ := (HBX.out.drew.rel h3).four
                  obtain ⟨⟨g0, g1, g2, g3⟩, _⟩ := (HW2.out.drew.rel h3).four
                  refine hK.out _ _ ⟨f0, f1, f2, f3, g0⟩ (fun hHeld => ?_)
                  clear hK K
                  try simp only [Act.put, List.setIfInBounds_toArray, List.set_cons_zero, List.set_cons_succ]
                  refine held_take (i := 5) (v := ?_) (some 49) rfl rfl (by kernel_rfl) (by kernel_rfl) (by kernel_rfl) (fun _ _ _ h => h) (Or.inl ⟨by rfl, ?_⟩) hHeld ?_
                  rotate_left 1
                  · rintro w' ⟨s0, s1, s2, s3, s4⟩; go_simp; try with_reducible rfl
                  try simp only [Act.put, List.setIfInBounds_toArray, List.set_cons_zero, List.set_cons_succ]
                  refine held_take (i := 6) (v := undef) (some 50) rfl rfl (by kernel_rfl) (by kernel_rfl) (by kernel_rfl) (fun _ _ _ h => h) (Or.inr ⟨by rfl, rfl⟩) hHeld ?_
                  try simp only [Act.put, List.setIfInBounds_toArray, List.set_cons_zero, List.set_cons_succ]
                  refine held_take (i := 7) (v := undef) (some 51) rfl rfl (by kernel_rfl) (by kernel_rfl) (by kernel_rfl) (fun _ _ _ h => h) (Or.inr ⟨by rfl, rfl⟩) hHeld ?_
                  try simp only [Act.put, List.setIfInBounds_toArray, List.set_cons_zero, List.set_cons_succ]
                  refine held_take (i := 8) (v := ?_) (some 52) rfl rfl (by kernel_rfl) (by kernel_rfl) (by kernel_rfl) (fun _ _ _ h => h) (Or.inl ⟨by rfl, ?_⟩) hHeld ?_
                  rotate_left 1
                  · rintro w' ⟨s0, s1, s2, s3, s4⟩; go_simp; try with_reducible rfl
                  try simp only [Act.put, List.setIfInBounds_toArray, List.set_cons_zero, List.set_cons_succ]
                  refine held_take (i := 9) (v := ?_) (some 53) rfl rfl (by kernel_rfl) (by kernel_rfl) (by kernel_rfl) (fun _ _ _ h => h) (Or.inl ⟨by rfl, ?_⟩) hHeld ?_
                  rotate_left 1
                  · rintro w' ⟨s0, s1, s2, s3, s4⟩; go_simp; try with_reducible rfl
                  try simp only [Act.put, List.setIfInBounds_toArray, List.set_cons_zero, List.set_cons_succ]
                  refine wpAnyH_done (by kernel_rfl) ?_ _
                  go_wp2_with (fail)
                  go_ret
                  exact ⟨rfl, (((((HR.out.trans HA.out).trans HH2.out).trans HRw.out).trans HRV.out).drew).trans h3⟩
            · obtain rfl : j = l.length := by omega
              have hbt : b = true := HCo.out.2 (fun i h => HJ.out i h h)
              subst hbt
              go_wp2_with (fail)
              go_ret
              exact ⟨rfl, ((HR.out.trans HA.out).trans HH2.out).trans HRw.out⟩
        · have hbf := HNo.out (fun h => n4 h.2.2)
          subst hbf
          have q4 : ((l.length : Int) != a) = true := by simp; omega
          go_enter Tryd.func47, Tryd.ntmps47
          go_wp2_with (first
            | (go_at_call 48; (with_reducible refine (trow_as k T m a HRo _).mono ?_); rintro e w1 ⟨rfl, rfl⟩; rw [HW.out])
            | (go_at_call 63; (with_reducible refine (tnamed_as k n nm hm A l.length c true HBn _ _ (HR.out.trans HA.out).self).mono ?_); rintro e w2 ⟨rfl, h2⟩; obtain ⟨⟨d0, d1, d2, d3⟩, _⟩ := (HB.out.rel h2).four))
          go_ret
          exact ⟨rfl, (HR.out.trans HA.out).trans h2⟩
end Go.Proofs.YtjhjdiaomnpkmaaDoor
