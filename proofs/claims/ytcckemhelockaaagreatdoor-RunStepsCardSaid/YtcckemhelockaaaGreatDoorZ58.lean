/- Plain mathematics of layer 11: what code tells. No program in this text; Plain mathematics of layer 11: order, steps, a deep stack. No program in this text; RunSteps, over what the program is asked. -/
import Derived.Test.YtcckemhelockaaaGreatDoorZL
import Derived.Test.YtcckemhelockaaaGreatDoorZ00
import Derived.Test.YtcckemhelockaaaGreatDoorZ01
import Derived.Test.YtcckemhelockaaaGreatDoorZ02
import Derived.Test.YtcckemhelockaaaGreatDoorZ03
import Derived.Test.YtcckemhelockaaaGreatDoorZ18
import Derived.Test.YtcckemhelockaaaGreatDoorZ28
import Derived.Test.YtcckemhelockaaaGreatDoorZ37
import Derived.Test.YtcckemhelockaaaGreatDoorZ38
namespace Go.Proofs.YtcckemhelockaaaGreatDoor
open Go.Lib
set_option linter.unusedVariables false
set_option linter.unusedSimpArgs false
/-- Steps are at most as many as there are instructions. -/
theorem play_steps (l : List Of) (c : List In) : ∀ (f at_ : Nat) (s : Ms) (n : Nat), n ≤ (playM l c f at_ s n).2 ∧ (playM l c f at_ s n).2 ≤ n + f := by
  intro f
  induction f with
  | zero => intro at_ s n; exact ⟨Nat.le_refl _, Nat.le_refl _⟩
  | succ f ih =>
    intro at_ s n
    rw [playM]
    cases c[at_]? with
    | none => simp only; omega
    | some x =>
      simp only
      split
      · have := ih (stepM l x at_ s).1 (stepM l x at_ s).2 (n + 1); omega
      · simp only; omega
theorem steps_le {l : List Of} {c : List In} : stepsS l c ≤ c.length := by
  unfold stepsS
  split
  · have := (play_steps l c (c.length - 0) 0 ([], 0) 0).2
    unfold goM; omega
  · omega
end Go.Proofs.YtcckemhelockaaaGreatDoor

namespace Go.Proofs.YtcckemhelockaaaGreatDoor
open Go.Lib
set_option linter.unusedVariables false
set_option linter.unusedSimpArgs false
theorem step_plain (l : List Of) {x : In} (h : isTo x.1 = false) (at_ : Nat) (s : Ms) : (stepM l x at_ s).1 = at_ + 1 := by
  have h9 : x.1 ≠ 9 := fun e => by rw [e] at h; cases h
  have h12 : x.1 ≠ 12 := fun e => by rw [e] at h; cases h
  have h13 : x.1 ≠ 13 := fun e => by rw [e] at h; cases h
  unfold stepM
  rw [if_neg h9, if_neg h12, if_neg h13]
  repeat' split
  all_goals rfl
/-- Where nothing leads anywhere, and nothing is wrong, all are done. -/
theorem play_all (l : List Of) {c : List In} (h : ∀ x ∈ c, isTo x.1 = false) : ∀ (f at_ : Nat) (s : Ms) (n : Nat), c.length - at_ ≤ f → (playM l c f at_ s n).1.2 = 0 → (playM l c f at_ s n).2 = n + (c.length - at_) := by
  intro f
  induction f with
  | zero => intro at_ s n h1 _; show n = _; omega
  | succ f ih =>
    intro at_ s n h1 h2
    by_cases hl : at_ < c.length
    · rw [playM, List.getElem?_eq_getElem hl] at h2 ⊢
      simp only at h2 ⊢
      by_cases he : s.2 = 0
      · rw [if_pos he] at h2 ⊢
        have hp := step_plain l (h _ (List.getElem_mem hl)) at_ s
        rw [hp] at h2 ⊢
        rw [ih _ _ _ (by omega) h2]; omega
      · rw [if_neg he] at h2; exact absurd h2 he
    · rw [play_end l c _ at_ s n (by omega)]; show n = _; omega
theorem rsE_zero {s : Ms} (h : rsE (endR s) = 0) : s.2 = 0 := by
  by_cases e : s.2 = 0
  · exact e
  · unfold endR at h; rw [if_neg e] at h; exact h
theorem steps_all {l : List Of} {c : List In} (ho : offsOk l = true) (hc : codeOk c = true) (h : ∀ x ∈ c, isTo x.1 = false) (he : rsE (runS l c) = 0) : stepsS l c = c.length := by
  obtain ⟨h1, h2⟩ := run_yes ho hc
  rw [h1] at he
  rw [h2]
  have := play_all l h (c.length - 0) 0 ([], 0) 0 (by omega) (rsE_zero he)
  unfold goM; rw [this]; omega
theorem steps_some {l : List Of} {c : List In} (ho : offsOk l = true) (hc : codeOk c = true) : min 1 c.length ≤ stepsS l c := by
  rw [(run_yes ho hc).2]
  cases c with
  | nil => exact Nat.zero_le _
  | cons x t =>
    have hx : (x :: t)[0]? = some x := rfl
    rw [go_step (fwd_of hc) hx]
    have := (play_steps l (x :: t) ((x :: t).length - (stepM l x 0 ([], 0)).1) (stepM l x 0 ([], 0)).1 (stepM l x 0 ([], 0)).2 1).1
    exact Nat.le_trans (Nat.min_le_left 1 _) this
end Go.Proofs.YtcckemhelockaaaGreatDoor

namespace Go.Proofs.YtcckemhelockaaaGreatDoor
open Go.RowKit Go.Lib
set_option linter.unusedVariables false
set_option linter.unusedSimpArgs false
def leadTo (l : List In) (j : Nat) : Bool := (l.take j).any (fun x => isTo x.1)
theorem lead_step {l : List In} {j : Nat} (hj : j < l.length) {x : In} (h : l[j] = x) : leadTo l (j + 1) = (leadTo l j || isTo x.1) := by
  unfold leadTo
  rw [List.take_succ_eq_append_getElem hj, List.any_append, h]; simp
theorem lead_all {l : List In} (h : leadTo l l.length = false) : ∀ x ∈ l, isTo x.1 = false := fun x hx => by
  unfold leadTo at h
  rw [List.take_length] at h
  simpa using (List.any_eq_false.1 h) x hx
set_option maxRecDepth 100000 in
set_option maxHeartbeats 8000000 in
theorem RunSteps_at (H : RunsOk) (A1 : Option Addr) (c1 : Nat) (ys : List (Int × Int)) (A : Option Addr) (c : Nat) (zs : List (Int × Int)) (w : World) (hr : Rel w w) (hy : PairsIn w A1 ys.length ys) (hz : PairsIn w A zs.length zs) :
    Calls Tryz.prog 5 #[.slice A1 ys.length c1, .slice A zs.length c] w fun e w' => e = .returned (.bool true) ∧ Rel w w' := by
  have H := Lib.hid H
  have HR := Lib.hid hr
  have HZ := Lib.hid hz
  have HY := Lib.hid hy
  obtain ⟨os, hos⟩ : ∃ os, offS zs = os := ⟨_, rfl⟩
  have hOf := fun (w0 w : World) (hr : Rel w0 w) (hz : PairsIn w A zs.length zs) => offers_any A c zs w0 w hr hz
  rw [hos] at hOf
  have HOf := Lib.hid hOf
  have hok : offsOk os = true := by rw [← hos]; exact offS_ok zs
  have HFit := Lib.hid (offs_fit hok)
  obtain ⟨l, hl⟩ : ∃ l, someL ys = l := ⟨_, rfl⟩
  have hS := fun (w0 w : World) (hr : Rel w0 w) (hy : PairsIn w A1 ys.length ys) => some_any A1 c1 ys w0 w hr hy
  rw [hl] at hS
  have HS := Lib.hid hS
  obtain ⟨k1, k2⟩ := some_ok ys
  rw [hl] at k1 k2
  have HFl := Lib.hid (ins_fit k1)
  obtain ⟨k, hk⟩ : ∃ k, stepsS os l = k := ⟨_, rfl⟩
  obtain ⟨v, b, e, q1⟩ : ∃ (v : Int) (b : Bool) (e : Int), RV (runS os l) = .tuple #[.int .i64 v, .bool b, .int .i64 e] := ⟨_, _, _, rfl⟩
  have Q1 := Lib.hid (show RV (runS os l) = .tuple #[.int .i64 v, .bool b, .int .i64 e] from q1)
  have Q2 := Lib.hid (show stepsS os l = k from hk)
  have g1 : min 1 l.length ≤ k := by rw [← hk]; exact steps_some hok k1
  have g2 : k ≤ l.length := by rw [← hk]; exact steps_le
  have g3 : leadTo l l.length = false → e = 0 → k = l.length := fun h h' => by
    rw [← hk]
    refine steps_all hok k1 (lead_all h) ?_
    have : e = rsE (runS os l) := by
      have := q1
      unfold RV at this
      injection this with this
      have := congrArg (fun a : Array Value => a[2]?) this
      simpa using this.symm
    rw [← this]; exact h'
  have HG := Lib.hid g3
  clear hos hr hz hy hOf hok hl hS k1 hk q1 g3
  go_enter Tryz.func5, Tryz.ntmps5
  go_upto_region 7 with (first
    | (go_at_call 10; (with_reducible refine (awake11_any H.out _ _ HR.out).mono ?_); rintro e1 w1 ⟨rfl, h1⟩; have R1 := Lib.hid h1)
    | (go_at_call 11; (with_reducible refine (HS.out _ _ R1.out.self (HY.out.rel9 R1.out)).mono ?_); rintro e2 w2 ⟨A2, c2, rfl, o2, h2⟩; have R2 := Lib.hid h2; have I2 := Lib.hid (InsOwn.arg o2 HFl.out); have O2 := Lib.hid o2)
    | (go_at_call 12; (with_reducible refine (HOf.out _ _ R2.out.self (HZ.out.rel9 (R1.out.trans R2.out))).mono ?_); rintro e3 w3 ⟨A3, c3, rfl, o3, h3⟩; have R3 := Lib.hid h3; have O3 := Lib.hid (o3.arg HFit.out); have I3 := Lib.hid (I2.out.rel h3))
    | (go_at_call 15; (with_reducible refine (steps_at H.out l os k Q2 A2 A3 c2 c3 _ _ R3.out.self I3.out O3.out).mono ?_); rintro e4 w4 ⟨rfl, h4⟩; have R4 := Lib.hid h4; have O4 := Lib.hid (O3.out.rel h4); have I4 := Lib.hid (I3.out.rel h4))
    | (go_at_call 13; (with_reducible refine (runl_at H.out l os v e b Q1 A2 A3 c2 c3 _ _ R4.out.self I4.out O4.out).mono ?_); rintro e5 w5 ⟨rfl, h5⟩; have R5 := Lib.hid h5))
  have HRa := Lib.hid ((R3.out.trans R4.out).trans R5.out)
  have HRb := Lib.hid ((R1.out.trans R2.out).trans HRa.out)
  have OW := Lib.hid (InsOwn.rel O2.out HRa.out)
  have HAt := Lib.hid (InsOwn.at OW.out rfl)
  clear o2 o3 h1 h2 h3 h4 h5
  go_wp2_with (fail)
  go_loopw [12, 13] (fun f i wr => ∃ (j : Nat), j ≤ l.length ∧ i = .int .i64 (j : Int) ∧ f = .bool (leadTo l j) ∧ Rel w5 wr) (fun _ i _ => l.length - (RowKit.intOf i).toNat)
  case atStart => exact ⟨0, by omega, rfl, rfl, R5.out.self⟩
  case round =>
    obtain ⟨j, hj, rfl, rfl, hRw⟩ := hrel
    have HRw := Lib.hid hRw
    by_cases hlt : j < l.length
    · obtain ⟨g, rfl⟩ : ∃ g, A2 = some ⟨g, 0, none⟩ := by
        rcases OW.out.form with ⟨_, _, h0⟩ | ⟨g, h0, _⟩
        · rw [h0] at hlt; simp at hlt
        · exact ⟨g, h0⟩
      obtain ⟨g', off, o, n, nm, e1, d0, d1, d2, ho⟩ := ins_at HAt.out hRw j hlt
      injection e1 with e1; injection e1 with e1 e3; subst e1; subst e3
      have HSt := Lib.hid (lead_step hlt ho)
      clear ho hRw
      rw [Nat.zero_add] at d0 d1 d2
      obtain ⟨L, hL⟩ : ∃ L, leadTo l j = L := ⟨_, rfl⟩
      have HL := Lib.hid hL
      rw [hL]
      clear hL
      cases L with
      | true =>
        go_wp2_with (fail)
        go_roundw
        case rel => exact ⟨j + 1, by omega, by go_num, by rw [HSt.out, HL.out]; rfl, HRw.out⟩
        case measure => simp [RowKit.intOf]; omega
      | false =>
        have hway : ((o == 9) = true) ∨ ((o == 9) = false ∧ (o == 12) = true) ∨ ((o == 9) = false ∧ (o == 12) = false ∧ (o == 13) = true) ∨ ((o == 9) = false ∧ (o == 12) = false ∧ (o == 13) = false) := by
          simp only [beq_iff_eq, beq_eq_false_iff_ne]
          omega
        rcases hway with w9 | ⟨w9, w12⟩ | ⟨w9, w12, w13⟩ | ⟨w9, w12, w13⟩
        · go_wp2_with (fail)
          go_roundw
          case rel => exact ⟨j + 1, by omega, by go_num, by rw [HSt.out, HL.out]; unfold isTo; rw [w9]; rfl, HRw.out⟩
          case measure => simp [RowKit.intOf]; omega
        · go_wp2_with (fail)
          go_roundw
          case rel => exact ⟨j + 1, by omega, by go_num, by rw [HSt.out, HL.out]; unfold isTo; rw [w9, w12]; rfl, HRw.out⟩
          case measure => simp [RowKit.intOf]; omega
        all_goals
          go_wp2_with (fail)
          go_roundw
          case rel => exact ⟨j + 1, by omega, by go_num, by rw [HSt.out, HL.out]; unfold isTo; rw [w9, w12, w13]; rfl, HRw.out⟩
          case measure => simp [RowKit.intOf]; omega
    · obtain rfl : j = l.length := by omega
      obtain ⟨L, hL⟩ : ∃ L, leadTo l l.length = L := ⟨_, rfl⟩
      rw [hL] at HG ⊢
      clear hRw hL
      have p1 : decide ((k : Int) ≤ (l.length : Int)) = true := decide_eq_true (by omega)
      have p2 : decide (min 1 (l.length : Int) ≤ (k : Int)) = true := decide_eq_true (by omega)
      cases L with
      | true =>
        go_wp2_with (fail)
        all_goals
          go_ret
          exact ⟨rfl, HRb.out.trans HRw.out⟩
      | false =>
        by_cases he : e = 0
        · have p3 := HG.out rfl he
          have p4 : ((k : Int) == (l.length : Int)) = true := by rw [p3]; simp
          have p5 : (e == 0) = true := by simpa using he
          clear p3
          go_wp2_with (fail)
          all_goals
            go_ret
            exact ⟨rfl, HRb.out.trans HRw.out⟩
        · have p5 : (e == 0) = false := by simpa using he
          go_wp2_with (fail)
          all_goals
            go_ret
            exact ⟨rfl, HRb.out.trans HRw.out⟩
end Go.Proofs.YtcckemhelockaaaGreatDoor
