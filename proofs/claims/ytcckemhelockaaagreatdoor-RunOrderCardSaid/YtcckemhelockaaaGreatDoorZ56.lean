/- Instructions in memory: to be read, and of the call's own; appending them; Offers in memory: to be read, and of the call's own; Plain mathematics of layer 9: order makes no difference; what is reckoned within more is reckoned the same; offers of raw numbers. No program in this text; Plain mathematics of layer 11: order, steps, a deep stack. No program in this text; Plain mathematics of layer 10: unlike strategies have unlike code. No program in this text; Appending a slice of offers, whatever its length, to offers of the call's own; a price of one's own changed; The law's turned: what it is given, in another order; RunOrder, over what the program is asked. -/
import Derived.Test.YtcckemhelockaaaGreatDoorZL
import Derived.Test.YtcckemhelockaaaGreatDoorZ00
import Derived.Test.YtcckemhelockaaaGreatDoorZ01
import Derived.Test.YtcckemhelockaaaGreatDoorZ02
import Derived.Test.YtcckemhelockaaaGreatDoorZ03
import Derived.Test.YtcckemhelockaaaGreatDoorZ04
import Derived.Test.YtcckemhelockaaaGreatDoorZ07
import Derived.Test.YtcckemhelockaaaGreatDoorZ09
import Derived.Test.YtcckemhelockaaaGreatDoorZ15
import Derived.Test.YtcckemhelockaaaGreatDoorZ16
import Derived.Test.YtcckemhelockaaaGreatDoorZ18
import Derived.Test.YtcckemhelockaaaGreatDoorZ22
import Derived.Test.YtcckemhelockaaaGreatDoorZ23
import Derived.Test.YtcckemhelockaaaGreatDoorZ26
import Derived.Test.YtcckemhelockaaaGreatDoorZ28
import Derived.Test.YtcckemhelockaaaGreatDoorZ29
import Derived.Test.YtcckemhelockaaaGreatDoorZ37
import Derived.Test.YtcckemhelockaaaGreatDoorZ38
import Derived.Test.YtcckemhelockaaaGreatDoorZ40
import Derived.Test.YtcckemhelockaaaGreatDoorZ44
namespace Go.Proofs.YtcckemhelockaaaGreatDoor
open Go.RowKit Go.Lib
set_option linter.unusedVariables false
set_option linter.unusedSimpArgs false
theorem InsOwn.grown_rel {w0 w w' : World} {base : Nat} {v : Value} {l : List In} (h : Rel w0 w) (ho : InsOwn w base v l) (hb : w0.heap.size ≤ base) (hg : w.grownBy w' v.ownBlock) : Rel w0 w' :=
  h.grown hg (fun k hk => by have := (ho.row.lt k hk).1; omega)
end Go.Proofs.YtcckemhelockaaaGreatDoor

namespace Go.Proofs.YtcckemhelockaaaGreatDoor
open Go.RowKit Go.Lib
set_option linter.unusedVariables false
set_option linter.unusedSimpArgs false
theorem cellsO_append (a b : List Of) : cellsO (a ++ b) = cellsO a ++ cellsO b := by simp [cellsO]
theorem cellsO_len (os : List Of) : (cellsO os).length = os.length * 2 := by
  induction os with
  | nil => rfl
  | cons e t ih => rw [cellsO_cons, List.length_append, ih]; simp [cells2]; omega
end Go.Proofs.YtcckemhelockaaaGreatDoor

namespace Go.Proofs.YtcckemhelockaaaGreatDoor
open Go.Lib
set_option linter.unusedVariables false
set_option linter.unusedSimpArgs false
theorem offs_perm {l l' : List Of} (h : l.Perm l') : offsOk l = offsOk l' := by
  have key : ∀ {a b : List Of}, a.Perm b → offsOk a = true → offsOk b = true := by
    intro a b hp ha
    rw [offs_nodup] at ha ⊢
    exact ⟨by rw [← hp.length_eq]; exact ha.1, fun o ho => ha.2.1 o (hp.mem_iff.2 ho), (hp.map _).nodup ha.2.2⟩
  cases h1 : offsOk l
  · cases h2 : offsOk l'
    · rfl
    · rw [key h.symm h2] at h1; exact h1.symm
  · rw [key h h1]
theorem from_some {l : List Of} (hn : (l.map (·.1)).Nodup) {s : List UInt8} {p : Int} : fromO l s = some p ↔ (s, p) ∈ l := by
  induction l with
  | nil => simp [fromO]
  | cons o t ih =>
    rw [List.map_cons, List.nodup_cons] at hn
    have ih := ih hn.2
    unfold fromO at ih ⊢
    by_cases h : o.1 = s
    · rw [List.find?_cons_of_pos (by simpa using h)]
      simp only [Option.map_some, Option.some.injEq, List.mem_cons]
      constructor
      · intro e; left; rw [← h, ← e]
      · rintro (e | e)
        · rw [← e]
        · exact absurd (List.mem_map.2 ⟨_, e, rfl⟩) (by rw [h] at hn; exact hn.1)
    · rw [List.find?_cons_of_neg (by simpa using h), ih]
      constructor
      · exact fun e => List.mem_cons_of_mem _ e
      · intro e
        rcases List.mem_cons.1 e with e | e
        · rw [← e] at h; exact absurd rfl h
        · exact e
theorem from_perm {l l' : List Of} (h : l.Perm l') (hn : (l.map (·.1)).Nodup) (s : List UInt8) : fromO l s = fromO l' s := by
  have hn' : (l'.map (·.1)).Nodup := (h.map _).nodup hn
  cases e : fromO l s with
  | some p => exact ((from_some hn').2 (h.mem_iff.1 ((from_some hn).1 e))).symm
  | none =>
    cases e' : fromO l' s with
    | none => rfl
    | some p => rw [(from_some hn).2 (h.mem_iff.2 ((from_some hn').1 e'))] at e; cases e
theorem rk_perm {l l' : List Of} (h : l.Perm l') (n : Nat) : rk l n = rk l' n := by
  unfold rk prices; rw [srt_perm (h.map _)]
end Go.Proofs.YtcckemhelockaaaGreatDoor

namespace Go.Proofs.YtcckemhelockaaaGreatDoor
open Go.Lib
set_option linter.unusedVariables false
set_option linter.unusedSimpArgs false
theorem step_perm {l t : List Of} (h : l.Perm t) (hn : (l.map (·.1)).Nodup) (x : In) (at_ : Nat) (s : Ms) : stepM l x at_ s = stepM t x at_ s := by
  unfold stepM
  rw [rk_perm h, rk_perm h, from_perm h hn, h.length_eq]
theorem play_perm {l t : List Of} (h : l.Perm t) (hn : (l.map (·.1)).Nodup) (c : List In) : ∀ (f at_ : Nat) (s : Ms) (n : Nat), playM l c f at_ s n = playM t c f at_ s n := by
  intro f
  induction f with
  | zero => intro _ _ _; rfl
  | succ f ih =>
    intro at_ s n
    rw [playM, playM]
    cases c[at_]? with
    | none => rfl
    | some x => simp only; rw [step_perm h hn, ih]
/-- What code tells hangs not on the order of the offers. -/
theorem run_perm {l t : List Of} (h : l.Perm t) (c : List In) : runS l c = runS t c ∧ stepsS l c = stepsS t c := by
  have ho := offs_perm h
  cases hl : offsOk l with
  | false =>
    rw [hl] at ho
    rw [(run_not hl c).1, (run_not hl c).2, (run_not ho.symm c).1, (run_not ho.symm c).2]; exact ⟨rfl, rfl⟩
  | true =>
    rw [hl] at ho
    have hn := (offs_nodup.1 hl).2.2
    cases hc : codeOk c with
    | false => rw [(run_wrong hl hc).1, (run_wrong hl hc).2, (run_wrong ho.symm hc).1, (run_wrong ho.symm hc).2]; exact ⟨rfl, rfl⟩
    | true =>
      rw [(run_yes hl hc).1, (run_yes hl hc).2, (run_yes ho.symm hc).1, (run_yes ho.symm hc).2]
      unfold goM
      rw [play_perm h hn]; exact ⟨rfl, rfl⟩
end Go.Proofs.YtcckemhelockaaaGreatDoor

namespace Go.Proofs.YtcckemhelockaaaGreatDoor
open Go.Lib
set_option linter.unusedVariables false
set_option linter.unusedSimpArgs false
theorem sumW_append (a b : List In) : sumW (a ++ b) = sumW a + sumW b := by
  induction a with
  | nil => simp [sumW]
  | cons t r ih => rw [List.cons_append, sumW, sumW, ih]; omega
theorem PreW.append {b : Int} {A C : List In} (hA : PreW b A) (hC : PreW (b + sumW A) C) : PreW b (A ++ C) := fun t u e => by
  rcases List.append_eq_append_iff.1 e with ⟨a', e1, e2⟩ | ⟨c', e1, e2⟩
  · obtain ⟨h1, h2⟩ := hC a' u e2
    rw [e1, sumW_append]
    refine ⟨by omega, fun t' z e' hz => ?_⟩
    rcases List.eq_nil_or_concat a' with rfl | ⟨a'', y, rfl⟩
    · rw [List.append_nil] at e'
      have := (hA A [] (by simp)).2 t' z e' hz
      simp only [sumW]; omega
    · rw [List.concat_eq_append, ← List.append_assoc] at e'
      obtain ⟨_, e3⟩ := List.append_inj' e' rfl
      injection e3 with e3
      subst e3
      rw [List.concat_eq_append] at h2 ⊢
      have := h2 a'' y rfl hz
      omega
  · exact hA t c' e1
end Go.Proofs.YtcckemhelockaaaGreatDoor

namespace Go.Proofs.YtcckemhelockaaaGreatDoor
open Go.RowKit Go.Lib
set_option linter.unusedVariables false
set_option linter.unusedSimpArgs false
theorem offs_news {w : World} {g off : Nat} {l : List Of} (h : OffsAt w (some ⟨g, off, none⟩) l) : ∀ j u, (cellsO l)[j]? = some u → w.cell? ((⟨g, off, none⟩ : Addr).add j) = some u := by
  intro j u hu
  have hj : j < (cellsO l).length := (List.getElem?_eq_some_iff.1 hu).1
  rw [cellsO_len] at hj
  have hi : j / 2 < l.length := by omega
  obtain ⟨g', off', e, _, h0, h1⟩ := h (j / 2) hi
  injection e with e; injection e with e1 e2; subst e1; subst e2
  obtain ⟨c0, c1⟩ := cellsO_at l (j / 2) hi
  rw [addr_at]
  rcases Nat.mod_two_eq_zero_or_one j with e | e
  · have ej : j = j / 2 * 2 := by omega
    rw [ej] at hu ⊢
    rw [c0] at hu
    rw [← hu]; exact h0
  · have ej : j = j / 2 * 2 + 1 := by omega
    rw [ej] at hu ⊢
    rw [c1] at hu
    rw [← hu, ← Nat.add_assoc]; exact h1
theorem cellsO_one (l : List Of) : ∀ u ∈ cellsO l, u.oneCell' = true := by
  intro u hu
  obtain ⟨o, _, h⟩ := List.mem_flatMap.1 hu
  exact cells2_one o u h
set_option maxRecDepth 100000 in
theorem app_run {w : World} {base : Nat} {v : Value} {os : List Of} (hown : OffOwn w base v os) {A : Option Addr} {c : Nat} {l : List Of} (hA : A = none → c = 0) (h : OffsAt w A l) (h1 : l.length ≤ 100) (h2 : os.length ≤ 100) (hb : base ≤ w.heap.size) (ty : TypeId) :
    ∃ v' w', (Builtin.append_ #[24, 24] ty #[v, .slice A l.length c]).run Tryz.prog w = .ok v' w' ∧ OffOwn w' base v' (os ++ l) ∧ w.grownBy w' v.ownBlock ∧ (v'.ownBlock = v.ownBlock ∨ v'.ownBlock = some w.heap.size) := by
  obtain ⟨i0, hi0, hz0, hz1, hz2⟩ := info_parts off_info
  cases A with
  | none =>
    obtain rfl := hA rfl
    have hl : l = [] := by
      cases l with
      | nil => rfl
      | cons o t => obtain ⟨_, _, e, _⟩ := h 0 (by simp); cases e
    subst hl
    refine ⟨v, w, run_append_owned_none (P := Tryz.prog) w base _ ty 53 i0 2 Tryz.underlying24 hi0 v os.length (cellsO os) hown, ?_, ⟨rfl, rfl, rfl, Nat.le_refl _, fun _ _ _ => rfl⟩, .inl rfl⟩
    rw [List.append_nil]; exact hown
  | some a =>
    have hnews : ∀ j u, (cellsO l)[j]? = some u → w.cell? (a.add j) = some u := by
      cases l with
      | nil => intro j u hu; simp [cellsO] at hu
      | cons o t =>
        obtain ⟨g, off, e, _⟩ := h 0 (by simp)
        injection e with e; subst e
        exact offs_news h
    obtain ⟨v', w', hr, g1, g2, _, g4⟩ := run_append_own_at (P := Tryz.prog) w base 24 ty 53 i0 (.agg #[.string ⟨#[]⟩, .int .i64 0]) 2 24 Tryz.underlying24 hi0 hz0 hz1 hz2 rfl (by decide) v os.length (cellsO os) hown a l.length c (cellsO l) (cellsO_len l) hnews (cellsO_one l) (by unfold maxLen; omega) (by omega) hb
    refine ⟨v', w', hr, ?_, g2, g4⟩
    unfold OffOwn
    rw [cellsO_append, List.length_append]; exact g1
/-- At the operation. -/
theorem wp_app {w : World} {o : Oper} {a : Act} {K : Act → World → Prop} {Q : Exit → Act → World → Prop} (s x : Operand) (ho : o.op = .call { callee := .builtin .append, args := #[s, x], argTypes := #[24, 24] })
    {base : Nat} {v : Value} {os : List Of} (hs : a.eval s = v) (hown : OffOwn w base v os) {A : Option Addr} {c : Nat} {l : List Of} (hx : a.eval x = .slice A l.length c) (hA : A = none → c = 0) (h : OffsAt w A l) (h1 : l.length ≤ 100) (h2 : os.length ≤ 100) (hb : base ≤ w.heap.size)
    (hk : ∀ v' w', OffOwn w' base v' (os ++ l) → w.grownBy w' v.ownBlock → (v'.ownBlock = v.ownBlock ∨ v'.ownBlock = some w.heap.size) → K (a.put o.dst v') w') : Oper.wp Tryz.prog o a w K Q := by
  obtain ⟨v', w', hr, g1, g2, g3⟩ := app_run hown hA h h1 h2 hb o.type
  unfold Oper.wp execOp
  simp only [ho, resolve, invoke, builtin, Sem.run_bind, Sem.run_pure, Result.andThen_ok, List.map_toArray, List.map_cons, List.map_nil, hs, hx, hr]
  exact hk v' w' g1 g2 g3
/-- The same, its length spelled otherwise. -/
theorem wp_appn {w : World} {o : Oper} {a : Act} {K : Act → World → Prop} {Q : Exit → Act → World → Prop} (s x : Operand) (ho : o.op = .call { callee := .builtin .append, args := #[s, x], argTypes := #[24, 24] })
    {base : Nat} {v : Value} {os : List Of} (hs : a.eval s = v) (hown : OffOwn w base v os) {A : Option Addr} {c n : Nat} {l : List Of} (hx : a.eval x = .slice A n c) (hn : l.length = n) (hA : A = none → c = 0) (h : OffsAt w A l) (h1 : l.length ≤ 100) (h2 : os.length ≤ 100) (hb : base ≤ w.heap.size)
    (hk : ∀ v' w', OffOwn w' base v' (os ++ l) → w.grownBy w' v.ownBlock → (v'.ownBlock = v.ownBlock ∨ v'.ownBlock = some w.heap.size) → K (a.put o.dst v') w') : Oper.wp Tryz.prog o a w K Q := by
  subst hn
  exact wp_app s x ho hs hown hx hA h h1 h2 hb hk
theorem OffOwn.grown_rel {w0 w w' : World} {base : Nat} {v : Value} {os : List Of} (h : Rel w0 w) (ho : OffOwn w base v os) (hb : w0.heap.size ≤ base) (hg : w.grownBy w' v.ownBlock) : Rel w0 w' :=
  h.grown hg (fun k hk => by have := (ho.row9.lt k hk).1; omega)
end Go.Proofs.YtcckemhelockaaaGreatDoor

namespace Go.Proofs.YtcckemhelockaaaGreatDoor
open Go.RowKit Go.Lib
set_option linter.unusedVariables false
set_option linter.unusedSimpArgs false
theorem turn_perm (l : List Of) (k : Nat) : ([] ++ l.drop k ++ l.take k).Perm l := by
  rw [List.nil_append]
  have := List.perm_append_comm (l₁ := l.drop k) (l₂ := l.take k)
  rw [List.take_append_drop] at this
  exact this
end Go.Proofs.YtcckemhelockaaaGreatDoor

namespace Go.Proofs.YtcckemhelockaaaGreatDoor
open Go.RowKit Go.Lib
set_option linter.unusedVariables false
set_option linter.unusedSimpArgs false
set_option maxRecDepth 100000 in
set_option maxHeartbeats 8000000 in
theorem RunOrder_at (H : RunsOk) (A1 : Option Addr) (c1 : Nat) (ys : List (Int × Int)) (A : Option Addr) (c : Nat) (zs : List (Int × Int)) (at_ : Int) (ha : i64 at_) (w : World) (hr : Rel w w) (hy : PairsIn w A1 ys.length ys) (hz : PairsIn w A zs.length zs) :
    Calls Tryz.prog 7 #[.slice A1 ys.length c1, .slice A zs.length c, .int .i64 at_] w fun e w' => e = .returned (.bool true) ∧ Rel w w' := by
  have H := Lib.hid H
  have HR := Lib.hid hr
  have HZ := Lib.hid hz
  have HY := Lib.hid hy
  obtain ⟨os, hos⟩ : ∃ os, offS zs = os := ⟨_, rfl⟩
  have hOf := fun (w0 w : World) (hr : Rel w0 w) (hz : PairsIn w A zs.length zs) => offers_any A c zs w0 w hr hz
  rw [hos] at hOf
  have HOf := Lib.hid hOf
  have hok : offsOk os = true := by rw [← hos]; exact offS_ok zs
  have h8 := offs_len hok
  have HFit := Lib.hid (offs_fit hok)
  obtain ⟨l, hl⟩ : ∃ l, someL ys = l := ⟨_, rfl⟩
  have hS := fun (w0 w : World) (hr : Rel w0 w) (hy : PairsIn w A1 ys.length ys) => some_any A1 c1 ys w0 w hr hy
  rw [hl] at hS
  have HS := Lib.hid hS
  obtain ⟨k1, k2⟩ := some_ok ys
  rw [hl] at k1 k2
  have HFl := Lib.hid (ins_fit k1)
  obtain ⟨K, hK⟩ : ∃ k, stepsS os l = k := ⟨_, rfl⟩
  obtain ⟨v, b, e, q1⟩ : ∃ (v : Int) (b : Bool) (e : Int), RV (runS os l) = .tuple #[.int .i64 v, .bool b, .int .i64 e] := ⟨_, _, _, rfl⟩
  have Q1 := Lib.hid (show RV (runS os l) = .tuple #[.int .i64 v, .bool b, .int .i64 e] from q1)
  have Q2 := Lib.hid (show stepsS os l = K from hK)
  have hkb := pk_bd at_ ((os.length : Int) + 1) (by omega)
  obtain ⟨k, hk⟩ : ∃ k : Nat, pk at_ ((os.length : Int) + 1) = (k : Int) := ⟨(pk at_ ((os.length : Int) + 1)).toNat, by omega⟩
  have hkl : k ≤ os.length := by omega
  have HK := Lib.hid hk
  have hw1 : IntKind.i64.wrap ((os.length : Int) + 1) = (os.length : Int) + 1 := IntWalk.i64_in _ (by omega)
  have hp1 : (0 : Int) < (os.length : Int) + 1 := by omega
  have hp2 : (os.length : Int) + 1 ≤ 9223372036854775807 := by omega
  obtain ⟨a0, a1⟩ := ha
  clear hos hr hz hy hOf hok hl hS k1 hK q1 hk hkb
  go_enter Tryz.func7, Tryz.ntmps7
  go_upto_region 5 with (first
    | (go_at_call 10; (with_reducible refine (awake11_any H.out _ _ HR.out).mono ?_); rintro e1 w1 ⟨rfl, h1⟩; have R1 := Lib.hid h1)
    | (go_at_call 11; (with_reducible refine (HS.out _ _ R1.out.self (HY.out.rel9 R1.out)).mono ?_); rintro e2 w2 ⟨A2, c2, rfl, o2, h2⟩; have R2 := Lib.hid h2; have I2 := Lib.hid (InsOwn.arg o2 HFl.out))
    | (go_at_call 12; (with_reducible refine (HOf.out _ _ R2.out.self (HZ.out.rel9 (R1.out.trans R2.out))).mono ?_); rintro e3 w3 ⟨A3, c3, rfl, o3, h3⟩; have R3 := Lib.hid h3; have O3 := Lib.hid (o3.arg HFit.out); have W3 := Lib.hid o3; have I3 := Lib.hid (I2.out.rel h3))
    | (go_at_call 21; (with_reducible refine (pk11_as at_ ((os.length : Int) + 1) (k : Int) HK a0 a1 hp1 hp2 _).mono ?_); rintro e w' ⟨rfl, rfl⟩))
  have HS3 := Lib.hid (show Rel w3 w3 from R3.out.right3)
  have HAt := Lib.hid O3.out.2.2.2
  have hcl := O3.out.1
  have hcm : c3 ≤ 9223372036854775807 := O3.out.2.1
  have hkc : k ≤ c3 := by omega
  have hki : (k : Int) ≤ (os.length : Int) := by omega
  have hkci : (k : Int) ≤ (c3 : Int) := by omega
  have hlci : (os.length : Int) ≤ (c3 : Int) := by omega
  have hk0 : (0 : Int) ≤ (k : Int) := by omega
  have hform := W3.out.form
  clear o2 o3 h1 h2 h3
  go_cut [11] (fun x wx => ∃ v, x = v ∧ OffOwn wx w3.heap.size v ([] ++ os.drop k ++ os.take k) ∧ Rel w3 wx)
  case first =>
    rcases hform with ⟨rfl, rfl, rfl⟩ | ⟨g, rfl, hgb, hgl⟩
    · obtain rfl : k = 0 := by simpa using hkl
      refine wp_region_held_drew (S := (fun w' => Rel w3 w')) (by kernel_rfl) HS3.out.drew (fun hHeld => ?_)
      refine held_take (i := 0) (v := ?_) (some 28) rfl rfl (by kernel_rfl) (by kernel_rfl) (by kernel_rfl) (fun _ _ _ h => h) (Or.inl ⟨by rfl, ?_⟩) hHeld ?_
      rotate_left 1
      · intro w' (h : Rel w3 w'); go_simp; try with_reducible rfl
      try simp only [Act.put, List.setIfInBounds_toArray, List.set_cons_zero, List.set_cons_succ]
      refine held_take (i := 1) (v := ?_) (some 29) rfl rfl (by kernel_rfl) (by kernel_rfl) (by kernel_rfl) (fun _ _ _ h => h) (Or.inl ⟨by rfl, ?_⟩) hHeld ?_
      rotate_left 1
      · intro w' (h : Rel w3 w'); go_simp; try with_reducible rfl
      try simp only [Act.put, List.setIfInBounds_toArray, List.set_cons_zero, List.set_cons_succ]
      refine held_take (i := 2) (v := ?_) (some 30) rfl rfl (by kernel_rfl) (by kernel_rfl) (by kernel_rfl) (fun _ _ _ h => h) (Or.inl ⟨by rfl, ?_⟩) hHeld ?_
      rotate_left 1
      · intro w' (h : Rel w3 w'); go_simp; try with_reducible rfl
      try simp only [Act.put, List.setIfInBounds_toArray, List.set_cons_zero, List.set_cons_succ]
      refine held_take (i := 4) (v := ?_) (some 32) rfl rfl (by kernel_rfl) (by kernel_rfl) (by kernel_rfl) (fun _ _ _ h => h) (Or.inl ⟨by rfl, ?_⟩) hHeld ?_
      rotate_left 1
      · intro w' (h : Rel w3 w'); go_simp; try with_reducible rfl
      try simp only [Act.put, List.setIfInBounds_toArray, List.set_cons_zero, List.set_cons_succ]
      refine held_take (i := 5) (v := ?_) (some 33) rfl rfl (by kernel_rfl) (by kernel_rfl) (by kernel_rfl) (fun _ _ _ h => h) (Or.inl ⟨by rfl, ?_⟩) hHeld ?_
      rotate_left 1
      · intro w' (h : Rel w3 w'); go_simp; try with_reducible rfl
      try simp only [Act.put, List.setIfInBounds_toArray, List.set_cons_zero, List.set_cons_succ]
      refine held_take (i := 6) (v := ?_) (some 34) rfl rfl (by kernel_rfl) (by kernel_rfl) (by kernel_rfl) (fun _ _ _ h => h) (Or.inl ⟨by rfl, ?_⟩) hHeld ?_
      rotate_left 1
      · intro w' (h : Rel w3 w'); go_simp; try with_reducible rfl
      try simp only [Act.put, List.setIfInBounds_toArray, List.set_cons_zero, List.set_cons_succ]
      refine held_one (j := 3) (by kernel_rfl) rfl (fun K hK => ?_)
      try simp only [List.getElem_toArray, List.getElem_cons_succ, List.getElem_cons_zero]
      rw [if_pos (by rfl)]
      refine wp_appn _ _ rfl (base := w3.heap.size) (v := .slice none 0 0) (os := []) rfl (OffOwn.nil _ _) (A := none) (l := ([] : List Of).drop 0) rfl (by first | (simp; done) | (simp; omega)) (by intro e; first | rfl | cases e) (OffsAt.nil _ _) (by first | (simp; done) | (simp; omega)) (by simp) (by simp) ?_
      intro v1 x1 hown1 hg1 hb1
      refine hK.out _ _ (hHeld.grown hg1 (fun q hq => by cases hq)) (fun hHeld => ?_)
      clear hK K
      try simp only [Act.put, List.setIfInBounds_toArray, List.set_cons_zero, List.set_cons_succ]
      refine held_one (j := 7) (by kernel_rfl) rfl (fun K hK => ?_)
      try simp only [List.getElem_toArray, List.getElem_cons_succ, List.getElem_cons_zero]
      rw [if_pos (by rfl)]
      have HB1 := Lib.hid hHeld.size
      refine wp_appn _ _ rfl (base := w3.heap.size) (v := v1) (os := [] ++ ([] : List Of).drop 0) rfl hown1 (A := none) (l := ([] : List Of).take 0) rfl (by first | (simp; done) | (simp; omega)) (by intro e; first | rfl | cases e) (OffsAt.nil _ _) (by first | (simp; done) | (simp; omega)) (by first | (simp; done) | (simp; omega)) HB1.out ?_
      intro v2 x2 hown2 hg2 hb2
      refine hK.out _ _ (OffOwn.grown_rel hHeld hown1 (Nat.le_refl _) hg2) (fun hHeld => ?_)
      clear hK K
      try simp only [Act.put, List.setIfInBounds_toArray, List.set_cons_zero, List.set_cons_succ]
      refine held_take (i := 8) (v := ?_) (some 11) rfl rfl (by kernel_rfl) (by kernel_rfl) (by kernel_rfl) (fun _ _ _ h => h) (Or.inl ⟨by rfl, ?_⟩) hHeld ?_
      rotate_left 1
      · intro w' (h : Rel w3 w'); go_simp; try with_reducible rfl
      try simp only [Act.put, List.setIfInBounds_toArray, List.set_cons_zero, List.set_cons_succ]
      refine wpAnyH_done (by kernel_rfl) ?_ _
      go_wp2_with (fail)
      go_meet
      exact ⟨_, rfl, hown2, hHeld⟩
    · by_cases hck : c3 = k
      · have hd0 : os.drop k = [] := List.drop_eq_nil_of_le (by omega)
        refine wp_region_held_drew (S := (fun w' => Rel w3 w')) (by kernel_rfl) HS3.out.drew (fun hHeld => ?_)
        refine held_take (i := 0) (v := ?_) (some 28) rfl rfl (by kernel_rfl) (by kernel_rfl) (by kernel_rfl) (fun _ _ _ h => h) (Or.inl ⟨by rfl, ?_⟩) hHeld ?_
        rotate_left 1
        · intro w' (h : Rel w3 w'); go_simp; try with_reducible rfl
        try simp only [Act.put, List.setIfInBounds_toArray, List.set_cons_zero, List.set_cons_succ]
        refine held_take (i := 1) (v := ?_) (some 29) rfl rfl (by kernel_rfl) (by kernel_rfl) (by kernel_rfl) (fun _ _ _ h => h) (Or.inl ⟨by rfl, ?_⟩) hHeld ?_
        rotate_left 1
        · intro w' (h : Rel w3 w'); go_simp; try with_reducible rfl
        try simp only [Act.put, List.setIfInBounds_toArray, List.set_cons_zero, List.set_cons_succ]
        refine held_take (i := 2) (v := ?_) (some 30) rfl rfl (by kernel_rfl) (by kernel_rfl) (by kernel_rfl) (fun _ _ _ h => h) (Or.inl ⟨by rfl, ?_⟩) hHeld ?_
        rotate_left 1
        · intro w' (h : Rel w3 w'); go_simp; try with_reducible rfl
        try simp only [Act.put, List.setIfInBounds_toArray, List.set_cons_zero, List.set_cons_succ]
        refine held_take (i := 4) (v := ?_) (some 32) rfl rfl (by kernel_rfl) (by kernel_rfl) (by kernel_rfl) (fun _ _ _ h => h) (Or.inl ⟨by rfl, ?_⟩) hHeld ?_
        rotate_left 1
        · intro w' (h : Rel w3 w'); go_simp; try with_reducible rfl
        try simp only [Act.put, List.setIfInBounds_toArray, List.set_cons_zero, List.set_cons_succ]
        refine held_take (i := 5) (v := ?_) (some 33) rfl rfl (by kernel_rfl) (by kernel_rfl) (by kernel_rfl) (fun _ _ _ h => h) (Or.inl ⟨by rfl, ?_⟩) hHeld ?_
        rotate_left 1
        · intro w' (h : Rel w3 w'); go_simp; try with_reducible rfl
        try simp only [Act.put, List.setIfInBounds_toArray, List.set_cons_zero, List.set_cons_succ]
        refine held_take (i := 6) (v := ?_) (some 34) rfl rfl (by kernel_rfl) (by kernel_rfl) (by kernel_rfl) (fun _ _ _ h => h) (Or.inl ⟨by rfl, ?_⟩) hHeld ?_
        rotate_left 1
        · intro w' (h : Rel w3 w'); go_simp; try with_reducible rfl
        try simp only [Act.put, List.setIfInBounds_toArray, List.set_cons_zero, List.set_cons_succ]
        refine held_one (j := 3) (by kernel_rfl) rfl (fun K hK => ?_)
        try simp only [List.getElem_toArray, List.getElem_cons_succ, List.getElem_cons_zero]
        rw [if_pos (by rfl)]
        refine wp_appn _ _ rfl (base := w3.heap.size) (v := .slice none 0 0) (os := []) rfl (OffOwn.nil _ _) (A := some ⟨g, 0, none⟩) (l := (os : List Of).drop k) rfl (by first | (simp; done) | (simp; omega)) (by intro e; first | rfl | cases e) (by rw [hd0]; exact OffsAt.nil _ _) (by first | (simp; done) | (simp; omega)) (by simp) (by simp) ?_
        intro v1 x1 hown1 hg1 hb1
        refine hK.out _ _ (hHeld.grown hg1 (fun q hq => by cases hq)) (fun hHeld => ?_)
        clear hK K
        try simp only [Act.put, List.setIfInBounds_toArray, List.set_cons_zero, List.set_cons_succ]
        refine held_one (j := 7) (by kernel_rfl) rfl (fun K hK => ?_)
        try simp only [List.getElem_toArray, List.getElem_cons_succ, List.getElem_cons_zero]
        rw [if_pos (by rfl)]
        have HB1 := Lib.hid hHeld.size
        refine wp_appn _ _ rfl (base := w3.heap.size) (v := v1) (os := [] ++ (os : List Of).drop k) rfl hown1 (A := some ⟨g, 0, none⟩) (l := (os : List Of).take k) rfl (by first | (simp; done) | (simp; omega)) (by intro e; first | rfl | cases e) ((HAt.out.rel hHeld).take k) (by first | (simp; done) | (simp; omega)) (by first | (simp; done) | (simp; omega)) HB1.out ?_
        intro v2 x2 hown2 hg2 hb2
        refine hK.out _ _ (OffOwn.grown_rel hHeld hown1 (Nat.le_refl _) hg2) (fun hHeld => ?_)
        clear hK K
        try simp only [Act.put, List.setIfInBounds_toArray, List.set_cons_zero, List.set_cons_succ]
        refine held_take (i := 8) (v := ?_) (some 11) rfl rfl (by kernel_rfl) (by kernel_rfl) (by kernel_rfl) (fun _ _ _ h => h) (Or.inl ⟨by rfl, ?_⟩) hHeld ?_
        rotate_left 1
        · intro w' (h : Rel w3 w'); go_simp; try with_reducible rfl
        try simp only [Act.put, List.setIfInBounds_toArray, List.set_cons_zero, List.set_cons_succ]
        refine wpAnyH_done (by kernel_rfl) ?_ _
        go_wp2_with (fail)
        go_meet
        exact ⟨_, rfl, hown2, hHeld⟩
      · skip
        refine wp_region_held_drew (S := (fun w' => Rel w3 w')) (by kernel_rfl) HS3.out.drew (fun hHeld => ?_)
        refine held_take (i := 0) (v := ?_) (some 28) rfl rfl (by kernel_rfl) (by kernel_rfl) (by kernel_rfl) (fun _ _ _ h => h) (Or.inl ⟨by rfl, ?_⟩) hHeld ?_
        rotate_left 1
        · intro w' (h : Rel w3 w'); go_simp; try with_reducible rfl
        try simp only [Act.put, List.setIfInBounds_toArray, List.set_cons_zero, List.set_cons_succ]
        refine held_take (i := 1) (v := ?_) (some 29) rfl rfl (by kernel_rfl) (by kernel_rfl) (by kernel_rfl) (fun _ _ _ h => h) (Or.inl ⟨by rfl, ?_⟩) hHeld ?_
        rotate_left 1
        · intro w' (h : Rel w3 w'); go_simp; try with_reducible rfl
        try simp only [Act.put, List.setIfInBounds_toArray, List.set_cons_zero, List.set_cons_succ]
        refine held_take (i := 2) (v := ?_) (some 30) rfl rfl (by kernel_rfl) (by kernel_rfl) (by kernel_rfl) (fun _ _ _ h => h) (Or.inl ⟨by rfl, ?_⟩) hHeld ?_
        rotate_left 1
        · intro w' (h : Rel w3 w'); go_simp; try with_reducible rfl
        try simp only [Act.put, List.setIfInBounds_toArray, List.set_cons_zero, List.set_cons_succ]
        refine held_take (i := 4) (v := ?_) (some 32) rfl rfl (by kernel_rfl) (by kernel_rfl) (by kernel_rfl) (fun _ _ _ h => h) (Or.inl ⟨by rfl, ?_⟩) hHeld ?_
        rotate_left 1
        · intro w' (h : Rel w3 w'); go_simp; try with_reducible rfl
        try simp only [Act.put, List.setIfInBounds_toArray, List.set_cons_zero, List.set_cons_succ]
        refine held_take (i := 5) (v := ?_) (some 33) rfl rfl (by kernel_rfl) (by kernel_rfl) (by kernel_rfl) (fun _ _ _ h => h) (Or.inl ⟨by rfl, ?_⟩) hHeld ?_
        rotate_left 1
        · intro w' (h : Rel w3 w'); go_simp; try with_reducible rfl
        try simp only [Act.put, List.setIfInBounds_toArray, List.set_cons_zero, List.set_cons_succ]
        refine held_take (i := 6) (v := ?_) (some 34) rfl rfl (by kernel_rfl) (by kernel_rfl) (by kernel_rfl) (fun _ _ _ h => h) (Or.inl ⟨by rfl, ?_⟩) hHeld ?_
        rotate_left 1
        · intro w' (h : Rel w3 w'); go_simp; try with_reducible rfl
        try simp only [Act.put, List.setIfInBounds_toArray, List.set_cons_zero, List.set_cons_succ]
        refine held_one (j := 3) (by kernel_rfl) rfl (fun K hK => ?_)
        try simp only [List.getElem_toArray, List.getElem_cons_succ, List.getElem_cons_zero]
        rw [if_pos (by rfl)]
        refine wp_appn _ _ rfl (base := w3.heap.size) (v := .slice none 0 0) (os := []) rfl (OffOwn.nil _ _) (A := some ⟨g, k * 2, none⟩) (l := (os : List Of).drop k) rfl (by first | (simp; done) | (simp; omega)) (by intro e; first | rfl | cases e) (by have h := (HAt.out.rel hHeld).from k; rwa [Nat.zero_add] at h) (by first | (simp; done) | (simp; omega)) (by simp) (by simp) ?_
        intro v1 x1 hown1 hg1 hb1
        refine hK.out _ _ (hHeld.grown hg1 (fun q hq => by cases hq)) (fun hHeld => ?_)
        clear hK K
        try simp only [Act.put, List.setIfInBounds_toArray, List.set_cons_zero, List.set_cons_succ]
        refine held_one (j := 7) (by kernel_rfl) rfl (fun K hK => ?_)
        try simp only [List.getElem_toArray, List.getElem_cons_succ, List.getElem_cons_zero]
        rw [if_pos (by rfl)]
        have HB1 := Lib.hid hHeld.size
        refine wp_appn _ _ rfl (base := w3.heap.size) (v := v1) (os := [] ++ (os : List Of).drop k) rfl hown1 (A := some ⟨g, 0, none⟩) (l := (os : List Of).take k) rfl (by first | (simp; done) | (simp; omega)) (by intro e; first | rfl | cases e) ((HAt.out.rel hHeld).take k) (by first | (simp; done) | (simp; omega)) (by first | (simp; done) | (simp; omega)) HB1.out ?_
        intro v2 x2 hown2 hg2 hb2
        refine hK.out _ _ (OffOwn.grown_rel hHeld hown1 (Nat.le_refl _) hg2) (fun hHeld => ?_)
        clear hK K
        try simp only [Act.put, List.setIfInBounds_toArray, List.set_cons_zero, List.set_cons_succ]
        refine held_take (i := 8) (v := ?_) (some 11) rfl rfl (by kernel_rfl) (by kernel_rfl) (by kernel_rfl) (fun _ _ _ h => h) (Or.inl ⟨by rfl, ?_⟩) hHeld ?_
        rotate_left 1
        · intro w' (h : Rel w3 w'); go_simp; try with_reducible rfl
        try simp only [Act.put, List.setIfInBounds_toArray, List.set_cons_zero, List.set_cons_succ]
        refine wpAnyH_done (by kernel_rfl) ?_ _
        go_wp2_with (fail)
        go_meet
        exact ⟨_, rfl, hown2, hHeld⟩
  obtain ⟨v4, rfl, hO, hR4⟩ := hcut
  obtain ⟨A4, c4, rfl⟩ := hO.slice_of
  generalize hm0 : [] ++ os.drop k ++ os.take k = m at hO ⊢
  have hP : m.Perm os := hm0 ▸ turn_perm os k
  have HFm : Hid (OffsFit m) := Lib.hid (fun o ho => HFit.out o (hP.mem_iff.1 ho))
  have O4 := Lib.hid (hO.arg HFm.out)
  have Q3 := Lib.hid (show RV (runS m l) = .tuple #[.int .i64 v, .bool b, .int .i64 e] by rw [(run_perm hP l).1]; exact Q1.out)
  have Q4 := Lib.hid (show stepsS m l = K by rw [(run_perm hP l).2]; exact Q2.out)
  have R4 := Lib.hid hR4
  have I4 := Lib.hid (I3.out.rel hR4)
  have P4 := Lib.hid (O3.out.rel hR4)
  clear hO hR4 hm0 hP hform hw1 hp1 hp2 hki hkci hlci hk0 hkl hkc
  go_upto_region 7 with (go_at_call 13; (with_reducible refine (runl_at H.out l os v e b Q1 A2 A3 c2 c3 _ _ R4.out.self I4.out P4.out).mono ?_); rintro e5 w5 ⟨rfl, h5⟩; have R5 := Lib.hid h5; have I5 := Lib.hid (I4.out.rel h5); have P5 := Lib.hid (P4.out.rel h5); have O5 := Lib.hid (O4.out.rel h5))
  go_upto_region 8 with (go_at_call 13; (with_reducible refine (runl_at H.out l m v e b Q3 A2 A4 c2 c4 _ _ R5.out.self I5.out O5.out).mono ?_); rintro e6 w6 ⟨rfl, h6⟩; have R6 := Lib.hid h6; have I6 := Lib.hid (I5.out.rel h6); have P6 := Lib.hid (P5.out.rel h6); have O6 := Lib.hid (O5.out.rel h6))
  go_wp2_with (first
    | (go_at_call 15; (with_reducible refine (steps_at H.out l os K Q2 A2 A3 c2 c3 _ _ R6.out.self I6.out P6.out).mono ?_); rintro e7 w7 ⟨rfl, h7⟩; have R7 := Lib.hid h7; have I7 := Lib.hid (I6.out.rel h7); have O7 := Lib.hid (O6.out.rel h7))
    | (go_at_call 15; (with_reducible refine (steps_at H.out l m K Q4 A2 A4 c2 c4 _ _ R7.out.self I7.out O7.out).mono ?_); rintro e8 w8 ⟨rfl, h8⟩; have R8 := Lib.hid h8))
  go_ret
  exact ⟨rfl, R1.out.trans (R2.out.trans (R3.out.trans (R4.out.trans (R5.out.trans (R6.out.trans (R7.out.trans R8.out))))))⟩
end Go.Proofs.YtcckemhelockaaaGreatDoor
