/- ValueGrows, over what the program is asked; ValueOrder, over what the program is asked. -/
import Derived.Test.YtpehlldgnbajjaaDoorZ29
import Derived.Test.YtpehlldgnbajjaaDoorZ28
import Derived.Test.YtpehlldgnbajjaaDoorZ13
import Derived.Test.YtpehlldgnbajjaaDoorZ06
namespace Go.Proofs.YtpehlldgnbajjaaDoor
open Go.RowKit Go.Lib
set_option linter.unusedVariables false
set_option linter.unusedSimpArgs false

def exK (j : Nat) : Ex := .mk ((j : Int) + 1) 0 [] []
theorem exK_size (j : Nat) : size (exK j) ≤ 90000 := by unfold exK; rw [size_mk, sizes_nil]; omega
theorem eval_k {os : List Of} (hok : offsOk os = true) {j : Nat} (hj : j < 2) : evalS os (exK j) = .ok (rk os j) := by
  match j, hj with
  | 0, _ => exact eval_low hok
  | 1, _ => exact eval_sec hok
theorem rk_is {os : List Of} {j : Nat} (hj : j < os.length) : ∃ a, rk os j = some a := by
  have h := rk_some os j
  rw [decide_eq_true hj] at h
  exact Option.isSome_iff_exists.1 h
theorem grow_tell {os : List Of} (hok : offsOk os = true) (h2 : 2 ≤ os.length) {p : Nat} (hp : p < os.length) {v : Int} (hv1 : 1 ≤ v) (hv2 : v ≤ os[p].2) {j : Nat} (hj : j < 2) :
    ∃ (a b c : Int) (t : Bool), RV (evalS os (exK j)) = .tuple #[.int .i64 a, .bool true, .int .i64 0] ∧ RV (evalS (os.set p (os[p].1, v)) (exK j)) = .tuple #[.int .i64 b, .bool true, .int .i64 0] ∧ RV (evalS (less1 os p) (exK j)) = .tuple #[.int .i64 c, .bool t, .int .i64 0] ∧ b ≤ a ∧ (t = true → a ≤ c) := by
  have hb := offs_price hok (List.getElem_mem hp)
  have hok2 := set_ok hok hp hv1 (by omega : v ≤ 1000000000000)
  obtain ⟨a, ha⟩ := rk_is (os := os) (j := j) (by omega)
  obtain ⟨b, hb'⟩ := rk_is (os := os.set p (os[p].1, v)) (j := j) (by rw [List.length_set]; omega)
  refine ⟨a, b, (rk (less1 os p) j).getD 0, (rk (less1 os p) j).isSome, by rw [eval_k hok hj, ha]; rfl, by rw [eval_k hok2 hj, hb']; rfl, by rw [eval_k (less1_ok hok p) hj, opt_tri], rk_set hp hv2 ha hb', fun ht => ?_⟩
  obtain ⟨c, hc⟩ := Option.isSome_iff_exists.1 ht
  rw [hc]
  exact rk_less hp ha hc
theorem two_ints (w : World) (j : Nat) (hj : j < 2) : (w.alloc (.cells #[.int .i64 1, .int .i64 2] 3)).cell? ⟨w.heap.size, j, none⟩ = some (.int .i64 ((j : Int) + 1)) := by
  rw [(Bk.new w 3 #[.int .i64 1, .int .i64 2]).cell]
  match j, hj with
  | 0, _ => rfl
  | 1, _ => rfl
theorem exK_at (S : Nat → Prop) (w : World) (j : Nat) (hj : j < 2) (q : Int) (hq : q = (j : Int) + 1) : ExAt S w (q, 0, [], none, 0, 0) (exK j) := by
  subst hq
  exact ExAt.leaf S w ((j : Int) + 1) 0 [] none 0 ⟨by omega, by omega⟩ ⟨by decide, by decide⟩ (Nat.zero_le _)
set_option maxRecDepth 100000 in
set_option maxHeartbeats 8000000 in
theorem ValueGrows_at (H : ValueOk) (A : Option Addr) (c : Nat) (zs : List (Int × Int)) (which by_ : Int) (hwh : i64 which) (hby : i64 by_) (w : World) (hr : Rel w w) (hz : PairsIn w A zs.length zs) :
    Calls Tryd.prog 6 #[.slice A zs.length c, .int .i64 which, .int .i64 by_] w fun e w' => e = .returned (.bool true) ∧ Rel w w' := by
  have H := Lib.hid H
  have HR := Lib.hid hr
  have HZ := Lib.hid hz
  have HBy := Lib.hid hby
  obtain ⟨os, hos⟩ : ∃ os, offS zs = os := ⟨_, rfl⟩
  have hOf := fun (w0 w : World) (hr : Rel w0 w) (hz : PairsIn w A zs.length zs) => offers_any A c zs w0 w hr hz
  rw [hos] at hOf
  have HOf := Lib.hid hOf
  have hok : offsOk os = true := by rw [← hos]; exact offS_ok zs
  have HOk := Lib.hid hok
  have h8 := offs_len hok
  have HFit := Lib.hid (offs_fit hok)
  clear hos hr hz hOf hok hby
  go_enter Tryd.func6, Tryd.ntmps6
  go_upto_region 3 with (first
    | (go_at_call 8; (with_reducible refine (awake9_any H.out _ _ HR.out).mono ?_); rintro e1 w1 ⟨rfl, h1⟩; have R1 := Lib.hid h1)
    | (go_at_call 10; (with_reducible refine (HOf.out _ _ R1.out (HZ.out.rel9 R1.out)).mono ?_); rintro e2 w2 ⟨A2, c2, rfl, hO, h2⟩; have R2 := Lib.hid h2; have HO := Lib.hid hO))
  clear hO h1 h2
  by_cases h2 : os.length < 2
  · have k1 : decide ((os.length : Int) < 2) = true := decide_eq_true (by omega)
    go_wp2_with (fail)
    go_ret
    exact ⟨rfl, HR.out.trans R2.out⟩
  have k1 : decide ((os.length : Int) < 2) = false := decide_eq_false (by omega)
  rcases HO.out.form with ⟨_, _, h0⟩ | ⟨g, rfl, hgb, hgl⟩
  · rw [h0] at h2; simp at h2
  have HOA := Lib.hid (HO.out.arg HFit.out)
  obtain ⟨hc2a, hc2b⟩ : os.length ≤ c2 ∧ c2 ≤ 9223372036854775807 := ⟨HOA.out.1, HOA.out.2.1⟩
  have hkb := pk_bd which (os.length : Int) (by omega)
  obtain ⟨p, hpk⟩ : ∃ p : Nat, pk which (os.length : Int) = (p : Int) := ⟨(pk which (os.length : Int)).toNat, by omega⟩
  have hp : p < os.length := by omega
  have HPK := Lib.hid hpk
  have hl0 : (0 : Int) < (os.length : Int) := by omega
  have hl1 : (os.length : Int) ≤ 9223372036854775807 := by omega
  obtain ⟨hw0, hw1⟩ := hwh
  have hpr := offs_price HOk.out (List.getElem_mem hp)
  obtain ⟨s', P', ho2⟩ : ∃ s' P', os[p] = (s', P') := ⟨_, _, rfl⟩
  rw [ho2] at hpr
  have hq1 : 0 < P' := by have := hpr.1; simp only at this; omega
  have hq2 : P' ≤ 1000000000000 := hpr.2
  have hbb := pk_bd by_ P' hq1
  obtain ⟨V, hV⟩ : ∃ V, pk by_ P' = V := ⟨_, rfl⟩
  rw [hV] at hbb
  have HVV := Lib.hid hV
  obtain ⟨hv0, hv1⟩ := hbb
  obtain ⟨hb0, hb1⟩ := HBy.out
  have hwr : IntKind.i64.wrap (1 + V) = 1 + V := IntWalk.i64_in _ (by omega)
  have HP2 := Lib.hid ho2
  clear hkb hpk hV hpr
  go_upto_region 6 with (go_at_call 14; (with_reducible refine (pk9_as which (os.length : Int) (p : Int) HPK hw0 hw1 hl0 hl1 _).mono ?_); rintro e w' ⟨rfl, rfl⟩)
  go_upto_region 7 with (at_builtin; (refine wpList_plain rfl fun K hK => wp_app _ _ rfl (base := w2.heap.size) (v := .slice none 0 0) (os := []) rfl (OffOwn.nil _ _) (A := some ⟨g, 0, none⟩) (c := c2) (l := os) rfl (fun e => by cases e) HOA.out.2.2.2 (by omega) (by simp) (Nat.le_refl _) fun v1 w3 hown1 hg1 hb1 => hK _ _ ?_))
  rw [List.nil_append] at hown1
  obtain ⟨A3, c3, rfl⟩ := hown1.slice_of
  have R3 := Lib.hid (R2.out.self.grown hg1 (fun q hq => by cases hq))
  rcases hown1.form with ⟨_, _, h0⟩ | ⟨g3, rfl, hgb3, hgl3⟩
  · rw [h0] at h2; simp at h2
  have HO3 := Lib.hid hown1
  obtain ⟨g', off', sx, px, e1, x0, x1, hox⟩ := offs_at (OffOwn.offs (A := some ⟨g3, 0, none⟩) (n := os.length) (c := c3) hown1 rfl) R3.out.right3 p hp
  injection e1 with e1; injection e1 with e1 e3; subst e1; subst e3
  rw [ho2] at hox
  injection hox with hox1 hox2
  subst hox1; subst hox2
  rw [Nat.zero_add] at x0 x1
  have fz : ∀ i : Nat, w3.frozen? ⟨g3, i, none⟩ = false := fun i => by
    rcases hown1.2 with ⟨h0, _⟩ | ⟨gg, cap, cur, hv, _, hh, _⟩
    · cases h0
    · injection hv with hv _ _; injection hv with hv; injection hv with hv; subst hv
      exact Bk.frozen (t := 37) hh i
  have f1 := fz (p * 2 + 1)
  have hpi : (p : Int) < (os.length : Int) := by omega
  have hO4 := OffOwn.set1 hown1 p hp (1 + V)
  have HM0 : os[p].1 = s' := by rw [ho2]
  have R4 := Lib.hid (R3.out.setCell (p := ⟨g3, p * 2 + 1, none⟩) hgb3 (.int .i64 (1 + V)))
  clear hown1 ho2 hg1 hb1 fz x0 hc2a
  go_upto_region 8 with (go_at_call 14; (with_reducible refine (pk9_as by_ P' V HVV hb0 hb1 hq1 (Int.le_trans hq2 (by decide)) _).mono ?_); rintro e w' ⟨rfl, rfl⟩)
  obtain ⟨w5, hw5⟩ : ∃ w5, w3.setCell ⟨g3, p * 2 + 1, none⟩ (.int .i64 (1 + V)) = w5 := ⟨_, rfl⟩
  rw [hw5] at hO4 R4 ⊢
  obtain ⟨m, hm⟩ : ∃ m, os.set p (os[p].1, 1 + V) = m := ⟨_, rfl⟩
  have hml : m.length = os.length := by rw [← hm, List.length_set]
  rw [hm] at hO4
  have HTell := Lib.hid (fun (j : Nat) (hj : j < 2) => grow_tell HOk.out (by omega) hp (v := 1 + V) (by omega) (by rw [HP2.out]; show 1 + V ≤ P'; omega) hj)
  rw [hm] at HTell
  have HOV2 : Hid (Value.slice (some ⟨g3, 0, none⟩) m.length c3 = .slice (some ⟨g3, 0, none⟩) os.length c3) := Lib.hid (by rw [hml])
  have HMOk := Lib.hid (set_ok HOk.out hp (p := 1 + V) (by omega) (by omega))
  rw [hm] at HMOk
  have HO5 := Lib.hid (show OffOwn w5 w2.heap.size (.slice (some ⟨g3, 0, none⟩) m.length c3) m by rw [hml]; exact hO4)
  have R5 := Lib.hid R4.out
  have HAt := Lib.hid (HOA.out.2.2.2.rel R4.out)
  have hc2a := HOA.out.1
  have hw1 : IntKind.i64.wrap ((p : Int) + 1) = (p : Int) + 1 := IntWalk.i64_in _ (by omega)
  have hi0 : (0 : Int) ≤ (p : Int) + 1 := by omega
  have hi1 : (p : Int) + 1 ≤ (os.length : Int) := by omega
  have hi2 : (p : Int) + 1 ≤ (c2 : Int) := by omega
  have hi3 : (p : Int) ≤ (c2 : Int) := by omega
  have hi4 : (0 : Int) ≤ (p : Int) := by omega
  have hi5 : (os.length : Int) ≤ (c2 : Int) := by omega
  have hi6 : ¬ c2 = p := by omega
  have hi7 : p ≤ c2 := by omega
  have hi8 : p + 1 ≤ os.length := by omega
  have hi9 : (p : Int) ≤ (p : Int) + 1 := by omega
  clear hO4 hw5 hm x1 f1 hq1 hq2 hv0 hv1 hwr hgb hgl hgb3 hgl3 hb0 hb1 hw0
  go_cut [11] (fun x wx => ∃ v, x = v ∧ OffOwn wx w5.heap.size v ([] ++ os.take p ++ os.drop (p + 1)) ∧ Rel w5 wx)
  case first =>
    by_cases hck : c2 = p + 1
    · have hd0 : os.drop (p + 1) = [] := List.drop_eq_nil_of_le (by omega)
      refine wp_region_held_drew (S := (fun w' => Rel w5 w')) (by kernel_rfl) R5.out.self.drew (fun hHeld => ?_)
      refine held_take (i := 0) (v := ?_) (some 49) rfl rfl (by kernel_rfl) (by kernel_rfl) (by kernel_rfl) (fun _ _ _ h => h) (Or.inl ⟨by rfl, ?_⟩) hHeld ?_
      rotate_left 1
      · intro w' (h : Rel w5 w'); go_simp; try with_reducible rfl
      try simp only [Act.put, List.setIfInBounds_toArray, List.set_cons_zero, List.set_cons_succ]
      refine held_take (i := 1) (v := ?_) (some 50) rfl rfl (by kernel_rfl) (by kernel_rfl) (by kernel_rfl) (fun _ _ _ h => h) (Or.inl ⟨by rfl, ?_⟩) hHeld ?_
      rotate_left 1
      · intro w' (h : Rel w5 w'); go_simp; try with_reducible rfl
      try simp only [Act.put, List.setIfInBounds_toArray, List.set_cons_zero, List.set_cons_succ]
      refine held_take (i := 2) (v := ?_) (some 51) rfl rfl (by kernel_rfl) (by kernel_rfl) (by kernel_rfl) (fun _ _ _ h => h) (Or.inl ⟨by rfl, ?_⟩) hHeld ?_
      rotate_left 1
      · intro w' (h : Rel w5 w'); go_simp; try with_reducible rfl
      try simp only [Act.put, List.setIfInBounds_toArray, List.set_cons_zero, List.set_cons_succ]
      refine held_take (i := 4) (v := ?_) (some 53) rfl rfl (by kernel_rfl) (by kernel_rfl) (by kernel_rfl) (fun _ _ _ h => h) (Or.inl ⟨by rfl, ?_⟩) hHeld ?_
      rotate_left 1
      · intro w' (h : Rel w5 w'); go_simp; try with_reducible rfl
      try simp only [Act.put, List.setIfInBounds_toArray, List.set_cons_zero, List.set_cons_succ]
      refine held_take (i := 5) (v := ?_) (some 54) rfl rfl (by kernel_rfl) (by kernel_rfl) (by kernel_rfl) (fun _ _ _ h => h) (Or.inl ⟨by rfl, ?_⟩) hHeld ?_
      rotate_left 1
      · intro w' (h : Rel w5 w'); go_simp; try with_reducible rfl
      try simp only [Act.put, List.setIfInBounds_toArray, List.set_cons_zero, List.set_cons_succ]
      refine held_take (i := 6) (v := ?_) (some 55) rfl rfl (by kernel_rfl) (by kernel_rfl) (by kernel_rfl) (fun _ _ _ h => h) (Or.inl ⟨by rfl, ?_⟩) hHeld ?_
      rotate_left 1
      · intro w' (h : Rel w5 w'); go_simp; try with_reducible rfl
      try simp only [Act.put, List.setIfInBounds_toArray, List.set_cons_zero, List.set_cons_succ]
      refine held_take (i := 7) (v := ?_) (some 56) rfl rfl (by kernel_rfl) (by kernel_rfl) (by kernel_rfl) (fun _ _ _ h => h) (Or.inl ⟨by rfl, ?_⟩) hHeld ?_
      rotate_left 1
      · intro w' (h : Rel w5 w'); go_simp; try with_reducible rfl
      try simp only [Act.put, List.setIfInBounds_toArray, List.set_cons_zero, List.set_cons_succ]
      refine held_one (j := 3) (by kernel_rfl) rfl (fun K hK => ?_)
      try simp only [List.getElem_toArray, List.getElem_cons_succ, List.getElem_cons_zero]
      rw [if_pos (by rfl)]
      refine wp_appn _ _ rfl (base := w5.heap.size) (v := .slice none 0 0) (os := []) rfl (OffOwn.nil _ _) (A := some ⟨g, 0, none⟩) (l := os.take p) rfl (by first | (simp; done) | (simp; omega)) (by intro e; cases e) ((HAt.out.rel hHeld).take p) (by simp; omega) (by simp) (by simp) ?_
      intro v1 w1 hown1 hg1 hb1
      refine hK.out _ _ (hHeld.grown hg1 (fun q hq => by cases hq)) (fun hHeld => ?_)
      clear hK K
      try simp only [Act.put, List.setIfInBounds_toArray, List.set_cons_zero, List.set_cons_succ]
      refine held_one (j := 8) (by kernel_rfl) rfl (fun K hK => ?_)
      try simp only [List.getElem_toArray, List.getElem_cons_succ, List.getElem_cons_zero]
      rw [if_pos (by rfl)]
      have HB1 := Lib.hid hHeld.size
      refine wp_appn _ _ rfl (base := w5.heap.size) (v := v1) (os := [] ++ os.take p) rfl hown1 (A := some ⟨g, 0, none⟩) (l := os.drop (p + 1)) rfl (by first | (simp; done) | (simp; omega)) (by intro e; cases e) (by rw [hd0]; exact OffsAt.nil _ _) (by simp; omega) (by simp; omega) HB1.out ?_
      intro v2 w2' hown2 hg2 hb2
      refine hK.out _ _ (OffOwn.grown_rel hHeld hown1 (Nat.le_refl _) hg2) (fun hHeld => ?_)
      clear hK K
      try simp only [Act.put, List.setIfInBounds_toArray, List.set_cons_zero, List.set_cons_succ]
      refine held_take (i := 9) (v := ?_) (some 11) rfl rfl (by kernel_rfl) (by kernel_rfl) (by kernel_rfl) (fun _ _ _ h => h) (Or.inl ⟨by rfl, ?_⟩) hHeld ?_
      rotate_left 1
      · intro w' (h : Rel w5 w'); go_simp; try with_reducible rfl
      try simp only [Act.put, List.setIfInBounds_toArray, List.set_cons_zero, List.set_cons_succ]
      refine wpAnyH_done (by kernel_rfl) ?_ _
      go_wp2_with (fail)
      go_meet
      exact ⟨_, rfl, hown2, hHeld⟩
    · skip
      refine wp_region_held_drew (S := (fun w' => Rel w5 w')) (by kernel_rfl) R5.out.self.drew (fun hHeld => ?_)
      refine held_take (i := 0) (v := ?_) (some 49) rfl rfl (by kernel_rfl) (by kernel_rfl) (by kernel_rfl) (fun _ _ _ h => h) (Or.inl ⟨by rfl, ?_⟩) hHeld ?_
      rotate_left 1
      · intro w' (h : Rel w5 w'); go_simp; try with_reducible rfl
      try simp only [Act.put, List.setIfInBounds_toArray, List.set_cons_zero, List.set_cons_succ]
      refine held_take (i := 1) (v := ?_) (some 50) rfl rfl (by kernel_rfl) (by kernel_rfl) (by kernel_rfl) (fun _ _ _ h => h) (Or.inl ⟨by rfl, ?_⟩) hHeld ?_
      rotate_left 1
      · intro w' (h : Rel w5 w'); go_simp; try with_reducible rfl
      try simp only [Act.put, List.setIfInBounds_toArray, List.set_cons_zero, List.set_cons_succ]
      refine held_take (i := 2) (v := ?_) (some 51) rfl rfl (by kernel_rfl) (by kernel_rfl) (by kernel_rfl) (fun _ _ _ h => h) (Or.inl ⟨by rfl, ?_⟩) hHeld ?_
      rotate_left 1
      · intro w' (h : Rel w5 w'); go_simp; try with_reducible rfl
      try simp only [Act.put, List.setIfInBounds_toArray, List.set_cons_zero, List.set_cons_succ]
      refine held_take (i := 4) (v := ?_) (some 53) rfl rfl (by kernel_rfl) (by kernel_rfl) (by kernel_rfl) (fun _ _ _ h => h) (Or.inl ⟨by rfl, ?_⟩) hHeld ?_
      rotate_left 1
      · intro w' (h : Rel w5 w'); go_simp; try with_reducible rfl
      try simp only [Act.put, List.setIfInBounds_toArray, List.set_cons_zero, List.set_cons_succ]
      refine held_take (i := 5) (v := ?_) (some 54) rfl rfl (by kernel_rfl) (by kernel_rfl) (by kernel_rfl) (fun _ _ _ h => h) (Or.inl ⟨by rfl, ?_⟩) hHeld ?_
      rotate_left 1
      · intro w' (h : Rel w5 w'); go_simp; try with_reducible rfl
      try simp only [Act.put, List.setIfInBounds_toArray, List.set_cons_zero, List.set_cons_succ]
      refine held_take (i := 6) (v := ?_) (some 55) rfl rfl (by kernel_rfl) (by kernel_rfl) (by kernel_rfl) (fun _ _ _ h => h) (Or.inl ⟨by rfl, ?_⟩) hHeld ?_
      rotate_left 1
      · intro w' (h : Rel w5 w'); go_simp; try with_reducible rfl
      try simp only [Act.put, List.setIfInBounds_toArray, List.set_cons_zero, List.set_cons_succ]
      refine held_take (i := 7) (v := ?_) (some 56) rfl rfl (by kernel_rfl) (by kernel_rfl) (by kernel_rfl) (fun _ _ _ h => h) (Or.inl ⟨by rfl, ?_⟩) hHeld ?_
      rotate_left 1
      · intro w' (h : Rel w5 w'); go_simp; try with_reducible rfl
      try simp only [Act.put, List.setIfInBounds_toArray, List.set_cons_zero, List.set_cons_succ]
      refine held_one (j := 3) (by kernel_rfl) rfl (fun K hK => ?_)
      try simp only [List.getElem_toArray, List.getElem_cons_succ, List.getElem_cons_zero]
      rw [if_pos (by rfl)]
      refine wp_appn _ _ rfl (base := w5.heap.size) (v := .slice none 0 0) (os := []) rfl (OffOwn.nil _ _) (A := some ⟨g, 0, none⟩) (l := os.take p) rfl (by first | (simp; done) | (simp; omega)) (by intro e; cases e) ((HAt.out.rel hHeld).take p) (by simp; omega) (by simp) (by simp) ?_
      intro v1 w1 hown1 hg1 hb1
      refine hK.out _ _ (hHeld.grown hg1 (fun q hq => by cases hq)) (fun hHeld => ?_)
      clear hK K
      try simp only [Act.put, List.setIfInBounds_toArray, List.set_cons_zero, List.set_cons_succ]
      refine held_one (j := 8) (by kernel_rfl) rfl (fun K hK => ?_)
      try simp only [List.getElem_toArray, List.getElem_cons_succ, List.getElem_cons_zero]
      rw [if_pos (by rfl)]
      have HB1 := Lib.hid hHeld.size
      refine wp_appn _ _ rfl (base := w5.heap.size) (v := v1) (os := [] ++ os.take p) rfl hown1 (A := some ⟨g, (p + 1) * 2, none⟩) (l := os.drop (p + 1)) rfl (by first | (simp; done) | (simp; omega)) (by intro e; cases e) (by have h := (HAt.out.rel hHeld).from (p + 1); rwa [Nat.zero_add] at h) (by simp; omega) (by simp; omega) HB1.out ?_
      intro v2 w2' hown2 hg2 hb2
      refine hK.out _ _ (OffOwn.grown_rel hHeld hown1 (Nat.le_refl _) hg2) (fun hHeld => ?_)
      clear hK K
      try simp only [Act.put, List.setIfInBounds_toArray, List.set_cons_zero, List.set_cons_succ]
      refine held_take (i := 9) (v := ?_) (some 11) rfl rfl (by kernel_rfl) (by kernel_rfl) (by kernel_rfl) (fun _ _ _ h => h) (Or.inl ⟨by rfl, ?_⟩) hHeld ?_
      rotate_left 1
      · intro w' (h : Rel w5 w'); go_simp; try with_reducible rfl
      try simp only [Act.put, List.setIfInBounds_toArray, List.set_cons_zero, List.set_cons_succ]
      refine wpAnyH_done (by kernel_rfl) ?_ _
      go_wp2_with (fail)
      go_meet
      exact ⟨_, rfl, hown2, hHeld⟩
  obtain ⟨v, rfl, hO6, hR6⟩ := hcut
  obtain ⟨A6, c6, rfl⟩ := hO6.slice_of
  have hlm : [] ++ os.take p ++ os.drop (p + 1) = less1 os p := rfl
  rw [hlm] at hO6 ⊢
  have HLk := Lib.hid (less1_ok HOk.out p)
  obtain ⟨few, hfew⟩ : ∃ few, less1 os p = few := ⟨_, rfl⟩
  rw [hfew] at hO6 HTell HLk ⊢
  obtain ⟨w6, hw6⟩ : ∃ w6, w6 = wc := ⟨_, rfl⟩
  subst hw6
  have HA1 := Lib.hid ((HOA.out.rel R5.out).rel hR6)
  have HA2 := Lib.hid ((HO5.out.rel hR6).arg (offs_fit HMOk.out))
  have HA3 := Lib.hid (hO6.arg (offs_fit HLk.out))
  have R6 := Lib.hid (R5.out.trans hR6)
  have RB := Lib.hid (R6.out.right3.alloc (.cells #[.int .i64 1, .int .i64 2] 3))
  have HI2 := Lib.hid (fun j hj => two_ints w6 j hj)
  have hlt6 : w6.heap.size < (w6.alloc (.cells #[.int .i64 1, .int .i64 2] 3)).heap.size := by rw [World.size_alloc]; omega
  clear hO6 hR6 hlm hfew hw1 hi0 hi1 hi2 hi3 hi4 hi5 hi6 hi7 hi8 hi9
  go_upto_block 0 with (fail)
  obtain ⟨W, hW⟩ : ∃ W, w6.alloc (.cells #[.int .i64 1, .int .i64 2] 3) = W := ⟨_, rfl⟩
  rw [hW] at RB HI2 hlt6 ⊢
  clear hW
  go_wp2_with (fail)
  go_loopw [60] (fun i wr => ∃ j : Nat, j ≤ 2 ∧ i = .int .i64 (j : Int) ∧ Rel W wr) (fun i _ => 2 - (RowKit.intOf i).toNat)
  case atStart => exact ⟨0, by omega, rfl, RB.out.right2⟩
  case round =>
    obtain ⟨j, hj, rfl, hRw⟩ := hrel
    have HRw := Lib.hid hRw
    by_cases hlt : j < 2
    · have hji : (j : Int) < 2 := by omega
      have c0 := (hRw.2.cell (p := ⟨w6.heap.size, j, none⟩) hlt6).trans (HI2.out j hlt)
      obtain ⟨q, hq⟩ : ∃ q, (j : Int) + 1 = q := ⟨_, rfl⟩
      rw [hq] at c0
      obtain ⟨a, b, d, t, q1, q2, q3, hba, hac⟩ := HTell.out j hlt
      have Q1 := Lib.hid q1
      have Q2 := Lib.hid q2
      have Q3 := Lib.hid q3
      have zq := exK_size j
      have HEx := Lib.hid (fun w1 => exK_at (fun _ => True) w1 j hlt q hq.symm)
      have RX := Lib.hid (HRw.out.alloc (.cells #[.int .i64 q, .int .i64 0, .string ⟨#[]⟩, .slice none 0 0] 27))
      have RX1 := Lib.hid ((RB.out.trans HRw.out).alloc (.cells #[.int .i64 q, .int .i64 0, .string ⟨#[]⟩, .slice none 0 0] 27))
      have HX := Lib.hid (Bk.new wr 27 #[.int .i64 q, .int .i64 0, .string ⟨#[]⟩, .slice none 0 0])
      have kba : decide (a < b) = false := decide_eq_false (by omega)
      have V1 : Hid (EV (q, 0, [], none, 0, 0) = .agg #[.int .i64 q, .int .i64 0, .string ⟨#[]⟩, .slice none 0 0]) := Lib.hid rfl
      have HJ := Lib.hid hq
      clear q1 q2 q3 hba hq hRw
      go_upto_region 13 with (fail)
      obtain ⟨U, hU⟩ : ∃ U, wr.alloc (.cells #[.int .i64 q, .int .i64 0, .string ⟨#[]⟩, .slice none 0 0] 27) = U := ⟨_, rfl⟩
      rw [hU] at RX RX1 HX ⊢
      clear hU
      obtain ⟨⟨y0, y1, y2, y3⟩, _⟩ := HX.out.four
      have hac2 : t = false ∨ decide (d < a) = false := by
        cases t with
        | false => exact .inl rfl
        | true => exact .inr (decide_eq_false (by have := hac rfl; omega))
      go_upto_region 16 with (first
        | (go_at_call 11; (with_reducible refine (eval_as H.out (exK j) os a true 0 Q1 (fun _ => True) (q, 0, [], none, 0, 0) (some ⟨g, 0, none⟩) c2 _ _ RX1.out.right3 (HEx.out _) zq (HA1.out.rel RX1.out) _ _ V1 (Lib.hid rfl)).mono ?_); rintro e3 w7 ⟨rfl, h7⟩; have R7 := Lib.hid (RX1.out.trans h7); obtain ⟨⟨z0, z1, z2, z3⟩, _⟩ := (HX.out.rel h7).four; have S7 := Lib.hid h7)
        | (go_at_call 11; (with_reducible refine (eval_as H.out (exK j) m b true 0 Q2 (fun _ => True) (q, 0, [], none, 0, 0) (some ⟨g3, 0, none⟩) c3 _ _ R7.out.right3 (HEx.out _) zq (HA2.out.rel R7.out) _ _ V1 HOV2).mono ?_); rintro e4 w8 ⟨rfl, h8⟩; have R8 := Lib.hid (R7.out.trans h8); obtain ⟨⟨v0, v1, v2, v3⟩, _⟩ := (HX.out.rel (S7.out.trans h8)).four; have S8 := Lib.hid (S7.out.trans h8))
        | (go_at_call 11; (with_reducible refine (eval_as H.out (exK j) few d t 0 Q3 (fun _ => True) (q, 0, [], none, 0, 0) A6 c6 _ _ R8.out.right3 (HEx.out _) zq (HA3.out.rel R8.out) _ _ V1 (Lib.hid rfl)).mono ?_); rintro e5 w9 ⟨rfl, h9⟩; have S9 := Lib.hid (S8.out.trans h9)))
      rcases hac2 with rfl | hd
      all_goals
        (try cases t)
        all_goals
          go_wp2_with (fail)
          go_roundw
          case rel => exact ⟨j + 1, by omega, by go_num, (RX.out).trans S9.out⟩
          case measure => simp [RowKit.intOf]; omega
    · obtain rfl : j = 2 := by omega
      go_wp2_with (fail)
      go_ret
      exact ⟨rfl, (((HR.out.trans R2.out).trans R6.out).trans RB.out).trans HRw.out⟩
end Go.Proofs.YtpehlldgnbajjaaDoor

namespace Go.Proofs.YtpehlldgnbajjaaDoor
open Go.RowKit Go.Lib
set_option linter.unusedVariables false
set_option linter.unusedSimpArgs false

set_option maxRecDepth 100000 in
set_option maxHeartbeats 8000000 in
theorem ValueOrder_at (H : ValueOk) (A1 : Option Addr) (c1 : Nat) (L : List Int) (A : Option Addr) (c : Nat) (zs : List (Int × Int)) (at_ : Int) (back : Bool) (ha : i64 at_) (w : World) (hr : Rel w w) (hi : IntsIn w A1 c1 L) (hz : PairsIn w A zs.length zs) :
    Calls Tryd.prog 3 #[.slice A1 L.length c1, .slice A zs.length c, .int .i64 at_, .bool back] w fun e w' => e = .returned (.bool true) ∧ Rel w w' := by
  have H := Lib.hid H
  have HR := Lib.hid hr
  have HZ := Lib.hid hz
  have HI := Lib.hid hi
  have HAt := Lib.hid ha
  obtain ⟨os, hos⟩ : ∃ os, offS zs = os := ⟨_, rfl⟩
  have hOf := fun (w0 w : World) (hr : Rel w0 w) (hz : PairsIn w A zs.length zs) => offers_any A c zs w0 w hr hz
  rw [hos] at hOf
  have HOf := Lib.hid hOf
  have hok : offsOk os = true := by rw [← hos]; exact offS_ok zs
  have h8 := offs_len hok
  have HFit := Lib.hid (offs_fit hok)
  obtain ⟨x, hx⟩ : ∃ x, strat L = x := ⟨_, rfl⟩
  have hS := fun (w0 w : World) (hr : Rel w0 w) (h : IntsIn w A1 c1 L) => strat_any A1 c1 L w0 w hr h
  have zx : size x ≤ 90000 := by have := strat_size L; rw [hx] at this; omega
  rw [hx] at hS
  have HSt := Lib.hid hS
  obtain ⟨a, t, e, q1⟩ : ∃ (a : Int) (t : Bool) (e : Int), RV (evalS os x) = .tuple #[.int .i64 a, .bool t, .int .i64 e] := ⟨_, _, _, rfl⟩
  have Q1 := Lib.hid q1
  clear hos hr hz hOf hok hi hx hS q1 ha
  go_enter Tryd.func3, Tryd.ntmps3
  go_upto_region 3 with (first
    | (go_at_call 8; (with_reducible refine (awake9_any H.out _ _ HR.out).mono ?_); rintro e1 w1 ⟨rfl, h1⟩; have R1 := Lib.hid h1)
    | (go_at_call 9; (with_reducible refine (HSt.out _ _ R1.out (HI.out.rel R1.out)).mono ?_); rintro e2 w2 ⟨vx, rfl, ex, h2⟩; have R2 := Lib.hid h2))
  have R3 := Lib.hid (R2.out.alloc (.cells #[.int .i64 vx.1, .int .i64 vx.2.1, .string (B vx.2.2.1), .slice vx.2.2.2.1 vx.2.2.2.2.1 vx.2.2.2.2.2] 27))
  have BX := Lib.hid (Bk.new w2 27 #[.int .i64 vx.1, .int .i64 vx.2.1, .string (B vx.2.2.1), .slice vx.2.2.2.1 vx.2.2.2.2.1 vx.2.2.2.2.2])
  have EX := Lib.hid ((ex.rel (R2.out.self.alloc (.cells #[.int .i64 vx.1, .int .i64 vx.2.1, .string (B vx.2.2.1), .slice vx.2.2.2.1 vx.2.2.2.2.1 vx.2.2.2.2.2] 27))).weak (S' := fun _ => True) (fun _ _ => trivial))
  obtain ⟨w3, hW⟩ : ∃ W, w2.alloc (.cells #[.int .i64 vx.1, .int .i64 vx.2.1, .string (B vx.2.2.1), .slice vx.2.2.2.1 vx.2.2.2.2.1 vx.2.2.2.2.2] 27) = W := ⟨_, rfl⟩
  rw [hW] at R3 BX EX ⊢
  clear hW ex h1 h2
  go_upto_region 4 with (go_at_call 10; (with_reducible refine (HOf.out _ _ R3.out.self (HZ.out.rel9 R3.out)).mono ?_); rintro e4 w4 ⟨A2, c2, rfl, hO, h4⟩; have C4 := Lib.hid h4; have HO := Lib.hid hO)
  obtain ⟨⟨x0, x1, x2, x3⟩, _⟩ := (BX.out.rel C4.out).four
  go_upto_region 5 with (go_at_call 11; (with_reducible refine (eval_as H.out x os a t e Q1 _ vx A2 c2 _ _ C4.out.self (EX.out.rel C4.out) zx (HO.out.arg HFit.out) _ _ (Lib.hid rfl) (Lib.hid rfl)).mono ?_); rintro e5 w5 ⟨rfl, h5⟩; have C5 := Lib.hid h5)
  have R5 := Lib.hid ((R3.out.trans C4.out).trans C5.out)
  clear hO h4 h5
  go_cut [15, 16, 17] (fun x y z wx => x = .int .i64 a ∧ y = .bool t ∧ z = .int .i64 e ∧ Rel w5 wx)
  case first =>
    refine wp_region_held_drew (S := (fun w' => Rel w5 w')) (by kernel_rfl) (R5.out).self.drew (fun hHeld => ?_)
    refine held_take (i := 0) (v := ?_) (some 31) rfl rfl (by kernel_rfl) (by kernel_rfl) (by kernel_rfl) (fun _ _ _ h => h) (Or.inl ⟨by rfl, ?_⟩) hHeld ?_
    rotate_left 1
    · intro w' (h : Rel w5 w'); obtain ⟨⟨z0, z1, z2, z3⟩, _⟩ := (BX.out.rel (C4.out.trans (C5.out.trans h))).four; go_simp; try with_reducible rfl
    try simp only [Act.put, List.setIfInBounds_toArray, List.set_cons_zero, List.set_cons_succ]
    refine held_take (i := 1) (v := ?_) (some 32) rfl rfl (by kernel_rfl) (by kernel_rfl) (by kernel_rfl) (fun _ _ _ h => h) (Or.inl ⟨by rfl, ?_⟩) hHeld ?_
    rotate_left 1
    · intro w' (h : Rel w5 w'); obtain ⟨⟨z0, z1, z2, z3⟩, _⟩ := (BX.out.rel (C4.out.trans (C5.out.trans h))).four; go_simp; try with_reducible rfl
    try simp only [Act.put, List.setIfInBounds_toArray, List.set_cons_zero, List.set_cons_succ]
    refine held_take (i := 2) (v := ?_) (some 33) rfl rfl (by kernel_rfl) (by kernel_rfl) (by kernel_rfl) (fun _ _ _ h => h) (Or.inl ⟨by rfl, ?_⟩) hHeld ?_
    rotate_left 1
    · intro w' (h : Rel w5 w'); obtain ⟨⟨z0, z1, z2, z3⟩, _⟩ := (BX.out.rel (C4.out.trans (C5.out.trans h))).four; go_simp; try with_reducible rfl
    try simp only [Act.put, List.setIfInBounds_toArray, List.set_cons_zero, List.set_cons_succ]
    refine held_take (i := 3) (v := ?_) (some 34) rfl rfl (by kernel_rfl) (by kernel_rfl) (by kernel_rfl) (fun _ _ _ h => h) (Or.inl ⟨by rfl, ?_⟩) hHeld ?_
    rotate_left 1
    · intro w' (h : Rel w5 w'); obtain ⟨⟨z0, z1, z2, z3⟩, _⟩ := (BX.out.rel (C4.out.trans (C5.out.trans h))).four; go_simp; try with_reducible rfl
    try simp only [Act.put, List.setIfInBounds_toArray, List.set_cons_zero, List.set_cons_succ]
    refine held_one (j := 4) (by kernel_rfl) rfl (fun K hK => ?_)
    try simp only [List.getElem_toArray, List.getElem_cons_succ, List.getElem_cons_zero]
    rw [if_pos (by rfl)]
    go_simp
    go_at_call 12
    (with_reducible refine (turned_any A2 c2 w3.heap.size os at_ back HAt.out _ _ hHeld.self (HO.out.rel (C5.out.trans hHeld)) HFit.out h8).mono ?_)
    rintro e6 w6 ⟨A6, c6, m, rfl, hP, hO6, h6⟩
    have HQ6 := Lib.hid (show RV (evalS m x) = .tuple #[.int .i64 a, .bool t, .int .i64 e] by rw [eval_perm hP]; exact Q1.out)
    have HO6 := Lib.hid (hO6.arg (show OffsFit m from fun o ho => HFit.out o (hP.mem_iff.1 ho)))
    clear hO6
    refine hK.out _ _ (hHeld.trans h6) (fun hHeld => ?_)
    clear hK K
    try simp only [Act.put, List.setIfInBounds_toArray, List.set_cons_zero, List.set_cons_succ]
    refine held_one (j := 5) (by kernel_rfl) rfl (fun K hK => ?_)
    try simp only [List.getElem_toArray, List.getElem_cons_succ, List.getElem_cons_zero]
    rw [if_pos (by rfl)]
    go_simp
    go_at_call 11
    (with_reducible refine (eval_as H.out x m a t e HQ6 _ vx A6 c6 _ _ hHeld.self (EX.out.rel (C4.out.trans (C5.out.trans hHeld))) zx HO6.out _ _ (Lib.hid rfl) (Lib.hid rfl)).mono ?_)
    rintro e7 w7 ⟨rfl, h7⟩
    refine hK.out _ _ (hHeld.trans h7) (fun hHeld => ?_)
    clear hK K
    try simp only [Act.put, List.setIfInBounds_toArray, List.set_cons_zero, List.set_cons_succ]
    refine held_take (i := 6) (v := ?_) (some 30) rfl rfl (by kernel_rfl) (by kernel_rfl) (by kernel_rfl) (fun _ _ _ h => h) (Or.inl ⟨by rfl, ?_⟩) hHeld ?_
    rotate_left 1
    · intro w' (h : Rel w5 w'); obtain ⟨⟨z0, z1, z2, z3⟩, _⟩ := (BX.out.rel (C4.out.trans (C5.out.trans h))).four; go_simp; try with_reducible rfl
    try simp only [Act.put, List.setIfInBounds_toArray, List.set_cons_zero, List.set_cons_succ]
    refine held_take (i := 7) (v := ?_) (some 37) rfl rfl (by kernel_rfl) (by kernel_rfl) (by kernel_rfl) (fun _ _ _ h => h) (Or.inl ⟨by rfl, ?_⟩) hHeld ?_
    rotate_left 1
    · intro w' (h : Rel w5 w'); obtain ⟨⟨z0, z1, z2, z3⟩, _⟩ := (BX.out.rel (C4.out.trans (C5.out.trans h))).four; go_simp; try with_reducible rfl
    try simp only [Act.put, List.setIfInBounds_toArray, List.set_cons_zero, List.set_cons_succ]
    refine held_take (i := 8) (v := ?_) (some 38) rfl rfl (by kernel_rfl) (by kernel_rfl) (by kernel_rfl) (fun _ _ _ h => h) (Or.inl ⟨by rfl, ?_⟩) hHeld ?_
    rotate_left 1
    · intro w' (h : Rel w5 w'); obtain ⟨⟨z0, z1, z2, z3⟩, _⟩ := (BX.out.rel (C4.out.trans (C5.out.trans h))).four; go_simp; try with_reducible rfl
    try simp only [Act.put, List.setIfInBounds_toArray, List.set_cons_zero, List.set_cons_succ]
    refine held_take (i := 9) (v := ?_) (some 39) rfl rfl (by kernel_rfl) (by kernel_rfl) (by kernel_rfl) (fun _ _ _ h => h) (Or.inl ⟨by rfl, ?_⟩) hHeld ?_
    rotate_left 1
    · intro w' (h : Rel w5 w'); obtain ⟨⟨z0, z1, z2, z3⟩, _⟩ := (BX.out.rel (C4.out.trans (C5.out.trans h))).four; go_simp; try with_reducible rfl
    try simp only [Act.put, List.setIfInBounds_toArray, List.set_cons_zero, List.set_cons_succ]
    refine held_take (i := 10) (v := ?_) (some 15) rfl rfl (by kernel_rfl) (by kernel_rfl) (by kernel_rfl) (fun _ _ _ h => h) (Or.inl ⟨by rfl, ?_⟩) hHeld ?_
    rotate_left 1
    · intro w' (h : Rel w5 w'); obtain ⟨⟨z0, z1, z2, z3⟩, _⟩ := (BX.out.rel (C4.out.trans (C5.out.trans h))).four; go_simp; try with_reducible rfl
    try simp only [Act.put, List.setIfInBounds_toArray, List.set_cons_zero, List.set_cons_succ]
    refine held_take (i := 11) (v := ?_) (some 16) rfl rfl (by kernel_rfl) (by kernel_rfl) (by kernel_rfl) (fun _ _ _ h => h) (Or.inl ⟨by rfl, ?_⟩) hHeld ?_
    rotate_left 1
    · intro w' (h : Rel w5 w'); obtain ⟨⟨z0, z1, z2, z3⟩, _⟩ := (BX.out.rel (C4.out.trans (C5.out.trans h))).four; go_simp; try with_reducible rfl
    try simp only [Act.put, List.setIfInBounds_toArray, List.set_cons_zero, List.set_cons_succ]
    refine held_take (i := 12) (v := ?_) (some 17) rfl rfl (by kernel_rfl) (by kernel_rfl) (by kernel_rfl) (fun _ _ _ h => h) (Or.inl ⟨by rfl, ?_⟩) hHeld ?_
    rotate_left 1
    · intro w' (h : Rel w5 w'); obtain ⟨⟨z0, z1, z2, z3⟩, _⟩ := (BX.out.rel (C4.out.trans (C5.out.trans h))).four; go_simp; try with_reducible rfl
    try simp only [Act.put, List.setIfInBounds_toArray, List.set_cons_zero, List.set_cons_succ]
    refine wpAnyH_done (by kernel_rfl) ?_ _
    go_wp2_with (fail)
    go_meet
    exact ⟨rfl, rfl, rfl, hHeld⟩
  obtain ⟨rfl, rfl, rfl, hRZ⟩ := hcut
  go_wp2_with (fail)
  go_ret
  exact ⟨rfl, R5.out.trans hRZ⟩
end Go.Proofs.YtpehlldgnbajjaaDoor
