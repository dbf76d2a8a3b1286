/- ValueLowest, over what the program is asked; ValueBare, over what the program is asked. -/
import Derived.Test.YtpehlldgnbajjaaDoorZ28
import Derived.Test.YtpehlldgnbajjaaDoorZ15
namespace Go.Proofs.YtpehlldgnbajjaaDoor
open Go.RowKit Go.Lib
set_option linter.unusedVariables false
set_option linter.unusedSimpArgs false

def exSec : Ex := .mk 2 0 [] []
theorem sec_size : size exSec ≤ 90000 := by unfold exSec; rw [size_mk, sizes_nil]; omega
theorem opt_tri (o : Option Int) : RV (.ok o) = .tuple #[.int .i64 (o.getD 0), .bool o.isSome, .int .i64 0] := by cases o <;> rfl
theorem lowest_tell {os : List Of} (hok : offsOk os = true) : ∃ (a b : Int), RV (evalS os exLow) = .tuple #[.int .i64 a, .bool (decide (0 < os.length)), .int .i64 0] ∧ RV (evalS os exSec) = .tuple #[.int .i64 b, .bool (decide (1 < os.length)), .int .i64 0] ∧
    (∀ p (hp : p < os.length), a ≤ os[p].2) ∧ (0 < os.length → ∃ p, ∃ hp : p < os.length, os[p].2 = a) ∧ (∀ p (hp : p < os.length), os[p].2 = a → RV (evalS (less1 os p) exLow) = .tuple #[.int .i64 b, .bool (decide (1 < os.length)), .int .i64 0]) := by
  have e1 : evalS os exLow = .ok (rk os 0) := eval_low hok
  have e2 : evalS os exSec = .ok (rk os 1) := eval_sec hok
  refine ⟨(rk os 0).getD 0, (rk os 1).getD 0, by rw [e1, opt_tri, rk_some], by rw [e2, opt_tri, rk_some], ?_, ?_, ?_⟩
  · intro p hp
    have h := rk_some os 0
    rw [decide_eq_true (by omega : 0 < os.length)] at h
    obtain ⟨a, ha⟩ := Option.isSome_iff_exists.1 h
    rw [ha]
    exact rk_low ha _ (List.getElem_mem hp)
  · intro h0
    have h := rk_some os 0
    rw [decide_eq_true h0] at h
    obtain ⟨a, ha⟩ := Option.isSome_iff_exists.1 h
    obtain ⟨o, ho, e⟩ := rk_mem ha
    obtain ⟨p, hp, rfl⟩ := List.mem_iff_getElem.1 ho
    exact ⟨p, hp, by rw [ha, e]; rfl⟩
  · intro p hp he
    have h := rk_some os 0
    rw [decide_eq_true (by omega : 0 < os.length)] at h
    obtain ⟨a, ha⟩ := Option.isSome_iff_exists.1 h
    have e3 : evalS (less1 os p) exLow = .ok (rk (less1 os p) 0) := eval_low (less1_ok hok p)
    rw [e3, rk_rest hp (by rw [ha] at he ⊢; simp only [Option.getD_some] at he; rw [he]), opt_tri, rk_some]
def LowTo (os : List Of) (a : Int) (j : Nat) (q : Int) : Prop := (q = -1 ∧ ∀ k (h : k < os.length), k < j → os[k].2 ≠ a) ∨ ∃ p, ∃ h : p < os.length, q = (p : Int) ∧ os[p].2 = a
set_option maxRecDepth 100000 in
set_option maxHeartbeats 8000000 in
theorem ValueLowest_at (H : ValueOk) (A : Option Addr) (c : Nat) (zs : List (Int × Int)) (w : World) (hr : Rel w w) (hz : PairsIn w A zs.length zs) :
    Calls Tryd.prog 4 #[.slice A zs.length c] w fun e w' => e = .returned (.bool true) ∧ Rel w w' := by
  have H := Lib.hid H
  have HR := Lib.hid hr
  have HZ := Lib.hid hz
  obtain ⟨os, hos⟩ : ∃ os, offS zs = os := ⟨_, rfl⟩
  have hOf := fun (w0 w : World) (hr : Rel w0 w) (hz : PairsIn w A zs.length zs) => offers_any A c zs w0 w hr hz
  rw [hos] at hOf
  have HOf := Lib.hid hOf
  have hok : offsOk os = true := by rw [← hos]; exact offS_ok zs
  have HOk := Lib.hid hok
  have h8 := offs_len hok
  have HFit := Lib.hid (offs_fit hok)
  obtain ⟨a, b, q1, q2, hlow, hex, hrest⟩ := lowest_tell hok
  obtain ⟨t, ht⟩ : ∃ t, decide (0 < os.length) = t := ⟨_, rfl⟩
  obtain ⟨u, hu⟩ : ∃ u, decide (1 < os.length) = u := ⟨_, rfl⟩
  have hti : decide ((0 : Int) < (os.length : Int)) = t := by rw [← ht]; congr 1; simp
  have hui : decide ((1 : Int) < (os.length : Int)) = u := by
    rw [← hu]; by_cases h : 1 < os.length
    · rw [decide_eq_true h, decide_eq_true (by omega)]
    · rw [decide_eq_false h, decide_eq_false (by omega)]
  rw [ht] at q1
  rw [hu] at q2
  have Q1 := Lib.hid q1
  have Q2 := Lib.hid q2
  have HLow := Lib.hid hlow
  have HEx := Lib.hid hex
  have HRest := Lib.hid (fun p hp he => (hrest p hp he).trans (by rw [hu]))
  have V1 : Hid (EV (1, 0, [], none, 0, 0) = .agg #[.int .i64 1, .int .i64 0, .string ⟨#[]⟩, .slice none 0 0]) := Lib.hid rfl
  have V2 : Hid (EV (2, 0, [], none, 0, 0) = .agg #[.int .i64 2, .int .i64 0, .string ⟨#[]⟩, .slice none 0 0]) := Lib.hid rfl
  have E2 : Hid (∀ w1 : World, ExAt (fun _ => True) w1 (2, 0, [], none, 0, 0) exSec) := Lib.hid (fun w1 => ExAt.leaf _ _ 2 0 [] none 0 ⟨by decide, by decide⟩ ⟨by decide, by decide⟩ (Nat.zero_le _))
  have z1 := lw_size9
  have z2 := sec_size
  clear hos hr hz hOf hok q1 q2 hlow hex hrest
  go_enter Tryd.func4, Tryd.ntmps4
  go_upto_region 3 with (first
    | (go_at_call 8; (with_reducible refine (awake9_any H.out _ _ HR.out).mono ?_); rintro e1 w1 ⟨rfl, h1⟩; have R1 := Lib.hid h1)
    | (go_at_call 10; (with_reducible refine (HOf.out _ _ R1.out (HZ.out.rel9 R1.out)).mono ?_); rintro e2 w2 ⟨A2, c2, rfl, hO, h2⟩; have R2 := Lib.hid h2; have HO := Lib.hid hO))
  have HOA := Lib.hid (HO.out.arg HFit.out)
  clear hO h1 h2
  go_upto_region 5 with (first
    | (go_at_call 11; (with_reducible refine (eval_as H.out exLow os a t 0 Q1 (fun _ => True) (1, 0, [], none, 0, 0) A2 c2 _ _ R2.out.self (low_at _) z1 HOA.out _ _ V1 (Lib.hid rfl)).mono ?_); rintro e3 w3 ⟨rfl, h3⟩; have C3 := Lib.hid h3)
    | (go_at_call 11; (with_reducible refine (eval_as H.out exSec os b u 0 Q2 (fun _ => True) (2, 0, [], none, 0, 0) A2 c2 _ _ C3.out.self (E2.out _) z2 (HOA.out.rel C3.out) _ _ V2 (Lib.hid rfl)).mono ?_); rintro e4 w4 ⟨rfl, h4⟩; have C4 := Lib.hid (C3.out.trans h4)))
  have R4 := Lib.hid (R2.out.trans C4.out)
  have HO4 := Lib.hid (HO.out.rel C4.out)
  have HOA4 := Lib.hid (HOA.out.rel C4.out)
  have HTU : Hid (decide (0 < os.length) = t ∧ decide (1 < os.length) = u) := Lib.hid ⟨ht, hu⟩
  clear h3 h4 Q1 Q2
  go_upto_block 0 with (fail)
  go_cut [11] (fun at_ wx => ∃ q : Int, at_ = .int .i64 q ∧ Hid (LowTo os a os.length q) ∧ Rel w4 wx)
  case first =>
    go_wp2_with (fail)
    go_loopw [11, 12] (fun at_ i wr => ∃ (j : Nat) (q : Int), j ≤ os.length ∧ i = .int .i64 (j : Int) ∧ at_ = .int .i64 q ∧ Hid (LowTo os a j q) ∧ Rel w4 wr) (fun _ i _ => os.length - (RowKit.intOf i).toNat)
    case atStart => exact ⟨0, -1, by omega, rfl, rfl, Lib.hid (.inl ⟨rfl, fun k _ hk => absurd hk (by omega)⟩), R4.out.right3⟩
    case round =>
      obtain ⟨j, q, hj, rfl, rfl, HQ, hRw⟩ := hrel
      have HRw := Lib.hid hRw
      by_cases hlt : j < os.length
      · obtain ⟨g, off, s', p', rfl, x0, x1, ho2⟩ := offs_at HOA4.out.2.2.2 hRw j hlt
        have hla := HLow.out j hlt
        rw [ho2] at hla
        have k0 : decide (p' < a) = false := decide_eq_false (by simp only at hla; omega)
        have HO2 := Lib.hid ho2
        clear ho2 hRw x0 hla
        by_cases he : p' = a
        · have k1 : (p' == a) = true := by simpa using he
          have hq := HQ.out
          rcases hq with ⟨rfl, hn⟩ | ⟨p, hp, rfl, hpa⟩
          · have HQ2 : Hid (LowTo os a (j + 1) (j : Int)) := Lib.hid (.inr ⟨j, hlt, rfl, by rw [HO2.out]; exact he⟩)
            clear he hn
            go_wp2_with (fail)
            go_roundw
            case rel => exact ⟨j + 1, (j : Int), by omega, by go_num, rfl, HQ2, HRw.out⟩
            case measure => simp [RowKit.intOf]; omega
          · have HQ2 : Hid (LowTo os a (j + 1) (p : Int)) := Lib.hid (.inr ⟨p, hp, rfl, hpa⟩)
            clear he hpa
            go_wp2_with (fail)
            go_roundw
            case rel => exact ⟨j + 1, (p : Int), by omega, by go_num, rfl, HQ2, HRw.out⟩
            case measure => simp [RowKit.intOf]; omega
        · have k1 : (p' == a) = false := by simpa using he
          have HQ2 : Hid (LowTo os a (j + 1) q) := Lib.hid (by
            rcases HQ.out with ⟨h, hn⟩ | h
            · refine .inl ⟨h, fun k hk hkj => ?_⟩
              by_cases e : k = j
              · subst e; rw [HO2.out]; exact he
              · exact hn k hk (by omega)
            · exact .inr h)
          clear he
          go_wp2_with (fail)
          go_roundw
          case rel => exact ⟨j + 1, q, by omega, by go_num, rfl, HQ2, HRw.out⟩
          case measure => simp [RowKit.intOf]; omega
      · obtain rfl : j = os.length := by omega
        go_wp2_with (fail)
        go_meet
        exact ⟨q, rfl, HQ, HRw.out⟩
  obtain ⟨q, rfl, HQ, hR5⟩ := hcut
  rcases HQ.out with ⟨rfl, hn⟩ | ⟨p, hp, rfl, hpa⟩
  · have h0 : os.length = 0 := by
      rcases Nat.eq_zero_or_pos os.length with h | h
      · exact h
      · obtain ⟨p, hp, e⟩ := HEx.out h
        exact absurd e (hn p hp hp)
    have h0i : (os.length : Int) = 0 := by omega
    have k1 : ((os.length : Int) == 0) = true := by rw [h0i]; rfl
    have k2 : (os.length == 0) = true := by rw [h0]; rfl
    have HRZ := Lib.hid (R4.out.trans hR5)
    clear hn h0 h0i HQ ht hu hti hui
    go_wp2_with (fail)
    go_ret
    exact ⟨ret_bool (by first | rfl | exact k1 | exact k2 | (simp only [k1]; done) | (rw [← k1]; simp)), HRZ.out⟩
  · have Q3 := Lib.hid (HRest.out p hp hpa)
    have HRt := Lib.hid (less1_ok HOk.out p)
    obtain ⟨w5, hw5⟩ : ∃ w5, w5 = wc := ⟨_, rfl⟩
    subst hw5
    have R5 := Lib.hid (R4.out.trans hR5)
    have HO5 := HO4.out.rel hR5
    have HAt0 := (HOA4.out.rel hR5).2.2.2
    have hc2 : os.length ≤ c2 ∧ c2 ≤ 9223372036854775807 := ⟨HOA4.out.1, HOA4.out.2.1⟩
    obtain ⟨hc2a, hc2b⟩ := hc2
    rcases HO5.form with ⟨_, _, h0⟩ | ⟨g, rfl, hgb, hgl⟩
    · rw [h0] at hp; simp at hp
    have HAt := Lib.hid HAt0
    have hw1 : IntKind.i64.wrap ((p : Int) + 1) = (p : Int) + 1 := IntWalk.i64_in _ (by omega)
    have hi0 : (0 : Int) ≤ (p : Int) + 1 := by omega
    have hi1 : (p : Int) + 1 ≤ (os.length : Int) := by omega
    have hi2 : (p : Int) + 1 ≤ (c2 : Int) := by omega
    have hi3 : (p : Int) ≤ (c2 : Int) := by omega
    have hi4 : (0 : Int) ≤ (p : Int) := by omega
    have hi5 : (os.length : Int) ≤ (c2 : Int) := by omega
    have hi6 : ¬ c2 = p := by omega
    have hi7 : p ≤ c2 := by omega
    have hi8 : p + 1 ≤ os.length := by omega
    have hi9 : (p : Int) ≤ (p : Int) + 1 := by omega
    clear HO5 HAt0 hR5 hpa HQ ht hu hti hui hgb hgl
    go_upto_region 17 with (fail)
    go_cut [13] (fun x wx => ∃ v, x = v ∧ OffOwn wx w5.heap.size v ([] ++ os.take p ++ os.drop (p + 1)) ∧ Rel w5 wx)
    case first =>
      by_cases hck : c2 = p + 1
      · have hd0 : os.drop (p + 1) = [] := List.drop_eq_nil_of_le (by omega)
        refine wp_region_held_drew (S := (fun w' => Rel w5 w')) (by kernel_rfl) R5.out.self.drew (fun hHeld => ?_)
        refine held_take (i := 0) (v := ?_) (some 88) rfl rfl (by kernel_rfl) (by kernel_rfl) (by kernel_rfl) (fun _ _ _ h => h) (Or.inl ⟨by rfl, ?_⟩) hHeld ?_
        rotate_left 1
        · intro w' (h : Rel w5 w'); go_simp; try with_reducible rfl
        try simp only [Act.put, List.setIfInBounds_toArray, List.set_cons_zero, List.set_cons_succ]
        refine held_take (i := 1) (v := ?_) (some 89) rfl rfl (by kernel_rfl) (by kernel_rfl) (by kernel_rfl) (fun _ _ _ h => h) (Or.inl ⟨by rfl, ?_⟩) hHeld ?_
        rotate_left 1
        · intro w' (h : Rel w5 w'); go_simp; try with_reducible rfl
        try simp only [Act.put, List.setIfInBounds_toArray, List.set_cons_zero, List.set_cons_succ]
        refine held_take (i := 2) (v := ?_) (some 90) rfl rfl (by kernel_rfl) (by kernel_rfl) (by kernel_rfl) (fun _ _ _ h => h) (Or.inl ⟨by rfl, ?_⟩) hHeld ?_
        rotate_left 1
        · intro w' (h : Rel w5 w'); go_simp; try with_reducible rfl
        try simp only [Act.put, List.setIfInBounds_toArray, List.set_cons_zero, List.set_cons_succ]
        refine held_take (i := 4) (v := ?_) (some 92) rfl rfl (by kernel_rfl) (by kernel_rfl) (by kernel_rfl) (fun _ _ _ h => h) (Or.inl ⟨by rfl, ?_⟩) hHeld ?_
        rotate_left 1
        · intro w' (h : Rel w5 w'); go_simp; try with_reducible rfl
        try simp only [Act.put, List.setIfInBounds_toArray, List.set_cons_zero, List.set_cons_succ]
        refine held_take (i := 5) (v := ?_) (some 93) rfl rfl (by kernel_rfl) (by kernel_rfl) (by kernel_rfl) (fun _ _ _ h => h) (Or.inl ⟨by rfl, ?_⟩) hHeld ?_
        rotate_left 1
        · intro w' (h : Rel w5 w'); go_simp; try with_reducible rfl
        try simp only [Act.put, List.setIfInBounds_toArray, List.set_cons_zero, List.set_cons_succ]
        refine held_take (i := 6) (v := ?_) (some 94) rfl rfl (by kernel_rfl) (by kernel_rfl) (by kernel_rfl) (fun _ _ _ h => h) (Or.inl ⟨by rfl, ?_⟩) hHeld ?_
        rotate_left 1
        · intro w' (h : Rel w5 w'); go_simp; try with_reducible rfl
        try simp only [Act.put, List.setIfInBounds_toArray, List.set_cons_zero, List.set_cons_succ]
        refine held_take (i := 7) (v := ?_) (some 95) rfl rfl (by kernel_rfl) (by kernel_rfl) (by kernel_rfl) (fun _ _ _ h => h) (Or.inl ⟨by rfl, ?_⟩) hHeld ?_
        rotate_left 1
        · intro w' (h : Rel w5 w'); go_simp; try with_reducible rfl
        try simp only [Act.put, List.setIfInBounds_toArray, List.set_cons_zero, List.set_cons_succ]
        refine held_one (j := 3) (by kernel_rfl) rfl (fun K hK => ?_)
        try simp only [List.getElem_toArray, List.getElem_cons_succ, List.getElem_cons_zero]
        rw [if_pos (by rfl)]
        refine wp_appn _ _ rfl (base := w5.heap.size) (v := .slice none 0 0) (os := []) rfl (OffOwn.nil _ _) (A := some ⟨g, 0, none⟩) (l := os.take p) rfl (by first | (simp; done) | (simp; omega)) (by intro e; cases e) ((HAt.out.rel hHeld).take p) (by simp; omega) (by simp) (by simp) ?_
        intro v1 w1 hown1 hg1 hb1
        refine hK.out _ _ (hHeld.grown hg1 (fun q hq => by cases hq)) (fun hHeld => ?_)
        clear hK K
        try simp only [Act.put, List.setIfInBounds_toArray, List.set_cons_zero, List.set_cons_succ]
        refine held_one (j := 8) (by kernel_rfl) rfl (fun K hK => ?_)
        try simp only [List.getElem_toArray, List.getElem_cons_succ, List.getElem_cons_zero]
        rw [if_pos (by rfl)]
        have HB1 := Lib.hid hHeld.size
        refine wp_appn _ _ rfl (base := w5.heap.size) (v := v1) (os := [] ++ os.take p) rfl hown1 (A := some ⟨g, 0, none⟩) (l := os.drop (p + 1)) rfl (by first | (simp; done) | (simp; omega)) (by intro e; cases e) (by rw [hd0]; exact OffsAt.nil _ _) (by simp; omega) (by simp; omega) HB1.out ?_
        intro v2 w2' hown2 hg2 hb2
        refine hK.out _ _ (OffOwn.grown_rel hHeld hown1 (Nat.le_refl _) hg2) (fun hHeld => ?_)
        clear hK K
        try simp only [Act.put, List.setIfInBounds_toArray, List.set_cons_zero, List.set_cons_succ]
        refine held_take (i := 9) (v := ?_) (some 13) rfl rfl (by kernel_rfl) (by kernel_rfl) (by kernel_rfl) (fun _ _ _ h => h) (Or.inl ⟨by rfl, ?_⟩) hHeld ?_
        rotate_left 1
        · intro w' (h : Rel w5 w'); go_simp; try with_reducible rfl
        try simp only [Act.put, List.setIfInBounds_toArray, List.set_cons_zero, List.set_cons_succ]
        refine wpAnyH_done (by kernel_rfl) ?_ _
        go_wp2_with (fail)
        go_meet
        exact ⟨_, rfl, hown2, hHeld⟩
      · skip
        refine wp_region_held_drew (S := (fun w' => Rel w5 w')) (by kernel_rfl) R5.out.self.drew (fun hHeld => ?_)
        refine held_take (i := 0) (v := ?_) (some 88) rfl rfl (by kernel_rfl) (by kernel_rfl) (by kernel_rfl) (fun _ _ _ h => h) (Or.inl ⟨by rfl, ?_⟩) hHeld ?_
        rotate_left 1
        · intro w' (h : Rel w5 w'); go_simp; try with_reducible rfl
        try simp only [Act.put, List.setIfInBounds_toArray, List.set_cons_zero, List.set_cons_succ]
        refine held_take (i := 1) (v := ?_) (some 89) rfl rfl (by kernel_rfl) (by kernel_rfl) (by kernel_rfl) (fun _ _ _ h => h) (Or.inl ⟨by rfl, ?_⟩) hHeld ?_
        rotate_left 1
        · intro w' (h : Rel w5 w'); go_simp; try with_reducible rfl
        try simp only [Act.put, List.setIfInBounds_toArray, List.set_cons_zero, List.set_cons_succ]
        refine held_take (i := 2) (v := ?_) (some 90) rfl rfl (by kernel_rfl) (by kernel_rfl) (by kernel_rfl) (fun _ _ _ h => h) (Or.inl ⟨by rfl, ?_⟩) hHeld ?_
        rotate_left 1
        · intro w' (h : Rel w5 w'); go_simp; try with_reducible rfl
        try simp only [Act.put, List.setIfInBounds_toArray, List.set_cons_zero, List.set_cons_succ]
        refine held_take (i := 4) (v := ?_) (some 92) rfl rfl (by kernel_rfl) (by kernel_rfl) (by kernel_rfl) (fun _ _ _ h => h) (Or.inl ⟨by rfl, ?_⟩) hHeld ?_
        rotate_left 1
        · intro w' (h : Rel w5 w'); go_simp; try with_reducible rfl
        try simp only [Act.put, List.setIfInBounds_toArray, List.set_cons_zero, List.set_cons_succ]
        refine held_take (i := 5) (v := ?_) (some 93) rfl rfl (by kernel_rfl) (by kernel_rfl) (by kernel_rfl) (fun _ _ _ h => h) (Or.inl ⟨by rfl, ?_⟩) hHeld ?_
        rotate_left 1
        · intro w' (h : Rel w5 w'); go_simp; try with_reducible rfl
        try simp only [Act.put, List.setIfInBounds_toArray, List.set_cons_zero, List.set_cons_succ]
        refine held_take (i := 6) (v := ?_) (some 94) rfl rfl (by kernel_rfl) (by kernel_rfl) (by kernel_rfl) (fun _ _ _ h => h) (Or.inl ⟨by rfl, ?_⟩) hHeld ?_
        rotate_left 1
        · intro w' (h : Rel w5 w'); go_simp; try with_reducible rfl
        try simp only [Act.put, List.setIfInBounds_toArray, List.set_cons_zero, List.set_cons_succ]
        refine held_take (i := 7) (v := ?_) (some 95) rfl rfl (by kernel_rfl) (by kernel_rfl) (by kernel_rfl) (fun _ _ _ h => h) (Or.inl ⟨by rfl, ?_⟩) hHeld ?_
        rotate_left 1
        · intro w' (h : Rel w5 w'); go_simp; try with_reducible rfl
        try simp only [Act.put, List.setIfInBounds_toArray, List.set_cons_zero, List.set_cons_succ]
        refine held_one (j := 3) (by kernel_rfl) rfl (fun K hK => ?_)
        try simp only [List.getElem_toArray, List.getElem_cons_succ, List.getElem_cons_zero]
        rw [if_pos (by rfl)]
        refine wp_appn _ _ rfl (base := w5.heap.size) (v := .slice none 0 0) (os := []) rfl (OffOwn.nil _ _) (A := some ⟨g, 0, none⟩) (l := os.take p) rfl (by first | (simp; done) | (simp; omega)) (by intro e; cases e) ((HAt.out.rel hHeld).take p) (by simp; omega) (by simp) (by simp) ?_
        intro v1 w1 hown1 hg1 hb1
        refine hK.out _ _ (hHeld.grown hg1 (fun q hq => by cases hq)) (fun hHeld => ?_)
        clear hK K
        try simp only [Act.put, List.setIfInBounds_toArray, List.set_cons_zero, List.set_cons_succ]
        refine held_one (j := 8) (by kernel_rfl) rfl (fun K hK => ?_)
        try simp only [List.getElem_toArray, List.getElem_cons_succ, List.getElem_cons_zero]
        rw [if_pos (by rfl)]
        have HB1 := Lib.hid hHeld.size
        refine wp_appn _ _ rfl (base := w5.heap.size) (v := v1) (os := [] ++ os.take p) rfl hown1 (A := some ⟨g, (p + 1) * 2, none⟩) (l := os.drop (p + 1)) rfl (by first | (simp; done) | (simp; omega)) (by intro e; cases e) (by have h := (HAt.out.rel hHeld).from (p + 1); rwa [Nat.zero_add] at h) (by simp; omega) (by simp; omega) HB1.out ?_
        intro v2 w2' hown2 hg2 hb2
        refine hK.out _ _ (OffOwn.grown_rel hHeld hown1 (Nat.le_refl _) hg2) (fun hHeld => ?_)
        clear hK K
        try simp only [Act.put, List.setIfInBounds_toArray, List.set_cons_zero, List.set_cons_succ]
        refine held_take (i := 9) (v := ?_) (some 13) rfl rfl (by kernel_rfl) (by kernel_rfl) (by kernel_rfl) (fun _ _ _ h => h) (Or.inl ⟨by rfl, ?_⟩) hHeld ?_
        rotate_left 1
        · intro w' (h : Rel w5 w'); go_simp; try with_reducible rfl
        try simp only [Act.put, List.setIfInBounds_toArray, List.set_cons_zero, List.set_cons_succ]
        refine wpAnyH_done (by kernel_rfl) ?_ _
        go_wp2_with (fail)
        go_meet
        exact ⟨_, rfl, hown2, hHeld⟩
    obtain ⟨v, rfl, hO6, hR6⟩ := hcut
    obtain ⟨A6, c6, rfl⟩ := hO6.slice_of
    have hlm : [] ++ os.take p ++ os.drop (p + 1) = less1 os p := rfl
    rw [hlm] at hO6 ⊢
    obtain ⟨m, hm⟩ : ∃ m, less1 os p = m := ⟨_, rfl⟩
    rw [hm] at hO6 Q3 HRt ⊢
    have HO6 := Lib.hid (hO6.arg (offs_fit HRt.out))
    have R6 := Lib.hid hR6
    have HTU2 := HTU.out
    clear hO6 hR6 hlm hm
    go_wp2_with (go_at_call 11; (with_reducible refine (eval_as H.out exLow m b u 0 Q3 (fun _ => True) (1, 0, [], none, 0, 0) A6 c6 _ _ R6.out.right3 (low_at _) z1 HO6.out _ _ V1 (Lib.hid rfl)).mono ?_); rintro e7 w7 ⟨rfl, h7⟩)
    go_ret
    exact ⟨rfl, (R5.out.trans R6.out).trans h7⟩
end Go.Proofs.YtpehlldgnbajjaaDoor

namespace Go.Proofs.YtpehlldgnbajjaaDoor
open Go.RowKit Go.Lib
set_option linter.unusedVariables false
set_option linter.unusedSimpArgs false

theorem bare_eval {s : List UInt8} (hs : isName s = true) : evalS [] (.mk 3 0 s []) = .ok none := by rw [eval_from offsOk_nil hs]; rfl
theorem from_size (s : List UInt8) : size (.mk 3 0 s []) ≤ 90000 := by rw [size_mk, sizes_nil]; omega
theorem fix_size (n : Int) : size (.mk 4 n [] []) ≤ 90000 := by rw [size_mk, sizes_nil]; omega
theorem cutfix_size (n : Int) : size (.mk 6 10000 [] [.mk 4 n [] []]) ≤ 90000 := by rw [size_mk, sizes_cons, sizes_nil, size_mk, sizes_nil]; omega
theorem cutfix_at (n : Int) (hn : i64 n) (w : World) : ExAt (fun _ => True) (w.alloc (.cells #[.int .i64 4, .int .i64 n, .string ⟨#[]⟩, .slice none 0 0] 27)) (6, 10000, [], some ⟨w.heap.size, 0, none⟩, 1, 1) (.mk 6 10000 [] [.mk 4 n [] []]) :=
  ExAt.one (a := (4, n, [], none, 0, 0)) ⟨by decide, by decide⟩ ⟨by decide, by decide⟩ (Nat.zero_le _) (Bk.new w _ _) trivial (ExAt.leaf _ _ 4 n [] none 0 ⟨by decide, by decide⟩ hn (Nat.zero_le _))
/-- Where a seller stands: at q, or nowhere. -/
def Found (os : List Of) (s : List UInt8) (q : Int) : Prop := (q = -1 ∧ fromO os s = none) ∨ ∃ p, ∃ h : p < os.length, q = (p : Int) ∧ os[p].1 = s ∧ fromO os s = some os[p].2
def FoundTo (os : List Of) (s : List UInt8) (j : Nat) (q : Int) : Prop := (q = -1 ∧ ∀ k (h : k < os.length), k < j → os[k].1 ≠ s) ∨ ∃ p, ∃ h : p < os.length, q = (p : Int) ∧ os[p].1 = s
theorem found_end {os : List Of} (hok : offsOk os = true) {s : List UInt8} {q : Int} (h : FoundTo os s os.length q) : Found os s q := by
  rcases h with ⟨h, hn⟩ | ⟨p, hp, h, e⟩
  · exact .inl ⟨h, from_none fun i hi => hn i hi hi⟩
  · exact .inr ⟨p, hp, h, e, by rw [← e]; exact from_one hok hp⟩
theorem eval_one {os : List Of} (hok : offsOk os = true) {p : Nat} (hp : p < os.length) {s : List UInt8} (hs : isName s = true) (h : os[p].1 = s) : evalS [os[p]] (.mk 3 0 s []) = .ok (some os[p].2) := by
  have h1 := one_ok hok hp
  rw [eval_from h1 hs]
  congr 1
  rw [← h]
  exact (from_some (l := [os[p]]) (by simp)).2 (by simp)
set_option maxRecDepth 100000 in
set_option maxHeartbeats 8000000 in
theorem ValueBare_at (H : ValueOk) (A : Option Addr) (c : Nat) (zs : List (Int × Int)) (who n : Int) (hwho : i64 who) (hn : i64 n) (w : World) (hr : Rel w w) (hz : PairsIn w A zs.length zs) :
    Calls Tryd.prog 5 #[.slice A zs.length c, .int .i64 who, .int .i64 n] w fun e w' => e = .returned (.bool true) ∧ Rel w w' := by
  have H := Lib.hid H
  have HR := Lib.hid hr
  have HZ := Lib.hid hz
  obtain ⟨os, hos⟩ : ∃ os, offS zs = os := ⟨_, rfl⟩
  have hOf := fun (w0 w : World) (hr : Rel w0 w) (hz : PairsIn w A zs.length zs) => offers_any A c zs w0 w hr hz
  rw [hos] at hOf
  have HOf := Lib.hid hOf
  have hok : offsOk os = true := by rw [← hos]; exact offS_ok zs
  have HOk := Lib.hid hok
  have h8 := offs_len hok
  have HFit := Lib.hid (offs_fit hok)
  have hnb := pk_bd n 1000000000001 (by omega)
  obtain ⟨F, hF⟩ : ∃ F, pk n 1000000000001 = F := ⟨_, rfl⟩
  rw [hF] at hnb
  have HF := Lib.hid hF
  have hsn := seller_name (pk who 60) (pk_bd who 60 (by omega)).1 (pk_bd who 60 (by omega)).2
  have hSe := fun (w0 w : World) (hr : Rel w0 w) => seller_any who hwho.1 hwho.2 w0 w hr
  obtain ⟨s, hs⟩ : ∃ s, sellerL (pk who 60) = s := ⟨_, rfl⟩
  rw [hs] at hSe hsn
  have hsl := (name_parts hsn).2.2.1
  obtain ⟨X, hX⟩ : ∃ X, B s = X := ⟨_, rfl⟩
  rw [hX] at hSe
  have HSe := Lib.hid hSe
  have HX := Lib.hid hX
  have HNm := Lib.hid hsn
  obtain ⟨r, hr3⟩ : ∃ r, fromO os s = r := ⟨_, rfl⟩
  obtain ⟨a, ha⟩ : ∃ a, r.getD 0 = a := ⟨_, rfl⟩
  obtain ⟨t, ht⟩ : ∃ t, r.isSome = t := ⟨_, rfl⟩
  have HRs := Lib.hid hr3
  have HAt := Lib.hid (And.intro ha ht)
  have Q1 : Hid (RV (evalS os (.mk 3 0 s [])) = .tuple #[.int .i64 a, .bool t, .int .i64 0]) := Lib.hid (by
    rw [eval_from hok hsn, hr3, ← ha, ← ht]; cases r <;> rfl)
  have Q2 : Hid (RV (evalS [] (.mk 3 0 s [])) = .tuple #[.int .i64 0, .bool false, .int .i64 0]) := Lib.hid (by rw [bare_eval hsn]; rfl)
  have Q3 : Hid (RV (evalS os (.mk 4 F [] [])) = .tuple #[.int .i64 F, .bool true, .int .i64 0]) := Lib.hid (by rw [eval_fix hok (by omega)]; rfl)
  have Q4 : Hid (RV (evalS [] (.mk 4 F [] [])) = .tuple #[.int .i64 F, .bool true, .int .i64 0]) := Lib.hid (by rw [eval_fix offsOk_nil (by omega)]; rfl)
  have Q5 : Hid (RV (evalS [] (.mk 6 10000 [] [.mk 4 F [] []])) = .tuple #[.int .i64 0, .bool true, .int .i64 0]) := Lib.hid (by
    have := eval_cutFix (l := []) offsOk_nil (n := F) (by omega) (by omega)
    unfold exCut at this
    rw [this]; rfl)
  have V3 : Hid (EV (3, 0, s, none, 0, 0) = .agg #[.int .i64 3, .int .i64 0, .string X, .slice none 0 0]) := Lib.hid (by rw [← hX])
  have V4 : Hid (EV (4, F, [], none, 0, 0) = .agg #[.int .i64 4, .int .i64 F, .string ⟨#[]⟩, .slice none 0 0]) := Lib.hid rfl
  have VX : Hid (∀ (k n : Int) (g : Nat), EV (k, n, [], some ⟨g, 0, none⟩, 1, 1) = .agg #[.int .i64 k, .int .i64 n, .string ⟨#[]⟩, .slice (some ⟨g, 0, none⟩) 1 1]) := Lib.hid (fun _ _ _ => rfl)
  have O0 : Hid (Value.slice none ([] : List Of).length 0 = .slice none 0 0) := Lib.hid rfl
  have E3 : Hid (∀ w1 : World, ExAt (fun _ => True) w1 (3, 0, s, none, 0, 0) (.mk 3 0 s [])) := Lib.hid (fun w1 => ExAt.leaf _ _ 3 0 s none 0 ⟨by decide, by decide⟩ ⟨by decide, by decide⟩ (by omega))
  have E4 : Hid (∀ w1 : World, ExAt (fun _ => True) w1 (4, F, [], none, 0, 0) (.mk 4 F [] [])) := Lib.hid (fun w1 => ExAt.leaf _ _ 4 F [] none 0 ⟨by decide, by decide⟩ ⟨by omega, by omega⟩ (Nat.zero_le _))
  have HFi : Hid (i64 F) := Lib.hid ⟨by omega, by omega⟩
  have Z3 := from_size s
  have Z4 := fix_size F
  have Z5 := cutfix_size F
  obtain ⟨n0, n1⟩ := hn
  obtain ⟨F0, F1⟩ := hnb
  clear hos hr hz hOf hok hF hs hSe hX hsn hr3 ha ht hwho
  go_enter Tryd.func5, Tryd.ntmps5
  go_upto_region 4 with (first
    | (go_at_call 8; (with_reducible refine (awake9_any H.out _ _ HR.out).mono ?_); rintro e w1 ⟨rfl, h1⟩; have R1 := Lib.hid h1)
    | (go_at_call 10; (with_reducible refine (HOf.out _ _ R1.out (HZ.out.rel9 R1.out)).mono ?_); rintro e w2 ⟨A2, c2, rfl, hO, h2⟩; have R2 := Lib.hid h2; have HO := Lib.hid hO)
    | (go_at_call 13; (with_reducible refine (HSe.out _ _ R2.out.self).mono ?_); rintro e w3 ⟨rfl, h3⟩; have R3 := Lib.hid h3))
  go_upto_region 5 with (fail)
  have hR3 := (R2.out.trans R3.out).alloc (.cells #[.int .i64 3, .int .i64 0, .string X, .slice none 0 0] 27)
  have HB := Lib.hid (Bk.new w3 27 #[.int .i64 3, .int .i64 0, .string X, .slice none 0 0])
  have HOA := Lib.hid ((HO.out.arg HFit.out).rel (R3.out.alloc (.cells #[.int .i64 3, .int .i64 0, .string X, .slice none 0 0] 27)))
  have RW := Lib.hid hR3
  obtain ⟨W, hW⟩ : ∃ W, w3.alloc (.cells #[.int .i64 3, .int .i64 0, .string X, .slice none 0 0] 27) = W := ⟨_, rfl⟩
  rw [hW] at RW HB HOA ⊢
  clear hW hR3 hO h1 h2 h3
  obtain ⟨⟨b0, b1, b2, b3⟩, _⟩ := HB.out.four
  go_upto_block 0 with (first
    | (go_at_call 11; (with_reducible refine (eval_as H.out (.mk 3 0 s []) os a t 0 Q1 (fun _ => True) (3, 0, s, none, 0, 0) A2 c2 _ _ RW.out.self (E3.out _) Z3 HOA.out _ _ V3 (Lib.hid rfl)).mono ?_); rintro e w4 ⟨rfl, h4⟩; have R4 := Lib.hid h4; obtain ⟨⟨d0, d1, d2, d3⟩, _⟩ := (HB.out.rel h4).four)
    | (go_at_call 11; (with_reducible refine (eval_as H.out (.mk 3 0 s []) [] 0 false 0 Q2 (fun _ => True) (3, 0, s, none, 0, 0) none 0 _ _ R4.out.self (E3.out _) Z3 (offArg_nil _) _ _ V3 O0).mono ?_); rintro e w5 ⟨rfl, h5⟩; have R5 := Lib.hid (R4.out.trans h5)))
  go_cut [17] (fun at_ wx => ∃ q : Int, at_ = .int .i64 q ∧ Hid (Found os s q) ∧ Rel W wx)
  case first =>
    go_wp2_with (fail)
    go_loopw [17, 18] (fun at_ i wr => ∃ (j : Nat) (q : Int), j ≤ os.length ∧ i = .int .i64 (j : Int) ∧ at_ = .int .i64 q ∧ Hid (FoundTo os s j q) ∧ Rel W wr) (fun _ i _ => os.length - (RowKit.intOf i).toNat)
    case atStart => exact ⟨0, -1, by omega, rfl, rfl, Lib.hid (.inl ⟨rfl, fun k _ hk => absurd hk (by omega)⟩), R5.out⟩
    case round =>
      obtain ⟨j, q, hj, rfl, rfl, HQ, hRw⟩ := hrel
      have HRw := Lib.hid hRw
      by_cases hlt : j < os.length
      · obtain ⟨g, off, s', p', rfl, x0, x1, ho2⟩ := offs_at HOA.out.2.2.2 hRw j hlt
        obtain ⟨Y, hY⟩ : ∃ Y, B s' = Y := ⟨_, rfl⟩
        rw [hY] at x0
        have HY := Lib.hid hY
        have HO2 := Lib.hid ho2
        clear hY ho2 hRw x1
        by_cases he : Y = X
        · have k1 := list_of.2 he
          have HQ2 : Hid (FoundTo os s (j + 1) (j : Int)) := Lib.hid (.inr ⟨j, hlt, rfl, by rw [HO2.out]; show s' = s; rw [← B_list s', ← B_list s, HY.out, HX.out, he]⟩)
          clear he
          go_wp2_with (fail)
          go_roundw
          case rel => exact ⟨j + 1, (j : Int), by omega, by go_num, rfl, HQ2, HRw.out⟩
          case measure => simp [RowKit.intOf]; omega
        · have k1 := list_ne he
          have HQ2 : Hid (FoundTo os s (j + 1) q) := Lib.hid (by
            rcases HQ.out with ⟨h, hn⟩ | h
            · refine .inl ⟨h, fun k hk hkj => ?_⟩
              by_cases e : k = j
              · subst e; rw [HO2.out]; show s' ≠ s
                intro e; subst e; exact he (HY.out.symm.trans HX.out)
              · exact hn k hk (by omega)
            · exact .inr h)
          clear he
          go_wp2_with (fail)
          go_roundw
          case rel => exact ⟨j + 1, q, by omega, by go_num, rfl, HQ2, HRw.out⟩
          case measure => simp [RowKit.intOf]; omega
      · obtain rfl : j = os.length := by omega
        have HQ2 := Lib.hid (found_end HOk.out HQ.out)
        go_wp2_with (fail)
        go_meet
        exact ⟨q, rfl, HQ2, HRw.out⟩
  obtain ⟨q, rfl, HQ, hR6⟩ := hcut
  have R6 := Lib.hid hR6
  go_upto_region 14 with (go_at_call 14; (with_reducible refine (pk9_as n 1000000000001 F HF n0 n1 (by omega) (by omega) _).mono ?_); rintro e w' ⟨rfl, rfl⟩)
  have hR7 := R6.out.alloc (.cells #[.int .i64 4, .int .i64 F, .string ⟨#[]⟩, .slice none 0 0] 27)
  have HB4 := Lib.hid (Bk.new wc 27 #[.int .i64 4, .int .i64 F, .string ⟨#[]⟩, .slice none 0 0])
  have R7 := Lib.hid hR7
  obtain ⟨V, hV⟩ : ∃ V, wc.alloc (.cells #[.int .i64 4, .int .i64 F, .string ⟨#[]⟩, .slice none 0 0] 27) = V := ⟨_, rfl⟩
  rw [hV] at R7 HB4 ⊢
  clear hV hR7 hR6
  obtain ⟨⟨f0, f1, f2, f3⟩, _⟩ := HB4.out.four
  go_upto_region 17 with (first
    | (go_at_call 11; (with_reducible refine (eval_as H.out (.mk 4 F [] []) os F true 0 Q3 (fun _ => True) (4, F, [], none, 0, 0) A2 c2 _ _ R7.out.self (E4.out _) Z4 (HOA.out.rel R7.out) _ _ V4 (Lib.hid rfl)).mono ?_); rintro e w8 ⟨rfl, h8'⟩; have R8 := Lib.hid h8'; obtain ⟨⟨g0, g1, g2, g3⟩, _⟩ := (HB4.out.rel h8').four)
    | (go_at_call 11; (with_reducible refine (eval_as H.out (.mk 4 F [] []) [] F true 0 Q4 (fun _ => True) (4, F, [], none, 0, 0) none 0 _ _ R8.out.self (E4.out _) Z4 (offArg_nil _) _ _ V4 O0).mono ?_); rintro e w9 ⟨rfl, h9⟩; have R9 := Lib.hid (R8.out.trans h9); obtain ⟨⟨i0, i1, i2, i3⟩, _⟩ := (HB4.out.rel R9.out).four)
    | (go_at_call 11; (with_reducible refine (eval_as H.out (.mk 6 10000 [] [.mk 4 F [] []]) [] 0 true 0 Q5 (fun _ => True) (6, 10000, [], some ⟨w9.heap.size, 0, none⟩, 1, 1) none 0 _ _ (R9.out.alloc _).self (cutfix_at F HFi.out w9) Z5 (offArg_nil _) _ _ (Lib.hid (VX.out _ _ _)) O0).mono ?_); rintro e wa ⟨rfl, ha⟩; have RA := Lib.hid ((R9.out.alloc _).trans ha)))
  obtain ⟨⟨j0, j1, j2, j3⟩, _⟩ := (HB4.out.rel RA.out).four
  obtain ⟨⟨k0, k1, k2, k3⟩, _⟩ := (HB.out.rel (R7.out.trans RA.out)).four
  have RT := Lib.hid ((RW.out.trans R7.out).trans RA.out)
  rcases HQ.out with ⟨rfl, hq⟩ | ⟨p, hp, rfl, hq, hv⟩
  · have hra := HAt.out
    rw [← HRs.out, hq] at hra
    obtain ⟨rfl, rfl⟩ := hra
    clear hq HQ HAt Q1
    go_wp2_with (fail)
    go_ret
    exact ⟨rfl, RT.out⟩
  · have hra := HAt.out
    rw [← HRs.out, hv] at hra
    obtain ⟨hra, rfl⟩ := hra
    have HP := Lib.hid (show os[p].2 = a from hra)
    have Q6 : Hid (RV (evalS [os[p]] (.mk 3 0 s [])) = .tuple #[.int .i64 a, .bool true, .int .i64 0]) := Lib.hid (by
      rw [eval_one HOk.out hp HNm.out hq, show os[p].2 = a from hra]; rfl)
    obtain ⟨g, off, s', p', rfl, x0, x1, ho2⟩ := offs_at HOA.out.2.2.2 (R7.out.trans RA.out) p hp
    have hp' : p' = a := by have := HP.out; rw [ho2] at this; exact this
    subst hp'
    have HA1 := Lib.hid (show OffArg wa (some ⟨g, off + p * 2, none⟩) (c2 - p) [os[p]] from by
      have h1 := (HOA.out.rel (R7.out.trans RA.out))
      refine ⟨by have := h1.1; simp; omega, by have := h1.2.1; omega, fun o ho => ?_, ?_⟩
      · obtain rfl : o = os[p] := by simpa using ho
        exact h1.2.2.1 _ (List.getElem_mem hp)
      · have h2 := (h1.2.2.2.from p).take 1
        have e : (os.drop p).take 1 = [os[p]] := by rw [List.drop_eq_getElem_cons hp]; rfl
        rw [e] at h2; exact h2)
    have hc2 : os.length ≤ c2 ∧ c2 ≤ 9223372036854775807 := ⟨HOA.out.1, HOA.out.2.1⟩
    obtain ⟨hc2a, hc2b⟩ := hc2
    have O1 : Hid (Value.slice (some ⟨g, off + p * 2, none⟩) [os[p]].length (c2 - p) = .slice (some ⟨g, off + p * 2, none⟩) 1 (c2 - p)) := Lib.hid rfl
    clear hq hv hra HQ HAt ho2 x0
    go_upto_region 21 with (fail)
    have hw1 : IntKind.i64.wrap ((p : Int) + 1) = (p : Int) + 1 := IntWalk.i64_in _ (by omega)
    have hi0 : (0 : Int) ≤ (p : Int) + 1 := by omega
    have hi1 : (p : Int) + 1 ≤ (os.length : Int) := by omega
    have hi3 : ¬ c2 = p := by omega
    have hi2 : (p : Int) + 1 ≤ (c2 : Int) := by omega
    go_cut [29, 30, 31] (fun x y z wx => x = .int .i64 p' ∧ y = .bool true ∧ z = .int .i64 0 ∧ Rel wa wx)
    case first =>
      refine wp_region_held_drew (S := (fun w' => Rel wa w')) (by kernel_rfl) (RT.out).self.drew (fun hHeld => ?_)
      refine held_take (i := 0) (v := ?_) (some 153) rfl rfl (by kernel_rfl) (by kernel_rfl) (by kernel_rfl) (fun _ _ _ h => h) (Or.inl ⟨by rfl, ?_⟩) hHeld ?_
      rotate_left 1
      · intro w' (h : Rel wa w'); obtain ⟨⟨z0, z1, z2, z3⟩, _⟩ := (HB.out.rel ((R7.out.trans RA.out).trans h)).four; go_simp; try with_reducible rfl
      try simp only [Act.put, List.setIfInBounds_toArray, List.set_cons_zero, List.set_cons_succ]
      refine held_take (i := 1) (v := ?_) (some 154) rfl rfl (by kernel_rfl) (by kernel_rfl) (by kernel_rfl) (fun _ _ _ h => h) (Or.inl ⟨by rfl, ?_⟩) hHeld ?_
      rotate_left 1
      · intro w' (h : Rel wa w'); obtain ⟨⟨z0, z1, z2, z3⟩, _⟩ := (HB.out.rel ((R7.out.trans RA.out).trans h)).four; go_simp; try with_reducible rfl
      try simp only [Act.put, List.setIfInBounds_toArray, List.set_cons_zero, List.set_cons_succ]
      refine held_take (i := 2) (v := ?_) (some 155) rfl rfl (by kernel_rfl) (by kernel_rfl) (by kernel_rfl) (fun _ _ _ h => h) (Or.inl ⟨by rfl, ?_⟩) hHeld ?_
      rotate_left 1
      · intro w' (h : Rel wa w'); obtain ⟨⟨z0, z1, z2, z3⟩, _⟩ := (HB.out.rel ((R7.out.trans RA.out).trans h)).four; go_simp; try with_reducible rfl
      try simp only [Act.put, List.setIfInBounds_toArray, List.set_cons_zero, List.set_cons_succ]
      refine held_take (i := 3) (v := ?_) (some 156) rfl rfl (by kernel_rfl) (by kernel_rfl) (by kernel_rfl) (fun _ _ _ h => h) (Or.inl ⟨by rfl, ?_⟩) hHeld ?_
      rotate_left 1
      · intro w' (h : Rel wa w'); obtain ⟨⟨z0, z1, z2, z3⟩, _⟩ := (HB.out.rel ((R7.out.trans RA.out).trans h)).four; go_simp; try with_reducible rfl
      try simp only [Act.put, List.setIfInBounds_toArray, List.set_cons_zero, List.set_cons_succ]
      refine held_take (i := 4) (v := ?_) (some 157) rfl rfl (by kernel_rfl) (by kernel_rfl) (by kernel_rfl) (fun _ _ _ h => h) (Or.inl ⟨by rfl, ?_⟩) hHeld ?_
      rotate_left 1
      · intro w' (h : Rel wa w'); obtain ⟨⟨z0, z1, z2, z3⟩, _⟩ := (HB.out.rel ((R7.out.trans RA.out).trans h)).four; go_simp; try with_reducible rfl
      try simp only [Act.put, List.setIfInBounds_toArray, List.set_cons_zero, List.set_cons_succ]
      refine held_take (i := 5) (v := ?_) (some 158) rfl rfl (by kernel_rfl) (by kernel_rfl) (by kernel_rfl) (fun _ _ _ h => h) (Or.inl ⟨by rfl, ?_⟩) hHeld ?_
      rotate_left 1
      · intro w' (h : Rel wa w'); obtain ⟨⟨z0, z1, z2, z3⟩, _⟩ := (HB.out.rel ((R7.out.trans RA.out).trans h)).four; go_simp; try with_reducible rfl
      try simp only [Act.put, List.setIfInBounds_toArray, List.set_cons_zero, List.set_cons_succ]
      refine held_one (j := 6) (by kernel_rfl) rfl (fun K hK => ?_)
      try simp only [List.getElem_toArray, List.getElem_cons_succ, List.getElem_cons_zero]
      rw [if_pos (by rfl)]
      go_simp
      go_at_call 11
      (with_reducible refine (eval_as H.out (.mk 3 0 s []) [os[p]] p' true 0 Q6 (fun _ => True) (3, 0, s, none, 0, 0) (some ⟨g, off + p * 2, none⟩) (c2 - p) _ _ hHeld.self (E3.out _) Z3 (HA1.out.rel hHeld) _ _ V3 O1).mono ?_)
      rintro e wz ⟨rfl, hz9⟩
      refine hK.out _ _ (hHeld.trans hz9) (fun hHeld => ?_)
      clear hK K
      try simp only [Act.put, List.setIfInBounds_toArray, List.set_cons_zero, List.set_cons_succ]
      refine held_take (i := 7) (v := ?_) (some 152) rfl rfl (by kernel_rfl) (by kernel_rfl) (by kernel_rfl) (fun _ _ _ h => h) (Or.inl ⟨by rfl, ?_⟩) hHeld ?_
      rotate_left 1
      · intro w' (h : Rel wa w'); obtain ⟨⟨z0, z1, z2, z3⟩, _⟩ := (HB.out.rel ((R7.out.trans RA.out).trans h)).four; go_simp; try with_reducible rfl
      try simp only [Act.put, List.setIfInBounds_toArray, List.set_cons_zero, List.set_cons_succ]
      refine held_take (i := 8) (v := ?_) (some 160) rfl rfl (by kernel_rfl) (by kernel_rfl) (by kernel_rfl) (fun _ _ _ h => h) (Or.inl ⟨by rfl, ?_⟩) hHeld ?_
      rotate_left 1
      · intro w' (h : Rel wa w'); obtain ⟨⟨z0, z1, z2, z3⟩, _⟩ := (HB.out.rel ((R7.out.trans RA.out).trans h)).four; go_simp; try with_reducible rfl
      try simp only [Act.put, List.setIfInBounds_toArray, List.set_cons_zero, List.set_cons_succ]
      refine held_take (i := 9) (v := ?_) (some 161) rfl rfl (by kernel_rfl) (by kernel_rfl) (by kernel_rfl) (fun _ _ _ h => h) (Or.inl ⟨by rfl, ?_⟩) hHeld ?_
      rotate_left 1
      · intro w' (h : Rel wa w'); obtain ⟨⟨z0, z1, z2, z3⟩, _⟩ := (HB.out.rel ((R7.out.trans RA.out).trans h)).four; go_simp; try with_reducible rfl
      try simp only [Act.put, List.setIfInBounds_toArray, List.set_cons_zero, List.set_cons_succ]
      refine held_take (i := 10) (v := ?_) (some 162) rfl rfl (by kernel_rfl) (by kernel_rfl) (by kernel_rfl) (fun _ _ _ h => h) (Or.inl ⟨by rfl, ?_⟩) hHeld ?_
      rotate_left 1
      · intro w' (h : Rel wa w'); obtain ⟨⟨z0, z1, z2, z3⟩, _⟩ := (HB.out.rel ((R7.out.trans RA.out).trans h)).four; go_simp; try with_reducible rfl
      try simp only [Act.put, List.setIfInBounds_toArray, List.set_cons_zero, List.set_cons_succ]
      refine held_take (i := 11) (v := ?_) (some 29) rfl rfl (by kernel_rfl) (by kernel_rfl) (by kernel_rfl) (fun _ _ _ h => h) (Or.inl ⟨by rfl, ?_⟩) hHeld ?_
      rotate_left 1
      · intro w' (h : Rel wa w'); obtain ⟨⟨z0, z1, z2, z3⟩, _⟩ := (HB.out.rel ((R7.out.trans RA.out).trans h)).four; go_simp; try with_reducible rfl
      try simp only [Act.put, List.setIfInBounds_toArray, List.set_cons_zero, List.set_cons_succ]
      refine held_take (i := 12) (v := ?_) (some 30) rfl rfl (by kernel_rfl) (by kernel_rfl) (by kernel_rfl) (fun _ _ _ h => h) (Or.inl ⟨by rfl, ?_⟩) hHeld ?_
      rotate_left 1
      · intro w' (h : Rel wa w'); obtain ⟨⟨z0, z1, z2, z3⟩, _⟩ := (HB.out.rel ((R7.out.trans RA.out).trans h)).four; go_simp; try with_reducible rfl
      try simp only [Act.put, List.setIfInBounds_toArray, List.set_cons_zero, List.set_cons_succ]
      refine held_take (i := 13) (v := ?_) (some 31) rfl rfl (by kernel_rfl) (by kernel_rfl) (by kernel_rfl) (fun _ _ _ h => h) (Or.inl ⟨by rfl, ?_⟩) hHeld ?_
      rotate_left 1
      · intro w' (h : Rel wa w'); obtain ⟨⟨z0, z1, z2, z3⟩, _⟩ := (HB.out.rel ((R7.out.trans RA.out).trans h)).four; go_simp; try with_reducible rfl
      try simp only [Act.put, List.setIfInBounds_toArray, List.set_cons_zero, List.set_cons_succ]
      refine wpAnyH_done (by kernel_rfl) ?_ _
      go_wp2_with (fail)
      go_meet
      exact ⟨rfl, rfl, rfl, hHeld⟩
    obtain ⟨rfl, rfl, rfl, hRZ⟩ := hcut
    have y1 := (hRZ.2.cell (p := ⟨g, off + p * 2 + 1, none⟩) (blk_of_cell x1)).trans x1
    go_wp2_with (fail)
    go_ret
    exact ⟨rfl, RT.out.trans hRZ⟩
end Go.Proofs.YtpehlldgnbajjaaDoor
