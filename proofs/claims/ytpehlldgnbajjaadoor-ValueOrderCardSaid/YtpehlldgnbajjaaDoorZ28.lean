/- The law's turned: what it is given, in another order. -/
import Derived.Test.YtpehlldgnbajjaaDoorZ27
import Derived.Test.YtpehlldgnbajjaaDoorZ10
namespace Go.Proofs.YtpehlldgnbajjaaDoor
open Go.RowKit Go.Lib
set_option linter.unusedVariables false
set_option linter.unusedSimpArgs false

theorem turn_perm (l : List Of) (k : Nat) : ([] ++ l.drop k ++ l.take k).Perm l := by
  rw [List.nil_append]
  have := List.perm_append_comm (l₁ := l.drop k) (l₂ := l.take k)
  rw [List.take_append_drop] at this
  exact this
set_option maxRecDepth 100000 in
set_option maxHeartbeats 8000000 in
theorem turned_any (A : Option Addr) (c b0 : Nat) (l : List Of) (at_ : Int) (back : Bool) (ha : i64 at_) (w0 w : World) (hr : Rel w0 w) (ho : OffOwn w b0 (.slice A l.length c) l) (hf : OffsFit l) (h8 : l.length ≤ 8) :
    Calls Tryd.prog 12 #[.slice A l.length c, .int .i64 at_, .bool back] w fun e w' => ∃ (A2 : Option Addr) (c2 : Nat) (m : List Of), e = .returned (.slice A2 m.length c2) ∧ m.Perm l ∧ OffOwn w' w.heap.size (.slice A2 m.length c2) m ∧ Rel w0 w' := by
  have HR := Lib.hid hr
  have HS := Lib.hid hr.self
  have h := ho.arg hf
  have HAt := Lib.hid h.2.2.2
  have hcl := h.1
  have hcm : c ≤ 9223372036854775807 := h.2.1
  have hform := ho.form
  have hkb := pk_bd at_ ((l.length : Int) + 1) (by omega)
  obtain ⟨k, hk⟩ : ∃ k : Nat, pk at_ ((l.length : Int) + 1) = (k : Int) := ⟨(pk at_ ((l.length : Int) + 1)).toNat, by omega⟩
  have hkl : k ≤ l.length := by omega
  have hkc : k ≤ c := by omega
  have HK := Lib.hid hk
  have hw1 : IntKind.i64.wrap ((l.length : Int) + 1) = (l.length : Int) + 1 := IntWalk.i64_in _ (by omega)
  have hp1 : (0 : Int) < (l.length : Int) + 1 := by omega
  have hp2 : (l.length : Int) + 1 ≤ 9223372036854775807 := by omega
  obtain ⟨a0, a1⟩ := ha
  clear hr h ho hk hkb
  go_enter Tryd.func12, Tryd.ntmps12
  go_upto_region 2 with (go_at_call 14; (with_reducible refine (pk9_as at_ ((l.length : Int) + 1) (k : Int) HK a0 a1 hp1 hp2 _).mono ?_); rintro e w' ⟨rfl, rfl⟩)
  have hki : (k : Int) ≤ (l.length : Int) := by omega
  have hkci : (k : Int) ≤ (c : Int) := by omega
  have hlci : (l.length : Int) ≤ (c : Int) := by omega
  have hk0 : (0 : Int) ≤ (k : Int) := by omega
  go_cut [8] (fun x wx => ∃ v, x = v ∧ OffOwn wx w.heap.size v ([] ++ l.drop k ++ l.take k) ∧ Rel w wx)
  case first =>
    rcases hform with ⟨rfl, rfl, rfl⟩ | ⟨g, rfl, hgb, hgl⟩
    · obtain rfl : k = 0 := by simpa using hkl
      refine wp_region_held_drew (S := (fun w' => Rel w w')) (by kernel_rfl) HS.out.drew (fun hHeld => ?_)
      refine held_take (i := 0) (v := ?_) (some 15) rfl rfl (by kernel_rfl) (by kernel_rfl) (by kernel_rfl) (fun _ _ _ h => h) (Or.inl ⟨by rfl, ?_⟩) hHeld ?_
      rotate_left 1
      · intro w' (h : Rel w w'); go_simp; try with_reducible rfl
      try simp only [Act.put, List.setIfInBounds_toArray, List.set_cons_zero, List.set_cons_succ]
      refine held_take (i := 1) (v := ?_) (some 16) rfl rfl (by kernel_rfl) (by kernel_rfl) (by kernel_rfl) (fun _ _ _ h => h) (Or.inl ⟨by rfl, ?_⟩) hHeld ?_
      rotate_left 1
      · intro w' (h : Rel w w'); go_simp; try with_reducible rfl
      try simp only [Act.put, List.setIfInBounds_toArray, List.set_cons_zero, List.set_cons_succ]
      refine held_take (i := 2) (v := ?_) (some 17) rfl rfl (by kernel_rfl) (by kernel_rfl) (by kernel_rfl) (fun _ _ _ h => h) (Or.inl ⟨by rfl, ?_⟩) hHeld ?_
      rotate_left 1
      · intro w' (h : Rel w w'); go_simp; try with_reducible rfl
      try simp only [Act.put, List.setIfInBounds_toArray, List.set_cons_zero, List.set_cons_succ]
      refine held_take (i := 4) (v := ?_) (some 19) rfl rfl (by kernel_rfl) (by kernel_rfl) (by kernel_rfl) (fun _ _ _ h => h) (Or.inl ⟨by rfl, ?_⟩) hHeld ?_
      rotate_left 1
      · intro w' (h : Rel w w'); go_simp; try with_reducible rfl
      try simp only [Act.put, List.setIfInBounds_toArray, List.set_cons_zero, List.set_cons_succ]
      refine held_take (i := 5) (v := ?_) (some 20) rfl rfl (by kernel_rfl) (by kernel_rfl) (by kernel_rfl) (fun _ _ _ h => h) (Or.inl ⟨by rfl, ?_⟩) hHeld ?_
      rotate_left 1
      · intro w' (h : Rel w w'); go_simp; try with_reducible rfl
      try simp only [Act.put, List.setIfInBounds_toArray, List.set_cons_zero, List.set_cons_succ]
      refine held_take (i := 6) (v := ?_) (some 21) rfl rfl (by kernel_rfl) (by kernel_rfl) (by kernel_rfl) (fun _ _ _ h => h) (Or.inl ⟨by rfl, ?_⟩) hHeld ?_
      rotate_left 1
      · intro w' (h : Rel w w'); go_simp; try with_reducible rfl
      try simp only [Act.put, List.setIfInBounds_toArray, List.set_cons_zero, List.set_cons_succ]
      refine held_one (j := 3) (by kernel_rfl) rfl (fun K hK => ?_)
      try simp only [List.getElem_toArray, List.getElem_cons_succ, List.getElem_cons_zero]
      rw [if_pos (by rfl)]
      refine wp_appn _ _ rfl (base := w.heap.size) (v := .slice none 0 0) (os := []) rfl (OffOwn.nil _ _) (A := none) (l := ([] : List Of).drop 0) rfl (by first | (simp; done) | (simp; omega)) (by intro e; first | rfl | cases e) (OffsAt.nil _ _) (by first | (simp; done) | (simp; omega)) (by simp) (by simp) ?_
      intro v1 w1 hown1 hg1 hb1
      refine hK.out _ _ (hHeld.grown hg1 (fun q hq => by cases hq)) (fun hHeld => ?_)
      clear hK K
      try simp only [Act.put, List.setIfInBounds_toArray, List.set_cons_zero, List.set_cons_succ]
      refine held_one (j := 7) (by kernel_rfl) rfl (fun K hK => ?_)
      try simp only [List.getElem_toArray, List.getElem_cons_succ, List.getElem_cons_zero]
      rw [if_pos (by rfl)]
      have HB1 := Lib.hid hHeld.size
      refine wp_appn _ _ rfl (base := w.heap.size) (v := v1) (os := [] ++ ([] : List Of).drop 0) rfl hown1 (A := none) (l := ([] : List Of).take 0) rfl (by first | (simp; done) | (simp; omega)) (by intro e; first | rfl | cases e) (OffsAt.nil _ _) (by first | (simp; done) | (simp; omega)) (by first | (simp; done) | (simp; omega)) HB1.out ?_
      intro v2 w2 hown2 hg2 hb2
      refine hK.out _ _ (OffOwn.grown_rel hHeld hown1 (Nat.le_refl _) hg2) (fun hHeld => ?_)
      clear hK K
      try simp only [Act.put, List.setIfInBounds_toArray, List.set_cons_zero, List.set_cons_succ]
      refine held_take (i := 8) (v := ?_) (some 8) rfl rfl (by kernel_rfl) (by kernel_rfl) (by kernel_rfl) (fun _ _ _ h => h) (Or.inl ⟨by rfl, ?_⟩) hHeld ?_
      rotate_left 1
      · intro w' (h : Rel w w'); go_simp; try with_reducible rfl
      try simp only [Act.put, List.setIfInBounds_toArray, List.set_cons_zero, List.set_cons_succ]
      refine wpAnyH_done (by kernel_rfl) ?_ _
      go_wp2_with (fail)
      go_meet
      exact ⟨_, rfl, hown2, hHeld⟩
    · by_cases hck : c = k
      · have hd0 : l.drop k = [] := List.drop_eq_nil_of_le (by omega)
        refine wp_region_held_drew (S := (fun w' => Rel w w')) (by kernel_rfl) HS.out.drew (fun hHeld => ?_)
        refine held_take (i := 0) (v := ?_) (some 15) rfl rfl (by kernel_rfl) (by kernel_rfl) (by kernel_rfl) (fun _ _ _ h => h) (Or.inl ⟨by rfl, ?_⟩) hHeld ?_
        rotate_left 1
        · intro w' (h : Rel w w'); go_simp; try with_reducible rfl
        try simp only [Act.put, List.setIfInBounds_toArray, List.set_cons_zero, List.set_cons_succ]
        refine held_take (i := 1) (v := ?_) (some 16) rfl rfl (by kernel_rfl) (by kernel_rfl) (by kernel_rfl) (fun _ _ _ h => h) (Or.inl ⟨by rfl, ?_⟩) hHeld ?_
        rotate_left 1
        · intro w' (h : Rel w w'); go_simp; try with_reducible rfl
        try simp only [Act.put, List.setIfInBounds_toArray, List.set_cons_zero, List.set_cons_succ]
        refine held_take (i := 2) (v := ?_) (some 17) rfl rfl (by kernel_rfl) (by kernel_rfl) (by kernel_rfl) (fun _ _ _ h => h) (Or.inl ⟨by rfl, ?_⟩) hHeld ?_
        rotate_left 1
        · intro w' (h : Rel w w'); go_simp; try with_reducible rfl
        try simp only [Act.put, List.setIfInBounds_toArray, List.set_cons_zero, List.set_cons_succ]
        refine held_take (i := 4) (v := ?_) (some 19) rfl rfl (by kernel_rfl) (by kernel_rfl) (by kernel_rfl) (fun _ _ _ h => h) (Or.inl ⟨by rfl, ?_⟩) hHeld ?_
        rotate_left 1
        · intro w' (h : Rel w w'); go_simp; try with_reducible rfl
        try simp only [Act.put, List.setIfInBounds_toArray, List.set_cons_zero, List.set_cons_succ]
        refine held_take (i := 5) (v := ?_) (some 20) rfl rfl (by kernel_rfl) (by kernel_rfl) (by kernel_rfl) (fun _ _ _ h => h) (Or.inl ⟨by rfl, ?_⟩) hHeld ?_
        rotate_left 1
        · intro w' (h : Rel w w'); go_simp; try with_reducible rfl
        try simp only [Act.put, List.setIfInBounds_toArray, List.set_cons_zero, List.set_cons_succ]
        refine held_take (i := 6) (v := ?_) (some 21) rfl rfl (by kernel_rfl) (by kernel_rfl) (by kernel_rfl) (fun _ _ _ h => h) (Or.inl ⟨by rfl, ?_⟩) hHeld ?_
        rotate_left 1
        · intro w' (h : Rel w w'); go_simp; try with_reducible rfl
        try simp only [Act.put, List.setIfInBounds_toArray, List.set_cons_zero, List.set_cons_succ]
        refine held_one (j := 3) (by kernel_rfl) rfl (fun K hK => ?_)
        try simp only [List.getElem_toArray, List.getElem_cons_succ, List.getElem_cons_zero]
        rw [if_pos (by rfl)]
        refine wp_appn _ _ rfl (base := w.heap.size) (v := .slice none 0 0) (os := []) rfl (OffOwn.nil _ _) (A := some ⟨g, 0, none⟩) (l := (l : List Of).drop k) rfl (by first | (simp; done) | (simp; omega)) (by intro e; first | rfl | cases e) (by rw [hd0]; exact OffsAt.nil _ _) (by first | (simp; done) | (simp; omega)) (by simp) (by simp) ?_
        intro v1 w1 hown1 hg1 hb1
        refine hK.out _ _ (hHeld.grown hg1 (fun q hq => by cases hq)) (fun hHeld => ?_)
        clear hK K
        try simp only [Act.put, List.setIfInBounds_toArray, List.set_cons_zero, List.set_cons_succ]
        refine held_one (j := 7) (by kernel_rfl) rfl (fun K hK => ?_)
        try simp only [List.getElem_toArray, List.getElem_cons_succ, List.getElem_cons_zero]
        rw [if_pos (by rfl)]
        have HB1 := Lib.hid hHeld.size
        refine wp_appn _ _ rfl (base := w.heap.size) (v := v1) (os := [] ++ (l : List Of).drop k) rfl hown1 (A := some ⟨g, 0, none⟩) (l := (l : List Of).take k) rfl (by first | (simp; done) | (simp; omega)) (by intro e; first | rfl | cases e) ((HAt.out.rel hHeld).take k) (by first | (simp; done) | (simp; omega)) (by first | (simp; done) | (simp; omega)) HB1.out ?_
        intro v2 w2 hown2 hg2 hb2
        refine hK.out _ _ (OffOwn.grown_rel hHeld hown1 (Nat.le_refl _) hg2) (fun hHeld => ?_)
        clear hK K
        try simp only [Act.put, List.setIfInBounds_toArray, List.set_cons_zero, List.set_cons_succ]
        refine held_take (i := 8) (v := ?_) (some 8) rfl rfl (by kernel_rfl) (by kernel_rfl) (by kernel_rfl) (fun _ _ _ h => h) (Or.inl ⟨by rfl, ?_⟩) hHeld ?_
        rotate_left 1
        · intro w' (h : Rel w w'); go_simp; try with_reducible rfl
        try simp only [Act.put, List.setIfInBounds_toArray, List.set_cons_zero, List.set_cons_succ]
        refine wpAnyH_done (by kernel_rfl) ?_ _
        go_wp2_with (fail)
        go_meet
        exact ⟨_, rfl, hown2, hHeld⟩
      · skip
        refine wp_region_held_drew (S := (fun w' => Rel w w')) (by kernel_rfl) HS.out.drew (fun hHeld => ?_)
        refine held_take (i := 0) (v := ?_) (some 15) rfl rfl (by kernel_rfl) (by kernel_rfl) (by kernel_rfl) (fun _ _ _ h => h) (Or.inl ⟨by rfl, ?_⟩) hHeld ?_
        rotate_left 1
        · intro w' (h : Rel w w'); go_simp; try with_reducible rfl
        try simp only [Act.put, List.setIfInBounds_toArray, List.set_cons_zero, List.set_cons_succ]
        refine held_take (i := 1) (v := ?_) (some 16) rfl rfl (by kernel_rfl) (by kernel_rfl) (by kernel_rfl) (fun _ _ _ h => h) (Or.inl ⟨by rfl, ?_⟩) hHeld ?_
        rotate_left 1
        · intro w' (h : Rel w w'); go_simp; try with_reducible rfl
        try simp only [Act.put, List.setIfInBounds_toArray, List.set_cons_zero, List.set_cons_succ]
        refine held_take (i := 2) (v := ?_) (some 17) rfl rfl (by kernel_rfl) (by kernel_rfl) (by kernel_rfl) (fun _ _ _ h => h) (Or.inl ⟨by rfl, ?_⟩) hHeld ?_
        rotate_left 1
        · intro w' (h : Rel w w'); go_simp; try with_reducible rfl
        try simp only [Act.put, List.setIfInBounds_toArray, List.set_cons_zero, List.set_cons_succ]
        refine held_take (i := 4) (v := ?_) (some 19) rfl rfl (by kernel_rfl) (by kernel_rfl) (by kernel_rfl) (fun _ _ _ h => h) (Or.inl ⟨by rfl, ?_⟩) hHeld ?_
        rotate_left 1
        · intro w' (h : Rel w w'); go_simp; try with_reducible rfl
        try simp only [Act.put, List.setIfInBounds_toArray, List.set_cons_zero, List.set_cons_succ]
        refine held_take (i := 5) (v := ?_) (some 20) rfl rfl (by kernel_rfl) (by kernel_rfl) (by kernel_rfl) (fun _ _ _ h => h) (Or.inl ⟨by rfl, ?_⟩) hHeld ?_
        rotate_left 1
        · intro w' (h : Rel w w'); go_simp; try with_reducible rfl
        try simp only [Act.put, List.setIfInBounds_toArray, List.set_cons_zero, List.set_cons_succ]
        refine held_take (i := 6) (v := ?_) (some 21) rfl rfl (by kernel_rfl) (by kernel_rfl) (by kernel_rfl) (fun _ _ _ h => h) (Or.inl ⟨by rfl, ?_⟩) hHeld ?_
        rotate_left 1
        · intro w' (h : Rel w w'); go_simp; try with_reducible rfl
        try simp only [Act.put, List.setIfInBounds_toArray, List.set_cons_zero, List.set_cons_succ]
        refine held_one (j := 3) (by kernel_rfl) rfl (fun K hK => ?_)
        try simp only [List.getElem_toArray, List.getElem_cons_succ, List.getElem_cons_zero]
        rw [if_pos (by rfl)]
        refine wp_appn _ _ rfl (base := w.heap.size) (v := .slice none 0 0) (os := []) rfl (OffOwn.nil _ _) (A := some ⟨g, k * 2, none⟩) (l := (l : List Of).drop k) rfl (by first | (simp; done) | (simp; omega)) (by intro e; first | rfl | cases e) (by have h := (HAt.out.rel hHeld).from k; rwa [Nat.zero_add] at h) (by first | (simp; done) | (simp; omega)) (by simp) (by simp) ?_
        intro v1 w1 hown1 hg1 hb1
        refine hK.out _ _ (hHeld.grown hg1 (fun q hq => by cases hq)) (fun hHeld => ?_)
        clear hK K
        try simp only [Act.put, List.setIfInBounds_toArray, List.set_cons_zero, List.set_cons_succ]
        refine held_one (j := 7) (by kernel_rfl) rfl (fun K hK => ?_)
        try simp only [List.getElem_toArray, List.getElem_cons_succ, List.getElem_cons_zero]
        rw [if_pos (by rfl)]
        have HB1 := Lib.hid hHeld.size
        refine wp_appn _ _ rfl (base := w.heap.size) (v := v1) (os := [] ++ (l : List Of).drop k) rfl hown1 (A := some ⟨g, 0, none⟩) (l := (l : List Of).take k) rfl (by first | (simp; done) | (simp; omega)) (by intro e; first | rfl | cases e) ((HAt.out.rel hHeld).take k) (by first | (simp; done) | (simp; omega)) (by first | (simp; done) | (simp; omega)) HB1.out ?_
        intro v2 w2 hown2 hg2 hb2
        refine hK.out _ _ (OffOwn.grown_rel hHeld hown1 (Nat.le_refl _) hg2) (fun hHeld => ?_)
        clear hK K
        try simp only [Act.put, List.setIfInBounds_toArray, List.set_cons_zero, List.set_cons_succ]
        refine held_take (i := 8) (v := ?_) (some 8) rfl rfl (by kernel_rfl) (by kernel_rfl) (by kernel_rfl) (fun _ _ _ h => h) (Or.inl ⟨by rfl, ?_⟩) hHeld ?_
        rotate_left 1
        · intro w' (h : Rel w w'); go_simp; try with_reducible rfl
        try simp only [Act.put, List.setIfInBounds_toArray, List.set_cons_zero, List.set_cons_succ]
        refine wpAnyH_done (by kernel_rfl) ?_ _
        go_wp2_with (fail)
        go_meet
        exact ⟨_, rfl, hown2, hHeld⟩
  obtain ⟨v, rfl, hO, hR2⟩ := hcut
  obtain ⟨A2, c2, rfl⟩ := hO.slice_of
  generalize hm0 : [] ++ l.drop k ++ l.take k = m0 at hO ⊢
  have HP0 := Lib.hid (show m0.Perm l from hm0 ▸ turn_perm l k)
  have HO := Lib.hid hO
  have HR2 := Lib.hid hR2
  clear hO hR2 hm0 hform hw1 hp1 hp2 hki hkci hlci hk0 hkl hkc
  have hN := HP0.out.length_eq
  obtain ⟨N, hNN⟩ : ∃ N, m0.length = N := ⟨_, rfl⟩
  rw [hNN] at HO hN ⊢
  have HNN := Lib.hid hNN
  have hN8 : N ≤ 8 := by omega
  have hq0 : ((N : Int)).tdiv 2 = ((N / 2 : Nat) : Int) := by
    rw [Int.tdiv_eq_ediv_of_nonneg (by omega)]; omega
  have HNl := Lib.hid hN
  clear hNN hN
  go_upto_block 0 with (fail)
  go_cut [] (fun wx => ∃ m : List Of, m.length = N ∧ Hid (m.Perm l) ∧ OffOwn wx w.heap.size (.slice A2 N c2) m ∧ Rel w wx)
  case first =>
    go_wp2_with (fail)
    go_loopw [9] (fun i wr => ∃ (j : Nat) (m : List Of), i = .int .i64 (j : Int) ∧ j ≤ 8 ∧ m.length = N ∧ Hid (m.Perm l) ∧ OffOwn wr w.heap.size (.slice A2 N c2) m ∧ Rel w wr) (fun i _ => 9 - (RowKit.intOf i).toNat)
    case atStart => exact ⟨0, m0, rfl, by omega, HNN.out, HP0, HO.out, HR2.out⟩
    case round =>
      obtain ⟨j, m, rfl, hj, hmN, HP, hO, hRw⟩ := hrel
      have HO := Lib.hid hO
      have HRw := Lib.hid hRw
      have HMN := Lib.hid hmN
      clear hO
      by_cases hlt : j < N / 2
      · cases back with
        | false =>
          have t1 : (j : Int) < ((N / 2 : Nat) : Int) := by omega
          go_wp2_with (fail)
          go_meet
          exact ⟨m, HMN.out, HP, HO.out, HRw.out⟩
        | true =>
          have t1 : (j : Int) < ((N / 2 : Nat) : Int) := by omega
          obtain ⟨q, hqN, HQ⟩ : ∃ q : Nat, q < N ∧ Hid (q + 1 + j = N) := ⟨N - 1 - j, by omega, Lib.hid (by omega)⟩
          have hjN : j < N := by omega
          have hjq : j ≠ q := by have := HQ.out; omega
          have hjm : j < m.length := by have := HMN.out; omega
          have hqm : q < m.length := by have := HMN.out; omega
          have hO := HO.out
          rcases (show OffOwn wr w.heap.size (.slice A2 m.length c2) m by rw [hmN]; exact hO).form with ⟨_, _, h0⟩ | ⟨g, rfl, hgb, hgl⟩
          · rw [h0] at hmN; simp at hmN; omega
          obtain ⟨g', off, s1, p1, e1, x0, x1, ho1⟩ := offs_at (OffOwn.offs (A := some ⟨g, 0, none⟩) (n := N) (c := c2) hO hmN.symm) HRw.out.right3 j hjm
          obtain ⟨g'', off', s2, p2, e2, y0, y1, ho2⟩ := offs_at (OffOwn.offs (A := some ⟨g, 0, none⟩) (n := N) (c := c2) hO hmN.symm) HRw.out.right3 q hqm
          injection e1 with e1; injection e1 with e1 e3; subst e1; subst e3
          injection e2 with e2; injection e2 with e2 e4; subst e2; subst e4
          rw [Nat.zero_add] at x0 x1 y0 y1
          have fz : ∀ i : Nat, wr.frozen? ⟨g, i, none⟩ = false := fun i => by
            rcases hO.2 with ⟨h0, _⟩ | ⟨gg, cap, cur, hv, _, hh, _⟩
            · cases h0
            · injection hv with hv _ _; injection hv with hv; injection hv with hv; subst hv
              exact Bk.frozen (t := 37) hh i
          have f0 := fz (j * 2)
          have f1 := fz (j * 2 + 1)
          have f2 := fz (q * 2)
          have f3 := fz (q * 2 + 1)
          have i1 : IntKind.i64.wrap ((N : Int) - 1) = (N : Int) - 1 := IntWalk.i64_in _ (by omega)
          have i2 : IntKind.i64.wrap ((N : Int) - 1 - (j : Int)) = (q : Int) := by rw [IntWalk.i64_in _ (by omega)]; have := HQ.out; omega
          have i3 : (q : Int) < (N : Int) := by omega
          have i4 : (j : Int) < (N : Int) := by omega
          have H1 := Lib.hid ho1
          have H2 := Lib.hid ho2
          have HF1 := Lib.hid (show ((m.set j (s2, p2)).set q (s1, p1)).length = N by rw [List.length_set, List.length_set]; exact hmN)
          have HF2 : Hid (Hid (((m.set j (s2, p2)).set q (s1, p1)).Perm l)) := Lib.hid (Lib.hid (by
            have := swap_perm m j q hjm hqm
            rw [ho1, ho2] at this
            exact this.trans HP.out))
          have HF3 := Lib.hid (show OffOwn ((((wr.setCell ⟨g, j * 2, none⟩ (.string (B s2))).setCell ⟨g, j * 2 + 1, none⟩ (.int .i64 p2)).setCell ⟨g, q * 2, none⟩ (.string (B s1))).setCell ⟨g, q * 2 + 1, none⟩ (.int .i64 p1)) w.heap.size (.slice (some ⟨g, 0, none⟩) N c2) ((m.set j (s2, p2)).set q (s1, p1)) by
            have o1 := OffOwn.set2 (show OffOwn wr w.heap.size (.slice (some ⟨g, 0, none⟩) m.length c2) m by rw [hmN]; exact hO) j hjm (s2, p2)
            have o2 := OffOwn.set2 (os := m.set j (s2, p2)) (cap := c2) (show OffOwn _ w.heap.size (.slice (some ⟨g, 0, none⟩) (m.set j (s2, p2)).length c2) (m.set j (s2, p2)) by rw [List.length_set]; exact o1) q (by rw [List.length_set]; exact hqm) (s1, p1)
            rw [List.length_set, hmN] at o2
            exact o2)
          have HF4 := Lib.hid (show Rel w ((((wr.setCell ⟨g, j * 2, none⟩ (.string (B s2))).setCell ⟨g, j * 2 + 1, none⟩ (.int .i64 p2)).setCell ⟨g, q * 2, none⟩ (.string (B s1))).setCell ⟨g, q * 2 + 1, none⟩ (.int .i64 p1)).drew from ((((HRw.out.setCell (p := ⟨g, j * 2, none⟩) hgb _).setCell (p := ⟨g, j * 2 + 1, none⟩) hgb _).setCell (p := ⟨g, q * 2, none⟩) hgb _).setCell (p := ⟨g, q * 2 + 1, none⟩) hgb _).drew)
          clear hO hmN ho1 ho2 hgb fz
          go_upto_region 6 with (fail)
          refine wp_region_any (by kernel_rfl) ?_
          change wpAny _ _ _ _ _ _ _ wr.drew
          refine any_take (i := 0) (v := ?_) (some 33) rfl rfl (by kernel_rfl) (by kernel_rfl) (by kernel_rfl) (fun _ _ _ h => h) (Or.inl ⟨by rfl, ?_⟩) ?_
          rotate_left 1
          · intro w'; go_simp; try with_reducible rfl
          try simp only [Act.put, List.setIfInBounds_toArray, List.set_cons_zero, List.set_cons_succ]
          refine any_take (i := 1) (v := ?_) (some 34) rfl rfl (by kernel_rfl) (by kernel_rfl) (by kernel_rfl) (fun _ _ _ h => h) (Or.inl ⟨by rfl, ?_⟩) ?_
          rotate_left 1
          · intro w'; go_simp; try with_reducible rfl
          try simp only [Act.put, List.setIfInBounds_toArray, List.set_cons_zero, List.set_cons_succ]
          refine any_take (i := 2) (v := ?_) (some 35) rfl rfl (by kernel_rfl) (by kernel_rfl) (by kernel_rfl) (fun _ _ _ h => h) (Or.inl ⟨by rfl, ?_⟩) ?_
          rotate_left 1
          · intro w'; go_simp; try with_reducible rfl
          try simp only [Act.put, List.setIfInBounds_toArray, List.set_cons_zero, List.set_cons_succ]
          refine any_take (i := 3) (v := ?_) (some 36) rfl rfl (by kernel_rfl) (by kernel_rfl) (by kernel_rfl) (fun _ _ _ h => h) (Or.inl ⟨by rfl, ?_⟩) ?_
          rotate_left 1
          · intro w'; go_simp; try with_reducible rfl
          try simp only [Act.put, List.setIfInBounds_toArray, List.set_cons_zero, List.set_cons_succ]
          refine any_take (i := 4) (v := ?_) (some 37) rfl rfl (by kernel_rfl) (by kernel_rfl) (by kernel_rfl) (fun _ _ _ h => h) (Or.inl ⟨by rfl, ?_⟩) ?_
          rotate_left 1
          · intro w'; go_simp; try with_reducible rfl
          try simp only [Act.put, List.setIfInBounds_toArray, List.set_cons_zero, List.set_cons_succ]
          refine any_take (i := 5) (v := ?_) (some 38) rfl rfl (by kernel_rfl) (by kernel_rfl) (by kernel_rfl) (fun _ _ _ h => h) (Or.inl ⟨by rfl, ?_⟩) ?_
          rotate_left 1
          · intro w'; go_simp; try with_reducible rfl
          try simp only [Act.put, List.setIfInBounds_toArray, List.set_cons_zero, List.set_cons_succ]
          refine any_take (i := 6) (v := ?_) (some 39) rfl rfl (by kernel_rfl) (by kernel_rfl) (by kernel_rfl) (fun _ _ _ h => h) (Or.inl ⟨by rfl, ?_⟩) ?_
          rotate_left 1
          · intro w'; go_simp; try with_reducible rfl
          try simp only [Act.put, List.setIfInBounds_toArray, List.set_cons_zero, List.set_cons_succ]
          refine any_take (i := 7) (v := ?_) (some 40) rfl rfl (by kernel_rfl) (by kernel_rfl) (by kernel_rfl) (fun _ _ _ h => h) (Or.inl ⟨by rfl, ?_⟩) ?_
          rotate_left 1
          · intro w'; go_simp; try with_reducible rfl
          try simp only [Act.put, List.setIfInBounds_toArray, List.set_cons_zero, List.set_cons_succ]
          refine any_take (i := 8) (v := ?_) (some 41) rfl rfl (by kernel_rfl) (by kernel_rfl) (by kernel_rfl) (fun _ _ _ h => h) (Or.inl ⟨by rfl, ?_⟩) ?_
          rotate_left 1
          · intro w'; go_simp; try with_reducible rfl
          try simp only [Act.put, List.setIfInBounds_toArray, List.set_cons_zero, List.set_cons_succ]
          refine any_take (i := 9) (v := ?_) (some 42) rfl rfl (by kernel_rfl) (by kernel_rfl) (by kernel_rfl) (fun _ _ _ h => h) (Or.inl ⟨by rfl, ?_⟩) ?_
          rotate_left 1
          · intro w'; go_simp; try with_reducible rfl
          try simp only [Act.put, List.setIfInBounds_toArray, List.set_cons_zero, List.set_cons_succ]
          refine any_take (i := 10) (v := ?_) (some 43) rfl rfl (by kernel_rfl) (by kernel_rfl) (by kernel_rfl) (fun _ _ _ h => h) (Or.inl ⟨by rfl, ?_⟩) ?_
          rotate_left 1
          · intro w'; go_simp; try with_reducible rfl
          try simp only [Act.put, List.setIfInBounds_toArray, List.set_cons_zero, List.set_cons_succ]
          refine any_take (i := 11) (v := ?_) (some 44) rfl rfl (by kernel_rfl) (by kernel_rfl) (by kernel_rfl) (fun _ _ _ h => h) (Or.inl ⟨by rfl, ?_⟩) ?_
          rotate_left 1
          · intro w'; go_simp; try with_reducible rfl
          try simp only [Act.put, List.setIfInBounds_toArray, List.set_cons_zero, List.set_cons_succ]
          refine any_take (i := 12) (v := ?_) (some 45) rfl rfl (by kernel_rfl) (by kernel_rfl) (by kernel_rfl) (fun _ _ _ h => h) (Or.inl ⟨by rfl, ?_⟩) ?_
          rotate_left 1
          · intro w'; go_simp; try with_reducible rfl
          try simp only [Act.put, List.setIfInBounds_toArray, List.set_cons_zero, List.set_cons_succ]
          refine any_take (i := 13) (v := ?_) (some 46) rfl rfl (by kernel_rfl) (by kernel_rfl) (by kernel_rfl) (fun _ _ _ h => h) (Or.inl ⟨by rfl, ?_⟩) ?_
          rotate_left 1
          · intro w'; go_simp; try with_reducible rfl
          try simp only [Act.put, List.setIfInBounds_toArray, List.set_cons_zero, List.set_cons_succ]
          refine any_take (i := 14) (v := ?_) (some 47) rfl rfl (by kernel_rfl) (by kernel_rfl) (by kernel_rfl) (fun _ _ _ h => h) (Or.inl ⟨by rfl, ?_⟩) ?_
          rotate_left 1
          · intro w'; go_simp; try with_reducible rfl
          try simp only [Act.put, List.setIfInBounds_toArray, List.set_cons_zero, List.set_cons_succ]
          refine any_take (i := 16) (v := ?_) (some 49) rfl rfl (by kernel_rfl) (by kernel_rfl) (by kernel_rfl) (fun _ _ _ h => h) (Or.inl ⟨by rfl, ?_⟩) ?_
          rotate_left 1
          · intro w'; go_simp; try with_reducible rfl
          try simp only [Act.put, List.setIfInBounds_toArray, List.set_cons_zero, List.set_cons_succ]
          refine any_take (i := 17) (v := ?_) (some 50) rfl rfl (by kernel_rfl) (by kernel_rfl) (by kernel_rfl) (fun _ _ _ h => h) (Or.inl ⟨by rfl, ?_⟩) ?_
          rotate_left 1
          · intro w'; go_simp; try with_reducible rfl
          try simp only [Act.put, List.setIfInBounds_toArray, List.set_cons_zero, List.set_cons_succ]
          refine any_take (i := 18) (v := ?_) (some 51) rfl rfl (by kernel_rfl) (by kernel_rfl) (by kernel_rfl) (fun _ _ _ h => h) (Or.inl ⟨by rfl, ?_⟩) ?_
          rotate_left 1
          · intro w'; go_simp; try with_reducible rfl
          try simp only [Act.put, List.setIfInBounds_toArray, List.set_cons_zero, List.set_cons_succ]
          refine any_two (j := 15) (k := 19) (by kernel_rfl) rfl rfl (fun K hK => ?_) (fun K hK => ?_)
          · skip
            try simp only [List.getElem_toArray, List.getElem_cons_succ, List.getElem_cons_zero]
            go_simp
            refine hK _ _ ?_
            clear hK K
            try simp only [Act.put, List.setIfInBounds_toArray, List.set_cons_zero, List.set_cons_succ]
            refine any_one (j := 19) (by kernel_rfl) rfl (fun K hK => ?_)
            try simp only [List.getElem_toArray, List.getElem_cons_succ, List.getElem_cons_zero]
            go_simp
            refine hK _ _ ?_
            clear hK K
            try simp only [Act.put, List.setIfInBounds_toArray, List.set_cons_zero, List.set_cons_succ]
            refine any_take (i := 20) (v := ?_) (some 53) rfl rfl (by kernel_rfl) (by kernel_rfl) (by kernel_rfl) (fun _ _ _ h => h) (Or.inl ⟨by rfl, ?_⟩) ?_
            rotate_left 1
            · intro w'; go_simp; try with_reducible rfl
            try simp only [Act.put, List.setIfInBounds_toArray, List.set_cons_zero, List.set_cons_succ]
            refine any_one (j := 21) (by kernel_rfl) rfl (fun K hK => ?_)
            try simp only [List.getElem_toArray, List.getElem_cons_succ, List.getElem_cons_zero]
            go_simp
            refine hK _ _ ?_
            clear hK K
            try simp only [Act.put, List.setIfInBounds_toArray, List.set_cons_zero, List.set_cons_succ]
            refine any_take (i := 22) (v := ?_) (some 54) rfl rfl (by kernel_rfl) (by kernel_rfl) (by kernel_rfl) (fun _ _ _ h => h) (Or.inl ⟨by rfl, ?_⟩) ?_
            rotate_left 1
            · intro w'; go_simp; try with_reducible rfl
            try simp only [Act.put, List.setIfInBounds_toArray, List.set_cons_zero, List.set_cons_succ]
            refine any_one (j := 23) (by kernel_rfl) rfl (fun K hK => ?_)
            try simp only [List.getElem_toArray, List.getElem_cons_succ, List.getElem_cons_zero]
            go_simp
            refine hK _ _ ?_
            clear hK K
            try simp only [Act.put, List.setIfInBounds_toArray, List.set_cons_zero, List.set_cons_succ]
            refine any_done (by kernel_rfl) ?_ _
            go_wp2_with (fail)
            go_roundw
            case rel => exact ⟨j + 1, (m.set j (s2, p2)).set q (s1, p1), by go_num, by omega, HF1.out, HF2.out, HF3.out, HF4.out⟩
            case measure => simp [RowKit.intOf]; omega
          · skip
            try simp only [List.getElem_toArray, List.getElem_cons_succ, List.getElem_cons_zero]
            go_simp
            refine hK _ _ ?_
            clear hK K
            try simp only [Act.put, List.setIfInBounds_toArray, List.set_cons_zero, List.set_cons_succ]
            refine any_one (j := 15) (by kernel_rfl) rfl (fun K hK => ?_)
            try simp only [List.getElem_toArray, List.getElem_cons_succ, List.getElem_cons_zero]
            go_simp
            refine hK _ _ ?_
            clear hK K
            try simp only [Act.put, List.setIfInBounds_toArray, List.set_cons_zero, List.set_cons_succ]
            refine any_take (i := 20) (v := ?_) (some 53) rfl rfl (by kernel_rfl) (by kernel_rfl) (by kernel_rfl) (fun _ _ _ h => h) (Or.inl ⟨by rfl, ?_⟩) ?_
            rotate_left 1
            · intro w'; go_simp; try with_reducible rfl
            try simp only [Act.put, List.setIfInBounds_toArray, List.set_cons_zero, List.set_cons_succ]
            refine any_one (j := 21) (by kernel_rfl) rfl (fun K hK => ?_)
            try simp only [List.getElem_toArray, List.getElem_cons_succ, List.getElem_cons_zero]
            go_simp
            refine hK _ _ ?_
            clear hK K
            try simp only [Act.put, List.setIfInBounds_toArray, List.set_cons_zero, List.set_cons_succ]
            refine any_take (i := 22) (v := ?_) (some 54) rfl rfl (by kernel_rfl) (by kernel_rfl) (by kernel_rfl) (fun _ _ _ h => h) (Or.inl ⟨by rfl, ?_⟩) ?_
            rotate_left 1
            · intro w'; go_simp; try with_reducible rfl
            try simp only [Act.put, List.setIfInBounds_toArray, List.set_cons_zero, List.set_cons_succ]
            refine any_one (j := 23) (by kernel_rfl) rfl (fun K hK => ?_)
            try simp only [List.getElem_toArray, List.getElem_cons_succ, List.getElem_cons_zero]
            go_simp
            refine hK _ _ ?_
            clear hK K
            try simp only [Act.put, List.setIfInBounds_toArray, List.set_cons_zero, List.set_cons_succ]
            refine any_done (by kernel_rfl) ?_ _
            go_wp2_with (fail)
            go_roundw
            case rel => exact ⟨j + 1, (m.set j (s2, p2)).set q (s1, p1), by go_num, by omega, HF1.out, HF2.out, HF3.out, HF4.out⟩
            case measure => simp [RowKit.intOf]; omega
      · have t1 : ¬ (j : Int) < ((N / 2 : Nat) : Int) := by omega
        go_wp2_with (fail)
        all_goals
          go_meet
          exact ⟨m, HMN.out, HP, HO.out, HRw.out⟩
  obtain ⟨m, hmN, HP, hO, hRL⟩ := hcut
  subst hmN
  go_wp2_with (fail)
  go_ret
  exact ⟨A2, c2, m, rfl, HP.out, hO, HR.out.trans hRL⟩
end Go.Proofs.YtpehlldgnbajjaaDoor
