/- Plain mathematics of layer 10: code as lines; unlike code that may be has unlike lines. No program in this text; Offers in memory: to be read, and of the call's own; Plain mathematics of layer 9: what simple expressions tell; offers of raw numbers; lowest and second. No program in this text; A stack in memory, of the call's own: it grows at its end, and is cut there; The document's own machine of layer 11: take, put; The document's own machine of layer 11: put, minus, two; The document's own machine of layer 11: minus, two. -/
import Derived.Test.YtcckemhelockaaaGreatDoorZL
import Derived.Test.YtcckemhelockaaaGreatDoorZ00
import Derived.Test.YtcckemhelockaaaGreatDoorZ01
import Derived.Test.YtcckemhelockaaaGreatDoorZ02
import Derived.Test.YtcckemhelockaaaGreatDoorZ03
import Derived.Test.YtcckemhelockaaaGreatDoorZ50
namespace Go.Proofs.YtcckemhelockaaaGreatDoor
open Go.Lib
set_option linter.unusedVariables false
set_option linter.unusedSimpArgs false
/-- An operation's word; what stands behind it. -/
def wordO (o : Int) : List UInt8 :=
  if o = 1 then [112,117,115,104] else if o = 2 then [108,111,119,101,115,116] else if o = 3 then [115,101,99,111,110,100] else if o = 4 then [102,114,111,109] else if o = 5 then [108,101,115,115] else if o = 6 then [99,117,116] else if o = 7 then [109,105,110] else if o = 8 then [109,97,120]
  else if o = 9 then [101,108,115,101] else if o = 10 then [109,111,114,101] else if o = 11 then [97,98,111,118,101] else if o = 12 then [117,110,108,101,115,115] else if o = 13 then [106,117,109,112] else [63]
def tailO (o n : Int) (nm : List UInt8) : List UInt8 := if numO o then 32 :: itoa n else if o = 4 then 32 :: nm else []
def lineT (t : In) : List UInt8 := wordO t.1 ++ (tailO t.1 t.2.1 t.2.2 ++ [10])
def textC : List In → List UInt8
  | [] => []
  | t :: r => lineT t ++ textC r
theorem textC_append (a b : List In) : textC (a ++ b) = textC a ++ textC b := by
  induction a with
  | nil => rfl
  | cons t r ih => rw [List.cons_append, textC, textC, ih, List.append_assoc]
end Go.Proofs.YtcckemhelockaaaGreatDoor

namespace Go.Proofs.YtcckemhelockaaaGreatDoor
open Go.RowKit Go.Lib
set_option linter.unusedVariables false
set_option linter.unusedSimpArgs false
theorem offArg_nil (w : World) : OffArg w none 0 [] := ⟨Nat.le_refl _, Nat.zero_le _, fun o h => (by cases h), OffsAt.nil _ _⟩
end Go.Proofs.YtcckemhelockaaaGreatDoor

namespace Go.Proofs.YtcckemhelockaaaGreatDoor
open Go.Lib
set_option linter.unusedVariables false
set_option linter.unusedSimpArgs false
theorem eval_low {l : List Of} (h : offsOk l = true) : evalS l (.mk 1 0 [] []) = .ok (rk l 0) := by
  rw [eval_yes h (right_leaf (.inl rfl) (by decide) (by simp) (by decide)), told_one _ _ _ rfl]
theorem eval_sec {l : List Of} (h : offsOk l = true) : evalS l (.mk 2 0 [] []) = .ok (rk l 1) := by
  rw [eval_yes h (right_leaf (.inr (.inl rfl)) (by decide) (by simp) (by decide)), told_two _ _ _ rfl]
theorem eval_from {l : List Of} (h : offsOk l = true) {s : List UInt8} (hs : isName s = true) : evalS l (.mk 3 0 s []) = .ok (fromO l s) := by
  rw [eval_yes h (right_leaf (.inr (.inr (.inl rfl))) (by decide) (by simpa using (name_parts hs).1) (fun _ => hs)), told_from _ _ _ rfl]; rfl
end Go.Proofs.YtcckemhelockaaaGreatDoor

namespace Go.Proofs.YtcckemhelockaaaGreatDoor
open Go.RowKit Go.Lib
set_option linter.unusedVariables false
set_option linter.unusedSimpArgs false
/-- The fault laid. -/
theorem Mc.fault {T M : TypeId} {w : World} {C b : Nat} {s : Ms} (hTM : T ≠ M) (h : Mc T M w C b s) (e : Int) : Mc T M (w.setCell ⟨b, 1, none⟩ (.int .i64 e)) C b (s.1, e) := by
  obtain ⟨hC, A, c, h1, h2⟩ := h
  exact ⟨hC, A, c, h1.set_ 1 _, own_set h2.row (own_ne h2.row h1 hTM) _⟩
end Go.Proofs.YtcckemhelockaaaGreatDoor

namespace Go.Proofs.YtcckemhelockaaaGreatDoor
open Go.RowKit Go.Lib
set_option linter.unusedVariables false
set_option linter.unusedSimpArgs false
abbrev Mr (w : World) (C b : Nat) (s : Ms) : Prop := Mc 66 94 w C b s
abbrev Kx (b : Nat) (w w' : World) : Prop := Kr 66 b w w'
theorem cm_ne : (66 : TypeId) ≠ 94 := by decide
theorem take_bad {s : Ms} (h : s.2 ≠ 0) : takeM s = (none, s) := by unfold takeM; rw [if_neg h]
set_option maxRecDepth 100000 in
set_option maxHeartbeats 4000000 in
theorem rtake_any (b : Nat) (s : Ms) (hs : s.1.length ≤ 1000) (w0 w : World) (hr : Rel w0 w) (h : Mr w w0.heap.size b s) :
    Calls Tryz.prog 88 #[.pointer (some ⟨b, 0, none⟩)] w fun r w' => r = .returned (.agg #[.int .i64 ((takeM s).1.getD 0), .bool (takeM s).1.isSome]) ∧ Mr w' w0.heap.size b (takeM s).2 ∧ Rel w0 w' ∧ Kt b w w' := by
  have HA := Lib.hid (hr.alloc (.cells #[.int .i64 0, .bool false] 66))
  have HM := Lib.hid (h.alloc (.cells #[.int .i64 0, .bool false] 66))
  have HK := Lib.hid ((Kt.refl b w).alloc (.cells #[.int .i64 0, .bool false] 66))
  have HX := Lib.hid (Bk.new w 66 #[.int .i64 0, .bool false])
  have hbl := h.lt
  obtain ⟨W, hW⟩ : ∃ W, w.alloc (.cells #[.int .i64 0, .bool false] 66) = W := ⟨_, rfl⟩
  rw [hW] at HA HM HK HX
  obtain ⟨⟨x0, x1⟩, x2, x3⟩ := HX.out.two
  obtain ⟨S, E⟩ := s
  obtain ⟨hC, A, c, hb0, ho0⟩ := h
  have hx : some w.heap.size ≠ (Value.slice A S.length c).ownBlock := fun e => by have := (ho0.row.lt _ e.symm).2; omega
  have HB := Lib.hid (show Bk W b 94 #[.slice A S.length c, .int .i64 E] from by rw [← hW]; exact Bk.alloc hb0 _)
  have HO := Lib.hid (show StkOwn 66 W w0.heap.size (.slice A S.length c) S from by rw [← hW]; exact World.ownsRow.alloc (show w.ownsRow _ _ _ _ _ _ from ho0) _)
  obtain ⟨⟨b0, b1⟩, b2, b3⟩ := HB.out.two
  have hwb : w.heap.size ≠ b := by omega
  have hw0 : w0.heap.size ≤ w.heap.size := hr.size
  clear hb0 ho0 hr HM
  by_cases hE : E = 0
  · subst hE
    rcases stack_ways S with rfl | ⟨T, t, rfl⟩
    · go_enter Tryz.func88, Tryz.ntmps88
      go_wp2_with (fail)
      obtain ⟨⟨r0, r1⟩, _⟩ := ((HX.out.far (p := ⟨b, 1, none⟩) hwb (.int .i64 100)).put (.int .i64 0) (.bool false)).two
      exact bodyPost_ret (v := .agg #[.int .i64 0, .bool false]) (by simp [results, Tryz.results88, go_sem, r0, r1]) rfl ⟨rfl, Mc.box hC rfl (HB.out.set_ 1 (.int .i64 100)) (own_set HO.out.row (own_ne HO.out.row HB.out cm_ne) _) hwb hx _ _, (HA.out.setCell (p := ⟨b, 1, none⟩) hC _).box hw0 _ _, (HK.out.set (p := ⟨b, 1, none⟩) rfl _).box (Nat.le_refl _) _ _⟩
    · have hl : (T ++ [t]).length = T.length + 1 := by simp
      rw [hl] at HB HO b0 hx hs
      obtain ⟨g, cap, hv, hg0, hgl, hcap, t0, t1, ht⟩ := HO.out.top
      obtain ⟨L, hL⟩ : ∃ L, T.length = L := ⟨_, rfl⟩
      rw [hL] at hv t0 t1 ht HB HO b0 hx hcap hs
      injection hv with e1 e2 e3
      subst e1
      subst e3
      have HTk := Lib.hid (show takeM (T ++ [t], 0) = (t, (T, 0)) from take_last T t)
      have HLn := Lib.hid hL
      have HT := Lib.hid (show StkOwn 66 W w0.heap.size (.slice (some ⟨g, 0, none⟩) L c) T from ht)
      have hgX : some w.heap.size ≠ some g := hx
      obtain ⟨tn, htn⟩ : ∃ tn, t.getD 0 = tn := ⟨_, rfl⟩
      obtain ⟨tb, htb⟩ : ∃ tb, t.isSome = tb := ⟨_, rfl⟩
      rw [htn] at t0
      rw [htb] at t1
      have HTn := Lib.hid (show (t.getD 0, t.isSome) = (tn, tb) by rw [htn, htb])
      have q1 : IntKind.i64.wrap ((L : Nat) : Int) = ((L : Nat) : Int) := IntWalk.i64_in _ (by omega)
      have l0 : (0 : Int) ≤ (L : Int) := by omega
      have l1 : (L : Int) < (L : Int) + 1 := by omega
      clear hl hL ht htn htb
      go_enter Tryz.func88, Tryz.ntmps88
      go_upto_region 5 with (fail)
      refine wp_region_held_drew (S := (fun w' => Rel W w')) (by kernel_rfl) HA.out.self.drew (fun hHeld => ?_)
      refine held_take (i := 0) (v := ?_) (some 26) rfl rfl (by kernel_rfl) (by kernel_rfl) (by kernel_rfl) (fun _ _ _ h => h) (Or.inl ⟨by rfl, ?_⟩) hHeld ?_
      rotate_left 1
      · intro w' (h : Rel W w'); obtain ⟨⟨z0, z1⟩, _⟩ := (HB.out.rel h).two; have z2 := h.2.cell (p := ⟨g, L * 2, none⟩) hgl; have z3 := h.2.cell (p := ⟨g, L * 2 + 1, none⟩) hgl; rw [t0] at z2; rw [t1] at z3; go_simp; try with_reducible rfl
      try simp only [Act.put, List.setIfInBounds_toArray, List.set_cons_zero, List.set_cons_succ]
      refine held_take (i := 1) (v := ?_) (some 27) rfl rfl (by kernel_rfl) (by kernel_rfl) (by kernel_rfl) (fun _ _ _ h => h) (Or.inl ⟨by rfl, ?_⟩) hHeld ?_
      rotate_left 1
      · intro w' (h : Rel W w'); obtain ⟨⟨z0, z1⟩, _⟩ := (HB.out.rel h).two; have z2 := h.2.cell (p := ⟨g, L * 2, none⟩) hgl; have z3 := h.2.cell (p := ⟨g, L * 2 + 1, none⟩) hgl; rw [t0] at z2; rw [t1] at z3; go_simp; try with_reducible rfl
      try simp only [Act.put, List.setIfInBounds_toArray, List.set_cons_zero, List.set_cons_succ]
      refine held_take (i := 2) (v := ?_) (some 28) rfl rfl (by kernel_rfl) (by kernel_rfl) (by kernel_rfl) (fun _ _ _ h => h) (Or.inl ⟨by rfl, ?_⟩) hHeld ?_
      rotate_left 1
      · intro w' (h : Rel W w'); obtain ⟨⟨z0, z1⟩, _⟩ := (HB.out.rel h).two; have z2 := h.2.cell (p := ⟨g, L * 2, none⟩) hgl; have z3 := h.2.cell (p := ⟨g, L * 2 + 1, none⟩) hgl; rw [t0] at z2; rw [t1] at z3; go_simp; try with_reducible rfl
      try simp only [Act.put, List.setIfInBounds_toArray, List.set_cons_zero, List.set_cons_succ]
      refine held_take (i := 3) (v := ?_) (some 29) rfl rfl (by kernel_rfl) (by kernel_rfl) (by kernel_rfl) (fun _ _ _ h => h) (Or.inl ⟨by rfl, ?_⟩) hHeld ?_
      rotate_left 1
      · intro w' (h : Rel W w'); obtain ⟨⟨z0, z1⟩, _⟩ := (HB.out.rel h).two; have z2 := h.2.cell (p := ⟨g, L * 2, none⟩) hgl; have z3 := h.2.cell (p := ⟨g, L * 2 + 1, none⟩) hgl; rw [t0] at z2; rw [t1] at z3; go_simp; try with_reducible rfl
      try simp only [Act.put, List.setIfInBounds_toArray, List.set_cons_zero, List.set_cons_succ]
      refine held_take (i := 4) (v := ?_) (some 30) rfl rfl (by kernel_rfl) (by kernel_rfl) (by kernel_rfl) (fun _ _ _ h => h) (Or.inl ⟨by rfl, ?_⟩) hHeld ?_
      rotate_left 1
      · intro w' (h : Rel W w'); obtain ⟨⟨z0, z1⟩, _⟩ := (HB.out.rel h).two; have z2 := h.2.cell (p := ⟨g, L * 2, none⟩) hgl; have z3 := h.2.cell (p := ⟨g, L * 2 + 1, none⟩) hgl; rw [t0] at z2; rw [t1] at z3; go_simp; try with_reducible rfl
      try simp only [Act.put, List.setIfInBounds_toArray, List.set_cons_zero, List.set_cons_succ]
      refine held_take (i := 5) (v := ?_) (some 31) rfl rfl (by kernel_rfl) (by kernel_rfl) (by kernel_rfl) (fun _ _ _ h => h) (Or.inl ⟨by rfl, ?_⟩) hHeld ?_
      rotate_left 1
      · intro w' (h : Rel W w'); obtain ⟨⟨z0, z1⟩, _⟩ := (HB.out.rel h).two; have z2 := h.2.cell (p := ⟨g, L * 2, none⟩) hgl; have z3 := h.2.cell (p := ⟨g, L * 2 + 1, none⟩) hgl; rw [t0] at z2; rw [t1] at z3; go_simp; try with_reducible rfl
      try simp only [Act.put, List.setIfInBounds_toArray, List.set_cons_zero, List.set_cons_succ]
      refine held_take (i := 6) (v := ?_) (some 32) rfl rfl (by kernel_rfl) (by kernel_rfl) (by kernel_rfl) (fun _ _ _ h => h) (Or.inl ⟨by rfl, ?_⟩) hHeld ?_
      rotate_left 1
      · intro w' (h : Rel W w'); obtain ⟨⟨z0, z1⟩, _⟩ := (HB.out.rel h).two; have z2 := h.2.cell (p := ⟨g, L * 2, none⟩) hgl; have z3 := h.2.cell (p := ⟨g, L * 2 + 1, none⟩) hgl; rw [t0] at z2; rw [t1] at z3; go_simp; try with_reducible rfl
      try simp only [Act.put, List.setIfInBounds_toArray, List.set_cons_zero, List.set_cons_succ]
      refine held_take (i := 7) (v := ?_) (some 33) rfl rfl (by kernel_rfl) (by kernel_rfl) (by kernel_rfl) (fun _ _ _ h => h) (Or.inl ⟨by rfl, ?_⟩) hHeld ?_
      rotate_left 1
      · intro w' (h : Rel W w'); obtain ⟨⟨z0, z1⟩, _⟩ := (HB.out.rel h).two; have z2 := h.2.cell (p := ⟨g, L * 2, none⟩) hgl; have z3 := h.2.cell (p := ⟨g, L * 2 + 1, none⟩) hgl; rw [t0] at z2; rw [t1] at z3; go_simp; try with_reducible rfl
      try simp only [Act.put, List.setIfInBounds_toArray, List.set_cons_zero, List.set_cons_succ]
      refine held_take (i := 8) (v := ?_) (some 34) rfl rfl (by kernel_rfl) (by kernel_rfl) (by kernel_rfl) (fun _ _ _ h => h) (Or.inl ⟨by rfl, ?_⟩) hHeld ?_
      rotate_left 1
      · intro w' (h : Rel W w'); obtain ⟨⟨z0, z1⟩, _⟩ := (HB.out.rel h).two; have z2 := h.2.cell (p := ⟨g, L * 2, none⟩) hgl; have z3 := h.2.cell (p := ⟨g, L * 2 + 1, none⟩) hgl; rw [t0] at z2; rw [t1] at z3; go_simp; try with_reducible rfl
      try simp only [Act.put, List.setIfInBounds_toArray, List.set_cons_zero, List.set_cons_succ]
      refine held_take (i := 9) (v := ?_) (some 35) rfl rfl (by kernel_rfl) (by kernel_rfl) (by kernel_rfl) (fun _ _ _ h => h) (Or.inl ⟨by rfl, ?_⟩) hHeld ?_
      rotate_left 1
      · intro w' (h : Rel W w'); obtain ⟨⟨z0, z1⟩, _⟩ := (HB.out.rel h).two; have z2 := h.2.cell (p := ⟨g, L * 2, none⟩) hgl; have z3 := h.2.cell (p := ⟨g, L * 2 + 1, none⟩) hgl; rw [t0] at z2; rw [t1] at z3; go_simp; try with_reducible rfl
      try simp only [Act.put, List.setIfInBounds_toArray, List.set_cons_zero, List.set_cons_succ]
      refine held_take (i := 10) (v := ?_) (some 36) rfl rfl (by kernel_rfl) (by kernel_rfl) (by kernel_rfl) (fun _ _ _ h => h) (Or.inl ⟨by rfl, ?_⟩) hHeld ?_
      rotate_left 1
      · intro w' (h : Rel W w'); obtain ⟨⟨z0, z1⟩, _⟩ := (HB.out.rel h).two; have z2 := h.2.cell (p := ⟨g, L * 2, none⟩) hgl; have z3 := h.2.cell (p := ⟨g, L * 2 + 1, none⟩) hgl; rw [t0] at z2; rw [t1] at z3; go_simp; try with_reducible rfl
      try simp only [Act.put, List.setIfInBounds_toArray, List.set_cons_zero, List.set_cons_succ]
      refine held_take (i := 11) (v := ?_) (some 37) rfl rfl (by kernel_rfl) (by kernel_rfl) (by kernel_rfl) (fun _ _ _ h => h) (Or.inl ⟨by rfl, ?_⟩) hHeld ?_
      rotate_left 1
      · intro w' (h : Rel W w'); obtain ⟨⟨z0, z1⟩, _⟩ := (HB.out.rel h).two; have z2 := h.2.cell (p := ⟨g, L * 2, none⟩) hgl; have z3 := h.2.cell (p := ⟨g, L * 2 + 1, none⟩) hgl; rw [t0] at z2; rw [t1] at z3; go_simp; try with_reducible rfl
      try simp only [Act.put, List.setIfInBounds_toArray, List.set_cons_zero, List.set_cons_succ]
      refine held_one (j := 12) (by kernel_rfl) rfl (fun K hK => ?_)
      try simp only [List.getElem_toArray, List.getElem_cons_succ, List.getElem_cons_zero]
      rw [if_pos (by rfl)]
      go_simp
      refine hK.out _ _ (hHeld.alloc _) (fun hHeld => ?_)
      clear hK K
      try simp only [Act.put, List.setIfInBounds_toArray, List.set_cons_zero, List.set_cons_succ]
      refine held_one (j := 13) (by kernel_rfl) rfl (fun K hK => ?_)
      try simp only [List.getElem_toArray, List.getElem_cons_succ, List.getElem_cons_zero]
      rw [if_pos (by rfl)]
      go_simp
      refine hK.out _ _ ((HA.out.self.alloc (.cells #[.int .i64 tn, .bool tb] 66)).drew) (fun hHeld => ?_)
      clear hK K
      try simp only [Act.put, List.setIfInBounds_toArray, List.set_cons_zero, List.set_cons_succ]
      refine wpAnyH_done (by kernel_rfl) ?_ _
      have HBV := Lib.hid (show Bk (W.alloc (.cells #[.int .i64 tn, .bool tb] 66)).drew b 94 _ from HB.out.alloc (.cells #[.int .i64 tn, .bool tb] 66))
      have HTV := Lib.hid (show StkOwn 66 (W.alloc (.cells #[.int .i64 tn, .bool tb] 66)).drew w0.heap.size (.slice (some ⟨g, 0, none⟩) L c) T from World.ownsRow.alloc (show W.ownsRow _ _ _ _ _ _ from HT.out) (.cells #[.int .i64 tn, .bool tb] 66))
      have HXV := Lib.hid (show Bk (W.alloc (.cells #[.int .i64 tn, .bool tb] 66)).drew w.heap.size 66 _ from HX.out.alloc (.cells #[.int .i64 tn, .bool tb] 66))
      have HNV := Lib.hid (show Bk (W.alloc (.cells #[.int .i64 tn, .bool tb] 66)).drew W.heap.size 66 _ from Bk.new W 66 #[.int .i64 tn, .bool tb])
      have HAV := Lib.hid ((HA.out.alloc (.cells #[.int .i64 tn, .bool tb] 66)).drew)
      have HKV := Lib.hid (show Kt b w (W.alloc (.cells #[.int .i64 tn, .bool tb] 66)).drew from HK.out.alloc (.cells #[.int .i64 tn, .bool tb] 66))
      obtain ⟨V, hV⟩ : ∃ V, (W.alloc (.cells #[.int .i64 tn, .bool tb] 66)).drew = V := ⟨_, rfl⟩
      rw [hV] at HBV HTV HXV HNV HAV HKV
      rw [hV]
      obtain ⟨⟨v0, v1⟩, v2, v3⟩ := HBV.out.two
      obtain ⟨⟨n0, n1⟩, _⟩ := HNV.out.two
      have hWb : W.heap.size ≠ b := by rw [← hW, World.size_alloc]; omega
      have hWw : W.heap.size ≠ w.heap.size := by rw [← hW, World.size_alloc]; omega
      have HXU := Lib.hid (HXV.out.far (p := ⟨b, 0, none⟩) hwb (.slice (some ⟨g, 0, none⟩) L c))
      have HNU := Lib.hid (HNV.out.far (p := ⟨b, 0, none⟩) hWb (.slice (some ⟨g, 0, none⟩) L c))
      have HBU := Lib.hid (HBV.out.set_ 0 (.slice (some ⟨g, 0, none⟩) L c))
      have HTU := Lib.hid (show StkOwn 66 (V.setCell ⟨b, 0, none⟩ (.slice (some ⟨g, 0, none⟩) L c)) w0.heap.size _ T from own_set (StkOwn.row HTV.out) (own_ne (StkOwn.row HTV.out) HBV.out cm_ne) _)
      have HAU := Lib.hid (HAV.out.setCell (p := ⟨b, 0, none⟩) hC (.slice (some ⟨g, 0, none⟩) L c))
      have HKU := Lib.hid (HKV.out.set (p := ⟨b, 0, none⟩) rfl (.slice (some ⟨g, 0, none⟩) L c))
      obtain ⟨U, hU⟩ : ∃ U, V.setCell ⟨b, 0, none⟩ (.slice (some ⟨g, 0, none⟩) L c) = U := ⟨_, rfl⟩
      rw [hU] at HXU HNU HBU HTU HAU HKU
      obtain ⟨⟨m0, m1⟩, _⟩ := HNU.out.two
      obtain ⟨⟨k0, k1⟩, k2, k3⟩ := HXU.out.two
      obtain ⟨⟨p0, p1⟩, p2, p3⟩ := (show Bk (U.setCell ⟨w.heap.size, 0, none⟩ (.int .i64 tn)) w.heap.size 66 #[.int .i64 tn, .bool false] from HXU.out.set_ 0 _).two
      obtain ⟨⟨r0, r1⟩, _⟩ := (HXU.out.put (.int .i64 tn) (.bool tb)).two
      have l2 : L ≤ c := by omega
      clear hV
      go_upto_region 6 with (fail)
      go_still_tail 12, (by kernel_rfl)
      go_wp2_with (fail)
      have hE := congrArg Prod.fst HTn.out
      have hE2 := congrArg Prod.snd HTn.out
      simp only at hE hE2
      exact bodyPost_ret (v := .agg #[.int .i64 tn, .bool tb]) (by simp [results, Tryz.results88, go_sem, r0, r1]) rfl (by
        rw [HTk.out]
        exact ⟨by rw [hE, hE2], (Mc.box hC HLn.out HBU.out HTU.out hwb hgX _ _).drew, (HAU.out.box hw0 _ _).drew, HKU.out.box (Nat.le_refl _) _ _⟩)
  · have hEb : (E == 0) = false := by simpa using hE
    rcases stack_ways S with rfl | ⟨T, t, rfl⟩
    · go_enter Tryz.func88, Tryz.ntmps88
      go_wp2_with (fail)
      obtain ⟨⟨r0, r1⟩, _⟩ := (HX.out.put (.int .i64 0) (.bool false)).two
      exact bodyPost_ret (v := .agg #[.int .i64 0, .bool false]) (by simp [results, Tryz.results88, go_sem, r0, r1]) rfl (by rw [take_bad hE]; exact ⟨rfl, Mc.box hC rfl HB.out HO.out hwb hx _ _, HA.out.box hw0 _ _, HK.out.box (Nat.le_refl _) _ _⟩)
    · go_enter Tryz.func88, Tryz.ntmps88
      go_wp2_with (fail)
      obtain ⟨⟨r0, r1⟩, _⟩ := (HX.out.put (.int .i64 0) (.bool false)).two
      exact bodyPost_ret (v := .agg #[.int .i64 0, .bool false]) (by simp [results, Tryz.results88, go_sem, r0, r1]) rfl (by rw [take_bad hE]; exact ⟨rfl, Mc.box hC rfl HB.out HO.out hwb hx _ _, HA.out.box hw0 _ _, HK.out.box (Nat.le_refl _) _ _⟩)
end Go.Proofs.YtcckemhelockaaaGreatDoor

namespace Go.Proofs.YtcckemhelockaaaGreatDoor
open Go.RowKit Go.Lib
set_option linter.unusedVariables false
set_option linter.unusedSimpArgs false
theorem put_machine {w w' : World} {C b g c c' L : Nat} {A : Option Addr} {S : List Ce} {x : Ce} {o : Obj} {xs : List Value} (hC : C ≤ b) (hL : S.length = L) (hb : Bk (w.alloc o) b 94 #[.slice A L c, .int .i64 0]) (ho : StkOwn 66 w C (.slice A L c) S) (hx : cellsC x = xs)
    (hw : (w.alloc o).grownBy w' (Value.slice A L c).ownBlock) (hown : w'.ownsRow C 66 2 (.slice (some ⟨g, 0, none⟩) (L + 1) c') (L + 1) (cellsS S ++ xs)) : Mr (w'.setCell ⟨b, 0, none⟩ (.slice (some ⟨g, 0, none⟩) (L + 1) c')) C b (S ++ [x], 0) := by
  subst hL hx
  refine Mc.put cm_ne hC hb (ho.alloc o) hw ?_
  unfold StkOwn
  rw [cellsS_snoc, show (S ++ [x]).length = S.length + 1 by simp]; exact hown
theorem cell_info : (Tryz.prog.info? 66).map (fun i => (i.zero, i.size, i.bytes)) = some (some (.agg #[.int .i64 0, .bool false]), 2, 16) := by kernel_rfl
set_option maxRecDepth 100000 in
set_option maxHeartbeats 4000000 in
theorem rput_any (b : Nat) (s : Ms) (n : Int) (is : Bool) (x : Ce) (hx : s.2 = 0 → n = x.getD 0 ∧ is = x.isSome) (hs : s.1.length ≤ 1000) (w0 w : World) (hr : Rel w0 w) (h : Mr w w0.heap.size b s) :
    Calls Tryz.prog 86 #[.pointer (some ⟨b, 0, none⟩), .int .i64 n, .bool is] w fun r w' => r = .returned (.tuple #[]) ∧ Mr w' w0.heap.size b (putM s x) ∧ Rel w0 w' ∧ Kx b w w' := by
  obtain ⟨S, E⟩ := s
  have HM := Lib.hid h
  obtain ⟨hC, A, c, hb, ho⟩ := h
  have HB := Lib.hid (show Bk w b 94 #[.slice A S.length c, .int .i64 E] from hb)
  have HO := Lib.hid (show StkOwn 66 w w0.heap.size (.slice A S.length c) S from ho)
  have HR := Lib.hid hr
  have HK := Lib.hid (Kr.refl 66 b w)
  obtain ⟨L, hL⟩ : ∃ L, S.length = L := ⟨_, rfl⟩
  rw [hL] at HB HO
  have hs : L ≤ 1000 := by rw [← hL]; exact hs
  have HL := Lib.hid hL
  obtain ⟨⟨b0, b1⟩, b2, b3⟩ := HB.out.two
  clear hb ho hr
  by_cases hE : E = 0
  · subst hE
    obtain ⟨hn, hi⟩ := hx rfl
    by_cases h1 : 100 ≤ L
    · have t1 : decide ((100 : Int) ≤ (L : Int)) = true := decide_eq_true (by omega)
      have HF := Lib.hid (Mc.fault cm_ne HM.out 100)
      have HRF := Lib.hid (HR.out.setCell (p := ⟨b, 1, none⟩) hC (.int .i64 100))
      have HKF := Lib.hid (HK.out.set (p := ⟨b, 1, none⟩) rfl (.int .i64 100))
      have y1 : (w.setCell ⟨b, 1, none⟩ (.int .i64 100)).cell? ⟨b, 1, none⟩ = some (.int .i64 100) := (HB.out.set_ 1 _).cell 1
      have HP := Lib.hid (show putM (S, 0) x = (S, 100) from put_full (by omega) x)
      clear hL hx
      go_enter Tryz.func86, Tryz.ntmps86
      go_wp2_with (fail)
      go_end0
      exact ⟨rfl, by rw [HP.out]; exact HF.out, HRF.out, HKF.out⟩
    · have t1 : decide ((100 : Int) ≤ (L : Int)) = false := decide_eq_false (by omega)
      have h2 : L ≤ 99 := by omega
      have HP := Lib.hid (show putM (S, 0) x = (S ++ [x], 0) from put_room (by omega) x)
      obtain ⟨i0, hi0, hz0, hz1, hz2⟩ := info_parts cell_info
      have hbs : w0.heap.size ≤ w.heap.size := HR.out.size
      have HCx := Lib.hid (show cellsC x = [.int .i64 n, .bool is] by rw [hn, hi]; rfl)
      have HBA := Lib.hid (HB.out.alloc (.cells #[.int .i64 n, .bool is] 66))
      clear hL hn hi h1 hx
      go_enter Tryz.func86, Tryz.ntmps86
      go_wp2_with (at_builtin; (refine wpList_append_lies _ rfl _ _ 92 rfl w0.heap.size 66 i0 (.agg #[.int .i64 0, .bool false]) 2 16 Tryz.underlying92 hi0 hz0 hz1 hz2 rfl (by decide) (.slice A L c) L (cellsS S) rfl (by have := StkOwn.row HO.out; rw [HL.out] at this; exact this.alloc _) ⟨w.heap.size, 0, none⟩ 1 1 [.int .i64 n, .bool is] rfl rfl (World.news_of_block (Bk.new w 66 #[.int .i64 n, .bool is])) (by intro u hu; simp at hu; rcases hu with rfl | rfl <;> rfl) (by decide) (by unfold maxLen; omega) (by omega) (by simp; omega) _ rfl ?_); intro g cap w1 hown1 hgrow hat hlt1; have HO1 := Lib.hid hown1; have HG1 := Lib.hid hgrow; have HB1 := Lib.hid (HBA.out.grown hgrow (own_ne (StkOwn.row HO.out) HB.out cm_ne)); obtain ⟨⟨c0, c1⟩, c2, c3⟩ := HB1.out.two; clear hown1 hgrow)
      go_end0
      rw [HP.out]
      exact ⟨rfl, put_machine hC HL.out HBA.out HO.out HCx.out HG1.out HO1.out, ((HR.out.alloc _).grown HG1.out (fun k hk => (HO.out.row.lt k hk).1)).setCell (p := ⟨b, 0, none⟩) hC _, ((HK.out.alloc _).trans (Kr.row (T := 66) (b := b) (StkOwn.alloc HO.out _) HG1.out)).set (p := ⟨b, 0, none⟩) rfl _⟩
  · have hEb : (E == 0) = false := by simpa using hE
    have HP := Lib.hid (show putM (S, E) x = (S, E) from put_err hE x)
    clear hL hx
    by_cases h1 : 100 ≤ L
    · have t1 : decide ((100 : Int) ≤ (L : Int)) = true := decide_eq_true (by omega)
      go_enter Tryz.func86, Tryz.ntmps86
      go_wp2_with (fail)
      go_end0
      exact ⟨rfl, by rw [HP.out]; exact HM.out, HR.out, HK.out⟩
    · have t1 : decide ((100 : Int) ≤ (L : Int)) = false := decide_eq_false (by omega)
      go_enter Tryz.func86, Tryz.ntmps86
      go_wp2_with (fail)
      go_end0
      exact ⟨rfl, by rw [HP.out]; exact HM.out, HR.out, HK.out⟩
end Go.Proofs.YtcckemhelockaaaGreatDoor

namespace Go.Proofs.YtcckemhelockaaaGreatDoor
open Go.RowKit Go.Lib
set_option linter.unusedVariables false
set_option linter.unusedSimpArgs false
/-- A new box, and a cell of it written. -/
theorem Mc.boxed {T M : TypeId} {w : World} {C b : Nat} {s : Ms} (h : Mc T M w C b s) (o : Obj) (i : Nat) (u : Value) : Mc T M ((w.alloc o).setCell ⟨w.heap.size, i, none⟩ u) C b s := by
  have hlt := h.lt
  obtain ⟨hC, A, c, h1, h2⟩ := h
  have hx : some w.heap.size ≠ (Value.slice A s.1.length c).ownBlock := fun e => by have := (h2.row.lt _ e.symm).2; omega
  exact ⟨hC, A, c, (h1.alloc o).far (p := ⟨w.heap.size, i, none⟩) (show b ≠ w.heap.size by omega) u, own_set (h2.row.alloc o) (p := ⟨w.heap.size, i, none⟩) hx u⟩
theorem Kr.boxed {T : TypeId} {b : Nat} {w : World} (o : Obj) (i : Nat) (u : Value) : Kr T b w ((w.alloc o).setCell ⟨w.heap.size, i, none⟩ u) := ((Kr.refl T b w).alloc o).fresh (p := ⟨w.heap.size, i, none⟩) (Nat.le_refl _) u
theorem minus_err {s : Ms} (h : s.2 ≠ 0) (x : Ce) (f : Int → Rs) : minusM s x f = s := by
  cases x with
  | none => exact put_err h none
  | some v => unfold minusM; simp only; rw [if_neg h]
theorem two2_ways (v n : Int) : (two2 v n (v - n) = 0 ∧ subR v n = .ok (some (two1 v n (v - n)))) ∨ (two2 v n (v - n) ≠ 0 ∧ subR v n = .error (two2 v n (v - n))) := by
  unfold subR
  by_cases h : two2 v n (v - n) = 0
  · exact .inl ⟨h, by rw [if_pos h]⟩
  · exact .inr ⟨h, by rw [if_neg h]⟩
def minF (n e : Int) (v : Int) : Rs := if e = 0 then subR v n else .error e
set_option maxRecDepth 100000 in
set_option maxHeartbeats 4000000 in
theorem rminus_any (b : Nat) (s : Ms) (x : Ce) (n e : Int) (hs : s.1.length ≤ 1000) (w0 w : World) (hr : Rel w0 w) (h : Mr w w0.heap.size b s) :
    Calls Tryz.prog 87 #[.pointer (some ⟨b, 0, none⟩), .agg #[.int .i64 (x.getD 0), .bool x.isSome], .int .i64 n, .int .i64 e] w fun r w' => r = .returned (.tuple #[]) ∧ Mr w' w0.heap.size b (minusM s x (minF n e)) ∧ Rel w0 w' ∧ Kx b w w' := by
  have hlt := h.lt
  have hwb : w.heap.size ≠ b := by omega
  have hw0 := hr.size
  cases x with
  | none =>
    have HM := Lib.hid (h.alloc (.cells #[.int .i64 0, .bool false] 66))
    have HA := Lib.hid (hr.alloc (.cells #[.int .i64 0, .bool false] 66))
    have HK := Lib.hid ((Kr.refl 66 b w).alloc (.cells #[.int .i64 0, .bool false] 66))
    have HP := Lib.hid (show minusM s none (minF n e) = putM s none from rfl)
    simp only [Option.getD_none, Option.isSome_none]
    clear h hr
    go_enter Tryz.func87, Tryz.ntmps87
    go_wp2_with (go_at_call 86; (with_reducible refine (rput_any b s 0 false none (fun _ => ⟨rfl, rfl⟩) hs w0 _ HA.out HM.out).mono ?_); rintro r w1 ⟨rfl, m1, r1, k1⟩)
    refine bodyPost_ret (results_none rfl _ _ _) rfl ?_
    exact ⟨rfl, by rw [HP.out]; exact m1, r1, HK.out.trans k1⟩
  | some v =>
    simp only [Option.getD_some, Option.isSome_some]
    have HM := Lib.hid (h.alloc (.cells #[.int .i64 v, .bool true] 66))
    have HA := Lib.hid (hr.alloc (.cells #[.int .i64 v, .bool true] 66))
    have HK := Lib.hid ((Kr.refl 66 b w).alloc (.cells #[.int .i64 v, .bool true] 66))
    have HX := Lib.hid (Bk.new w 66 #[.int .i64 v, .bool true])
    have HMv := Lib.hid (fun u => h.boxed (.cells #[.int .i64 v, .bool true] 66) 0 u)
    have HKv := Lib.hid (fun u => Kr.boxed (T := 66) (b := b) (w := w) (.cells #[.int .i64 v, .bool true] 66) 0 u)
    obtain ⟨W, hW⟩ : ∃ W, w.alloc (.cells #[.int .i64 v, .bool true] 66) = W := ⟨_, rfl⟩
    rw [hW] at HM HA HK HX HMv HKv
    obtain ⟨A, c, ⟨b0, b1⟩, b2, b3⟩ := HM.out.cells
    obtain ⟨⟨x0, x1⟩, x2, x3⟩ := HX.out.two
    obtain ⟨S, E⟩ := s
    clear h hr
    by_cases he : e = 0
    · subst he
      have HS := Lib.hid (fun w => m9rsub_any v n w)
      have HF := Lib.hid (show minF n 0 v = subR v n from rfl)
      have hw := two2_ways v n
      generalize two1 v n (v - n) = p1 at *
      generalize two2 v n (v - n) = p2 at *
      have HX1 := Lib.hid (HX.out.set_ 0 (.int .i64 p1))
      have HM1 := Lib.hid (HMv.out (.int .i64 p1))
      have HA1 := Lib.hid (HA.out.setCell (p := ⟨w.heap.size, 0, none⟩) hw0 (.int .i64 p1))
      have HK1 := Lib.hid (HKv.out (.int .i64 p1))
      obtain ⟨A', c', ⟨d0, d1⟩, d2, d3⟩ := HM1.out.cells
      obtain ⟨⟨z0, z1⟩, _⟩ := HX1.out.two
      rcases hw with ⟨rfl, hsub⟩ | ⟨hp, hsub⟩
      · have HP := Lib.hid (show minusM (S, E) (some v) (minF n 0) = putM (S, E) (some p1) by
          by_cases hE : E = 0
          · subst hE; exact minus_ok (by rw [HF.out, hsub])
          · rw [minus_err hE, put_err hE])
        clear hsub HF
        go_enter Tryz.func87, Tryz.ntmps87
        go_wp2_with (first
          | (go_at_call 67; (with_reducible refine (HS.out _).mono ?_); rintro r w' ⟨rfl, rfl⟩)
          | (go_at_call 86; (with_reducible refine (rput_any b (S, E) p1 true (some p1) (fun _ => ⟨rfl, rfl⟩) hs w0 _ HA1.out HM1.out).mono ?_); rintro r w1 ⟨rfl, m1, r1, k1⟩))
        go_end0
        exact ⟨rfl, by rw [HP.out]; exact m1, r1, HK1.out.trans k1⟩
      · have hpb : (p2 == 0) = false := by simpa using hp
        by_cases hE : E = 0
        · subst hE
          have HP := Lib.hid (show minusM (S, 0) (some v) (minF n 0) = (S, p2) from minus_bad (by rw [HF.out, hsub]))
          have HM2 := Lib.hid (Mc.fault cm_ne HM1.out p2)
          have HA2 := Lib.hid (HA1.out.setCell (p := ⟨b, 1, none⟩) HM1.out.1 (.int .i64 p2))
          have HK2 := Lib.hid (HK1.out.set (p := ⟨b, 1, none⟩) rfl (.int .i64 p2))
          obtain ⟨⟨y0, y1⟩, _⟩ := (HX1.out.far (p := ⟨b, 1, none⟩) hwb (.int .i64 p2)).two
          clear hsub HF
          go_enter Tryz.func87, Tryz.ntmps87
          go_wp2_with (first
            | (go_at_call 67; (with_reducible refine (HS.out _).mono ?_); rintro r w' ⟨rfl, rfl⟩)
            | (go_at_call 86; (with_reducible refine (rput_any b (S, p2) p1 true (some p1) (fun h => absurd h hp) hs w0 _ HA2.out HM2.out).mono ?_); rintro r w1 ⟨rfl, m1, r1, k1⟩))
          go_end0
          exact ⟨rfl, by rw [HP.out]; rw [put_err hp] at m1; exact m1, r1, HK2.out.trans k1⟩
        · have hEb : (E == 0) = false := by simpa using hE
          have HP := Lib.hid (minus_err (s := (S, E)) hE (some v) (minF n 0))
          clear hsub HF
          go_enter Tryz.func87, Tryz.ntmps87
          go_wp2_with (first
            | (go_at_call 67; (with_reducible refine (HS.out _).mono ?_); rintro r w' ⟨rfl, rfl⟩)
            | (go_at_call 86; (with_reducible refine (rput_any b (S, E) p1 true (some p1) (fun h => absurd h hE) hs w0 _ HA1.out HM1.out).mono ?_); rintro r w1 ⟨rfl, m1, r1, k1⟩))
          go_end0
          exact ⟨rfl, by rw [HP.out]; rw [put_err (s := (S, E)) hE] at m1; exact m1, r1, HK1.out.trans k1⟩
    · have heb : (e == 0) = false := by simpa using he
      have HF := Lib.hid (show minF n e v = .error e by unfold minF; rw [if_neg he])
      by_cases hE : E = 0
      · subst hE
        have HP := Lib.hid (show minusM (S, 0) (some v) (minF n e) = (S, e) from minus_bad HF.out)
        have HM2 := Lib.hid (Mc.fault cm_ne HM.out e)
        have HA2 := Lib.hid (HA.out.setCell (p := ⟨b, 1, none⟩) HM.out.1 (.int .i64 e))
        have HK2 := Lib.hid (HK.out.set (p := ⟨b, 1, none⟩) rfl (.int .i64 e))
        obtain ⟨⟨y0, y1⟩, _⟩ := (HX.out.far (p := ⟨b, 1, none⟩) hwb (.int .i64 e)).two
        go_enter Tryz.func87, Tryz.ntmps87
        go_wp2_with (go_at_call 86; (with_reducible refine (rput_any b (S, e) v true (some v) (fun h => absurd h he) hs w0 _ HA2.out HM2.out).mono ?_); rintro r w1 ⟨rfl, m1, r1, k1⟩)
        go_end0
        exact ⟨rfl, by rw [HP.out]; rw [put_err (s := (S, e)) he] at m1; exact m1, r1, HK2.out.trans k1⟩
      · have hEb : (E == 0) = false := by simpa using hE
        have HP := Lib.hid (minus_err (s := (S, E)) hE (some v) (minF n e))
        go_enter Tryz.func87, Tryz.ntmps87
        go_wp2_with (go_at_call 86; (with_reducible refine (rput_any b (S, E) v true (some v) (fun h => absurd h hE) hs w0 _ HA.out HM.out).mono ?_); rintro r w1 ⟨rfl, m1, r1, k1⟩)
        go_end0
        exact ⟨rfl, by rw [HP.out]; rw [put_err (s := (S, E)) hE] at m1; exact m1, r1, HK.out.trans k1⟩
end Go.Proofs.YtcckemhelockaaaGreatDoor
