/- TreeParts, over what the program is asked. -/
import Derived.Test.YtlflfffjaodhpaaDoorTreeLawC
import Derived.Test.YtlflfffjaodhpaaDoorTreeLeafE
namespace Go.Proofs.YtlflfffjaodhpaaDoor
open Go.RowKit Go.Lib
set_option linter.unusedVariables false
set_option linter.unusedSimpArgs false

/-- A part of what is right, a condition or not. -/
def partOk (x : Ex) : Prop := fine 32 x = true ∧ size x ≤ 2000 ∧ (text x).length ≤ 2000
theorem part_of {x : Ex} (h : rightX x = true) : partOk x := by
  simp only [rightX, Bool.and_eq_true, decide_eq_true_eq] at h
  exact ⟨h.1.1.1, h.1.2, h.2⟩
theorem part_part {k n : Int} {nm : List UInt8} {l : List Ex} (h : partOk (.mk k n nm l)) (q : Nat) (hq : q < l.length) : partOk l[q] ∧ deep l[q] < deep (.mk k n nm l) ∧ size l[q] < size (.mk k n nm l) := by
  obtain ⟨h1, h2, h3⟩ := h
  have hm := List.getElem_mem (l := l) (n := q) hq
  have hf := fine_parts (d := 31) h1
  have f31 := (hf.2.2.2.2 q hq).2
  have d31 := fine_deep _ _ f31
  have s1 := size_mem hm
  have d1 := deep_mem hm
  rw [size_mk] at h2
  refine ⟨⟨fine_less _ 31 32 f31 (by omega), by omega, ?_⟩, by rw [deep_mk]; omega, by rw [size_mk]; omega⟩
  have ha := hf.1
  have hk : k ≠ 1 ∧ k ≠ 2 ∧ k ≠ 4 := by
    refine ⟨?_, ?_, ?_⟩ <;> (rintro rfl; have a0 : (0 : Int) = (l.length : Int) := ha; omega)
  rw [text_glue ha hk.1 hk.2.1 hk.2.2] at h3
  have := glue_take_le hq (beh k n nm)
  simp only [List.length_append] at h3
  omega
theorem part_right {x : Ex} (h : partOk x) : rightX x = !isCond x.k := by
  obtain ⟨h1, h2, h3⟩ := h
  unfold rightX
  rw [h1, decide_eq_true h2, decide_eq_true h3]; simp
theorem ExAt.old {S : Nat → Prop} {w : World} {e : El} {x : Ex} (h : ExAt S w e x) : ExAt (fun g => g < w.heap.size) w e x := h.mono (Nat.le_refl _) fun g _ hl => ⟨hl, rfl⟩
set_option maxRecDepth 100000 in
set_option maxHeartbeats 16000000 in
theorem TreeParts_at (H : TreeOk) (A : Option Addr) (c : Nat) (L : List Int) (A' : Option Addr) (c' : Nat) (L' : List Int) (w : World) (hr : Rel w w) (hi : IntsIn w A c L) (hi' : IntsIn w A' c' L') :
    Calls Tryd.prog 7 #[.slice A L.length c, .slice A' L'.length c'] w fun e w' => e = .returned (.bool true) ∧ Rel w w' := by
  have H := Lib.hid H
  have HR := Lib.hid hr
  have HI := Lib.hid hi
  have HI' := Lib.hid hi'
  have hL' : L'.length ≤ 9223372036854775807 := by have := hi'.1; have := hi'.2.1; unfold maxLen at this; omega
  obtain ⟨x, hx⟩ : ∃ x, strat L = x := ⟨_, rfl⟩
  have HStx := Lib.hid (fun (w0 w1 : World) (hr : Rel w0 w1) (h : IntsIn w1 A c L) => strat_any A c L w0 w1 hr h)
  have zx : size x ≤ 2000 := by have := strat_size L; rw [hx] at this; omega
  rw [hx] at HStx
  clear hx hi hi' hr
  obtain ⟨rx, hrx⟩ : ∃ r, rightX x = r := ⟨_, rfl⟩
  have HRx := Lib.hid hrx
  have px := pr_of hrx
  cases rx with
  | false =>
    have P1 : Hid (B (prT x) = ⟨#[]⟩ ∧ prE x = 1) := Lib.hid ⟨by rw [px.1]; rfl, px.2⟩
    clear px hrx
    go_enter Tryd.func7, Tryd.ntmps7
    go_wp2_with (first
      | (go_at_call 9; (with_reducible refine (awake7_any H.out _ _ HR.out).mono ?_); rintro e w1 ⟨rfl, h1⟩)
      | (go_at_call 10; (with_reducible refine (HStx.out _ _ h1.self (HI.out.rel h1)).mono ?_); rintro e w2 ⟨vx, rfl, ex, h2⟩; have AX := h2.self.alloc (.cells #[.int .i64 vx.1, .int .i64 vx.2.1, .string (B vx.2.2.1), .slice vx.2.2.2.1 vx.2.2.2.2.1 vx.2.2.2.2.2] 26); have R2 := (h1.trans h2).trans AX; have BX := Bk.new w2 26 #[.int .i64 vx.1, .int .i64 vx.2.1, .string (B vx.2.2.1), .slice vx.2.2.2.1 vx.2.2.2.2.1 vx.2.2.2.2.2]; have EX := ex.rel AX; obtain ⟨⟨x0, x1, x2, x3⟩, _⟩ := BX.four)
      | (go_at_call 14; (with_reducible refine (right_as H.out x false HRx _ vx _ _ AX.self EX (by omega)).mono ?_); rintro e w3 ⟨rfl, h3⟩; obtain ⟨⟨y0, y1, y2, y3⟩, _⟩ := (BX.rel h3).four)
      | (go_at_call 12; (with_reducible refine (print_as H.out x ⟨#[]⟩ 1 P1 _ vx _ _ h3.self (EX.rel h3) (by omega)).mono ?_); rintro e w4 ⟨rfl, h4⟩))
    go_ret
    exact ⟨rfl, (R2.trans h3).trans h4⟩
  | true =>
    have HPO := Lib.hid (part_of hrx)
    clear px hrx
    go_enter Tryd.func7, Tryd.ntmps7
    go_wp2_with (first
      | (go_at_call 9; (with_reducible refine (awake7_any H.out _ _ HR.out).mono ?_); rintro e w1 ⟨rfl, h1⟩)
      | (go_at_call 10; (with_reducible refine (HStx.out _ _ h1.self (HI.out.rel h1)).mono ?_); rintro e w2 ⟨vx, rfl, ex, h2⟩; have AX := h2.self.alloc (.cells #[.int .i64 vx.1, .int .i64 vx.2.1, .string (B vx.2.2.1), .slice vx.2.2.2.1 vx.2.2.2.2.1 vx.2.2.2.2.2] 26); have R2 := Lib.hid ((h1.trans h2).trans AX); have BX := Bk.new w2 26 #[.int .i64 vx.1, .int .i64 vx.2.1, .string (B vx.2.2.1), .slice vx.2.2.2.1 vx.2.2.2.2.1 vx.2.2.2.2.2]; have EX := ex.rel AX; have EO := Lib.hid (ex.old.rel AX); have hsz := h1.size; have hsz2 := h2.size; obtain ⟨⟨x0, x1, x2, x3⟩, _⟩ := BX.four)
      | (go_at_call 14; (with_reducible refine (right_as H.out x true HRx _ vx _ _ AX.self EX (by omega)).mono ?_); rintro e w3 ⟨rfl, h3⟩))
    have HB3 := Lib.hid (BX.rel h3)
    have HE3 := Lib.hid (EO.out.rel h3)
    have HR3 := Lib.hid (R2.out.trans h3)
    have hlow : w.heap.size ≤ w2.heap.size := by omega
    clear BX EX EO AX R2 h1 h2 h3 ex x0 x1 x2 x3 hsz hsz2
    go_loopw [9] (fun i wr => ∃ (j : Nat), i = .int .i64 (j : Int) ∧ j ≤ 6 ∧ Hid (∃ (v : El) (X : Ex), Bk wr w2.heap.size 26 #[.int .i64 v.1, .int .i64 v.2.1, .string (B v.2.2.1), .slice v.2.2.2.1 v.2.2.2.2.1 v.2.2.2.2.2] ∧ ExAt (fun g => g < w2.heap.size) wr v X ∧ partOk X) ∧ Hid (Rel w wr)) (fun i _ => 6 - (RowKit.intOf i).toNat)
    case atStart => exact ⟨0, rfl, by omega, Lib.hid ⟨vx, x, HB3.out, HE3.out, HPO.out⟩, HR3⟩
    case round =>
      obtain ⟨j, rfl, hj, HX, HW⟩ := hrel
      obtain ⟨v, X, hb, he, hp⟩ := HX.out
      have HBX0 := Lib.hid hb
      have HEX0 := Lib.hid he
      have HPX := Lib.hid hp
      obtain ⟨⟨x0, x1, x2, x3⟩, _⟩ := hb.four
      cases X with
      | mk k n nm l =>
        obtain ⟨A1, c1, es, rfl, hk, hn, hm, hl, hrow, hsub⟩ := he.open
        simp only at x0 x1 x2 x3
        have zl : sizes l ≤ 2000 := by have := hp.2.1; rw [size_mk] at this; omega
        have zl2 := len_sizes l
        clear hb he hp HX
        by_cases n1 : j < L'.length
        · by_cases n2 : j < 6
          · by_cases n3 : 0 < l.length
            · obtain ⟨a, hA', hab, hac⟩ := (HI'.out.rel HW.out).2.2.2 j n1
              have hz64 := (HI'.out.2.2.1 L'[j] (List.getElem_mem n1))
              subst hA'
              obtain ⟨z, hz⟩ : ∃ z, L'[j] = z := ⟨_, rfl⟩
              rw [hz] at hac hz64
              obtain ⟨z0, z1⟩ := hz64
              have hq := pk_bd z (l.length : Int) (by omega)
              obtain ⟨q, hqq⟩ : ∃ q : Nat, pk z (l.length : Int) = (q : Int) := ⟨(pk z (l.length : Int)).toNat, by omega⟩
              rw [hqq] at hq
              have HU := Lib.hid hqq
              have hql : q < l.length := by omega
              obtain ⟨g, off, k1, n1', nm1, A2, m2, c2, hA1, a0, a1, a2, a3, hy⟩ := ExAt.arg hrow hsub hl HW.out.self q hql
              subst hA1
              have hyk : l[q].k = k1 := hy.kind
              obtain ⟨hpy, hdy, hsy⟩ := part_part HPX.out q hql
              have hry := part_right hpy
              rw [hyk] at hry
              have HPY := Lib.hid hpy
              have i1 : (j : Int) < (L'.length : Int) := by omega
              have i2 : (j : Int) < 6 := by omega
              have i3 : (0 : Int) < (l.length : Int) := by omega
              have R9 := Lib.hid HW.out.self
              obtain ⟨Y, hY⟩ : ∃ Y, l[q] = Y := ⟨_, rfl⟩
              rw [hY] at hy hpy hdy hsy hry HPY
              obtain ⟨dx, hdx⟩ : ∃ d : Nat, deep (.mk k n nm l) = d := ⟨_, rfl⟩
              obtain ⟨sx, hsx⟩ : ∃ d : Nat, size (.mk k n nm l) = d := ⟨_, rfl⟩
              obtain ⟨dy, hdy2⟩ : ∃ d : Nat, deep Y = d := ⟨_, rfl⟩
              obtain ⟨sy, hsy2⟩ : ∃ d : Nat, size Y = d := ⟨_, rfl⟩
              have HDx : Hid ((deep (.mk k n nm l) : Int) = (dx : Int)) := Lib.hid (by rw [hdx])
              have HSx : Hid ((size (.mk k n nm l) : Int) = (sx : Int)) := Lib.hid (by rw [hsx])
              have HDy : Hid ((deep Y : Int) = (dy : Int)) := Lib.hid (by rw [hdy2])
              have HSy : Hid ((size Y : Int) = (sy : Int)) := Lib.hid (by rw [hsy2])
              have i5 : ¬ (dx : Int) ≤ (dy : Int) := by omega
              have i6 : ¬ (sx : Int) ≤ (sy : Int) := by omega
              have i7 : ¬ dx ≤ dy := by omega
              have i8 : ¬ sx ≤ sy := by omega
              have i9 : dy < dx := by omega
              have i10 : sy < sx := by omega
              have hz2 : size (.mk k n nm l) ≤ 2000 := HPX.out.2.1
              have hz3 : size Y ≤ 2000 := hpy.2.1
              clear hY hdx hdy hsx hsy hdy2 hsy2 hpy
              have HK9 := Lib.hid (show ∀ w', Rel wr w' → w'.cell? ⟨w2.heap.size, 3, none⟩ = some (.slice (some ⟨g, off, none⟩) l.length c1) ∧ w'.cell? ⟨g, off + q * 4, none⟩ = some (.int .i64 k1) ∧ w'.cell? ⟨g, off + q * 4 + 1, none⟩ = some (.int .i64 n1') ∧ w'.cell? ⟨g, off + q * 4 + 2, none⟩ = some (.string (B nm1)) ∧ w'.cell? ⟨g, off + q * 4 + 3, none⟩ = some (.slice A2 m2 c2) ∧ w'.cell? (a.add j) = some (.int .i64 z) from fun w' h =>
                ⟨(h.2.cell (p := ⟨w2.heap.size, 3, none⟩) (blk_of_cell x3)).trans x3, (h.2.cell (p := ⟨g, off + q * 4, none⟩) (blk_of_cell a0)).trans a0, (h.2.cell (p := ⟨g, off + q * 4 + 1, none⟩) (blk_of_cell a1)).trans a1, (h.2.cell (p := ⟨g, off + q * 4 + 2, none⟩) (blk_of_cell a2)).trans a2, (h.2.cell (p := ⟨g, off + q * 4 + 3, none⟩) (blk_of_cell a3)).trans a3, (h.2.cell (p := a.add j) (blk_of_cell hac)).trans hac⟩)
              clear hrow hsub
              go_wp2_with (fail)
              refine wp_region_held_drew (S := (fun w' => Rel wr w')) (by kernel_rfl) R9.out.drew (fun hHeld => ?_)
              refine held_take (i := 0) (v := ?_) (some 48) rfl rfl (by kernel_rfl) (by kernel_rfl) (by kernel_rfl) (fun _ _ _ h => h) (Or.inl ⟨by rfl, ?_⟩) hHeld ?_
              rotate_left 1
              · intro w' (h : Rel wr w'); obtain ⟨x3', a0', a1', a2', a3', hac'⟩ := HK9.out w' h; go_simp; try with_reducible rfl
              try simp only [Act.put, List.setIfInBounds_toArray, List.set_cons_zero, List.set_cons_succ]
              refine held_take (i := 1) (v := ?_) (some 49) rfl rfl (by kernel_rfl) (by kernel_rfl) (by kernel_rfl) (fun _ _ _ h => h) (Or.inl ⟨by rfl, ?_⟩) hHeld ?_
              rotate_left 1
              · intro w' (h : Rel wr w'); obtain ⟨x3', a0', a1', a2', a3', hac'⟩ := HK9.out w' h; go_simp; try with_reducible rfl
              try simp only [Act.put, List.setIfInBounds_toArray, List.set_cons_zero, List.set_cons_succ]
              refine held_take (i := 2) (v := ?_) (some 50) rfl rfl (by kernel_rfl) (by kernel_rfl) (by kernel_rfl) (fun _ _ _ h => h) (Or.inl ⟨by rfl, ?_⟩) hHeld ?_
              rotate_left 1
              · intro w' (h : Rel wr w'); obtain ⟨x3', a0', a1', a2', a3', hac'⟩ := HK9.out w' h; go_simp; try with_reducible rfl
              try simp only [Act.put, List.setIfInBounds_toArray, List.set_cons_zero, List.set_cons_succ]
              refine held_take (i := 3) (v := ?_) (some 51) rfl rfl (by kernel_rfl) (by kernel_rfl) (by kernel_rfl) (fun _ _ _ h => h) (Or.inl ⟨by rfl, ?_⟩) hHeld ?_
              rotate_left 1
              · intro w' (h : Rel wr w'); obtain ⟨x3', a0', a1', a2', a3', hac'⟩ := HK9.out w' h; go_simp; try with_reducible rfl
              try simp only [Act.put, List.setIfInBounds_toArray, List.set_cons_zero, List.set_cons_succ]
              refine held_take (i := 4) (v := ?_) (some 52) rfl rfl (by kernel_rfl) (by kernel_rfl) (by kernel_rfl) (fun _ _ _ h => h) (Or.inl ⟨by rfl, ?_⟩) hHeld ?_
              rotate_left 1
              · intro w' (h : Rel wr w'); obtain ⟨x3', a0', a1', a2', a3', hac'⟩ := HK9.out w' h; go_simp; try with_reducible rfl
              try simp only [Act.put, List.setIfInBounds_toArray, List.set_cons_zero, List.set_cons_succ]
              refine held_take (i := 5) (v := ?_) (some 53) rfl rfl (by kernel_rfl) (by kernel_rfl) (by kernel_rfl) (fun _ _ _ h => h) (Or.inl ⟨by rfl, ?_⟩) hHeld ?_
              rotate_left 1
              · intro w' (h : Rel wr w'); obtain ⟨x3', a0', a1', a2', a3', hac'⟩ := HK9.out w' h; go_simp; try with_reducible rfl
              try simp only [Act.put, List.setIfInBounds_toArray, List.set_cons_zero, List.set_cons_succ]
              refine held_take (i := 6) (v := ?_) (some 54) rfl rfl (by kernel_rfl) (by kernel_rfl) (by kernel_rfl) (fun _ _ _ h => h) (Or.inl ⟨by rfl, ?_⟩) hHeld ?_
              rotate_left 1
              · intro w' (h : Rel wr w'); obtain ⟨x3', a0', a1', a2', a3', hac'⟩ := HK9.out w' h; go_simp; try with_reducible rfl
              try simp only [Act.put, List.setIfInBounds_toArray, List.set_cons_zero, List.set_cons_succ]
              refine held_take (i := 7) (v := ?_) (some 55) rfl rfl (by kernel_rfl) (by kernel_rfl) (by kernel_rfl) (fun _ _ _ h => h) (Or.inl ⟨by rfl, ?_⟩) hHeld ?_
              rotate_left 1
              · intro w' (h : Rel wr w'); obtain ⟨x3', a0', a1', a2', a3', hac'⟩ := HK9.out w' h; go_simp; try with_reducible rfl
              try simp only [Act.put, List.setIfInBounds_toArray, List.set_cons_zero, List.set_cons_succ]
              refine held_take (i := 8) (v := ?_) (some 56) rfl rfl (by kernel_rfl) (by kernel_rfl) (by kernel_rfl) (fun _ _ _ h => h) (Or.inl ⟨by rfl, ?_⟩) hHeld ?_
              rotate_left 1
              · intro w' (h : Rel wr w'); obtain ⟨x3', a0', a1', a2', a3', hac'⟩ := HK9.out w' h; go_simp; try with_reducible rfl
              try simp only [Act.put, List.setIfInBounds_toArray, List.set_cons_zero, List.set_cons_succ]
              refine held_two (j := 9) (k := 12) (by kernel_rfl) rfl rfl (fun K hK => ?_) (fun K hK => ?_)
              · skip
                try simp only [List.getElem_toArray, List.getElem_cons_succ, List.getElem_cons_zero]
                rw [if_pos (by rfl)]
                go_simp
                go_at_call 25
                (with_reducible refine (pk_as z (l.length : Int) (q : Int) HU z0 z1 (by omega) (by omega) _).mono ?_)
                rintro e w' ⟨rfl, rfl⟩
                refine hK.out _ _ hHeld (fun hHeld => ?_)
                clear hK K
                try simp only [Act.put, List.setIfInBounds_toArray, List.set_cons_zero, List.set_cons_succ]
                refine held_take (i := 10) (v := ?_) (some 58) rfl rfl (by kernel_rfl) (by kernel_rfl) (by kernel_rfl) (fun _ _ _ h => h) (Or.inl ⟨by rfl, ?_⟩) hHeld ?_
                rotate_left 1
                · intro w' (h : Rel wr w'); obtain ⟨x3', a0', a1', a2', a3', hac'⟩ := HK9.out w' h; go_simp; try with_reducible rfl
                try simp only [Act.put, List.setIfInBounds_toArray, List.set_cons_zero, List.set_cons_succ]
                refine held_take (i := 11) (v := ?_) (some 59) rfl rfl (by kernel_rfl) (by kernel_rfl) (by kernel_rfl) (fun _ _ _ h => h) (Or.inl ⟨by rfl, ?_⟩) hHeld ?_
                rotate_left 1
                · intro w' (h : Rel wr w'); obtain ⟨x3', a0', a1', a2', a3', hac'⟩ := HK9.out w' h; go_simp; try with_reducible rfl
                try simp only [Act.put, List.setIfInBounds_toArray, List.set_cons_zero, List.set_cons_succ]
                refine held_one (j := 12) (by kernel_rfl) rfl (fun K hK => ?_)
                try simp only [List.getElem_toArray, List.getElem_cons_succ, List.getElem_cons_zero]
                rw [if_pos (by rfl)]
                go_simp
                refine hK.out _ _ (hHeld.alloc _) (fun hHeld => ?_)
                clear hK K
                try simp only [Act.put, List.setIfInBounds_toArray, List.set_cons_zero, List.set_cons_succ]
                refine held_one (j := 13) (by kernel_rfl) rfl (fun K hK => ?_)
                try simp only [List.getElem_toArray, List.getElem_cons_succ, List.getElem_cons_zero]
                rw [if_pos (by rfl)]
                go_simp
                refine hK.out _ _ (by first | exact R9.out.drew.alloc _ | exact (R9.out.alloc _).drew) (fun hHeld => ?_)
                clear hK K
                try simp only [Act.put, List.setIfInBounds_toArray, List.set_cons_zero, List.set_cons_succ]
                refine wpAnyH_done (by kernel_rfl) ?_ _
                have HV0 := Lib.hid ((R9.out.alloc (.cells #[.int .i64 k1, .int .i64 n1', .string (B nm1), .slice A2 m2 c2] 26)).drew)
                have HBY := Lib.hid ((Bk.new wr 26 #[.int .i64 k1, .int .i64 n1', .string (B nm1), .slice A2 m2 c2]).drew)
                have HBX := Lib.hid (HBX0.out.rel HV0.out)
                have HEX := Lib.hid (HEX0.out.rel HV0.out)
                have HEY := Lib.hid (hy.rel HV0.out)
                obtain ⟨V, hV⟩ : ∃ V, (wr.alloc (.cells #[.int .i64 k1, .int .i64 n1', .string (B nm1), .slice A2 m2 c2] 26)).drew = V := ⟨_, rfl⟩
                rw [hV] at HV0 HBY HBX HEX HEY
                rw [hV]
                have HV := Lib.hid (HV0.out)
                clear hV hHeld
                have VX : Hid (EV (k, n, nm, some ⟨g, off, none⟩, l.length, c1) = .agg #[.int .i64 k, .int .i64 n, .string (B nm), .slice (some ⟨g, off, none⟩) l.length c1]) := Lib.hid rfl
                have HDX := Lib.hid (fun (w' : World) (h : Rel V w') => arg1 VX (deep_as H.out (.mk k n nm l) (dx : Int) HDx _ (k, n, nm, some ⟨g, off, none⟩, l.length, c1) w' w' ((HW.out.trans HV.out).trans h).self (HEX.out.rel h) (by omega)))
                have HSX := Lib.hid (fun (w' : World) (h : Rel V w') => arg1 VX (size_as H.out (.mk k n nm l) (sx : Int) HSx _ (k, n, nm, some ⟨g, off, none⟩, l.length, c1) w' w' ((HW.out.trans HV.out).trans h).self (HEX.out.rel h) (by omega)))
                have VY : Hid (EV (k1, n1', nm1, A2, m2, c2) = .agg #[.int .i64 k1, .int .i64 n1', .string (B nm1), .slice A2 m2 c2]) := Lib.hid rfl
                have HDY := Lib.hid (fun (w' : World) (h : Rel V w') => arg1 VY (deep_as H.out Y (dy : Int) HDy _ (k1, n1', nm1, A2, m2, c2) w' w' ((HW.out.trans HV.out).trans h).self (HEY.out.rel h) (by omega)))
                have HSY := Lib.hid (fun (w' : World) (h : Rel V w') => arg1 VY (size_as H.out Y (sy : Int) HSy _ (k1, n1', nm1, A2, m2, c2) w' w' ((HW.out.trans HV.out).trans h).self (HEY.out.rel h) (by omega)))
                have HRY0 := Lib.hid (fun (b : Bool) (hb : rightX Y = b) (w' : World) (h : Rel V w') => arg1 VY (right_as H.out Y b (Lib.hid hb) _ (k1, n1', nm1, A2, m2, c2) w' w' ((HW.out.trans HV.out).trans h).self (HEY.out.rel h) (by omega)))
                obtain ⟨⟨y0, y1, y2, y3⟩, _⟩ := HBY.out.four
                clear HEX HV0 hy
                by_cases e11 : k1 = 11
                · subst e11
                  have HRY := Lib.hid (HRY0.out false (by rw [hry]; rfl))
                  clear HRY0 hry
                  go_wp2_with (fail)
                  refine wp_region_held_drew (S := (fun w' => Rel V w')) (by kernel_rfl) (HW.out.trans HV.out).self.drew (fun hHeld => ?_)
                  refine held_take (i := 0) (v := ?_) (some 68) rfl rfl (by kernel_rfl) (by kernel_rfl) (by kernel_rfl) (fun _ _ _ h => h) (Or.inl ⟨by rfl, ?_⟩) hHeld ?_
                  rotate_left 1
                  · intro w' (h : Rel V w'); obtain ⟨⟨x0, x1, x2, x3⟩, _⟩ := (HBX.out.rel h).four; obtain ⟨⟨y0, y1, y2, y3⟩, _⟩ := (HBY.out.rel h).four; go_simp; try with_reducible rfl
                  try simp only [Act.put, List.setIfInBounds_toArray, List.set_cons_zero, List.set_cons_succ]
                  refine held_take (i := 2) (v := ?_) (some 70) rfl rfl (by kernel_rfl) (by kernel_rfl) (by kernel_rfl) (fun _ _ _ h => h) (Or.inl ⟨by rfl, ?_⟩) hHeld ?_
                  rotate_left 1
                  · intro w' (h : Rel V w'); obtain ⟨⟨x0, x1, x2, x3⟩, _⟩ := (HBX.out.rel h).four; obtain ⟨⟨y0, y1, y2, y3⟩, _⟩ := (HBY.out.rel h).four; go_simp; try with_reducible rfl
                  try simp only [Act.put, List.setIfInBounds_toArray, List.set_cons_zero, List.set_cons_succ]
                  refine held_one (j := 1) (by kernel_rfl) rfl (fun K hK => ?_)
                  try simp only [List.getElem_toArray, List.getElem_cons_succ, List.getElem_cons_zero]
                  rw [if_pos (by rfl)]
                  go_simp
                  go_at_call 14
                  (with_reducible refine (HRY.out _ hHeld).mono ?_)
                  rintro e w2 ⟨rfl, h2⟩
                  refine hK.out _ _ (hHeld.trans h2) (fun hHeld => ?_)
                  clear hK K
                  try simp only [Act.put, List.setIfInBounds_toArray, List.set_cons_zero, List.set_cons_succ]
                  refine held_take (i := 3) (v := ?_) (some 71) rfl rfl (by kernel_rfl) (by kernel_rfl) (by kernel_rfl) (fun _ _ _ h => h) (Or.inl ⟨by rfl, ?_⟩) hHeld ?_
                  rotate_left 1
                  · intro w' (h : Rel V w'); obtain ⟨⟨x0, x1, x2, x3⟩, _⟩ := (HBX.out.rel h).four; obtain ⟨⟨y0, y1, y2, y3⟩, _⟩ := (HBY.out.rel h).four; go_simp; try with_reducible rfl
                  try simp only [Act.put, List.setIfInBounds_toArray, List.set_cons_zero, List.set_cons_succ]
                  refine held_take (i := 4) (v := ?_) (some 72) rfl rfl (by kernel_rfl) (by kernel_rfl) (by kernel_rfl) (fun _ _ _ h => h) (Or.inl ⟨by rfl, ?_⟩) hHeld ?_
                  rotate_left 1
                  · intro w' (h : Rel V w'); obtain ⟨⟨x0, x1, x2, x3⟩, _⟩ := (HBX.out.rel h).four; obtain ⟨⟨y0, y1, y2, y3⟩, _⟩ := (HBY.out.rel h).four; go_simp; try with_reducible rfl
                  try simp only [Act.put, List.setIfInBounds_toArray, List.set_cons_zero, List.set_cons_succ]
                  refine held_take (i := 5) (v := ?_) (some 73) rfl rfl (by kernel_rfl) (by kernel_rfl) (by kernel_rfl) (fun _ _ _ h => h) (Or.inl ⟨by rfl, ?_⟩) hHeld ?_
                  rotate_left 1
                  · intro w' (h : Rel V w'); obtain ⟨⟨x0, x1, x2, x3⟩, _⟩ := (HBX.out.rel h).four; obtain ⟨⟨y0, y1, y2, y3⟩, _⟩ := (HBY.out.rel h).four; go_simp; try with_reducible rfl
                  try simp only [Act.put, List.setIfInBounds_toArray, List.set_cons_zero, List.set_cons_succ]
                  refine held_take (i := 7) (v := ?_) (some 75) rfl rfl (by kernel_rfl) (by kernel_rfl) (by kernel_rfl) (fun _ _ _ h => h) (Or.inl ⟨by rfl, ?_⟩) hHeld ?_
                  rotate_left 1
                  · intro w' (h : Rel V w'); obtain ⟨⟨x0, x1, x2, x3⟩, _⟩ := (HBX.out.rel h).four; obtain ⟨⟨y0, y1, y2, y3⟩, _⟩ := (HBY.out.rel h).four; go_simp; try with_reducible rfl
                  try simp only [Act.put, List.setIfInBounds_toArray, List.set_cons_zero, List.set_cons_succ]
                  refine held_one (j := 6) (by kernel_rfl) rfl (fun K hK => ?_)
                  try simp only [List.getElem_toArray, List.getElem_cons_succ, List.getElem_cons_zero]
                  rw [if_pos (by rfl)]
                  go_simp
                  go_at_call 18
                  (with_reducible refine (HDY.out _ hHeld).mono ?_)
                  rintro e w2 ⟨rfl, h2⟩
                  refine hK.out _ _ (hHeld.trans h2) (fun hHeld => ?_)
                  clear hK K
                  try simp only [Act.put, List.setIfInBounds_toArray, List.set_cons_zero, List.set_cons_succ]
                  refine held_one (j := 8) (by kernel_rfl) rfl (fun K hK => ?_)
                  try simp only [List.getElem_toArray, List.getElem_cons_succ, List.getElem_cons_zero]
                  rw [if_pos (by rfl)]
                  go_simp
                  go_at_call 18
                  (with_reducible refine (HDX.out _ hHeld).mono ?_)
                  rintro e w2 ⟨rfl, h2⟩
                  refine hK.out _ _ (hHeld.trans h2) (fun hHeld => ?_)
                  clear hK K
                  try simp only [Act.put, List.setIfInBounds_toArray, List.set_cons_zero, List.set_cons_succ]
                  refine held_take (i := 9) (v := ?_) (some 77) rfl rfl (by kernel_rfl) (by kernel_rfl) (by kernel_rfl) (fun _ _ _ h => h) (Or.inl ⟨by rfl, ?_⟩) hHeld ?_
                  rotate_left 1
                  · intro w' (h : Rel V w'); obtain ⟨⟨x0, x1, x2, x3⟩, _⟩ := (HBX.out.rel h).four; obtain ⟨⟨y0, y1, y2, y3⟩, _⟩ := (HBY.out.rel h).four; go_simp; try with_reducible rfl
                  try simp only [Act.put, List.setIfInBounds_toArray, List.set_cons_zero, List.set_cons_succ]
                  refine held_take (i := 10) (v := ?_) (some 78) rfl rfl (by kernel_rfl) (by kernel_rfl) (by kernel_rfl) (fun _ _ _ h => h) (Or.inl ⟨by rfl, ?_⟩) hHeld ?_
                  rotate_left 1
                  · intro w' (h : Rel V w'); obtain ⟨⟨x0, x1, x2, x3⟩, _⟩ := (HBX.out.rel h).four; obtain ⟨⟨y0, y1, y2, y3⟩, _⟩ := (HBY.out.rel h).four; go_simp; try with_reducible rfl
                  try simp only [Act.put, List.setIfInBounds_toArray, List.set_cons_zero, List.set_cons_succ]
                  refine held_take (i := 11) (v := ?_) (some 79) rfl rfl (by kernel_rfl) (by kernel_rfl) (by kernel_rfl) (fun _ _ _ h => h) (Or.inl ⟨by rfl, ?_⟩) hHeld ?_
                  rotate_left 1
                  · intro w' (h : Rel V w'); obtain ⟨⟨x0, x1, x2, x3⟩, _⟩ := (HBX.out.rel h).four; obtain ⟨⟨y0, y1, y2, y3⟩, _⟩ := (HBY.out.rel h).four; go_simp; try with_reducible rfl
                  try simp only [Act.put, List.setIfInBounds_toArray, List.set_cons_zero, List.set_cons_succ]
                  refine held_take (i := 12) (v := ?_) (some 80) rfl rfl (by kernel_rfl) (by kernel_rfl) (by kernel_rfl) (fun _ _ _ h => h) (Or.inl ⟨by rfl, ?_⟩) hHeld ?_
                  rotate_left 1
                  · intro w' (h : Rel V w'); obtain ⟨⟨x0, x1, x2, x3⟩, _⟩ := (HBX.out.rel h).four; obtain ⟨⟨y0, y1, y2, y3⟩, _⟩ := (HBY.out.rel h).four; go_simp; try with_reducible rfl
                  try simp only [Act.put, List.setIfInBounds_toArray, List.set_cons_zero, List.set_cons_succ]
                  refine held_take (i := 14) (v := ?_) (some 82) rfl rfl (by kernel_rfl) (by kernel_rfl) (by kernel_rfl) (fun _ _ _ h => h) (Or.inl ⟨by rfl, ?_⟩) hHeld ?_
                  rotate_left 1
                  · intro w' (h : Rel V w'); obtain ⟨⟨x0, x1, x2, x3⟩, _⟩ := (HBX.out.rel h).four; obtain ⟨⟨y0, y1, y2, y3⟩, _⟩ := (HBY.out.rel h).four; go_simp; try with_reducible rfl
                  try simp only [Act.put, List.setIfInBounds_toArray, List.set_cons_zero, List.set_cons_succ]
                  refine held_one (j := 13) (by kernel_rfl) rfl (fun K hK => ?_)
                  try simp only [List.getElem_toArray, List.getElem_cons_succ, List.getElem_cons_zero]
                  rw [if_pos (by rfl)]
                  go_simp
                  go_at_call 16
                  (with_reducible refine (HSY.out _ hHeld).mono ?_)
                  rintro e w2 ⟨rfl, h2⟩
                  refine hK.out _ _ (hHeld.trans h2) (fun hHeld => ?_)
                  clear hK K
                  try simp only [Act.put, List.setIfInBounds_toArray, List.set_cons_zero, List.set_cons_succ]
                  refine held_one (j := 15) (by kernel_rfl) rfl (fun K hK => ?_)
                  try simp only [List.getElem_toArray, List.getElem_cons_succ, List.getElem_cons_zero]
                  rw [if_pos (by rfl)]
                  go_simp
                  go_at_call 16
                  (with_reducible refine (HSX.out _ hHeld).mono ?_)
                  rintro e w2 ⟨rfl, h2⟩
                  refine hK.out _ _ (hHeld.trans h2) (fun hHeld => ?_)
                  clear hK K
                  try simp only [Act.put, List.setIfInBounds_toArray, List.set_cons_zero, List.set_cons_succ]
                  refine held_take (i := 16) (v := ?_) (some 84) rfl rfl (by kernel_rfl) (by kernel_rfl) (by kernel_rfl) (fun _ _ _ h => h) (Or.inl ⟨by rfl, ?_⟩) hHeld ?_
                  rotate_left 1
                  · intro w' (h : Rel V w'); obtain ⟨⟨x0, x1, x2, x3⟩, _⟩ := (HBX.out.rel h).four; obtain ⟨⟨y0, y1, y2, y3⟩, _⟩ := (HBY.out.rel h).four; go_simp; try with_reducible rfl
                  try simp only [Act.put, List.setIfInBounds_toArray, List.set_cons_zero, List.set_cons_succ]
                  refine held_take (i := 17) (v := ?_) (some 85) rfl rfl (by kernel_rfl) (by kernel_rfl) (by kernel_rfl) (fun _ _ _ h => h) (Or.inl ⟨by rfl, ?_⟩) hHeld ?_
                  rotate_left 1
                  · intro w' (h : Rel V w'); obtain ⟨⟨x0, x1, x2, x3⟩, _⟩ := (HBX.out.rel h).four; obtain ⟨⟨y0, y1, y2, y3⟩, _⟩ := (HBY.out.rel h).four; go_simp; try with_reducible rfl
                  try simp only [Act.put, List.setIfInBounds_toArray, List.set_cons_zero, List.set_cons_succ]
                  refine wpAnyH_done (by kernel_rfl) ?_ _
                  obtain ⟨⟨z0', z1', z2', z3'⟩, _⟩ := (HBY.out.rel hHeld).four
                  obtain ⟨⟨t0, t1, t2, t3⟩, g0, g1, g2, g3⟩ := (HBX.out.rel hHeld).four
                  go_wp2_with (fail)
                  go_roundw
                  case rel => exact ⟨j + 1, by go_num, by omega, Lib.hid ⟨(_, _, _, _, _, _), Y, (HBX.out.rel hHeld).put4 _ _ _ _, (HEY.out.rel hHeld).grown (put4_grown _ _ _ _ _ _) (fun q hq => ⟨hq, fun e => by injection e; omega⟩), HPY.out⟩, Lib.hid (Rel.grown ((HW.out.trans HV.out).trans hHeld) (put4_grown _ _ _ _ _ _) (fun k e => by cases e; exact hlow))⟩
                  case measure => simp [RowKit.intOf]; omega
                · by_cases e12 : k1 = 12
                  · subst e12
                    have HRY := Lib.hid (HRY0.out false (by rw [hry]; rfl))
                    clear HRY0 hry
                    go_wp2_with (fail)
                    refine wp_region_held_drew (S := (fun w' => Rel V w')) (by kernel_rfl) (HW.out.trans HV.out).self.drew (fun hHeld => ?_)
                    refine held_take (i := 0) (v := ?_) (some 68) rfl rfl (by kernel_rfl) (by kernel_rfl) (by kernel_rfl) (fun _ _ _ h => h) (Or.inl ⟨by rfl, ?_⟩) hHeld ?_
                    rotate_left 1
                    · intro w' (h : Rel V w'); obtain ⟨⟨x0, x1, x2, x3⟩, _⟩ := (HBX.out.rel h).four; obtain ⟨⟨y0, y1, y2, y3⟩, _⟩ := (HBY.out.rel h).four; go_simp; try with_reducible rfl
                    try simp only [Act.put, List.setIfInBounds_toArray, List.set_cons_zero, List.set_cons_succ]
                    refine held_take (i := 2) (v := ?_) (some 70) rfl rfl (by kernel_rfl) (by kernel_rfl) (by kernel_rfl) (fun _ _ _ h => h) (Or.inl ⟨by rfl, ?_⟩) hHeld ?_
                    rotate_left 1
                    · intro w' (h : Rel V w'); obtain ⟨⟨x0, x1, x2, x3⟩, _⟩ := (HBX.out.rel h).four; obtain ⟨⟨y0, y1, y2, y3⟩, _⟩ := (HBY.out.rel h).four; go_simp; try with_reducible rfl
                    try simp only [Act.put, List.setIfInBounds_toArray, List.set_cons_zero, List.set_cons_succ]
                    refine held_one (j := 1) (by kernel_rfl) rfl (fun K hK => ?_)
                    try simp only [List.getElem_toArray, List.getElem_cons_succ, List.getElem_cons_zero]
                    rw [if_pos (by rfl)]
                    go_simp
                    go_at_call 14
                    (with_reducible refine (HRY.out _ hHeld).mono ?_)
                    rintro e w2 ⟨rfl, h2⟩
                    refine hK.out _ _ (hHeld.trans h2) (fun hHeld => ?_)
                    clear hK K
                    try simp only [Act.put, List.setIfInBounds_toArray, List.set_cons_zero, List.set_cons_succ]
                    refine held_take (i := 3) (v := ?_) (some 71) rfl rfl (by kernel_rfl) (by kernel_rfl) (by kernel_rfl) (fun _ _ _ h => h) (Or.inl ⟨by rfl, ?_⟩) hHeld ?_
                    rotate_left 1
                    · intro w' (h : Rel V w'); obtain ⟨⟨x0, x1, x2, x3⟩, _⟩ := (HBX.out.rel h).four; obtain ⟨⟨y0, y1, y2, y3⟩, _⟩ := (HBY.out.rel h).four; go_simp; try with_reducible rfl
                    try simp only [Act.put, List.setIfInBounds_toArray, List.set_cons_zero, List.set_cons_succ]
                    refine held_take (i := 4) (v := ?_) (some 72) rfl rfl (by kernel_rfl) (by kernel_rfl) (by kernel_rfl) (fun _ _ _ h => h) (Or.inl ⟨by rfl, ?_⟩) hHeld ?_
                    rotate_left 1
                    · intro w' (h : Rel V w'); obtain ⟨⟨x0, x1, x2, x3⟩, _⟩ := (HBX.out.rel h).four; obtain ⟨⟨y0, y1, y2, y3⟩, _⟩ := (HBY.out.rel h).four; go_simp; try with_reducible rfl
                    try simp only [Act.put, List.setIfInBounds_toArray, List.set_cons_zero, List.set_cons_succ]
                    refine held_take (i := 5) (v := ?_) (some 73) rfl rfl (by kernel_rfl) (by kernel_rfl) (by kernel_rfl) (fun _ _ _ h => h) (Or.inl ⟨by rfl, ?_⟩) hHeld ?_
                    rotate_left 1
                    · intro w' (h : Rel V w'); obtain ⟨⟨x0, x1, x2, x3⟩, _⟩ := (HBX.out.rel h).four; obtain ⟨⟨y0, y1, y2, y3⟩, _⟩ := (HBY.out.rel h).four; go_simp; try with_reducible rfl
                    try simp only [Act.put, List.setIfInBounds_toArray, List.set_cons_zero, List.set_cons_succ]
                    refine held_take (i := 7) (v := ?_) (some 75) rfl rfl (by kernel_rfl) (by kernel_rfl) (by kernel_rfl) (fun _ _ _ h => h) (Or.inl ⟨by rfl, ?_⟩) hHeld ?_
                    rotate_left 1
                    · intro w' (h : Rel V w'); obtain ⟨⟨x0, x1, x2, x3⟩, _⟩ := (HBX.out.rel h).four; obtain ⟨⟨y0, y1, y2, y3⟩, _⟩ := (HBY.out.rel h).four; go_simp; try with_reducible rfl
                    try simp only [Act.put, List.setIfInBounds_toArray, List.set_cons_zero, List.set_cons_succ]
                    refine held_one (j := 6) (by kernel_rfl) rfl (fun K hK => ?_)
                    try simp only [List.getElem_toArray, List.getElem_cons_succ, List.getElem_cons_zero]
                    rw [if_pos (by rfl)]
                    go_simp
                    go_at_call 18
                    (with_reducible refine (HDY.out _ hHeld).mono ?_)
                    rintro e w2 ⟨rfl, h2⟩
                    refine hK.out _ _ (hHeld.trans h2) (fun hHeld => ?_)
                    clear hK K
                    try simp only [Act.put, List.setIfInBounds_toArray, List.set_cons_zero, List.set_cons_succ]
                    refine held_one (j := 8) (by kernel_rfl) rfl (fun K hK => ?_)
                    try simp only [List.getElem_toArray, List.getElem_cons_succ, List.getElem_cons_zero]
                    rw [if_pos (by rfl)]
                    go_simp
                    go_at_call 18
                    (with_reducible refine (HDX.out _ hHeld).mono ?_)
                    rintro e w2 ⟨rfl, h2⟩
                    refine hK.out _ _ (hHeld.trans h2) (fun hHeld => ?_)
                    clear hK K
                    try simp only [Act.put, List.setIfInBounds_toArray, List.set_cons_zero, List.set_cons_succ]
                    refine held_take (i := 9) (v := ?_) (some 77) rfl rfl (by kernel_rfl) (by kernel_rfl) (by kernel_rfl) (fun _ _ _ h => h) (Or.inl ⟨by rfl, ?_⟩) hHeld ?_
                    rotate_left 1
                    · intro w' (h : Rel V w'); obtain ⟨⟨x0, x1, x2, x3⟩, _⟩ := (HBX.out.rel h).four; obtain ⟨⟨y0, y1, y2, y3⟩, _⟩ := (HBY.out.rel h).four; go_simp; try with_reducible rfl
                    try simp only [Act.put, List.setIfInBounds_toArray, List.set_cons_zero, List.set_cons_succ]
                    refine held_take (i := 10) (v := ?_) (some 78) rfl rfl (by kernel_rfl) (by kernel_rfl) (by kernel_rfl) (fun _ _ _ h => h) (Or.inl ⟨by rfl, ?_⟩) hHeld ?_
                    rotate_left 1
                    · intro w' (h : Rel V w'); obtain ⟨⟨x0, x1, x2, x3⟩, _⟩ := (HBX.out.rel h).four; obtain ⟨⟨y0, y1, y2, y3⟩, _⟩ := (HBY.out.rel h).four; go_simp; try with_reducible rfl
                    try simp only [Act.put, List.setIfInBounds_toArray, List.set_cons_zero, List.set_cons_succ]
                    refine held_take (i := 11) (v := ?_) (some 79) rfl rfl (by kernel_rfl) (by kernel_rfl) (by kernel_rfl) (fun _ _ _ h => h) (Or.inl ⟨by rfl, ?_⟩) hHeld ?_
                    rotate_left 1
                    · intro w' (h : Rel V w'); obtain ⟨⟨x0, x1, x2, x3⟩, _⟩ := (HBX.out.rel h).four; obtain ⟨⟨y0, y1, y2, y3⟩, _⟩ := (HBY.out.rel h).four; go_simp; try with_reducible rfl
                    try simp only [Act.put, List.setIfInBounds_toArray, List.set_cons_zero, List.set_cons_succ]
                    refine held_take (i := 12) (v := ?_) (some 80) rfl rfl (by kernel_rfl) (by kernel_rfl) (by kernel_rfl) (fun _ _ _ h => h) (Or.inl ⟨by rfl, ?_⟩) hHeld ?_
                    rotate_left 1
                    · intro w' (h : Rel V w'); obtain ⟨⟨x0, x1, x2, x3⟩, _⟩ := (HBX.out.rel h).four; obtain ⟨⟨y0, y1, y2, y3⟩, _⟩ := (HBY.out.rel h).four; go_simp; try with_reducible rfl
                    try simp only [Act.put, List.setIfInBounds_toArray, List.set_cons_zero, List.set_cons_succ]
                    refine held_take (i := 14) (v := ?_) (some 82) rfl rfl (by kernel_rfl) (by kernel_rfl) (by kernel_rfl) (fun _ _ _ h => h) (Or.inl ⟨by rfl, ?_⟩) hHeld ?_
                    rotate_left 1
                    · intro w' (h : Rel V w'); obtain ⟨⟨x0, x1, x2, x3⟩, _⟩ := (HBX.out.rel h).four; obtain ⟨⟨y0, y1, y2, y3⟩, _⟩ := (HBY.out.rel h).four; go_simp; try with_reducible rfl
                    try simp only [Act.put, List.setIfInBounds_toArray, List.set_cons_zero, List.set_cons_succ]
                    refine held_one (j := 13) (by kernel_rfl) rfl (fun K hK => ?_)
                    try simp only [List.getElem_toArray, List.getElem_cons_succ, List.getElem_cons_zero]
                    rw [if_pos (by rfl)]
                    go_simp
                    go_at_call 16
                    (with_reducible refine (HSY.out _ hHeld).mono ?_)
                    rintro e w2 ⟨rfl, h2⟩
                    refine hK.out _ _ (hHeld.trans h2) (fun hHeld => ?_)
                    clear hK K
                    try simp only [Act.put, List.setIfInBounds_toArray, List.set_cons_zero, List.set_cons_succ]
                    refine held_one (j := 15) (by kernel_rfl) rfl (fun K hK => ?_)
                    try simp only [List.getElem_toArray, List.getElem_cons_succ, List.getElem_cons_zero]
                    rw [if_pos (by rfl)]
                    go_simp
                    go_at_call 16
                    (with_reducible refine (HSX.out _ hHeld).mono ?_)
                    rintro e w2 ⟨rfl, h2⟩
                    refine hK.out _ _ (hHeld.trans h2) (fun hHeld => ?_)
                    clear hK K
                    try simp only [Act.put, List.setIfInBounds_toArray, List.set_cons_zero, List.set_cons_succ]
                    refine held_take (i := 16) (v := ?_) (some 84) rfl rfl (by kernel_rfl) (by kernel_rfl) (by kernel_rfl) (fun _ _ _ h => h) (Or.inl ⟨by rfl, ?_⟩) hHeld ?_
                    rotate_left 1
                    · intro w' (h : Rel V w'); obtain ⟨⟨x0, x1, x2, x3⟩, _⟩ := (HBX.out.rel h).four; obtain ⟨⟨y0, y1, y2, y3⟩, _⟩ := (HBY.out.rel h).four; go_simp; try with_reducible rfl
                    try simp only [Act.put, List.setIfInBounds_toArray, List.set_cons_zero, List.set_cons_succ]
                    refine held_take (i := 17) (v := ?_) (some 85) rfl rfl (by kernel_rfl) (by kernel_rfl) (by kernel_rfl) (fun _ _ _ h => h) (Or.inl ⟨by rfl, ?_⟩) hHeld ?_
                    rotate_left 1
                    · intro w' (h : Rel V w'); obtain ⟨⟨x0, x1, x2, x3⟩, _⟩ := (HBX.out.rel h).four; obtain ⟨⟨y0, y1, y2, y3⟩, _⟩ := (HBY.out.rel h).four; go_simp; try with_reducible rfl
                    try simp only [Act.put, List.setIfInBounds_toArray, List.set_cons_zero, List.set_cons_succ]
                    refine wpAnyH_done (by kernel_rfl) ?_ _
                    obtain ⟨⟨z0', z1', z2', z3'⟩, _⟩ := (HBY.out.rel hHeld).four
                    obtain ⟨⟨t0, t1, t2, t3⟩, g0, g1, g2, g3⟩ := (HBX.out.rel hHeld).four
                    go_wp2_with (fail)
                    go_roundw
                    case rel => exact ⟨j + 1, by go_num, by omega, Lib.hid ⟨(_, _, _, _, _, _), Y, (HBX.out.rel hHeld).put4 _ _ _ _, (HEY.out.rel hHeld).grown (put4_grown _ _ _ _ _ _) (fun q hq => ⟨hq, fun e => by injection e; omega⟩), HPY.out⟩, Lib.hid (Rel.grown ((HW.out.trans HV.out).trans hHeld) (put4_grown _ _ _ _ _ _) (fun k e => by cases e; exact hlow))⟩
                    case measure => simp [RowKit.intOf]; omega
                  · have f11 : (k1 == 11) = false := by simpa using e11
                    have f12 : (k1 == 12) = false := by simpa using e12
                    have HRY := Lib.hid (HRY0.out true (by rw [hry]; simp [isCond, e11, e12]))
                    clear HRY0 hry
                    go_wp2_with (fail)
                    refine wp_region_held_drew (S := (fun w' => Rel V w')) (by kernel_rfl) (HW.out.trans HV.out).self.drew (fun hHeld => ?_)
                    refine held_take (i := 0) (v := ?_) (some 68) rfl rfl (by kernel_rfl) (by kernel_rfl) (by kernel_rfl) (fun _ _ _ h => h) (Or.inl ⟨by rfl, ?_⟩) hHeld ?_
                    rotate_left 1
                    · intro w' (h : Rel V w'); obtain ⟨⟨x0, x1, x2, x3⟩, _⟩ := (HBX.out.rel h).four; obtain ⟨⟨y0, y1, y2, y3⟩, _⟩ := (HBY.out.rel h).four; go_simp; try with_reducible rfl
                    try simp only [Act.put, List.setIfInBounds_toArray, List.set_cons_zero, List.set_cons_succ]
                    refine held_take (i := 2) (v := ?_) (some 70) rfl rfl (by kernel_rfl) (by kernel_rfl) (by kernel_rfl) (fun _ _ _ h => h) (Or.inl ⟨by rfl, ?_⟩) hHeld ?_
                    rotate_left 1
                    · intro w' (h : Rel V w'); obtain ⟨⟨x0, x1, x2, x3⟩, _⟩ := (HBX.out.rel h).four; obtain ⟨⟨y0, y1, y2, y3⟩, _⟩ := (HBY.out.rel h).four; go_simp; try with_reducible rfl
                    try simp only [Act.put, List.setIfInBounds_toArray, List.set_cons_zero, List.set_cons_succ]
                    refine held_one (j := 1) (by kernel_rfl) rfl (fun K hK => ?_)
                    try simp only [List.getElem_toArray, List.getElem_cons_succ, List.getElem_cons_zero]
                    rw [if_pos (by rfl)]
                    go_simp
                    go_at_call 14
                    (with_reducible refine (HRY.out _ hHeld).mono ?_)
                    rintro e w2 ⟨rfl, h2⟩
                    refine hK.out _ _ (hHeld.trans h2) (fun hHeld => ?_)
                    clear hK K
                    try simp only [Act.put, List.setIfInBounds_toArray, List.set_cons_zero, List.set_cons_succ]
                    refine held_take (i := 3) (v := ?_) (some 71) rfl rfl (by kernel_rfl) (by kernel_rfl) (by kernel_rfl) (fun _ _ _ h => h) (Or.inl ⟨by rfl, ?_⟩) hHeld ?_
                    rotate_left 1
                    · intro w' (h : Rel V w'); obtain ⟨⟨x0, x1, x2, x3⟩, _⟩ := (HBX.out.rel h).four; obtain ⟨⟨y0, y1, y2, y3⟩, _⟩ := (HBY.out.rel h).four; go_simp; try with_reducible rfl
                    try simp only [Act.put, List.setIfInBounds_toArray, List.set_cons_zero, List.set_cons_succ]
                    refine held_take (i := 4) (v := ?_) (some 72) rfl rfl (by kernel_rfl) (by kernel_rfl) (by kernel_rfl) (fun _ _ _ h => h) (Or.inl ⟨by rfl, ?_⟩) hHeld ?_
                    rotate_left 1
                    · intro w' (h : Rel V w'); obtain ⟨⟨x0, x1, x2, x3⟩, _⟩ := (HBX.out.rel h).four; obtain ⟨⟨y0, y1, y2, y3⟩, _⟩ := (HBY.out.rel h).four; go_simp; try with_reducible rfl
                    try simp only [Act.put, List.setIfInBounds_toArray, List.set_cons_zero, List.set_cons_succ]
                    refine held_take (i := 5) (v := ?_) (some 73) rfl rfl (by kernel_rfl) (by kernel_rfl) (by kernel_rfl) (fun _ _ _ h => h) (Or.inl ⟨by rfl, ?_⟩) hHeld ?_
                    rotate_left 1
                    · intro w' (h : Rel V w'); obtain ⟨⟨x0, x1, x2, x3⟩, _⟩ := (HBX.out.rel h).four; obtain ⟨⟨y0, y1, y2, y3⟩, _⟩ := (HBY.out.rel h).four; go_simp; try with_reducible rfl
                    try simp only [Act.put, List.setIfInBounds_toArray, List.set_cons_zero, List.set_cons_succ]
                    refine held_take (i := 7) (v := ?_) (some 75) rfl rfl (by kernel_rfl) (by kernel_rfl) (by kernel_rfl) (fun _ _ _ h => h) (Or.inl ⟨by rfl, ?_⟩) hHeld ?_
                    rotate_left 1
                    · intro w' (h : Rel V w'); obtain ⟨⟨x0, x1, x2, x3⟩, _⟩ := (HBX.out.rel h).four; obtain ⟨⟨y0, y1, y2, y3⟩, _⟩ := (HBY.out.rel h).four; go_simp; try with_reducible rfl
                    try simp only [Act.put, List.setIfInBounds_toArray, List.set_cons_zero, List.set_cons_succ]
                    refine held_one (j := 6) (by kernel_rfl) rfl (fun K hK => ?_)
                    try simp only [List.getElem_toArray, List.getElem_cons_succ, List.getElem_cons_zero]
                    rw [if_pos (by rfl)]
                    go_simp
                    go_at_call 18
                    (with_reducible refine (HDY.out _ hHeld).mono ?_)
                    rintro e w2 ⟨rfl, h2⟩
                    refine hK.out _ _ (hHeld.trans h2) (fun hHeld => ?_)
                    clear hK K
                    try simp only [Act.put, List.setIfInBounds_toArray, List.set_cons_zero, List.set_cons_succ]
                    refine held_one (j := 8) (by kernel_rfl) rfl (fun K hK => ?_)
                    try simp only [List.getElem_toArray, List.getElem_cons_succ, List.getElem_cons_zero]
                    rw [if_pos (by rfl)]
                    go_simp
                    go_at_call 18
                    (with_reducible refine (HDX.out _ hHeld).mono ?_)
                    rintro e w2 ⟨rfl, h2⟩
                    refine hK.out _ _ (hHeld.trans h2) (fun hHeld => ?_)
                    clear hK K
                    try simp only [Act.put, List.setIfInBounds_toArray, List.set_cons_zero, List.set_cons_succ]
                    refine held_take (i := 9) (v := ?_) (some 77) rfl rfl (by kernel_rfl) (by kernel_rfl) (by kernel_rfl) (fun _ _ _ h => h) (Or.inl ⟨by rfl, ?_⟩) hHeld ?_
                    rotate_left 1
                    · intro w' (h : Rel V w'); obtain ⟨⟨x0, x1, x2, x3⟩, _⟩ := (HBX.out.rel h).four; obtain ⟨⟨y0, y1, y2, y3⟩, _⟩ := (HBY.out.rel h).four; go_simp; try with_reducible rfl
                    try simp only [Act.put, List.setIfInBounds_toArray, List.set_cons_zero, List.set_cons_succ]
                    refine held_take (i := 10) (v := ?_) (some 78) rfl rfl (by kernel_rfl) (by kernel_rfl) (by kernel_rfl) (fun _ _ _ h => h) (Or.inl ⟨by rfl, ?_⟩) hHeld ?_
                    rotate_left 1
                    · intro w' (h : Rel V w'); obtain ⟨⟨x0, x1, x2, x3⟩, _⟩ := (HBX.out.rel h).four; obtain ⟨⟨y0, y1, y2, y3⟩, _⟩ := (HBY.out.rel h).four; go_simp; try with_reducible rfl
                    try simp only [Act.put, List.setIfInBounds_toArray, List.set_cons_zero, List.set_cons_succ]
                    refine held_take (i := 11) (v := ?_) (some 79) rfl rfl (by kernel_rfl) (by kernel_rfl) (by kernel_rfl) (fun _ _ _ h => h) (Or.inl ⟨by rfl, ?_⟩) hHeld ?_
                    rotate_left 1
                    · intro w' (h : Rel V w'); obtain ⟨⟨x0, x1, x2, x3⟩, _⟩ := (HBX.out.rel h).four; obtain ⟨⟨y0, y1, y2, y3⟩, _⟩ := (HBY.out.rel h).four; go_simp; try with_reducible rfl
                    try simp only [Act.put, List.setIfInBounds_toArray, List.set_cons_zero, List.set_cons_succ]
                    refine held_take (i := 12) (v := ?_) (some 80) rfl rfl (by kernel_rfl) (by kernel_rfl) (by kernel_rfl) (fun _ _ _ h => h) (Or.inl ⟨by rfl, ?_⟩) hHeld ?_
                    rotate_left 1
                    · intro w' (h : Rel V w'); obtain ⟨⟨x0, x1, x2, x3⟩, _⟩ := (HBX.out.rel h).four; obtain ⟨⟨y0, y1, y2, y3⟩, _⟩ := (HBY.out.rel h).four; go_simp; try with_reducible rfl
                    try simp only [Act.put, List.setIfInBounds_toArray, List.set_cons_zero, List.set_cons_succ]
                    refine held_take (i := 14) (v := ?_) (some 82) rfl rfl (by kernel_rfl) (by kernel_rfl) (by kernel_rfl) (fun _ _ _ h => h) (Or.inl ⟨by rfl, ?_⟩) hHeld ?_
                    rotate_left 1
                    · intro w' (h : Rel V w'); obtain ⟨⟨x0, x1, x2, x3⟩, _⟩ := (HBX.out.rel h).four; obtain ⟨⟨y0, y1, y2, y3⟩, _⟩ := (HBY.out.rel h).four; go_simp; try with_reducible rfl
                    try simp only [Act.put, List.setIfInBounds_toArray, List.set_cons_zero, List.set_cons_succ]
                    refine held_one (j := 13) (by kernel_rfl) rfl (fun K hK => ?_)
                    try simp only [List.getElem_toArray, List.getElem_cons_succ, List.getElem_cons_zero]
                    rw [if_pos (by rfl)]
                    go_simp
                    go_at_call 16
                    (with_reducible refine (HSY.out _ hHeld).mono ?_)
                    rintro e w2 ⟨rfl, h2⟩
                    refine hK.out _ _ (hHeld.trans h2) (fun hHeld => ?_)
                    clear hK K
                    try simp only [Act.put, List.setIfInBounds_toArray, List.set_cons_zero, List.set_cons_succ]
                    refine held_one (j := 15) (by kernel_rfl) rfl (fun K hK => ?_)
                    try simp only [List.getElem_toArray, List.getElem_cons_succ, List.getElem_cons_zero]
                    rw [if_pos (by rfl)]
                    go_simp
                    go_at_call 16
                    (with_reducible refine (HSX.out _ hHeld).mono ?_)
                    rintro e w2 ⟨rfl, h2⟩
                    refine hK.out _ _ (hHeld.trans h2) (fun hHeld => ?_)
                    clear hK K
                    try simp only [Act.put, List.setIfInBounds_toArray, List.set_cons_zero, List.set_cons_succ]
                    refine held_take (i := 16) (v := ?_) (some 84) rfl rfl (by kernel_rfl) (by kernel_rfl) (by kernel_rfl) (fun _ _ _ h => h) (Or.inl ⟨by rfl, ?_⟩) hHeld ?_
                    rotate_left 1
                    · intro w' (h : Rel V w'); obtain ⟨⟨x0, x1, x2, x3⟩, _⟩ := (HBX.out.rel h).four; obtain ⟨⟨y0, y1, y2, y3⟩, _⟩ := (HBY.out.rel h).four; go_simp; try with_reducible rfl
                    try simp only [Act.put, List.setIfInBounds_toArray, List.set_cons_zero, List.set_cons_succ]
                    refine held_take (i := 17) (v := ?_) (some 85) rfl rfl (by kernel_rfl) (by kernel_rfl) (by kernel_rfl) (fun _ _ _ h => h) (Or.inl ⟨by rfl, ?_⟩) hHeld ?_
                    rotate_left 1
                    · intro w' (h : Rel V w'); obtain ⟨⟨x0, x1, x2, x3⟩, _⟩ := (HBX.out.rel h).four; obtain ⟨⟨y0, y1, y2, y3⟩, _⟩ := (HBY.out.rel h).four; go_simp; try with_reducible rfl
                    try simp only [Act.put, List.setIfInBounds_toArray, List.set_cons_zero, List.set_cons_succ]
                    refine wpAnyH_done (by kernel_rfl) ?_ _
                    obtain ⟨⟨z0', z1', z2', z3'⟩, _⟩ := (HBY.out.rel hHeld).four
                    obtain ⟨⟨t0, t1, t2, t3⟩, g0, g1, g2, g3⟩ := (HBX.out.rel hHeld).four
                    go_wp2_with (fail)
                    go_roundw
                    case rel => exact ⟨j + 1, by go_num, by omega, Lib.hid ⟨(_, _, _, _, _, _), Y, (HBX.out.rel hHeld).put4 _ _ _ _, (HEY.out.rel hHeld).grown (put4_grown _ _ _ _ _ _) (fun q hq => ⟨hq, fun e => by injection e; omega⟩), HPY.out⟩, Lib.hid (Rel.grown ((HW.out.trans HV.out).trans hHeld) (put4_grown _ _ _ _ _ _) (fun k e => by cases e; exact hlow))⟩
                    case measure => simp [RowKit.intOf]; omega
              · skip
                try simp only [List.getElem_toArray, List.getElem_cons_succ, List.getElem_cons_zero]
                rw [if_pos (by rfl)]
                go_simp
                refine hK.out _ _ (hHeld.alloc _) (fun hHeld => ?_)
                clear hK K
                try simp only [Act.put, List.setIfInBounds_toArray, List.set_cons_zero, List.set_cons_succ]
                refine held_one (j := 9) (by kernel_rfl) rfl (fun K hK => ?_)
                try simp only [List.getElem_toArray, List.getElem_cons_succ, List.getElem_cons_zero]
                rw [if_pos (by rfl)]
                go_simp
                go_at_call 25
                (with_reducible refine (pk_as z (l.length : Int) (q : Int) HU z0 z1 (by omega) (by omega) _).mono ?_)
                rintro e w' ⟨rfl, rfl⟩
                refine hK.out _ _ hHeld (fun hHeld => ?_)
                clear hK K
                try simp only [Act.put, List.setIfInBounds_toArray, List.set_cons_zero, List.set_cons_succ]
                refine held_take (i := 10) (v := ?_) (some 58) rfl rfl (by kernel_rfl) (by kernel_rfl) (by kernel_rfl) (fun _ _ _ h => h) (Or.inl ⟨by rfl, ?_⟩) hHeld ?_
                rotate_left 1
                · intro w' (h : Rel wr w'); obtain ⟨x3', a0', a1', a2', a3', hac'⟩ := HK9.out w' h; go_simp; try with_reducible rfl
                try simp only [Act.put, List.setIfInBounds_toArray, List.set_cons_zero, List.set_cons_succ]
                refine held_take (i := 11) (v := ?_) (some 59) rfl rfl (by kernel_rfl) (by kernel_rfl) (by kernel_rfl) (fun _ _ _ h => h) (Or.inl ⟨by rfl, ?_⟩) hHeld ?_
                rotate_left 1
                · intro w' (h : Rel wr w'); obtain ⟨x3', a0', a1', a2', a3', hac'⟩ := HK9.out w' h; go_simp; try with_reducible rfl
                try simp only [Act.put, List.setIfInBounds_toArray, List.set_cons_zero, List.set_cons_succ]
                refine held_one (j := 13) (by kernel_rfl) rfl (fun K hK => ?_)
                try simp only [List.getElem_toArray, List.getElem_cons_succ, List.getElem_cons_zero]
                rw [if_pos (by rfl)]
                go_simp
                refine hK.out _ _ (by first | exact R9.out.drew.alloc _ | exact (R9.out.alloc _).drew) (fun hHeld => ?_)
                clear hK K
                try simp only [Act.put, List.setIfInBounds_toArray, List.set_cons_zero, List.set_cons_succ]
                refine wpAnyH_done (by kernel_rfl) ?_ _
                have HV0 := Lib.hid ((R9.out.alloc (.cells #[.int .i64 k1, .int .i64 n1', .string (B nm1), .slice A2 m2 c2] 26)).drew)
                have HBY := Lib.hid ((Bk.new wr 26 #[.int .i64 k1, .int .i64 n1', .string (B nm1), .slice A2 m2 c2]).drew)
                have HBX := Lib.hid (HBX0.out.rel HV0.out)
                have HEX := Lib.hid (HEX0.out.rel HV0.out)
                have HEY := Lib.hid (hy.rel HV0.out)
                obtain ⟨V, hV⟩ : ∃ V, (wr.alloc (.cells #[.int .i64 k1, .int .i64 n1', .string (B nm1), .slice A2 m2 c2] 26)).drew = V := ⟨_, rfl⟩
                rw [hV] at HV0 HBY HBX HEX HEY
                rw [hV]
                have HV := Lib.hid (HV0.out)
                clear hV hHeld
                have VX : Hid (EV (k, n, nm, some ⟨g, off, none⟩, l.length, c1) = .agg #[.int .i64 k, .int .i64 n, .string (B nm), .slice (some ⟨g, off, none⟩) l.length c1]) := Lib.hid rfl
                have HDX := Lib.hid (fun (w' : World) (h : Rel V w') => arg1 VX (deep_as H.out (.mk k n nm l) (dx : Int) HDx _ (k, n, nm, some ⟨g, off, none⟩, l.length, c1) w' w' ((HW.out.trans HV.out).trans h).self (HEX.out.rel h) (by omega)))
                have HSX := Lib.hid (fun (w' : World) (h : Rel V w') => arg1 VX (size_as H.out (.mk k n nm l) (sx : Int) HSx _ (k, n, nm, some ⟨g, off, none⟩, l.length, c1) w' w' ((HW.out.trans HV.out).trans h).self (HEX.out.rel h) (by omega)))
                have VY : Hid (EV (k1, n1', nm1, A2, m2, c2) = .agg #[.int .i64 k1, .int .i64 n1', .string (B nm1), .slice A2 m2 c2]) := Lib.hid rfl
                have HDY := Lib.hid (fun (w' : World) (h : Rel V w') => arg1 VY (deep_as H.out Y (dy : Int) HDy _ (k1, n1', nm1, A2, m2, c2) w' w' ((HW.out.trans HV.out).trans h).self (HEY.out.rel h) (by omega)))
                have HSY := Lib.hid (fun (w' : World) (h : Rel V w') => arg1 VY (size_as H.out Y (sy : Int) HSy _ (k1, n1', nm1, A2, m2, c2) w' w' ((HW.out.trans HV.out).trans h).self (HEY.out.rel h) (by omega)))
                have HRY0 := Lib.hid (fun (b : Bool) (hb : rightX Y = b) (w' : World) (h : Rel V w') => arg1 VY (right_as H.out Y b (Lib.hid hb) _ (k1, n1', nm1, A2, m2, c2) w' w' ((HW.out.trans HV.out).trans h).self (HEY.out.rel h) (by omega)))
                obtain ⟨⟨y0, y1, y2, y3⟩, _⟩ := HBY.out.four
                clear HEX HV0 hy
                by_cases e11 : k1 = 11
                · subst e11
                  have HRY := Lib.hid (HRY0.out false (by rw [hry]; rfl))
                  clear HRY0 hry
                  go_wp2_with (fail)
                  refine wp_region_held_drew (S := (fun w' => Rel V w')) (by kernel_rfl) (HW.out.trans HV.out).self.drew (fun hHeld => ?_)
                  refine held_take (i := 0) (v := ?_) (some 68) rfl rfl (by kernel_rfl) (by kernel_rfl) (by kernel_rfl) (fun _ _ _ h => h) (Or.inl ⟨by rfl, ?_⟩) hHeld ?_
                  rotate_left 1
                  · intro w' (h : Rel V w'); obtain ⟨⟨x0, x1, x2, x3⟩, _⟩ := (HBX.out.rel h).four; obtain ⟨⟨y0, y1, y2, y3⟩, _⟩ := (HBY.out.rel h).four; go_simp; try with_reducible rfl
                  try simp only [Act.put, List.setIfInBounds_toArray, List.set_cons_zero, List.set_cons_succ]
                  refine held_take (i := 2) (v := ?_) (some 70) rfl rfl (by kernel_rfl) (by kernel_rfl) (by kernel_rfl) (fun _ _ _ h => h) (Or.inl ⟨by rfl, ?_⟩) hHeld ?_
                  rotate_left 1
                  · intro w' (h : Rel V w'); obtain ⟨⟨x0, x1, x2, x3⟩, _⟩ := (HBX.out.rel h).four; obtain ⟨⟨y0, y1, y2, y3⟩, _⟩ := (HBY.out.rel h).four; go_simp; try with_reducible rfl
                  try simp only [Act.put, List.setIfInBounds_toArray, List.set_cons_zero, List.set_cons_succ]
                  refine held_one (j := 1) (by kernel_rfl) rfl (fun K hK => ?_)
                  try simp only [List.getElem_toArray, List.getElem_cons_succ, List.getElem_cons_zero]
                  rw [if_pos (by rfl)]
                  go_simp
                  go_at_call 14
                  (with_reducible refine (HRY.out _ hHeld).mono ?_)
                  rintro e w2 ⟨rfl, h2⟩
                  refine hK.out _ _ (hHeld.trans h2) (fun hHeld => ?_)
                  clear hK K
                  try simp only [Act.put, List.setIfInBounds_toArray, List.set_cons_zero, List.set_cons_succ]
                  refine held_take (i := 3) (v := ?_) (some 71) rfl rfl (by kernel_rfl) (by kernel_rfl) (by kernel_rfl) (fun _ _ _ h => h) (Or.inl ⟨by rfl, ?_⟩) hHeld ?_
                  rotate_left 1
                  · intro w' (h : Rel V w'); obtain ⟨⟨x0, x1, x2, x3⟩, _⟩ := (HBX.out.rel h).four; obtain ⟨⟨y0, y1, y2, y3⟩, _⟩ := (HBY.out.rel h).four; go_simp; try with_reducible rfl
                  try simp only [Act.put, List.setIfInBounds_toArray, List.set_cons_zero, List.set_cons_succ]
                  refine held_take (i := 4) (v := ?_) (some 72) rfl rfl (by kernel_rfl) (by kernel_rfl) (by kernel_rfl) (fun _ _ _ h => h) (Or.inl ⟨by rfl, ?_⟩) hHeld ?_
                  rotate_left 1
                  · intro w' (h : Rel V w'); obtain ⟨⟨x0, x1, x2, x3⟩, _⟩ := (HBX.out.rel h).four; obtain ⟨⟨y0, y1, y2, y3⟩, _⟩ := (HBY.out.rel h).four; go_simp; try with_reducible rfl
                  try simp only [Act.put, List.setIfInBounds_toArray, List.set_cons_zero, List.set_cons_succ]
                  refine held_take (i := 5) (v := ?_) (some 73) rfl rfl (by kernel_rfl) (by kernel_rfl) (by kernel_rfl) (fun _ _ _ h => h) (Or.inl ⟨by rfl, ?_⟩) hHeld ?_
                  rotate_left 1
                  · intro w' (h : Rel V w'); obtain ⟨⟨x0, x1, x2, x3⟩, _⟩ := (HBX.out.rel h).four; obtain ⟨⟨y0, y1, y2, y3⟩, _⟩ := (HBY.out.rel h).four; go_simp; try with_reducible rfl
                  try simp only [Act.put, List.setIfInBounds_toArray, List.set_cons_zero, List.set_cons_succ]
                  refine held_take (i := 7) (v := ?_) (some 75) rfl rfl (by kernel_rfl) (by kernel_rfl) (by kernel_rfl) (fun _ _ _ h => h) (Or.inl ⟨by rfl, ?_⟩) hHeld ?_
                  rotate_left 1
                  · intro w' (h : Rel V w'); obtain ⟨⟨x0, x1, x2, x3⟩, _⟩ := (HBX.out.rel h).four; obtain ⟨⟨y0, y1, y2, y3⟩, _⟩ := (HBY.out.rel h).four; go_simp; try with_reducible rfl
                  try simp only [Act.put, List.setIfInBounds_toArray, List.set_cons_zero, List.set_cons_succ]
                  refine held_one (j := 6) (by kernel_rfl) rfl (fun K hK => ?_)
                  try simp only [List.getElem_toArray, List.getElem_cons_succ, List.getElem_cons_zero]
                  rw [if_pos (by rfl)]
                  go_simp
                  go_at_call 18
                  (with_reducible refine (HDY.out _ hHeld).mono ?_)
                  rintro e w2 ⟨rfl, h2⟩
                  refine hK.out _ _ (hHeld.trans h2) (fun hHeld => ?_)
                  clear hK K
                  try simp only [Act.put, List.setIfInBounds_toArray, List.set_cons_zero, List.set_cons_succ]
                  refine held_one (j := 8) (by kernel_rfl) rfl (fun K hK => ?_)
                  try simp only [List.getElem_toArray, List.getElem_cons_succ, List.getElem_cons_zero]
                  rw [if_pos (by rfl)]
                  go_simp
                  go_at_call 18
                  (with_reducible refine (HDX.out _ hHeld).mono ?_)
                  rintro e w2 ⟨rfl, h2⟩
                  refine hK.out _ _ (hHeld.trans h2) (fun hHeld => ?_)
                  clear hK K
                  try simp only [Act.put, List.setIfInBounds_toArray, List.set_cons_zero, List.set_cons_succ]
                  refine held_take (i := 9) (v := ?_) (some 77) rfl rfl (by kernel_rfl) (by kernel_rfl) (by kernel_rfl) (fun _ _ _ h => h) (Or.inl ⟨by rfl, ?_⟩) hHeld ?_
                  rotate_left 1
                  · intro w' (h : Rel V w'); obtain ⟨⟨x0, x1, x2, x3⟩, _⟩ := (HBX.out.rel h).four; obtain ⟨⟨y0, y1, y2, y3⟩, _⟩ := (HBY.out.rel h).four; go_simp; try with_reducible rfl
                  try simp only [Act.put, List.setIfInBounds_toArray, List.set_cons_zero, List.set_cons_succ]
                  refine held_take (i := 10) (v := ?_) (some 78) rfl rfl (by kernel_rfl) (by kernel_rfl) (by kernel_rfl) (fun _ _ _ h => h) (Or.inl ⟨by rfl, ?_⟩) hHeld ?_
                  rotate_left 1
                  · intro w' (h : Rel V w'); obtain ⟨⟨x0, x1, x2, x3⟩, _⟩ := (HBX.out.rel h).four; obtain ⟨⟨y0, y1, y2, y3⟩, _⟩ := (HBY.out.rel h).four; go_simp; try with_reducible rfl
                  try simp only [Act.put, List.setIfInBounds_toArray, List.set_cons_zero, List.set_cons_succ]
                  refine held_take (i := 11) (v := ?_) (some 79) rfl rfl (by kernel_rfl) (by kernel_rfl) (by kernel_rfl) (fun _ _ _ h => h) (Or.inl ⟨by rfl, ?_⟩) hHeld ?_
                  rotate_left 1
                  · intro w' (h : Rel V w'); obtain ⟨⟨x0, x1, x2, x3⟩, _⟩ := (HBX.out.rel h).four; obtain ⟨⟨y0, y1, y2, y3⟩, _⟩ := (HBY.out.rel h).four; go_simp; try with_reducible rfl
                  try simp only [Act.put, List.setIfInBounds_toArray, List.set_cons_zero, List.set_cons_succ]
                  refine held_take (i := 12) (v := ?_) (some 80) rfl rfl (by kernel_rfl) (by kernel_rfl) (by kernel_rfl) (fun _ _ _ h => h) (Or.inl ⟨by rfl, ?_⟩) hHeld ?_
                  rotate_left 1
                  · intro w' (h : Rel V w'); obtain ⟨⟨x0, x1, x2, x3⟩, _⟩ := (HBX.out.rel h).four; obtain ⟨⟨y0, y1, y2, y3⟩, _⟩ := (HBY.out.rel h).four; go_simp; try with_reducible rfl
                  try simp only [Act.put, List.setIfInBounds_toArray, List.set_cons_zero, List.set_cons_succ]
                  refine held_take (i := 14) (v := ?_) (some 82) rfl rfl (by kernel_rfl) (by kernel_rfl) (by kernel_rfl) (fun _ _ _ h => h) (Or.inl ⟨by rfl, ?_⟩) hHeld ?_
                  rotate_left 1
                  · intro w' (h : Rel V w'); obtain ⟨⟨x0, x1, x2, x3⟩, _⟩ := (HBX.out.rel h).four; obtain ⟨⟨y0, y1, y2, y3⟩, _⟩ := (HBY.out.rel h).four; go_simp; try with_reducible rfl
                  try simp only [Act.put, List.setIfInBounds_toArray, List.set_cons_zero, List.set_cons_succ]
                  refine held_one (j := 13) (by kernel_rfl) rfl (fun K hK => ?_)
                  try simp only [List.getElem_toArray, List.getElem_cons_succ, List.getElem_cons_zero]
                  rw [if_pos (by rfl)]
                  go_simp
                  go_at_call 16
                  (with_reducible refine (HSY.out _ hHeld).mono ?_)
                  rintro e w2 ⟨rfl, h2⟩
                  refine hK.out _ _ (hHeld.trans h2) (fun hHeld => ?_)
                  clear hK K
                  try simp only [Act.put, List.setIfInBounds_toArray, List.set_cons_zero, List.set_cons_succ]
                  refine held_one (j := 15) (by kernel_rfl) rfl (fun K hK => ?_)
                  try simp only [List.getElem_toArray, List.getElem_cons_succ, List.getElem_cons_zero]
                  rw [if_pos (by rfl)]
                  go_simp
                  go_at_call 16
                  (with_reducible refine (HSX.out _ hHeld).mono ?_)
                  rintro e w2 ⟨rfl, h2⟩
                  refine hK.out _ _ (hHeld.trans h2) (fun hHeld => ?_)
                  clear hK K
                  try simp only [Act.put, List.setIfInBounds_toArray, List.set_cons_zero, List.set_cons_succ]
                  refine held_take (i := 16) (v := ?_) (some 84) rfl rfl (by kernel_rfl) (by kernel_rfl) (by kernel_rfl) (fun _ _ _ h => h) (Or.inl ⟨by rfl, ?_⟩) hHeld ?_
                  rotate_left 1
                  · intro w' (h : Rel V w'); obtain ⟨⟨x0, x1, x2, x3⟩, _⟩ := (HBX.out.rel h).four; obtain ⟨⟨y0, y1, y2, y3⟩, _⟩ := (HBY.out.rel h).four; go_simp; try with_reducible rfl
                  try simp only [Act.put, List.setIfInBounds_toArray, List.set_cons_zero, List.set_cons_succ]
                  refine held_take (i := 17) (v := ?_) (some 85) rfl rfl (by kernel_rfl) (by kernel_rfl) (by kernel_rfl) (fun _ _ _ h => h) (Or.inl ⟨by rfl, ?_⟩) hHeld ?_
                  rotate_left 1
                  · intro w' (h : Rel V w'); obtain ⟨⟨x0, x1, x2, x3⟩, _⟩ := (HBX.out.rel h).four; obtain ⟨⟨y0, y1, y2, y3⟩, _⟩ := (HBY.out.rel h).four; go_simp; try with_reducible rfl
                  try simp only [Act.put, List.setIfInBounds_toArray, List.set_cons_zero, List.set_cons_succ]
                  refine wpAnyH_done (by kernel_rfl) ?_ _
                  obtain ⟨⟨z0', z1', z2', z3'⟩, _⟩ := (HBY.out.rel hHeld).four
                  obtain ⟨⟨t0, t1, t2, t3⟩, g0, g1, g2, g3⟩ := (HBX.out.rel hHeld).four
                  go_wp2_with (fail)
                  go_roundw
                  case rel => exact ⟨j + 1, by go_num, by omega, Lib.hid ⟨(_, _, _, _, _, _), Y, (HBX.out.rel hHeld).put4 _ _ _ _, (HEY.out.rel hHeld).grown (put4_grown _ _ _ _ _ _) (fun q hq => ⟨hq, fun e => by injection e; omega⟩), HPY.out⟩, Lib.hid (Rel.grown ((HW.out.trans HV.out).trans hHeld) (put4_grown _ _ _ _ _ _) (fun k e => by cases e; exact hlow))⟩
                  case measure => simp [RowKit.intOf]; omega
                · by_cases e12 : k1 = 12
                  · subst e12
                    have HRY := Lib.hid (HRY0.out false (by rw [hry]; rfl))
                    clear HRY0 hry
                    go_wp2_with (fail)
                    refine wp_region_held_drew (S := (fun w' => Rel V w')) (by kernel_rfl) (HW.out.trans HV.out).self.drew (fun hHeld => ?_)
                    refine held_take (i := 0) (v := ?_) (some 68) rfl rfl (by kernel_rfl) (by kernel_rfl) (by kernel_rfl) (fun _ _ _ h => h) (Or.inl ⟨by rfl, ?_⟩) hHeld ?_
                    rotate_left 1
                    · intro w' (h : Rel V w'); obtain ⟨⟨x0, x1, x2, x3⟩, _⟩ := (HBX.out.rel h).four; obtain ⟨⟨y0, y1, y2, y3⟩, _⟩ := (HBY.out.rel h).four; go_simp; try with_reducible rfl
                    try simp only [Act.put, List.setIfInBounds_toArray, List.set_cons_zero, List.set_cons_succ]
                    refine held_take (i := 2) (v := ?_) (some 70) rfl rfl (by kernel_rfl) (by kernel_rfl) (by kernel_rfl) (fun _ _ _ h => h) (Or.inl ⟨by rfl, ?_⟩) hHeld ?_
                    rotate_left 1
                    · intro w' (h : Rel V w'); obtain ⟨⟨x0, x1, x2, x3⟩, _⟩ := (HBX.out.rel h).four; obtain ⟨⟨y0, y1, y2, y3⟩, _⟩ := (HBY.out.rel h).four; go_simp; try with_reducible rfl
                    try simp only [Act.put, List.setIfInBounds_toArray, List.set_cons_zero, List.set_cons_succ]
                    refine held_one (j := 1) (by kernel_rfl) rfl (fun K hK => ?_)
                    try simp only [List.getElem_toArray, List.getElem_cons_succ, List.getElem_cons_zero]
                    rw [if_pos (by rfl)]
                    go_simp
                    go_at_call 14
                    (with_reducible refine (HRY.out _ hHeld).mono ?_)
                    rintro e w2 ⟨rfl, h2⟩
                    refine hK.out _ _ (hHeld.trans h2) (fun hHeld => ?_)
                    clear hK K
                    try simp only [Act.put, List.setIfInBounds_toArray, List.set_cons_zero, List.set_cons_succ]
                    refine held_take (i := 3) (v := ?_) (some 71) rfl rfl (by kernel_rfl) (by kernel_rfl) (by kernel_rfl) (fun _ _ _ h => h) (Or.inl ⟨by rfl, ?_⟩) hHeld ?_
                    rotate_left 1
                    · intro w' (h : Rel V w'); obtain ⟨⟨x0, x1, x2, x3⟩, _⟩ := (HBX.out.rel h).four; obtain ⟨⟨y0, y1, y2, y3⟩, _⟩ := (HBY.out.rel h).four; go_simp; try with_reducible rfl
                    try simp only [Act.put, List.setIfInBounds_toArray, List.set_cons_zero, List.set_cons_succ]
                    refine held_take (i := 4) (v := ?_) (some 72) rfl rfl (by kernel_rfl) (by kernel_rfl) (by kernel_rfl) (fun _ _ _ h => h) (Or.inl ⟨by rfl, ?_⟩) hHeld ?_
                    rotate_left 1
                    · intro w' (h : Rel V w'); obtain ⟨⟨x0, x1, x2, x3⟩, _⟩ := (HBX.out.rel h).four; obtain ⟨⟨y0, y1, y2, y3⟩, _⟩ := (HBY.out.rel h).four; go_simp; try with_reducible rfl
                    try simp only [Act.put, List.setIfInBounds_toArray, List.set_cons_zero, List.set_cons_succ]
                    refine held_take (i := 5) (v := ?_) (some 73) rfl rfl (by kernel_rfl) (by kernel_rfl) (by kernel_rfl) (fun _ _ _ h => h) (Or.inl ⟨by rfl, ?_⟩) hHeld ?_
                    rotate_left 1
                    · intro w' (h : Rel V w'); obtain ⟨⟨x0, x1, x2, x3⟩, _⟩ := (HBX.out.rel h).four; obtain ⟨⟨y0, y1, y2, y3⟩, _⟩ := (HBY.out.rel h).four; go_simp; try with_reducible rfl
                    try simp only [Act.put, List.setIfInBounds_toArray, List.set_cons_zero, List.set_cons_succ]
                    refine held_take (i := 7) (v := ?_) (some 75) rfl rfl (by kernel_rfl) (by kernel_rfl) (by kernel_rfl) (fun _ _ _ h => h) (Or.inl ⟨by rfl, ?_⟩) hHeld ?_
                    rotate_left 1
                    · intro w' (h : Rel V w'); obtain ⟨⟨x0, x1, x2, x3⟩, _⟩ := (HBX.out.rel h).four; obtain ⟨⟨y0, y1, y2, y3⟩, _⟩ := (HBY.out.rel h).four; go_simp; try with_reducible rfl
                    try simp only [Act.put, List.setIfInBounds_toArray, List.set_cons_zero, List.set_cons_succ]
                    refine held_one (j := 6) (by kernel_rfl) rfl (fun K hK => ?_)
                    try simp only [List.getElem_toArray, List.getElem_cons_succ, List.getElem_cons_zero]
                    rw [if_pos (by rfl)]
                    go_simp
                    go_at_call 18
                    (with_reducible refine (HDY.out _ hHeld).mono ?_)
                    rintro e w2 ⟨rfl, h2⟩
                    refine hK.out _ _ (hHeld.trans h2) (fun hHeld => ?_)
                    clear hK K
                    try simp only [Act.put, List.setIfInBounds_toArray, List.set_cons_zero, List.set_cons_succ]
                    refine held_one (j := 8) (by kernel_rfl) rfl (fun K hK => ?_)
                    try simp only [List.getElem_toArray, List.getElem_cons_succ, List.getElem_cons_zero]
                    rw [if_pos (by rfl)]
                    go_simp
                    go_at_call 18
                    (with_reducible refine (HDX.out _ hHeld).mono ?_)
                    rintro e w2 ⟨rfl, h2⟩
                    refine hK.out _ _ (hHeld.trans h2) (fun hHeld => ?_)
                    clear hK K
                    try simp only [Act.put, List.setIfInBounds_toArray, List.set_cons_zero, List.set_cons_succ]
                    refine held_take (i := 9) (v := ?_) (some 77) rfl rfl (by kernel_rfl) (by kernel_rfl) (by kernel_rfl) (fun _ _ _ h => h) (Or.inl ⟨by rfl, ?_⟩) hHeld ?_
                    rotate_left 1
                    · intro w' (h : Rel V w'); obtain ⟨⟨x0, x1, x2, x3⟩, _⟩ := (HBX.out.rel h).four; obtain ⟨⟨y0, y1, y2, y3⟩, _⟩ := (HBY.out.rel h).four; go_simp; try with_reducible rfl
                    try simp only [Act.put, List.setIfInBounds_toArray, List.set_cons_zero, List.set_cons_succ]
                    refine held_take (i := 10) (v := ?_) (some 78) rfl rfl (by kernel_rfl) (by kernel_rfl) (by kernel_rfl) (fun _ _ _ h => h) (Or.inl ⟨by rfl, ?_⟩) hHeld ?_
                    rotate_left 1
                    · intro w' (h : Rel V w'); obtain ⟨⟨x0, x1, x2, x3⟩, _⟩ := (HBX.out.rel h).four; obtain ⟨⟨y0, y1, y2, y3⟩, _⟩ := (HBY.out.rel h).four; go_simp; try with_reducible rfl
                    try simp only [Act.put, List.setIfInBounds_toArray, List.set_cons_zero, List.set_cons_succ]
                    refine held_take (i := 11) (v := ?_) (some 79) rfl rfl (by kernel_rfl) (by kernel_rfl) (by kernel_rfl) (fun _ _ _ h => h) (Or.inl ⟨by rfl, ?_⟩) hHeld ?_
                    rotate_left 1
                    · intro w' (h : Rel V w'); obtain ⟨⟨x0, x1, x2, x3⟩, _⟩ := (HBX.out.rel h).four; obtain ⟨⟨y0, y1, y2, y3⟩, _⟩ := (HBY.out.rel h).four; go_simp; try with_reducible rfl
                    try simp only [Act.put, List.setIfInBounds_toArray, List.set_cons_zero, List.set_cons_succ]
                    refine held_take (i := 12) (v := ?_) (some 80) rfl rfl (by kernel_rfl) (by kernel_rfl) (by kernel_rfl) (fun _ _ _ h => h) (Or.inl ⟨by rfl, ?_⟩) hHeld ?_
                    rotate_left 1
                    · intro w' (h : Rel V w'); obtain ⟨⟨x0, x1, x2, x3⟩, _⟩ := (HBX.out.rel h).four; obtain ⟨⟨y0, y1, y2, y3⟩, _⟩ := (HBY.out.rel h).four; go_simp; try with_reducible rfl
                    try simp only [Act.put, List.setIfInBounds_toArray, List.set_cons_zero, List.set_cons_succ]
                    refine held_take (i := 14) (v := ?_) (some 82) rfl rfl (by kernel_rfl) (by kernel_rfl) (by kernel_rfl) (fun _ _ _ h => h) (Or.inl ⟨by rfl, ?_⟩) hHeld ?_
                    rotate_left 1
                    · intro w' (h : Rel V w'); obtain ⟨⟨x0, x1, x2, x3⟩, _⟩ := (HBX.out.rel h).four; obtain ⟨⟨y0, y1, y2, y3⟩, _⟩ := (HBY.out.rel h).four; go_simp; try with_reducible rfl
                    try simp only [Act.put, List.setIfInBounds_toArray, List.set_cons_zero, List.set_cons_succ]
                    refine held_one (j := 13) (by kernel_rfl) rfl (fun K hK => ?_)
                    try simp only [List.getElem_toArray, List.getElem_cons_succ, List.getElem_cons_zero]
                    rw [if_pos (by rfl)]
                    go_simp
                    go_at_call 16
                    (with_reducible refine (HSY.out _ hHeld).mono ?_)
                    rintro e w2 ⟨rfl, h2⟩
                    refine hK.out _ _ (hHeld.trans h2) (fun hHeld => ?_)
                    clear hK K
                    try simp only [Act.put, List.setIfInBounds_toArray, List.set_cons_zero, List.set_cons_succ]
                    refine held_one (j := 15) (by kernel_rfl) rfl (fun K hK => ?_)
                    try simp only [List.getElem_toArray, List.getElem_cons_succ, List.getElem_cons_zero]
                    rw [if_pos (by rfl)]
                    go_simp
                    go_at_call 16
                    (with_reducible refine (HSX.out _ hHeld).mono ?_)
                    rintro e w2 ⟨rfl, h2⟩
                    refine hK.out _ _ (hHeld.trans h2) (fun hHeld => ?_)
                    clear hK K
                    try simp only [Act.put, List.setIfInBounds_toArray, List.set_cons_zero, List.set_cons_succ]
                    refine held_take (i := 16) (v := ?_) (some 84) rfl rfl (by kernel_rfl) (by kernel_rfl) (by kernel_rfl) (fun _ _ _ h => h) (Or.inl ⟨by rfl, ?_⟩) hHeld ?_
                    rotate_left 1
                    · intro w' (h : Rel V w'); obtain ⟨⟨x0, x1, x2, x3⟩, _⟩ := (HBX.out.rel h).four; obtain ⟨⟨y0, y1, y2, y3⟩, _⟩ := (HBY.out.rel h).four; go_simp; try with_reducible rfl
                    try simp only [Act.put, List.setIfInBounds_toArray, List.set_cons_zero, List.set_cons_succ]
                    refine held_take (i := 17) (v := ?_) (some 85) rfl rfl (by kernel_rfl) (by kernel_rfl) (by kernel_rfl) (fun _ _ _ h => h) (Or.inl ⟨by rfl, ?_⟩) hHeld ?_
                    rotate_left 1
                    · intro w' (h : Rel V w'); obtain ⟨⟨x0, x1, x2, x3⟩, _⟩ := (HBX.out.rel h).four; obtain ⟨⟨y0, y1, y2, y3⟩, _⟩ := (HBY.out.rel h).four; go_simp; try with_reducible rfl
                    try simp only [Act.put, List.setIfInBounds_toArray, List.set_cons_zero, List.set_cons_succ]
                    refine wpAnyH_done (by kernel_rfl) ?_ _
                    obtain ⟨⟨z0', z1', z2', z3'⟩, _⟩ := (HBY.out.rel hHeld).four
                    obtain ⟨⟨t0, t1, t2, t3⟩, g0, g1, g2, g3⟩ := (HBX.out.rel hHeld).four
                    go_wp2_with (fail)
                    go_roundw
                    case rel => exact ⟨j + 1, by go_num, by omega, Lib.hid ⟨(_, _, _, _, _, _), Y, (HBX.out.rel hHeld).put4 _ _ _ _, (HEY.out.rel hHeld).grown (put4_grown _ _ _ _ _ _) (fun q hq => ⟨hq, fun e => by injection e; omega⟩), HPY.out⟩, Lib.hid (Rel.grown ((HW.out.trans HV.out).trans hHeld) (put4_grown _ _ _ _ _ _) (fun k e => by cases e; exact hlow))⟩
                    case measure => simp [RowKit.intOf]; omega
                  · have f11 : (k1 == 11) = false := by simpa using e11
                    have f12 : (k1 == 12) = false := by simpa using e12
                    have HRY := Lib.hid (HRY0.out true (by rw [hry]; simp [isCond, e11, e12]))
                    clear HRY0 hry
                    go_wp2_with (fail)
                    refine wp_region_held_drew (S := (fun w' => Rel V w')) (by kernel_rfl) (HW.out.trans HV.out).self.drew (fun hHeld => ?_)
                    refine held_take (i := 0) (v := ?_) (some 68) rfl rfl (by kernel_rfl) (by kernel_rfl) (by kernel_rfl) (fun _ _ _ h => h) (Or.inl ⟨by rfl, ?_⟩) hHeld ?_
                    rotate_left 1
                    · intro w' (h : Rel V w'); obtain ⟨⟨x0, x1, x2, x3⟩, _⟩ := (HBX.out.rel h).four; obtain ⟨⟨y0, y1, y2, y3⟩, _⟩ := (HBY.out.rel h).four; go_simp; try with_reducible rfl
                    try simp only [Act.put, List.setIfInBounds_toArray, List.set_cons_zero, List.set_cons_succ]
                    refine held_take (i := 2) (v := ?_) (some 70) rfl rfl (by kernel_rfl) (by kernel_rfl) (by kernel_rfl) (fun _ _ _ h => h) (Or.inl ⟨by rfl, ?_⟩) hHeld ?_
                    rotate_left 1
                    · intro w' (h : Rel V w'); obtain ⟨⟨x0, x1, x2, x3⟩, _⟩ := (HBX.out.rel h).four; obtain ⟨⟨y0, y1, y2, y3⟩, _⟩ := (HBY.out.rel h).four; go_simp; try with_reducible rfl
                    try simp only [Act.put, List.setIfInBounds_toArray, List.set_cons_zero, List.set_cons_succ]
                    refine held_one (j := 1) (by kernel_rfl) rfl (fun K hK => ?_)
                    try simp only [List.getElem_toArray, List.getElem_cons_succ, List.getElem_cons_zero]
                    rw [if_pos (by rfl)]
                    go_simp
                    go_at_call 14
                    (with_reducible refine (HRY.out _ hHeld).mono ?_)
                    rintro e w2 ⟨rfl, h2⟩
                    refine hK.out _ _ (hHeld.trans h2) (fun hHeld => ?_)
                    clear hK K
                    try simp only [Act.put, List.setIfInBounds_toArray, List.set_cons_zero, List.set_cons_succ]
                    refine held_take (i := 3) (v := ?_) (some 71) rfl rfl (by kernel_rfl) (by kernel_rfl) (by kernel_rfl) (fun _ _ _ h => h) (Or.inl ⟨by rfl, ?_⟩) hHeld ?_
                    rotate_left 1
                    · intro w' (h : Rel V w'); obtain ⟨⟨x0, x1, x2, x3⟩, _⟩ := (HBX.out.rel h).four; obtain ⟨⟨y0, y1, y2, y3⟩, _⟩ := (HBY.out.rel h).four; go_simp; try with_reducible rfl
                    try simp only [Act.put, List.setIfInBounds_toArray, List.set_cons_zero, List.set_cons_succ]
                    refine held_take (i := 4) (v := ?_) (some 72) rfl rfl (by kernel_rfl) (by kernel_rfl) (by kernel_rfl) (fun _ _ _ h => h) (Or.inl ⟨by rfl, ?_⟩) hHeld ?_
                    rotate_left 1
                    · intro w' (h : Rel V w'); obtain ⟨⟨x0, x1, x2, x3⟩, _⟩ := (HBX.out.rel h).four; obtain ⟨⟨y0, y1, y2, y3⟩, _⟩ := (HBY.out.rel h).four; go_simp; try with_reducible rfl
                    try simp only [Act.put, List.setIfInBounds_toArray, List.set_cons_zero, List.set_cons_succ]
                    refine held_take (i := 5) (v := ?_) (some 73) rfl rfl (by kernel_rfl) (by kernel_rfl) (by kernel_rfl) (fun _ _ _ h => h) (Or.inl ⟨by rfl, ?_⟩) hHeld ?_
                    rotate_left 1
                    · intro w' (h : Rel V w'); obtain ⟨⟨x0, x1, x2, x3⟩, _⟩ := (HBX.out.rel h).four; obtain ⟨⟨y0, y1, y2, y3⟩, _⟩ := (HBY.out.rel h).four; go_simp; try with_reducible rfl
                    try simp only [Act.put, List.setIfInBounds_toArray, List.set_cons_zero, List.set_cons_succ]
                    refine held_take (i := 7) (v := ?_) (some 75) rfl rfl (by kernel_rfl) (by kernel_rfl) (by kernel_rfl) (fun _ _ _ h => h) (Or.inl ⟨by rfl, ?_⟩) hHeld ?_
                    rotate_left 1
                    · intro w' (h : Rel V w'); obtain ⟨⟨x0, x1, x2, x3⟩, _⟩ := (HBX.out.rel h).four; obtain ⟨⟨y0, y1, y2, y3⟩, _⟩ := (HBY.out.rel h).four; go_simp; try with_reducible rfl
                    try simp only [Act.put, List.setIfInBounds_toArray, List.set_cons_zero, List.set_cons_succ]
                    refine held_one (j := 6) (by kernel_rfl) rfl (fun K hK => ?_)
                    try simp only [List.getElem_toArray, List.getElem_cons_succ, List.getElem_cons_zero]
                    rw [if_pos (by rfl)]
                    go_simp
                    go_at_call 18
                    (with_reducible refine (HDY.out _ hHeld).mono ?_)
                    rintro e w2 ⟨rfl, h2⟩
                    refine hK.out _ _ (hHeld.trans h2) (fun hHeld => ?_)
                    clear hK K
                    try simp only [Act.put, List.setIfInBounds_toArray, List.set_cons_zero, List.set_cons_succ]
                    refine held_one (j := 8) (by kernel_rfl) rfl (fun K hK => ?_)
                    try simp only [List.getElem_toArray, List.getElem_cons_succ, List.getElem_cons_zero]
                    rw [if_pos (by rfl)]
                    go_simp
                    go_at_call 18
                    (with_reducible refine (HDX.out _ hHeld).mono ?_)
                    rintro e w2 ⟨rfl, h2⟩
                    refine hK.out _ _ (hHeld.trans h2) (fun hHeld => ?_)
                    clear hK K
                    try simp only [Act.put, List.setIfInBounds_toArray, List.set_cons_zero, List.set_cons_succ]
                    refine held_take (i := 9) (v := ?_) (some 77) rfl rfl (by kernel_rfl) (by kernel_rfl) (by kernel_rfl) (fun _ _ _ h => h) (Or.inl ⟨by rfl, ?_⟩) hHeld ?_
                    rotate_left 1
                    · intro w' (h : Rel V w'); obtain ⟨⟨x0, x1, x2, x3⟩, _⟩ := (HBX.out.rel h).four; obtain ⟨⟨y0, y1, y2, y3⟩, _⟩ := (HBY.out.rel h).four; go_simp; try with_reducible rfl
                    try simp only [Act.put, List.setIfInBounds_toArray, List.set_cons_zero, List.set_cons_succ]
                    refine held_take (i := 10) (v := ?_) (some 78) rfl rfl (by kernel_rfl) (by kernel_rfl) (by kernel_rfl) (fun _ _ _ h => h) (Or.inl ⟨by rfl, ?_⟩) hHeld ?_
                    rotate_left 1
                    · intro w' (h : Rel V w'); obtain ⟨⟨x0, x1, x2, x3⟩, _⟩ := (HBX.out.rel h).four; obtain ⟨⟨y0, y1, y2, y3⟩, _⟩ := (HBY.out.rel h).four; go_simp; try with_reducible rfl
                    try simp only [Act.put, List.setIfInBounds_toArray, List.set_cons_zero, List.set_cons_succ]
                    refine held_take (i := 11) (v := ?_) (some 79) rfl rfl (by kernel_rfl) (by kernel_rfl) (by kernel_rfl) (fun _ _ _ h => h) (Or.inl ⟨by rfl, ?_⟩) hHeld ?_
                    rotate_left 1
                    · intro w' (h : Rel V w'); obtain ⟨⟨x0, x1, x2, x3⟩, _⟩ := (HBX.out.rel h).four; obtain ⟨⟨y0, y1, y2, y3⟩, _⟩ := (HBY.out.rel h).four; go_simp; try with_reducible rfl
                    try simp only [Act.put, List.setIfInBounds_toArray, List.set_cons_zero, List.set_cons_succ]
                    refine held_take (i := 12) (v := ?_) (some 80) rfl rfl (by kernel_rfl) (by kernel_rfl) (by kernel_rfl) (fun _ _ _ h => h) (Or.inl ⟨by rfl, ?_⟩) hHeld ?_
                    rotate_left 1
                    · intro w' (h : Rel V w'); obtain ⟨⟨x0, x1, x2, x3⟩, _⟩ := (HBX.out.rel h).four; obtain ⟨⟨y0, y1, y2, y3⟩, _⟩ := (HBY.out.rel h).four; go_simp; try with_reducible rfl
                    try simp only [Act.put, List.setIfInBounds_toArray, List.set_cons_zero, List.set_cons_succ]
                    refine held_take (i := 14) (v := ?_) (some 82) rfl rfl (by kernel_rfl) (by kernel_rfl) (by kernel_rfl) (fun _ _ _ h => h) (Or.inl ⟨by rfl, ?_⟩) hHeld ?_
                    rotate_left 1
                    · intro w' (h : Rel V w'); obtain ⟨⟨x0, x1, x2, x3⟩, _⟩ := (HBX.out.rel h).four; obtain ⟨⟨y0, y1, y2, y3⟩, _⟩ := (HBY.out.rel h).four; go_simp; try with_reducible rfl
                    try simp only [Act.put, List.setIfInBounds_toArray, List.set_cons_zero, List.set_cons_succ]
                    refine held_one (j := 13) (by kernel_rfl) rfl (fun K hK => ?_)
                    try simp only [List.getElem_toArray, List.getElem_cons_succ, List.getElem_cons_zero]
                    rw [if_pos (by rfl)]
                    go_simp
                    go_at_call 16
                    (with_reducible refine (HSY.out _ hHeld).mono ?_)
                    rintro e w2 ⟨rfl, h2⟩
                    refine hK.out _ _ (hHeld.trans h2) (fun hHeld => ?_)
                    clear hK K
                    try simp only [Act.put, List.setIfInBounds_toArray, List.set_cons_zero, List.set_cons_succ]
                    refine held_one (j := 15) (by kernel_rfl) rfl (fun K hK => ?_)
                    try simp only [List.getElem_toArray, List.getElem_cons_succ, List.getElem_cons_zero]
                    rw [if_pos (by rfl)]
                    go_simp
                    go_at_call 16
                    (with_reducible refine (HSX.out _ hHeld).mono ?_)
                    rintro e w2 ⟨rfl, h2⟩
                    refine hK.out _ _ (hHeld.trans h2) (fun hHeld => ?_)
                    clear hK K
                    try simp only [Act.put, List.setIfInBounds_toArray, List.set_cons_zero, List.set_cons_succ]
                    refine held_take (i := 16) (v := ?_) (some 84) rfl rfl (by kernel_rfl) (by kernel_rfl) (by kernel_rfl) (fun _ _ _ h => h) (Or.inl ⟨by rfl, ?_⟩) hHeld ?_
                    rotate_left 1
                    · intro w' (h : Rel V w'); obtain ⟨⟨x0, x1, x2, x3⟩, _⟩ := (HBX.out.rel h).four; obtain ⟨⟨y0, y1, y2, y3⟩, _⟩ := (HBY.out.rel h).four; go_simp; try with_reducible rfl
                    try simp only [Act.put, List.setIfInBounds_toArray, List.set_cons_zero, List.set_cons_succ]
                    refine held_take (i := 17) (v := ?_) (some 85) rfl rfl (by kernel_rfl) (by kernel_rfl) (by kernel_rfl) (fun _ _ _ h => h) (Or.inl ⟨by rfl, ?_⟩) hHeld ?_
                    rotate_left 1
                    · intro w' (h : Rel V w'); obtain ⟨⟨x0, x1, x2, x3⟩, _⟩ := (HBX.out.rel h).four; obtain ⟨⟨y0, y1, y2, y3⟩, _⟩ := (HBY.out.rel h).four; go_simp; try with_reducible rfl
                    try simp only [Act.put, List.setIfInBounds_toArray, List.set_cons_zero, List.set_cons_succ]
                    refine wpAnyH_done (by kernel_rfl) ?_ _
                    obtain ⟨⟨z0', z1', z2', z3'⟩, _⟩ := (HBY.out.rel hHeld).four
                    obtain ⟨⟨t0, t1, t2, t3⟩, g0, g1, g2, g3⟩ := (HBX.out.rel hHeld).four
                    go_wp2_with (fail)
                    go_roundw
                    case rel => exact ⟨j + 1, by go_num, by omega, Lib.hid ⟨(_, _, _, _, _, _), Y, (HBX.out.rel hHeld).put4 _ _ _ _, (HEY.out.rel hHeld).grown (put4_grown _ _ _ _ _ _) (fun q hq => ⟨hq, fun e => by injection e; omega⟩), HPY.out⟩, Lib.hid (Rel.grown ((HW.out.trans HV.out).trans hHeld) (put4_grown _ _ _ _ _ _) (fun k e => by cases e; exact hlow))⟩
                    case measure => simp [RowKit.intOf]; omega
            · obtain rfl : l = [] := List.length_eq_zero_iff.1 (by omega)
              go_wp2_with (fail)
              go_ret
              exact ⟨rfl, HW.out⟩
          · go_wp2_with (fail)
            go_ret
            exact ⟨rfl, HW.out⟩
        · go_wp2_with (fail)
          go_ret
          exact ⟨rfl, HW.out⟩
end Go.Proofs.YtlflfffjaodhpaaDoor
