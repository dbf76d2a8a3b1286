/- Layer 17: what waits and who is dirty, merged, is what is wanted (QueueKeeps). -/
import Derived.Test.YtndmnlgancnbkaaZL
import Derived.Test.YtndmnlgancnbkaaZ00
import Derived.Test.YtndmnlgancnbkaaZ01
import Derived.Test.YtndmnlgancnbkaaZ02
import Derived.Test.YtndmnlgancnbkaaZ03
import Derived.Test.YtndmnlgancnbkaaZ05
import Derived.Test.YtndmnlgancnbkaaZ11
import Derived.Test.YtndmnlgancnbkaaZ12
import Derived.Test.YtndmnlgancnbkaaZ14
namespace Go.Proofs.Ytndmnlgancnbkaa
open Go.RowKit Go.Lib
set_option linter.unusedVariables false
set_option linter.unusedSimpArgs false
theorem ups_len_k {D : List Int} (h : Ups D) {lo hi : Int} (hb : ∀ d ∈ D, lo ≤ d ∧ d ≤ hi) (h0 : lo ≤ hi + 1) : (D.length : Int) ≤ hi - lo + 1 := by
  induction D generalizing lo with
  | nil => simp; omega
  | cons x t ih =>
    obtain ⟨h1, h2⟩ := ups_cons.1 h
    have hx := hb x (List.mem_cons_self ..)
    have := ih h2 (lo := x + 1) (fun d hd => ⟨by have := h1 d hd; omega, (hb d (List.mem_cons_of_mem _ hd)).2⟩) (by omega)
    rw [List.length_cons]
    omega
theorem dlen17 {m g : Int} {L : List It} {D : List Int} (h : QInv m g L D) : D.length ≤ 1000 := by
  have := ups_len_k h.ups h.low (by omega)
  omega
theorem make12 (w : World) : (Instr.makeSlice 47 (.int .i64 12) (.int .i64 12)).run Try.prog w = .ok (.slice (some ⟨w.heap.size, 0, none⟩) 12 12) (w.alloc (.cells (cellsB noMarks12) 4)) := by kernel_rfl
set_option maxRecDepth 100000 in
set_option maxHeartbeats 16000000 in
theorem QueueKeeps_at {QP : QpT} (H : QueueOk QP) (room : Int) (h1 : i64 room) (A : Option Addr) (c : Nat) (zs : List Qd) (w : World) (hr : Rel w w) (hZ : QuadsIn w A zs.length zs) :
    Calls Try.prog 4 #[.int .i64 room, .slice A zs.length c] w fun e w' => e = .returned (.bool true) ∧ Rel w w' := by
  have HR := Lib.hid hr
  have HH := Lib.hid H
  have HZ := Lib.hid hZ
  have HAw := Lib.hid (fun (w : World) (hr : Rel w w) => awake17_any H w hr)
  obtain ⟨N, hN⟩ : ∃ n, zs.length = n := ⟨_, rfl⟩
  have hN9 : N ≤ 9223372036854775807 := by rw [← hN]; exact hZ.2.1
  have HN := Lib.hid hN
  rw [hN]
  obtain ⟨o, ho⟩ : ∃ q, pk room 6 = q := ⟨_, rfl⟩
  have bo := pk_bd room 6 (by omega)
  rw [ho] at bo
  have P0 := Lib.hid (fun (w : World) => pk17_as room 6 o (Lib.hid ho) h1 (by omega) (by omega) w)
  have PZ := Lib.hid (fun (z n p : Int) (hz : i64 z) (hp : pk z n = p) (hn : 0 < n) (hn' : n ≤ 9223372036854775807) (w : World) => pk17_as z n p (Lib.hid hp) hz hn hn' w)
  have KN := Lib.hid (fun (w1 : World) (hr : Rel w w1) => qnew H (w0 := w) w1 hr (room := 1 + o) (age := 10) (by omega) (by omega) (by omega) (by omega))
  have hI0 := Lib.hid (keep_nil (m := 1 + o) (by omega) (by omega))
  have hmk := make12
  clear H hr hZ hN h1 ho
  go_enter Try.func4, Try.ntmps4
  go_upto_region 2 with (go_at_call 8; (with_reducible refine (HAw.out w HR.out).mono ?_); rintro e w1 ⟨rfl, r1⟩; have R1 := Lib.hid r1; clear r1)
  go_upto_region 3 with (first | (go_at_call 9; (with_reducible refine (P0.out _).mono ?_); rintro e wq ⟨rfl, rfl⟩) | (go_at_call 10; (with_reducible refine (KN.out _ R1.out).mono ?_); rintro e w2 ⟨gq, S2, rfl, h2, _, _⟩))
  obtain ⟨v, hv⟩ : ∃ v, Value.pointer (some ⟨gq, 0, none⟩) = v := ⟨_, rfl⟩
  rw [hv] at h2
  try rw [hv]
  clear hv KN R1 HAw
  go_upto_region 4 with (fail)
  have B3 := Lib.hid (Bx.new HH.out h2.out 4 (cellsB noMarks12))
  have h4 := Lib.hid (Qq.to HH.out h2.out (Rel.alloc h2.out.rel.self (.cells (cellsB noMarks12) 4)))
  obtain ⟨gs, hgs⟩ : ∃ g, w2.heap.size = g := ⟨_, rfl⟩
  have HG := Lib.hid (show w.heap.size ≤ gs by rw [← hgs]; exact h2.out.rel.size)
  try rw [hgs]
  rw [hgs] at B3
  obtain ⟨W4, hW4⟩ : ∃ W, w2.alloc (.cells (cellsB noMarks12) 4) = W := ⟨_, rfl⟩
  rw [hW4] at h4 B3
  try rw [hW4]
  clear hgs hW4 h2
  go_upto_region 5 with (fail)
  go_loopw [8] (fun i wr => ∃ (j : Nat) (f : List Bool) (L : List It) (D : List Int) (S : Nat → Prop), i = .int .i64 (j : Int) ∧ j ≤ N ∧ j ≤ 60 ∧ Hid (KeepI (1 + o) f L D) ∧ Hid (Qq QP w wr v S (1 + o) 10 L D) ∧ Hid (Bx S wr gs 4 (cellsB f))) (fun i _ => N - (RowKit.intOf i).toNat)
  case atStart => exact ⟨0, _, _, _, _, rfl, by omega, by omega, hI0, h4, B3⟩
  case round =>
    obtain ⟨j, f, L, D, S, rfl, hj, hj60, HA, HQ, HB⟩ := hrel
    by_cases hlt : j < N
    · by_cases hl60 : j < 60
      · have hij : (j : Int) < (N : Int) := by omega
        have hij2 : (j : Int) < 60 := by omega
        have hij0 : (0 : Int) ≤ (j : Int) := by omega
        obtain ⟨a, x0, x1, x2, x3, rfl, ha, c0, c1, c2, c3, _, i0, i1, i2, i3⟩ := quads_at (HZ.out.rel HQ.out.rel) HQ.out.rel.self j (by rw [HN.out]; exact hlt)
        obtain ⟨s', hs'⟩ : ∃ p, pk x1 12 = p := ⟨_, rfl⟩
        have bs := pk_bd x1 12 (by omega)
        rw [hs'] at bs
        obtain ⟨s, rfl⟩ : ∃ k : Nat, s' = (k : Int) := ⟨s'.toNat, by omega⟩
        obtain ⟨o4, ho4⟩ : ∃ p, pk x0 4 = p := ⟨_, rfl⟩
        have bo4 := pk_bd x0 4 (by omega)
        rw [ho4] at bo4
        obtain ⟨pr, hpr⟩ : ∃ p, pk x2 9 = p := ⟨_, rfl⟩
        have bpr := pk_bd x2 9 (by omega)
        rw [hpr] at bpr
        have P1 := Lib.hid (fun w => PZ.out x1 12 s i1 hs' (by omega) (by omega) w)
        have P2 := Lib.hid (fun w => PZ.out x0 4 o4 i0 ho4 (by omega) (by omega) w)
        have P3 := Lib.hid (fun w => PZ.out x2 9 pr i2 hpr (by omega) (by omega) w)
        have hs0 : (0 : Int) ≤ (s : Int) := by omega
        have hs12 : (s : Int) < 12 := by omega
        have hsn : s < 12 := by omega
        clear hs' ho4 hpr i0 i1 i2 i3 ha c3
        go_upto_region 8 with (go_at_call 9; (with_reducible refine (P1.out _).mono ?_); rintro e wq ⟨rfl, rfl⟩)
        go_upto_block 2 with (go_at_call 9; (with_reducible refine (P2.out _).mono ?_); rintro e wq ⟨rfl, rfl⟩)
        go_cut [] (fun wx => ∃ (f : List Bool) (L : List It) (D : List Int) (S : Nat → Prop), Hid (KeepI (1 + o) f L D) ∧ Hid (Qq QP w wx v S (1 + o) 10 L D) ∧ Hid (Bx S wx gs 4 (cellsB f)))
        case first =>
          have KW := Lib.hid (qwant HH.out HQ.out (s := (s : Int)) (p := pr) (t := (j : Int)) (in17 (by omega) (by omega)) (in17 (by omega) (by omega)) (in17 (by omega) (by omega)) rfl rfl rfl)
          have HIw := Lib.hid (keep_want (p := pr) (t := (j : Int)) HA.out hsn (by omega) (by omega))
          obtain ⟨b0, hb0⟩ : ∃ b, f[s]? = some b := (mark_at (f := f) (k := s) (by rw [HA.out.len]; exact hsn)).elim (fun h => ⟨true, h⟩) (fun h => ⟨false, h⟩)
          have HB0 := Lib.hid hb0
          have ho : o4 = 0 ∨ o4 = 1 ∨ o4 = 2 ∨ o4 = 3 := by omega
          clear bo4 hb0
          rcases ho with rfl | rfl | rfl | rfl
          · as_aux_lemma =>
            go_wp2_with (first | (go_at_call 9; (with_reducible refine (P3.out _).mono ?_); rintro e wq ⟨rfl, rfl⟩) | (go_at_call 12; (with_reducible refine KW.out.mono ?_); rintro e w5 ⟨S5, rfl, h5, st5⟩; have B5 := Lib.hid (HB.out.st st5.out); have m1 := (B5.out.marked HB0.out).1; have m2 := (B5.out.marked HB0.out).2))
            go_meet
            exact ⟨_, _, _, S5, HIw, Lib.hid (Qq.put HH.out h5.out (p := ⟨gs, s, none⟩) B5.out.2 HG.out (.bool true)), Lib.hid (B5.out.mark s true)⟩
          · as_aux_lemma =>
            go_wp2_with (first | (go_at_call 9; (with_reducible refine (P3.out _).mono ?_); rintro e wq ⟨rfl, rfl⟩) | (go_at_call 12; (with_reducible refine KW.out.mono ?_); rintro e w5 ⟨S5, rfl, h5, st5⟩; have B5 := Lib.hid (HB.out.st st5.out); have m1 := (B5.out.marked HB0.out).1; have m2 := (B5.out.marked HB0.out).2))
            go_meet
            exact ⟨_, _, _, S5, HIw, Lib.hid (Qq.put HH.out h5.out (p := ⟨gs, s, none⟩) B5.out.2 HG.out (.bool true)), Lib.hid (B5.out.mark s true)⟩
          · rcases keep_next (t := (j : Int)) HA.out with ⟨e0, hI⟩ | ⟨x, hx, e1, e2, fx, hI⟩
            · as_aux_lemma =>
              have KX := Lib.hid (qnext HH.out HQ.out (t := (j : Int)) (x := 0) (b := false) (in17 (by omega) (by omega)) (by rw [e0]; rfl) (by rw [e0]; rfl) rfl rfl)
              have HI := Lib.hid hI
              clear hI
              go_wp2_with (go_at_call 14; (with_reducible refine KX.out.mono ?_); rintro e w5 ⟨S5, rfl, h5, st5⟩; have B5 := Lib.hid (HB.out.st st5.out))
              go_meet
              exact ⟨_, _, _, S5, HI, h5, B5⟩
            · as_aux_lemma =>
              have KX := Lib.hid (qnext HH.out HQ.out (t := (j : Int)) (x := (x : Int)) (b := true) (in17 (by omega) (by omega)) e2 e1 rfl rfl)
              have HI := Lib.hid hI
              have HFX := Lib.hid fx
              have cx0 : (0 : Int) ≤ (x : Int) := by omega
              have cx1 : (x : Int) < 12 := by omega
              have cx2 : ¬ (x : Int) < 0 := by omega
              have cx3 : ¬ 12 ≤ (x : Int) := by omega
              clear hI fx e1 e2
              go_wp2_with (go_at_call 14; (with_reducible refine KX.out.mono ?_); rintro e w5 ⟨S5, rfl, h5, st5⟩; have B5 := Lib.hid (HB.out.st st5.out); have m1 := (B5.out.marked HFX.out).1; have m2 := (B5.out.marked HFX.out).2)
              go_meet
              exact ⟨_, _, _, S5, HI, Lib.hid (Qq.put HH.out h5.out (p := ⟨gs, x, none⟩) B5.out.2 HG.out (.bool false)), Lib.hid (B5.out.mark x false)⟩
          · as_aux_lemma =>
            have HI := Lib.hid (keep_drop HA.out HB0.out).2
            have hdb := (keep_drop HA.out HB0.out).1
            have HRd := Lib.hid (HQ.out.rel.self.drew)
            have hdr : Qq QP w wr.drew v S (1 + o) 10 L D := Qq.to HH.out HQ.out HRd.out
            have KD := Lib.hid (fun (w1 : World) (h : Qq QP w w1 v S (1 + o) 10 L D) => qdrop HH.out h (s := (s : Int)) (in17 (by omega) (by omega)) hdb rfl rfl)
            have m0 := (HB.out.marked HB0.out).1
            clear hdb
            go_upto_region 9 with (fail)
            refine wp_region_held_drew (S := (fun w' => w'.cell? ⟨gs, s, none⟩ = some (.bool b0))) (by kernel_rfl) m0 (fun hHeld => ?_)
            refine held_take (i := 0) (v := ?_) (some 47) rfl rfl (by kernel_rfl) (by kernel_rfl) (by kernel_rfl) (fun _ _ _ h => h) (Or.inl ⟨by rfl, ?_⟩) hHeld ?_
            rotate_left 1
            · intro w' (s0 : w'.cell? ⟨gs, s, none⟩ = some (.bool b0)); go_simp; try with_reducible rfl
            try simp only [Act.put, List.setIfInBounds_toArray, List.set_cons_zero, List.set_cons_succ]
            refine held_take (i := 1) (v := ?_) (some 48) rfl rfl (by kernel_rfl) (by kernel_rfl) (by kernel_rfl) (fun _ _ _ h => h) (Or.inl ⟨by rfl, ?_⟩) hHeld ?_
            rotate_left 1
            · intro w' (s0 : w'.cell? ⟨gs, s, none⟩ = some (.bool b0)); go_simp; try with_reducible rfl
            try simp only [Act.put, List.setIfInBounds_toArray, List.set_cons_zero, List.set_cons_succ]
            refine held_take (i := 3) (v := ?_) (some 50) rfl rfl (by kernel_rfl) (by kernel_rfl) (by kernel_rfl) (fun _ _ _ h => h) (Or.inl ⟨by rfl, ?_⟩) hHeld ?_
            rotate_left 1
            · intro w' (s0 : w'.cell? ⟨gs, s, none⟩ = some (.bool b0)); go_simp; try with_reducible rfl
            try simp only [Act.put, List.setIfInBounds_toArray, List.set_cons_zero, List.set_cons_succ]
            refine held_take (i := 4) (v := ?_) (some 51) rfl rfl (by kernel_rfl) (by kernel_rfl) (by kernel_rfl) (fun _ _ _ h => h) (Or.inl ⟨by rfl, ?_⟩) hHeld ?_
            rotate_left 1
            · intro w' (s0 : w'.cell? ⟨gs, s, none⟩ = some (.bool b0)); go_simp; try with_reducible rfl
            try simp only [Act.put, List.setIfInBounds_toArray, List.set_cons_zero, List.set_cons_succ]
            refine held_take (i := 5) (v := ?_) (some 52) rfl rfl (by kernel_rfl) (by kernel_rfl) (by kernel_rfl) (fun _ _ _ h => h) (Or.inl ⟨by rfl, ?_⟩) hHeld ?_
            rotate_left 1
            · intro w' (s0 : w'.cell? ⟨gs, s, none⟩ = some (.bool b0)); go_simp; try with_reducible rfl
            try simp only [Act.put, List.setIfInBounds_toArray, List.set_cons_zero, List.set_cons_succ]
            refine held_take (i := 6) (v := ?_) (some 53) rfl rfl (by kernel_rfl) (by kernel_rfl) (by kernel_rfl) (fun _ _ _ h => h) (Or.inl ⟨by rfl, ?_⟩) hHeld ?_
            rotate_left 1
            · intro w' (s0 : w'.cell? ⟨gs, s, none⟩ = some (.bool b0)); go_simp; try with_reducible rfl
            try simp only [Act.put, List.setIfInBounds_toArray, List.set_cons_zero, List.set_cons_succ]
            refine held_one (j := 2) (by kernel_rfl) rfl (fun K hK => ?_)
            try simp only [List.getElem_toArray, List.getElem_cons_succ, List.getElem_cons_zero]
            rw [if_pos (by rfl)]
            go_simp
            go_at_call 16
            (with_reducible refine (KD.out _ hdr).mono ?_)
            rintro e w5 ⟨S5, rfl, h5, st5⟩
            have B5 := Lib.hid ((HB.out.rel HRd.out).st st5.out)
            have m1 := (B5.out.marked HB0.out).1
            refine hK.out _ _ m1 (fun hHeld => ?_)
            clear hK K
            try simp only [Act.put, List.setIfInBounds_toArray, List.set_cons_zero, List.set_cons_succ]
            refine held_take (i := 7) (v := ?_) (some 54) rfl rfl (by kernel_rfl) (by kernel_rfl) (by kernel_rfl) (fun _ _ _ h => h) (Or.inl ⟨by rfl, ?_⟩) hHeld ?_
            rotate_left 1
            · intro w' (s0 : w'.cell? ⟨gs, s, none⟩ = some (.bool b0)); go_simp; try with_reducible rfl
            try simp only [Act.put, List.setIfInBounds_toArray, List.set_cons_zero, List.set_cons_succ]
            refine wpAnyH_done (by kernel_rfl) ?_ _
            have m2 := (B5.out.marked HB0.out).2
            have hbb : (b0 != b0) = false := by simp
            go_wp2_with (fail)
            go_meet
            exact ⟨_, _, _, S5, HI, Lib.hid (Qq.put HH.out h5.out (p := ⟨gs, s, none⟩) B5.out.2 HG.out (.bool false)), Lib.hid (B5.out.mark s false)⟩
        obtain ⟨f, L, D, S, HA, HQ, HB⟩ := hcut
        have hroom := HA.out.inv.len
        obtain ⟨nW, hnW⟩ : ∃ n, L.length = n := ⟨_, rfl⟩
        obtain ⟨nD, hnD⟩ : ∃ n, D.length = n := ⟨_, rfl⟩
        rw [hnW] at hroom
        have HNW := Lib.hid (show (keysQ L).length = nW by unfold keysQ; rw [List.length_map]; exact hnW)
        have HND := Lib.hid hnD
        have KWt := Lib.hid (qwait HH.out HQ.out hnW rfl)
        have KDt := Lib.hid (fun (w1 : World) (h : Qq QP w w1 v S (1 + o) 10 L D) => qdirty HH.out h hnD)
        clear hnW hnD P1 P2 P3 c0 c1 c2
        as_aux_lemma =>
        go_upto_region 23 with (go_at_call 19; (with_reducible refine KWt.out.mono ?_); rintro e w5 ⟨AW, cW, rfl, n5, r5⟩)
        have h5 := Lib.hid (Qq.to HH.out HQ.out r5.out)
        have B5 := Lib.hid (HB.out.rel r5.out)
        go_upto_region 24 with (go_at_call 21; (with_reducible refine (KDt.out _ h5.out).mono ?_); rintro e w6 ⟨AD, cD, rfl, n6, r6⟩)
        have h6 := Lib.hid (Qq.to HH.out h5.out r6.out)
        have B6 := Lib.hid (B5.out.rel r6.out)
        have NW6 := Lib.hid (n5.out.1.rel r6.out)
        have ND6 := Lib.hid n6.out.1
        clear KWt KDt h5 B5 n5 r5 n6 r6 HQ HB
        obtain ⟨t0, hi0, hz0, hz1, hz2⟩ := info_parts int_info17
        go_upto_region 26 with (fail)
        have R6 := Lib.hid (h6.out.rel.self)
        go_loopw [14, 15] (fun o2 k wx => ∃ (q l : Nat) (A2 : Option Addr) (c2 : Nat), o2 = .slice A2 l c2 ∧ k = .int .i64 (q : Int) ∧ q ≤ 12 ∧ l ≤ q ∧ Hid ((markL f q).length = l) ∧ Hid (RowOwn 3 clI17 1 wx w6.heap.size (.slice A2 l c2) (markL f q)) ∧ Hid (Rel w6 wx)) (fun _ k _ => 12 - (RowKit.intOf k).toNat)
        case atStart => exact ⟨0, 0, none, 0, rfl, rfl, by omega, by omega, Lib.hid rfl, Lib.hid (RowOwn.nil _ _ _), R6⟩
        case round =>
          obtain ⟨q, l, A2, c2, rfl, rfl, hq, hlq, HL, HO, R7⟩ := hrel
          by_cases hq12 : q < 12
          · have hqi : (q : Int) < 12 := by omega
            have hq0 : (0 : Int) ≤ (q : Int) := by omega
            have BQ := Lib.hid (B6.out.rel R7.out)
            rcases mark_at (f := f) (k := q) (by rw [HA.out.len]; exact hq12) with hf | hf
            · as_aux_lemma =>
              have m1 := (BQ.out.marked hf).1
              have HT := Lib.hid (show markL f (q + 1) = markL f q ++ [(q : Int)] by conv => lhs; unfold markL; rw [if_pos hf])
              have HRow := Lib.hid (show (wr.alloc (.cells #[.int .i64 (q : Int)] 3)).ownsRow w6.heap.size 3 1 (.slice A2 l c2) l ((markL f q).flatMap clI17) from by have := HO.out.row; rw [HL.out] at this; exact World.ownsRow.alloc this _)
              have hsz := Lib.hid (show w6.heap.size ≤ (wr.alloc (.cells #[.int .i64 (q : Int)] 3)).heap.size by rw [World.size_alloc]; have := R7.out.size; omega)
              clear hf
              go_wp2_with (at_builtin; (refine wpList_append_lies _ rfl _ _ 32 rfl w6.heap.size 3 t0 (.int .i64 0) 1 8 Try.underlying32 hi0 hz0 hz1 hz2 rfl (by decide) (.slice A2 l c2) l ((markL f q).flatMap clI17) rfl HRow.out ⟨wr.heap.size, 0, none⟩ 1 1 [.int .i64 (q : Int)] rfl rfl (news17 wr (.int .i64 (q : Int)) 3) (one_cell17 (q : Int)) (by decide) (by unfold maxLen; omega) (by omega) hsz.out _ rfl ?_); intro g2 c3 w8 own2 gr2 at2 lt2; have HO2 := Lib.hid (RowOwn.more HL.out own2); have R8 := Lib.hid ((R7.out.alloc (.cells #[.int .i64 (q : Int)] 3)).grown gr2 (fun q hq => (HRow.out.lt q hq).1)); clear own2 gr2 at2 lt2 HRow)
              go_roundw
              case rel => exact ⟨q + 1, l + 1, _, c3, rfl, by go_num, by omega, by omega, Lib.hid (by rw [HT.out, List.length_append, HL.out]; rfl), by rw [HT.out]; exact HO2, R8⟩
              case measure => simp [RowKit.intOf]; omega
            · as_aux_lemma =>
              have m1 := (BQ.out.marked hf).1
              have HT := Lib.hid (show markL f (q + 1) = markL f q by conv => lhs; unfold markL; rw [if_neg (by rw [hf]; simp)])
              clear hf
              go_wp2_with (fail)
              go_roundw
              case rel => exact ⟨q + 1, l, A2, c2, rfl, by go_num, by omega, by omega, by rw [HT.out]; exact HL, by rw [HT.out]; exact HO, R7⟩
              case measure => simp [RowKit.intOf]; omega
          · obtain rfl : q = 12 := by omega
            obtain ⟨wo, rfl⟩ : ∃ wo : World, wo = wr := ⟨_, rfl⟩
            have NW7 := Lib.hid (NW6.out.rel R7.out)
            have ND7 := Lib.hid (ND6.out.rel R7.out)
            have R9s := Lib.hid (R7.out.self)
            have hnW : nW ≤ 1000 := by omega
            have hnD : nD ≤ 1000 := by have := dlen17 HA.out.inv; rw [HND.out] at this; omega
            go_upto_region 33 with (fail)
            go_loopw [16, 17, 18] (fun g a b wx => ∃ (a' b' : Nat) (got : List Int) (A3 : Option Addr) (c3 : Nat), g = .slice A3 (a' + b') c3 ∧ a = .int .i64 (a' : Int) ∧ b = .int .i64 (b' : Int) ∧ a' ≤ nW ∧ b' ≤ nD ∧ Hid (MergI (keysQ L) D a' b' got) ∧ Hid (RowOwn 3 clI17 1 wx wo.heap.size (.slice A3 (a' + b') c3) got) ∧ Hid (Rel wo wx)) (fun _ a b _ => (nW - (RowKit.intOf a).toNat) + (nD - (RowKit.intOf b).toNat))
            case atStart => exact ⟨0, 0, [], none, 0, rfl, rfl, rfl, by omega, by omega, Lib.hid (merg_nil _ _), Lib.hid (RowOwn.nil _ _ _), R9s⟩
            case round =>
              obtain ⟨a, b, got, A3, c3, rfl, rfl, rfl, ha, hb, HM, HO3, R9⟩ := hrel
              have ia0 : (0 : Int) ≤ (a : Int) := by omega
              have ib0 : (0 : Int) ≤ (b : Int) := by omega
              by_cases hbD : b < nD
              · obtain ⟨ad, y, rfl, cy, ey, _, _⟩ := nums_cell ND7.out R9.out b (by rw [HND.out]; exact hbD)
                have HYE := Lib.hid ey
                have hd1 : decide ((nD : Int) ≤ (b : Int)) = false := decide_eq_false (by omega)
                have hd1n : decide (nD ≤ b) = false := decide_eq_false (by omega)
                have ib : (b : Int) < (nD : Int) := by omega
                clear ey
                by_cases haW : a < nW
                · obtain ⟨aw, x, rfl, cx, ex, _, _⟩ := nums_cell NW7.out R9.out a (by rw [HNW.out]; exact haW)
                  have HXE := Lib.hid ex
                  have hd2 : decide ((a : Int) < (nW : Int)) = true := decide_eq_true (by omega)
                  have hd2n : decide (a < nW) = true := decide_eq_true (by omega)
                  have ia : (a : Int) < (nW : Int) := by omega
                  have HNE := Lib.hid (show x ≠ y from by rw [← HXE.out, ← HYE.out]; exact keep_ne HA.out (show a < (keysQ L).length by rw [HNW.out]; exact haW) (show b < D.length by rw [HND.out]; exact hbD))
                  clear ex
                  by_cases hxy : x < y
                  · have hd3 : decide (x < y) = true := decide_eq_true hxy
                    have HCmp := Lib.hid (show ∀ (hb : b < D.length), (keysQ L)[a]'(by rw [HNW.out]; exact haW) < D[b] from fun hb => by have e1 := HXE.out; have e2 := HYE.out; rw [e1, e2]; exact hxy)
                    as_aux_lemma =>
                    have HM2 := Lib.hid (show MergI (keysQ L) D (a + 1) (b) (got ++ [x]) by have h : MergI (keysQ L) D (a + 1) (b) (got ++ [(keysQ L)[a]'(by rw [HNW.out]; exact haW)]) := merg_w (srt_keys HA.out.inv.srt) HA.out.inv.ups HM.out (show a < (keysQ L).length by rw [HNW.out]; exact haW) HCmp.out; rw [HXE.out] at h; exact h)
                    go_wp2_with (fail)
                    go_big_quiet (fail)
                    try clear hd1
                    obtain ⟨w9, hw9⟩ : ∃ W, wr.drewN nq = W := ⟨_, rfl⟩
                    have R9d := Lib.hid (R9.out.drewN nq)
                    have HO9 := Lib.hid (show RowOwn 3 clI17 1 (wr.drewN nq) wo.heap.size (.slice A3 (a + b) c3) got from HO3.out)
                    have c9 : (wr.drewN nq).cell? (aw.add a) = some (.int .i64 x) := cx
                    rw [hw9] at R9d HO9 c9
                    try rw [hw9]
                    clear hw9 HO3 R9
                    clear cx
                    have HRow := Lib.hid (show (w9.alloc (.cells #[.int .i64 x] 3)).ownsRow wo.heap.size 3 1 (.slice A3 (a + b) c3) (a + b) (got.flatMap clI17) from by have := HO9.out.row; rw [HM.out.len] at this; exact World.ownsRow.alloc (w := w9) this _)
                    have hsz := Lib.hid (show wo.heap.size ≤ (w9.alloc (.cells #[.int .i64 x] 3)).heap.size by rw [World.size_alloc]; have := R9d.out.size; omega)
                    go_wp2_with (at_builtin; (refine wpList_append_lies _ rfl _ _ 32 rfl wo.heap.size 3 t0 (.int .i64 0) 1 8 Try.underlying32 hi0 hz0 hz1 hz2 rfl (by decide) (.slice A3 (a + b) c3) (a + b) (got.flatMap clI17) rfl HRow.out ⟨w9.heap.size, 0, none⟩ 1 1 [.int .i64 x] rfl rfl (news17 w9 (.int .i64 x) 3) (one_cell17 x) (by decide) (by unfold maxLen; omega) (by omega) hsz.out _ rfl ?_); intro g2 c4 w8 own2 gr2 at2 lt2; have HO4 := Lib.hid (RowOwn.more HM.out.len own2); have R8 := Lib.hid ((R9d.out.alloc (.cells #[.int .i64 x] 3)).grown gr2 (fun q hq => (HRow.out.lt q hq).1)); clear own2 gr2 at2 lt2 HRow)
                    go_roundw
                    case rel => exact ⟨_, _, _, _, _, _, _, _, _, _, _, _, _, _, _, _, _, _, _, _, _, _, _, _, _, _, _, _, _, _, _, _, _, _, _, _, _, _, _, _, _, _, _, _, _, _, _, _, _, _, _, _, ⟨a + 1, b, got ++ [x], _, c4, by rw [Nat.add_right_comm], by go_num, rfl, by omega, by omega, HM2, by rw [Nat.add_right_comm]; exact HO4, R8⟩, rfl⟩
                    case measure => simp [RowKit.intOf]; omega
                  · have hd3 : decide (x < y) = false := decide_eq_false hxy
                    have HCmp := Lib.hid (show ∀ (ha : a < (keysQ L).length), D[b]'(by rw [HND.out]; exact hbD) < (keysQ L)[a] from fun hb => by have e1 := HXE.out; have e2 := HYE.out; have e3 := HNE.out; rw [e1, e2]; omega)
                    as_aux_lemma =>
                    have HM2 := Lib.hid (show MergI (keysQ L) D (a) (b + 1) (got ++ [y]) by have h : MergI (keysQ L) D (a) (b + 1) (got ++ [D[b]'(by rw [HND.out]; exact hbD)]) := merg_d (srt_keys HA.out.inv.srt) HA.out.inv.ups HM.out (show b < D.length by rw [HND.out]; exact hbD) HCmp.out; rw [HYE.out] at h; exact h)
                    go_wp2_with (fail)
                    go_big_quiet (fail)
                    try clear hd1
                    obtain ⟨w9, hw9⟩ : ∃ W, wr.drewN nq = W := ⟨_, rfl⟩
                    have R9d := Lib.hid (R9.out.drewN nq)
                    have HO9 := Lib.hid (show RowOwn 3 clI17 1 (wr.drewN nq) wo.heap.size (.slice A3 (a + b) c3) got from HO3.out)
                    have c9 : (wr.drewN nq).cell? (ad.add b) = some (.int .i64 y) := cy
                    rw [hw9] at R9d HO9 c9
                    try rw [hw9]
                    clear hw9 HO3 R9
                    clear cy
                    have HRow := Lib.hid (show (w9.alloc (.cells #[.int .i64 y] 3)).ownsRow wo.heap.size 3 1 (.slice A3 (a + b) c3) (a + b) (got.flatMap clI17) from by have := HO9.out.row; rw [HM.out.len] at this; exact World.ownsRow.alloc (w := w9) this _)
                    have hsz := Lib.hid (show wo.heap.size ≤ (w9.alloc (.cells #[.int .i64 y] 3)).heap.size by rw [World.size_alloc]; have := R9d.out.size; omega)
                    go_wp2_with (at_builtin; (refine wpList_append_lies _ rfl _ _ 32 rfl wo.heap.size 3 t0 (.int .i64 0) 1 8 Try.underlying32 hi0 hz0 hz1 hz2 rfl (by decide) (.slice A3 (a + b) c3) (a + b) (got.flatMap clI17) rfl HRow.out ⟨w9.heap.size, 0, none⟩ 1 1 [.int .i64 y] rfl rfl (news17 w9 (.int .i64 y) 3) (one_cell17 y) (by decide) (by unfold maxLen; omega) (by omega) hsz.out _ rfl ?_); intro g2 c4 w8 own2 gr2 at2 lt2; have HO4 := Lib.hid (RowOwn.more HM.out.len own2); have R8 := Lib.hid ((R9d.out.alloc (.cells #[.int .i64 y] 3)).grown gr2 (fun q hq => (HRow.out.lt q hq).1)); clear own2 gr2 at2 lt2 HRow)
                    go_roundw
                    case rel => exact ⟨_, _, _, _, _, _, _, _, _, _, _, _, _, _, _, _, _, _, _, _, _, _, _, _, _, _, _, _, _, _, _, _, _, _, _, _, _, _, _, _, _, _, _, _, _, _, _, _, _, _, _, _, ⟨a, b + 1, got ++ [y], _, c4, by rw [← Nat.add_assoc], rfl, by go_num, by omega, by omega, HM2, by rw [← Nat.add_assoc]; exact HO4, R8⟩, rfl⟩
                    case measure => simp [RowKit.intOf]; omega
                · have hd2 : decide ((a : Int) < (nW : Int)) = false := decide_eq_false (by omega)
                  have hd2n : decide (a < nW) = false := decide_eq_false (by omega)
                  have HCmp := Lib.hid (show ∀ (ha : a < (keysQ L).length), D[b]'(by rw [HND.out]; exact hbD) < (keysQ L)[a] from fun hb => absurd hb (by rw [HNW.out]; exact haW))
                  as_aux_lemma =>
                  have ia : ¬ (a : Int) < (nW : Int) := by omega
                  have HM2 := Lib.hid (show MergI (keysQ L) D (a) (b + 1) (got ++ [y]) by have h : MergI (keysQ L) D (a) (b + 1) (got ++ [D[b]'(by rw [HND.out]; exact hbD)]) := merg_d (srt_keys HA.out.inv.srt) HA.out.inv.ups HM.out (show b < D.length by rw [HND.out]; exact hbD) HCmp.out; rw [HYE.out] at h; exact h)
                  go_wp2_with (fail)
                  go_big_quiet (fail)
                  try clear hd1
                  obtain ⟨w9, hw9⟩ : ∃ W, wr.drewN nq = W := ⟨_, rfl⟩
                  have R9d := Lib.hid (R9.out.drewN nq)
                  have HO9 := Lib.hid (show RowOwn 3 clI17 1 (wr.drewN nq) wo.heap.size (.slice A3 (a + b) c3) got from HO3.out)
                  have c9 : (wr.drewN nq).cell? (ad.add b) = some (.int .i64 y) := cy
                  rw [hw9] at R9d HO9 c9
                  try rw [hw9]
                  clear hw9 HO3 R9
                  clear cy
                  have HRow := Lib.hid (show (w9.alloc (.cells #[.int .i64 y] 3)).ownsRow wo.heap.size 3 1 (.slice A3 (a + b) c3) (a + b) (got.flatMap clI17) from by have := HO9.out.row; rw [HM.out.len] at this; exact World.ownsRow.alloc (w := w9) this _)
                  have hsz := Lib.hid (show wo.heap.size ≤ (w9.alloc (.cells #[.int .i64 y] 3)).heap.size by rw [World.size_alloc]; have := R9d.out.size; omega)
                  go_wp2_with (at_builtin; (refine wpList_append_lies _ rfl _ _ 32 rfl wo.heap.size 3 t0 (.int .i64 0) 1 8 Try.underlying32 hi0 hz0 hz1 hz2 rfl (by decide) (.slice A3 (a + b) c3) (a + b) (got.flatMap clI17) rfl HRow.out ⟨w9.heap.size, 0, none⟩ 1 1 [.int .i64 y] rfl rfl (news17 w9 (.int .i64 y) 3) (one_cell17 y) (by decide) (by unfold maxLen; omega) (by omega) hsz.out _ rfl ?_); intro g2 c4 w8 own2 gr2 at2 lt2; have HO4 := Lib.hid (RowOwn.more HM.out.len own2); have R8 := Lib.hid ((R9d.out.alloc (.cells #[.int .i64 y] 3)).grown gr2 (fun q hq => (HRow.out.lt q hq).1)); clear own2 gr2 at2 lt2 HRow)
                  go_roundw
                  case rel => exact ⟨_, _, _, _, _, _, _, _, _, _, _, _, _, _, _, _, _, _, _, _, _, _, _, _, _, _, _, _, _, _, _, _, _, _, _, _, _, _, _, _, _, _, _, _, _, _, _, _, _, _, _, _, ⟨a, b + 1, got ++ [y], _, c4, by rw [← Nat.add_assoc], rfl, by go_num, by omega, by omega, HM2, by rw [← Nat.add_assoc]; exact HO4, R8⟩, rfl⟩
                  case measure => simp [RowKit.intOf]; omega
              · have ib : ¬ (b : Int) < (nD : Int) := by omega
                have hd1 : decide ((nD : Int) ≤ (b : Int)) = true := decide_eq_true (by omega)
                have hd1n : decide (nD ≤ b) = true := decide_eq_true (by omega)
                by_cases haW : a < nW
                · obtain ⟨aw, x, rfl, cx, ex, _, _⟩ := nums_cell NW7.out R9.out a (by rw [HNW.out]; exact haW)
                  have HXE := Lib.hid ex
                  have ia : (a : Int) < (nW : Int) := by omega
                  have HCmp := Lib.hid (show ∀ (hb : b < D.length), (keysQ L)[a]'(by rw [HNW.out]; exact haW) < D[b] from fun hb => absurd hb (by rw [HND.out]; exact hbD))
                  clear ex
                  as_aux_lemma =>
                  have HM2 := Lib.hid (show MergI (keysQ L) D (a + 1) (b) (got ++ [x]) by have h : MergI (keysQ L) D (a + 1) (b) (got ++ [(keysQ L)[a]'(by rw [HNW.out]; exact haW)]) := merg_w (srt_keys HA.out.inv.srt) HA.out.inv.ups HM.out (show a < (keysQ L).length by rw [HNW.out]; exact haW) HCmp.out; rw [HXE.out] at h; exact h)
                  go_wp2_with (fail)
                  go_big_quiet (fail)
                  try clear hd1
                  obtain ⟨w9, hw9⟩ : ∃ W, wr.drewN nq = W := ⟨_, rfl⟩
                  have R9d := Lib.hid (R9.out.drewN nq)
                  have HO9 := Lib.hid (show RowOwn 3 clI17 1 (wr.drewN nq) wo.heap.size (.slice A3 (a + b) c3) got from HO3.out)
                  have c9 : (wr.drewN nq).cell? (aw.add a) = some (.int .i64 x) := cx
                  rw [hw9] at R9d HO9 c9
                  try rw [hw9]
                  clear hw9 HO3 R9
                  clear cx
                  have HRow := Lib.hid (show (w9.alloc (.cells #[.int .i64 x] 3)).ownsRow wo.heap.size 3 1 (.slice A3 (a + b) c3) (a + b) (got.flatMap clI17) from by have := HO9.out.row; rw [HM.out.len] at this; exact World.ownsRow.alloc (w := w9) this _)
                  have hsz := Lib.hid (show wo.heap.size ≤ (w9.alloc (.cells #[.int .i64 x] 3)).heap.size by rw [World.size_alloc]; have := R9d.out.size; omega)
                  go_wp2_with (at_builtin; (refine wpList_append_lies _ rfl _ _ 32 rfl wo.heap.size 3 t0 (.int .i64 0) 1 8 Try.underlying32 hi0 hz0 hz1 hz2 rfl (by decide) (.slice A3 (a + b) c3) (a + b) (got.flatMap clI17) rfl HRow.out ⟨w9.heap.size, 0, none⟩ 1 1 [.int .i64 x] rfl rfl (news17 w9 (.int .i64 x) 3) (one_cell17 x) (by decide) (by unfold maxLen; omega) (by omega) hsz.out _ rfl ?_); intro g2 c4 w8 own2 gr2 at2 lt2; have HO4 := Lib.hid (RowOwn.more HM.out.len own2); have R8 := Lib.hid ((R9d.out.alloc (.cells #[.int .i64 x] 3)).grown gr2 (fun q hq => (HRow.out.lt q hq).1)); clear own2 gr2 at2 lt2 HRow)
                  go_roundw
                  case rel => exact ⟨_, _, _, _, _, _, _, _, _, _, _, _, _, _, _, _, _, _, _, _, _, _, _, _, _, _, _, _, _, _, _, _, _, _, _, _, _, _, _, _, _, _, _, _, _, _, _, _, _, _, _, _, ⟨a + 1, b, got ++ [x], _, c4, by rw [Nat.add_right_comm], by go_num, rfl, by omega, by omega, HM2, by rw [Nat.add_right_comm]; exact HO4, R8⟩, rfl⟩
                  case measure => simp [RowKit.intOf]; omega
                · have ia : ¬ (a : Int) < (nW : Int) := by omega
                  have HE := Lib.hid (show got = markL f 12 from merg_end HA.out HM.out (show (keysQ L).length ≤ a by rw [HNW.out]; omega) (by rw [HND.out]; omega))
                  obtain rfl : l = a + b := by have h1 := HL.out; have h2 := HM.out.len; rw [HE.out] at h2; omega
                  have KI := Lib.hid (show Calls Try.prog 18 #[.slice A3 (a + b) c3, .slice A2 (a + b) c2] wr fun e w' => e = .returned (.bool true) ∧ Hid (Rel wr w') from by
                    have hz : ∀ z ∈ markL f 12, i64 z := fun z hz => by have := markL_mem.1 hz; exact ⟨by omega, by omega⟩
                    have ho := HO3.out
                    rw [HE.out, ← HL.out] at ho
                    have ho2 := HO.out
                    rw [← HL.out] at ho2
                    have n1 := (nums_of ho hz).1
                    have n2 := (nums_of ho2 hz).1.rel R9.out
                    have := ints17_any wr R9.out.self n1 n2
                    rw [HL.out] at this
                    exact this.mono fun e w' h => ⟨h.1, Lib.hid h.2⟩)
                  have hn1 : ¬ 1 + o < (nW : Int) := by omega
                  have h7 := Lib.hid (Qq.to HH.out h6.out (R7.out.trans R9.out))
                  have B7 := Lib.hid (B6.out.rel (R7.out.trans R9.out))
                  go_wp2_with (first | (go_at_call 18; (with_reducible refine KI.out.mono ?_); rintro e w10 ⟨rfl, r10⟩) | (go_at_call 9; (with_reducible refine (P0.out _).mono ?_); rintro e wq ⟨rfl, rfl⟩))
                  have h8 := Lib.hid (Qq.to HH.out h7.out r10.out)
                  have B8 := Lib.hid (B7.out.rel r10.out)
                  go_roundw
                  case rel => exact ⟨j + 1, f, L, D, S, by go_num, by omega, by omega, HA, h8, B8⟩
                  case measure => simp [RowKit.intOf]; omega
      · have hij : (j : Int) < (N : Int) := by omega
        have hij2 : ¬ (j : Int) < 60 := by omega
        go_wp2_with (fail)
        go_ret
        exact ⟨rfl, HQ.out.rel⟩
    · have hij : ¬ (j : Int) < (N : Int) := by omega
      go_wp2_with (fail)
      go_ret
      exact ⟨rfl, HQ.out.rel⟩
end Go.Proofs.Ytndmnlgancnbkaa
