/- Layer 17: as many as are wanted are told, each once, and the first in their order (QueueRoom). -/
import Derived.Test.YtndmnlgancnbkaaZL
import Derived.Test.YtndmnlgancnbkaaZ00
import Derived.Test.YtndmnlgancnbkaaZ01
import Derived.Test.YtndmnlgancnbkaaZ02
import Derived.Test.YtndmnlgancnbkaaZ03
import Derived.Test.YtndmnlgancnbkaaZ11
import Derived.Test.YtndmnlgancnbkaaZ14
import Derived.Test.YtndmnlgancnbkaaZ15
import Derived.Test.YtndmnlgancnbkaaZ22
namespace Go.Proofs.Ytndmnlgancnbkaa
open Go.RowKit Go.Lib
set_option linter.unusedVariables false
set_option linter.unusedSimpArgs false
theorem make30 (w : World) : (Instr.makeSlice 47 (.int .i64 30) (.int .i64 30)).run Try.prog w = .ok (.slice (some ⟨w.heap.size, 0, none⟩) 30 30) (w.alloc (.cells (cellsB noMarks) 4)) := by kernel_rfl
set_option maxRecDepth 100000 in
set_option maxHeartbeats 16000000 in
theorem QueueRoom_at {QP : QpT} (H : QueueOk QP) (A : Option Addr) (c : Nat) (zs : List Int) (room : Int) (h1 : i64 room) (w : World) (hr : Rel w w) (hZ : Nums w A c zs) :
    Calls Try.prog 7 #[.slice A zs.length c, .int .i64 room] w fun e w' => e = .returned (.bool true) ∧ Rel w w' := by
  have HR := Lib.hid hr
  have HH := Lib.hid H
  have HZ := Lib.hid hZ
  have HAw := Lib.hid (fun (w : World) (hr : Rel w w) => awake17_any H w hr)
  obtain ⟨N, hN⟩ : ∃ n, zs.length = n := ⟨_, rfl⟩
  have hN9 : N ≤ 9223372036854775807 := by rw [← hN]; have h1 := hZ.1; have h2 := hZ.2.1; unfold maxLen at h2; omega
  have HN := Lib.hid hN
  rw [hN]
  obtain ⟨o, ho⟩ : ∃ q, pk room 5 = q := ⟨_, rfl⟩
  have bo := pk_bd room 5 (by omega)
  rw [ho] at bo
  have HO := Lib.hid bo
  have P0 := Lib.hid (fun (w : World) => pk17_as room 5 o (Lib.hid ho) h1 (by omega) (by omega) w)
  have PZ := Lib.hid (fun (z p : Int) (hz : i64 z) (hp : pk z 30 = p) (w : World) => pk17_as z 30 p (Lib.hid hp) hz (by omega) (by omega) w)
  have KN := Lib.hid (fun (w1 : World) (hr : Rel w w1) => qnew H (w0 := w) w1 hr (room := 100) (age := 10) (by omega) (by omega) (by omega) (by omega))
  have KM := Lib.hid (fun (w1 : World) (v : Value) (S : Nat → Prop) (h : Qq QP w w1 v S 100 10 [] []) => twoq_new H (w0 := w) w1 h.rel h.qp h.new (room := 1 + o) (by omega) (by omega))
  have hmk := make30
  clear H hr hZ hN h1 ho
  go_enter Try.func7, Try.ntmps7
  go_upto_region 2 with (go_at_call 8; (with_reducible refine (HAw.out w HR.out).mono ?_); rintro e w1 ⟨rfl, r1⟩; have R1 := Lib.hid r1; clear r1)
  go_upto_region 3 with (go_at_call 10; (with_reducible refine (KN.out w1 R1.out).mono ?_); rintro e w2 ⟨gq, S2, rfl, h2, _, _⟩)
  obtain ⟨v, hv⟩ : ∃ v, Value.pointer (some ⟨gq, 0, none⟩) = v := ⟨_, rfl⟩
  rw [hv] at h2
  try rw [hv]
  clear hv KN R1 HAw
  go_upto_region 4 with (first | (go_at_call 9; (with_reducible refine (P0.out _).mono ?_); rintro e wq ⟨rfl, rfl⟩) | (go_at_call 10; (with_reducible refine (KM.out _ _ _ h2.out).mono ?_); rintro e w3 ⟨gq2, T3, rfl, h3, r3⟩))
  obtain ⟨v2, hv⟩ : ∃ v, Value.pointer (some ⟨gq2, 0, none⟩) = v := ⟨_, rfl⟩
  rw [hv] at h3
  try rw [hv]
  clear hv KM r3 h2 P0
  go_upto_region 5 with (fail)
  have B3 := Lib.hid (TwoQ.box HH.out h3.out 4 (cellsB (noMarks)))
  have h4 := Lib.hid (TwoQ.to HH.out h3.out (Rel.alloc h3.out.rel.self (.cells (cellsB (noMarks)) 4)))
  obtain ⟨gs, hgs⟩ : ∃ g, w3.heap.size = g := ⟨_, rfl⟩
  have HG := Lib.hid (show w.heap.size ≤ gs by rw [← hgs]; exact h3.out.rel.size)
  try rw [hgs]
  rw [hgs] at B3
  obtain ⟨W4, hW4⟩ : ∃ W, w3.alloc (.cells (cellsB (noMarks)) 4) = W := ⟨_, rfl⟩
  rw [hW4] at h4 B3
  try rw [hW4]
  clear hgs hW4 h3
  have K1 := Lib.hid (fun (w1 : World) (T : Nat → Prop) (n k : Nat) (f : List Bool) (L L2 : List It) (D2 : List Int) (hk : k < 30) (hn : n ≤ 30) (hA : RoomA (1 + o) n f L L2 D2) (h : TwoQ QP v v2 (1 + o) L L2 D2 w w1 T) => two_wantA HH.out h (k := (k : Int)) (in17 (by omega) (by omega)) (room_step hA hk hn).1 rfl (room_step hA hk hn).2.1)
  have K2 := Lib.hid (fun (w1 : World) (T : Nat → Prop) (k : Nat) (L L2 : List It) (D2 : List Int) (hk : k < 30) (h : TwoQ QP v v2 (1 + o) L L2 D2 w w1 T) => two_wantB HH.out h (k := (k : Int)) (in17 (by omega) (by omega)) rfl rfl rfl)
  have hI0 := Lib.hid (room_nil (m := 1 + o) (by omega) (by omega))
  go_upto_block 0 with (fail)
  go_cut [9] (fun n wx => ∃ (cn : Nat) (f : List Bool) (L L2 : List It) (D2 : List Int) (T : Nat → Prop), n = .int .i64 (cn : Int) ∧ cn ≤ 30 ∧ Hid (RoomA (1 + o) cn f L L2 D2) ∧ Hid (TwoQ QP v v2 (1 + o) L L2 D2 w wx T) ∧ Hid (Bx T wx gs 4 (cellsB f)))
  case first =>
    go_wp2_with (fail)
    go_loopw [9, 10] (fun n i wr => ∃ (cn j : Nat) (f : List Bool) (L L2 : List It) (D2 : List Int) (T : Nat → Prop), n = .int .i64 (cn : Int) ∧ i = .int .i64 (j : Int) ∧ j ≤ N ∧ j ≤ 30 ∧ cn ≤ j ∧ Hid (RoomA (1 + o) cn f L L2 D2) ∧ Hid (TwoQ QP v v2 (1 + o) L L2 D2 w wr T) ∧ Hid (Bx T wr gs 4 (cellsB f))) (fun _ i _ => N - (RowKit.intOf i).toNat)
    case atStart => exact ⟨0, 0, _, _, _, _, _, rfl, rfl, by omega, by omega, by omega, hI0, h4, B3⟩
    case round =>
      obtain ⟨cn, j, f, L, L2, D2, T, rfl, rfl, hj, hj30, hcn, HA, HQ, HB⟩ := hrel
      by_cases hlt : j < N
      · by_cases hl30 : j < 30
        · have hij : (j : Int) < (N : Int) := by omega
          have hij2 : (j : Int) < 30 := by omega
          have hij0 : (0 : Int) ≤ (j : Int) := by omega
          obtain ⟨a, z, rfl, c0, _, hz⟩ := nums_at (HZ.out.rel HQ.out.rel) j (by rw [HN.out]; exact hlt)
          obtain ⟨p, hp⟩ : ∃ p, pk z 30 = p := ⟨_, rfl⟩
          have bp := pk_bd z 30 (by omega)
          rw [hp] at bp
          obtain ⟨k, rfl⟩ : ∃ k : Nat, p = (k : Int) := ⟨p.toNat, by omega⟩
          have hk : k < 30 := by omega
          have HK := Lib.hid hk
          have HC := Lib.hid (show cn ≤ 30 by omega)
          have PP := Lib.hid (fun w => PZ.out z k hz hp w)
          obtain ⟨_, _, hT, hF⟩ := room_step HA.out hk (by omega : cn ≤ 30)
          clear hz hp
          have hk0 : (0 : Int) ≤ (k : Int) := by omega
          have hk30 : (k : Int) < 30 := by omega
          rcases mark_at (f := f) (k := k) (by rw [HA.out.len]; exact hk) with hf | hf
          · have HI := Lib.hid (hT hf)
            have HF := Lib.hid hf
            clear hT hF hf
            go_wp2_with (first | (go_at_call 9; (with_reducible refine (PP.out _).mono ?_); rintro e wq ⟨rfl, rfl⟩) | (go_at_call 12; (first | (with_reducible refine (K1.out _ _ _ _ _ _ _ _ HK.out HC.out HA.out HQ.out).mono ?_); rintro e w5 ⟨T5, rfl, h5, st5⟩; have B5 := Lib.hid (HB.out.st st5.out); clear HB st5 | (with_reducible refine (K2.out _ _ _ _ _ _ HK.out h5.out).mono ?_); rintro e w6 ⟨T6, rfl, h6, st6⟩; have B6 := Lib.hid (B5.out.st st6.out); clear h5 B5 st6; have c6 := (B6.out.marked (HF.out)).1; have f6 := (B6.out.marked (HF.out)).2)))
            go_roundw
            case rel => exact ⟨cn, j + 1, f, _, _, _, T6, rfl, by go_num, by omega, by omega, by omega, HI, h6, B6⟩
            case measure => simp [RowKit.intOf]; omega
          · have HI := Lib.hid (hF hf)
            have HF := Lib.hid hf
            clear hT hF hf
            go_wp2_with (first | (go_at_call 9; (with_reducible refine (PP.out _).mono ?_); rintro e wq ⟨rfl, rfl⟩) | (go_at_call 12; (first | (with_reducible refine (K1.out _ _ _ _ _ _ _ _ HK.out HC.out HA.out HQ.out).mono ?_); rintro e w5 ⟨T5, rfl, h5, st5⟩; have B5 := Lib.hid (HB.out.st st5.out); clear HB st5 | (with_reducible refine (K2.out _ _ _ _ _ _ HK.out h5.out).mono ?_); rintro e w6 ⟨T6, rfl, h6, st6⟩; have B6 := Lib.hid (B5.out.st st6.out); clear h5 B5 st6; have c6 := (B6.out.marked (HF.out)).1; have f6 := (B6.out.marked (HF.out)).2)))
            go_roundw
            case rel => exact ⟨cn + 1, j + 1, f.set k true, _, _, _, T6, by go_num, by go_num, by omega, by omega, by omega, HI, Lib.hid (TwoQ.put HH.out h6.out (p := ⟨gs, k, none⟩) B6.out.2 HG.out (.bool true)), Lib.hid (B6.out.mark k true)⟩
            case measure => simp [RowKit.intOf]; omega
        · have hij : (j : Int) < (N : Int) := by omega
          have hij2 : ¬ (j : Int) < 30 := by omega
          go_wp2_with (fail)
          go_meet
          exact ⟨cn, f, L, L2, D2, T, rfl, by omega, HA, HQ, HB⟩
      · have hij : ¬ (j : Int) < (N : Int) := by omega
        go_wp2_with (fail)
        go_meet
        exact ⟨cn, f, L, L2, D2, T, rfl, by omega, HA, HQ, HB⟩
  obtain ⟨cn, f, L, L2, D2, T, rfl, hcn, HA, HQ, HB⟩ := hcut
  clear h4 B3 K1 K2 hI0 PZ
  obtain ⟨l2, hl2⟩ : ∃ n, L2.length = n := ⟨_, rfl⟩
  obtain ⟨d2, hd2⟩ : ∃ n, D2.length = n := ⟨_, rfl⟩
  have hdl : (d2 : Int) + (l2 : Int) = (cn : Int) := by have := HA.out.lb; unfold cardQ at this; omega
  have hd2b : (d2 : Int) ≤ 30 := by omega
  have hl2b : (l2 : Int) ≤ 30 := by omega
  have J1 := Lib.hid (fun (w1 : World) (h : TwoQ QP v v2 (1 + o) L L2 D2 w w1 T) => two_dirtyA HH.out h)
  have J2 := Lib.hid (fun (w1 : World) (h : TwoQ QP v v2 (1 + o) L L2 D2 w w1 T) => two_waitA HH.out h HA.out.la)
  have J3 := Lib.hid (fun (w1 : World) (h : TwoQ QP v v2 (1 + o) L L2 D2 w w1 T) => two_dirtyB HH.out h hd2)
  have J4 := Lib.hid (fun (w1 : World) (h : TwoQ QP v v2 (1 + o) L L2 D2 w w1 T) => two_waitB HH.out h hl2)
  clear hd2 hl2
  go_upto_region 18 with (first | (go_at_call 21; (first | (with_reducible refine (J1.out _ HQ.out).mono ?_); rintro e w4 ⟨A4, c4, rfl, h4, r4⟩; have B4 := Lib.hid (HB.out.rel r4.out); clear HQ HB r4 | (with_reducible refine (J3.out _ h5.out).mono ?_); rintro e w6 ⟨A6, c6, rfl, h6, r6⟩; have B6 := Lib.hid (B5.out.rel r6.out); clear h5 B5 r6)) | (go_at_call 19; (first | (with_reducible refine (J2.out _ h4.out).mono ?_); rintro e w5 ⟨A5, c5, rfl, h5, r5⟩; have B5 := Lib.hid (B4.out.rel r5.out); clear h4 B4 r5 | (with_reducible refine (J4.out _ h6.out).mono ?_); rintro e w7 ⟨A7, c7, rfl, h7, r7⟩; have B7 := Lib.hid (B6.out.rel r7.out); clear h6 B6 r7)))
  clear J1 J2 J3 J4 hdl hd2b hl2b
  go_upto_region 19 with (fail)
  have C7 := Lib.hid (TwoQ.box HH.out h7.out 4 (cellsB noMarks))
  have h8 := Lib.hid (TwoQ.to HH.out h7.out (Rel.alloc h7.out.rel.self (.cells (cellsB noMarks) 4)))
  have B8 := Lib.hid (show Bx T (w7.alloc (.cells (cellsB noMarks) 4)) gs 4 (cellsB f) from ⟨B7.out.1.alloc _, B7.out.2⟩)
  obtain ⟨gt, hgt⟩ : ∃ g, w7.heap.size = g := ⟨_, rfl⟩
  have HGT := Lib.hid (show w.heap.size ≤ gt by rw [← hgt]; exact h7.out.rel.size)
  have HNE := Lib.hid (show gs ≠ gt by rw [← hgt]; exact Nat.ne_of_lt B7.out.1.lt)
  try rw [hgt]
  rw [hgt] at C7
  obtain ⟨W8, hW8⟩ : ∃ W, w7.alloc (.cells (cellsB noMarks) 4) = W := ⟨_, rfl⟩
  rw [hW8] at C7 h8 B8
  try rw [hW8]
  clear hgt hW8 h7 B7
  have K3 := Lib.hid (fun (w1 : World) (T : Nat → Prop) (L L2 : List It) (D2 : List Int) (x : Int) (b : Bool) (hx : (itH (topH L)).1 = x) (hb : (topH L).isSome = b) (h : TwoQ QP v v2 (1 + o) L L2 D2 w w1 T) => two_nextA HH.out h hx hb rfl)
  have K4 := Lib.hid (fun (w1 : World) (T : Nat → Prop) (L L2 : List It) (D2 : List Int) (x : Int) (b : Bool) (hx : (itH (topH L2)).1 = x) (hb : (topH L2).isSome = b) (h : TwoQ QP v v2 (1 + o) L L2 D2 w w1 T) => two_nextB HH.out h hx hb rfl rfl)
  have hI0 := Lib.hid (RoomA.told HA.out)
  have hcn0 : (0 : Int) ≤ (cn : Int) := by omega
  clear HA
  go_upto_region 21 with (fail)
  go_loopw [13, 14] (fun l i wr => ∃ (last : Int) (j : Nat) (g : List Bool) (L L2 : List It) (D2 : List Int) (T : Nat → Prop), l = .int .i64 last ∧ i = .int .i64 (j : Int) ∧ j ≤ cn ∧ -1 ≤ last ∧ last ≤ 30 ∧ Hid (RoomB (1 + o) cn j last f g L L2 D2) ∧ Hid (TwoQ QP v v2 (1 + o) L L2 D2 w wr T) ∧ Hid (Bx T wr gs 4 (cellsB f)) ∧ Hid (Bx T wr gt 4 (cellsB g))) (fun _ i _ => cn - (RowKit.intOf i).toNat)
  case atStart => exact ⟨-1, 0, _, _, _, _, _, rfl, rfl, by omega, by omega, by omega, hI0, h8, B8, C7⟩
  case round =>
    obtain ⟨last, j, g, L, L2, D2, T, rfl, rfl, hj, hl1, hl2, HA, HQ, HB, HC⟩ := hrel
    by_cases hlt : j < cn
    · have hij : (j : Int) < (cn : Int) := by omega
      have hij0 : (0 : Int) ≤ (j : Int) := by omega
      obtain ⟨x, y, hx, hy, a1, a2, a3, a4, hlx, fx, fy, gy, hI⟩ := room_next HA.out hlt (by omega)
      have HX := Lib.hid (show (itH (topH L)).1 = (x : Int) from a2)
      have HXB := Lib.hid a1
      have HY := Lib.hid (show (itH (topH L2)).1 = (y : Int) from a4)
      have HYB := Lib.hid a3
      have HFX := Lib.hid fx
      have HFY := Lib.hid fy
      have HGY := Lib.hid gy
      have HI := Lib.hid hI
      clear a1 a2 a3 a4 fx fy gy hI
      have cx0 : (0 : Int) ≤ (x : Int) := by omega
      have cx1 : (x : Int) < 30 := by omega
      have cx2 : ¬ (x : Int) ≤ last := by omega
      have cy0 : (0 : Int) ≤ (y : Int) := by omega
      have cy1 : (y : Int) < 30 := by omega
      have cy2 : ¬ (y : Int) < 0 := by omega
      have cy3 : ¬ 30 ≤ (y : Int) := by omega
      have cx3 : ¬ 30 ≤ (x : Int) := by omega
      go_wp2_with (go_at_call 14; (first | (with_reducible refine (K3.out _ _ _ _ _ _ _ HX.out HXB.out HQ.out).mono ?_); rintro e w9 ⟨T9, rfl, h9, st9⟩; have B9 := Lib.hid (HB.out.st st9.out); have C9 := Lib.hid (HC.out.st st9.out); clear HQ HB HC st9 | (with_reducible refine (K4.out _ _ _ _ _ _ _ HY.out HYB.out h9.out).mono ?_); rintro e wA ⟨TA, rfl, hA, stA⟩; have BA := Lib.hid (B9.out.st stA.out); have CA := Lib.hid (C9.out.st stA.out); clear h9 B9 C9 stA; have m1 := (BA.out.marked HFX.out).1; have m2 := (BA.out.marked HFY.out).1; have m3 := (CA.out.marked HGY.out).1; have m4 := (CA.out.marked HGY.out).2))
      go_roundw
      case rel => exact ⟨(x : Int), j + 1, g.set y true, _, _, _, TA, rfl, by go_num, by omega, by omega, by omega, HI, Lib.hid (TwoQ.put HH.out hA.out (p := ⟨gt, y, none⟩) CA.out.2 HGT.out (.bool true)), Lib.hid (BA.out.far (p := ⟨gt, y, none⟩) HNE.out (.bool true)), Lib.hid (CA.out.mark y true)⟩
      case measure => simp [RowKit.intOf]; omega
    · have hjc : j = cn := by omega
      subst hjc
      have hij : ¬ (j : Int) < (j : Int) := by omega
      obtain ⟨rfl, rfl, rfl⟩ := room_end HA.out
      have HX := Lib.hid (show (itH (topH [])).1 = 0 from rfl)
      have HXB := Lib.hid (show (topH []).isSome = false from rfl)
      go_wp2_with (go_at_call 14; (first | (with_reducible refine (K3.out _ _ _ _ _ _ _ HX.out HXB.out HQ.out).mono ?_); rintro e w9 ⟨T9, rfl, h9, st9⟩; clear HQ HB HC st9 | (with_reducible refine (K4.out _ _ _ _ _ _ _ HX.out HXB.out h9.out).mono ?_); rintro e wA ⟨TA, rfl, hA, stA⟩; clear h9 stA))
      go_ret
      exact ⟨rfl, hA.out.rel⟩
end Go.Proofs.Ytndmnlgancnbkaa
