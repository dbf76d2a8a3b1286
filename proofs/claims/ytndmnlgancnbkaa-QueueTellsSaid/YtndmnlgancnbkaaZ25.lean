/- Layer 17: step by step, the landed queue and the document's own tell the same (QueueTells). -/
import Derived.Test.YtndmnlgancnbkaaZL
import Derived.Test.YtndmnlgancnbkaaZ00
import Derived.Test.YtndmnlgancnbkaaZ01
import Derived.Test.YtndmnlgancnbkaaZ02
import Derived.Test.YtndmnlgancnbkaaZ03
import Derived.Test.YtndmnlgancnbkaaZ05
import Derived.Test.YtndmnlgancnbkaaZ11
import Derived.Test.YtndmnlgancnbkaaZ14
import Derived.Test.YtndmnlgancnbkaaZ16
import Derived.Test.YtndmnlgancnbkaaZ18
import Derived.Test.YtndmnlgancnbkaaZ20
import Derived.Test.YtndmnlgancnbkaaZ24
namespace Go.Proofs.Ytndmnlgancnbkaa
open Go.RowKit Go.Lib
set_option linter.unusedVariables false
set_option linter.unusedSimpArgs false
theorem ints_as {A A2 : Option Addr} {c c2 : Nat} {L : List Int} (n : Nat) (hn : L.length = n) (w : World) (hr : Rel w w) (h : Nums w A c L) (h2 : Nums w A2 c2 L) :
    Calls Try.prog 18 #[.slice A n c, .slice A2 n c2] w fun e w' => e = .returned (.bool true) ∧ Hid (Rel w w') := by
  subst hn
  exact (ints17_any w hr h h2).mono fun e w' h => ⟨h.1, Lib.hid h.2⟩
set_option maxRecDepth 100000 in
set_option maxHeartbeats 16000000 in
theorem QueueTells_at {QP : QpT} (H : QueueOk QP) (room age any : Int) (hm : i64 room) (ha : i64 age) (hany : i64 any) (A : Option Addr) (c : Nat) (zs : List Qd) (w : World) (hr : Rel w w) (hZ : QuadsIn w A zs.length zs) :
    Calls Try.prog 3 #[.int .i64 room, .int .i64 age, .slice A zs.length c, .int .i64 any] w fun e w' => e = .returned (.bool true) ∧ Rel w w' := by
  have HR := Lib.hid hr
  have HH := Lib.hid H
  have HZ := Lib.hid hZ
  have HAw := Lib.hid (fun (w : World) (hr : Rel w w) => awake17_any H w hr)
  obtain ⟨N, hN⟩ : ∃ n, zs.length = n := ⟨_, rfl⟩
  have hN9 : N ≤ 9223372036854775807 := by rw [← hN]; exact hZ.2.1
  have HN := Lib.hid hN
  rw [hN]
  obtain ⟨q, hq⟩ : ∃ q, pk room 6 = q := ⟨_, rfl⟩
  have hqb := pk_bd room 6 (by omega)
  rw [hq] at hqb
  obtain ⟨r, hrr⟩ : ∃ q, pk age 20 = q := ⟨_, rfl⟩
  have hrb := pk_bd age 20 (by omega)
  rw [hrr] at hrb
  have HPq := Lib.hid (fun (w : World) => pk17_as room 6 q (Lib.hid hq) hm (by omega) (by omega) w)
  have HPr := Lib.hid (fun (w : World) => pk17_as age 20 r (Lib.hid hrr) ha (by omega) (by omega) w)
  have HM := Lib.hid hm
  have HG := Lib.hid ha
  have HAny := Lib.hid hany
  have HPk := Lib.hid (fun (x n y : Int) (hx : i64 x) (h : pk x n = y) (hn : 0 < n) (hn' : n ≤ 9223372036854775807) (w : World) => pk17_as x n y (Lib.hid h) hx hn hn' w)
  have HNw := Lib.hid (fun (x y : Int) (hx : i64 x) (hy : i64 y) (w : World) (hr : Rel w w) => H.new x y w hr hx hy)
  have HNr := Lib.hid (fun (x y : Int) (w : World) (hr : Rel w w) => rnew17_any x y w hr)
  clear H hr hZ hN hq hrr hm ha hany
  go_enter Try.func3, Try.ntmps3
  go_upto_region 2 with (go_at_call 8; (with_reducible refine (HAw.out w HR.out).mono ?_); rintro e w1 ⟨rfl, h1⟩; have R1 := Lib.hid h1; clear h1)
  go_upto_block 0 with (go_at_call 9; (first | (with_reducible refine (HPq.out _).mono ?_) | (with_reducible refine (HPr.out _).mono ?_)); rintro e w1' ⟨rfl, rfl⟩)
  have R2 := Lib.hid (R1.out.alloc (.cells #[.int .i64 room, .int .i64 age, .int .i64 (1 + q), .int .i64 (1 + r)] 24))
  have BS := Lib.hid (Bk.new w1 24 #[.int .i64 room, .int .i64 age, .int .i64 (1 + q), .int .i64 (1 + r)])
  obtain ⟨W0, hW0⟩ : ∃ W, w1.alloc (.cells #[.int .i64 room, .int .i64 age, .int .i64 (1 + q), .int .i64 (1 + r)] 24) = W := ⟨_, rfl⟩
  obtain ⟨gs, hgs⟩ : ∃ q, w1.heap.size = q := ⟨_, rfl⟩
  rw [hW0] at R2 BS
  rw [hgs] at BS
  try rw [hW0]
  try rw [hgs]
  clear hW0 hgs HAw HPq HPr R1
  have HZ0 := Lib.hid (HZ.out.rel R2.out)
  go_wp2_with (fail)
  go_loopw [39] (fun i wr => ∃ j : Nat, i = .int .i64 (j : Int) ∧ j ≤ 2 ∧ Hid (Rel W0 wr)) (fun i _ => 2 - (RowKit.intOf i).toNat)
  case atStart => exact ⟨0, rfl, by omega, Lib.hid R2.out.self⟩
  case round =>
    obtain ⟨j, rfl, hj, HW⟩ := hrel
    by_cases hlt : j < 2
    · have hij : (j : Int) < 2 := by omega
      obtain ⟨nn, ga, hc0, hc1, hnn, hga⟩ : ∃ nn ga : Int, wr.cell? ⟨gs, j * 2, none⟩ = some (.int .i64 nn) ∧ wr.cell? ⟨gs, j * 2 + 1, none⟩ = some (.int .i64 ga) ∧ i64 nn ∧ i64 ga := by
        have hb := BS.out.rel HW.out
        by_cases e : j = 0
        · subst e; exact ⟨_, _, hb.cell 0, hb.cell 1, HM.out, HG.out⟩
        · have e : j = 1 := by omega
          subst e; exact ⟨_, _, hb.cell 2, hb.cell 3, ⟨by omega, by omega⟩, ⟨by omega, by omega⟩⟩
      have HNn := Lib.hid hnn
      have HGa := Lib.hid hga
      obtain ⟨b, hb⟩ : ∃ b, decide ((1 ≤ nn ∧ nn ≤ 1000) ∧ 1 ≤ ga ∧ ga ≤ 1000) = b := ⟨_, rfl⟩
      obtain ⟨mm, hmm⟩ : ∃ m : Int, (if b then nn else 0) = m := ⟨_, rfl⟩
      obtain ⟨gg, hgg⟩ : ∃ m : Int, (if b then ga else 0) = m := ⟨_, rfl⟩
      have hmb : (0 ≤ mm ∧ mm ≤ 1000) ∧ gg ≤ 1000 := by
        cases b
        · have e1 : (0 : Int) = mm := hmm
          have e2 : (0 : Int) = gg := hgg
          omega
        · have e1 : nn = mm := hmm
          have e2 : ga = gg := hgg
          have := of_decide_eq_true hb
          omega
      have HMb := Lib.hid hmb
      have KN := Lib.hid (fun (w1 : World) (hr : Rel W0 w1) => show Calls Try.prog 10 #[.int .i64 nn, .int .i64 ga] w1 fun e w' => ∃ (p : Option Addr) (S : Nat → Prop), e = .returned (.pointer p) ∧ Hid (QP w' (.pointer p) S mm gg [] []) ∧ Hid (∀ k, S k → W0.heap.size ≤ k) ∧ Hid (Rel w1 w') ∧ p.isSome = b from (HNw.out nn ga HNn.out HGa.out w1 hr.self).mono (by
        rintro e w' ⟨r1, ⟨h1, h2, g, S, he, hp, hS⟩ | ⟨hn, he⟩⟩
        · have hbt : b = true := by rw [← hb]; exact decide_eq_true ⟨h1, h2⟩
          rw [hbt] at hmm hgg ⊢
          rw [if_pos rfl] at hmm hgg
          subst hmm hgg
          exact ⟨_, S, he, Lib.hid hp, Lib.hid (fun k q => Nat.le_trans hr.size (hS k q)), Lib.hid r1, rfl⟩
        · have hbt : b = false := by rw [← hb]; exact decide_eq_false hn
          rw [hbt] at hmm hgg ⊢
          have hmm : (0 : Int) = mm := hmm
          have hgg : (0 : Int) = gg := hgg
          subst hmm hgg
          exact ⟨none, _, he, Lib.hid (HH.out.nil w'), Lib.hid (fun k q => q.elim), Lib.hid r1, rfl⟩))
      have KR := Lib.hid (fun (w1 : World) (hr : Rel w1 w1) => show Calls Try.prog 11 #[.int .i64 nn, .int .i64 ga] w1 fun e w' => e = .returned (.tuple #[AgQ mm gg, .bool b]) ∧ Hid (Rel w1 w') from (HNr.out nn ga w1 hr).mono (by
        rintro e w' ⟨r1, h⟩
        rcases h.out with ⟨h1, h2, he⟩ | ⟨hn, he⟩
        · have hbt : b = true := by rw [← hb]; exact decide_eq_true ⟨h1, h2⟩
          rw [hbt] at hmm hgg ⊢
          rw [if_pos rfl] at hmm hgg
          subst hmm hgg
          exact ⟨he, r1⟩
        · have hbt : b = false := by rw [← hb]; exact decide_eq_false hn
          rw [hbt] at hmm hgg ⊢
          have hmm : (0 : Int) = mm := hmm
          have hgg : (0 : Int) = gg := hgg
          subst hmm hgg
          exact ⟨he, r1⟩))
      clear hb hmm hgg hnn hga hmb
      go_upto_region 5 with (fail)
      have BX := Lib.hid (Bk.new wr 24 #[.int .i64 nn, .int .i64 ga])
      have RX := Lib.hid (HW.out.alloc (.cells #[.int .i64 nn, .int .i64 ga] 24))
      obtain ⟨WX, hWX⟩ : ∃ W, wr.alloc (.cells #[.int .i64 nn, .int .i64 ga] 24) = W := ⟨_, rfl⟩
      obtain ⟨gx, hgx⟩ : ∃ q, wr.heap.size = q := ⟨_, rfl⟩
      rw [hWX] at BX RX
      rw [hgx] at BX
      try rw [hWX]
      try rw [hgx]
      clear hWX hgx hc0 hc1
      have x0 := BX.out.cell 0
      have x1 := BX.out.cell 1
      go_upto_region 6 with (go_at_call 10; (with_reducible refine (KN.out _ RX.out).mono ?_); rintro e w2 ⟨p, S, rfl, h2, s2, r2, hpb⟩; have HPB := Lib.hid hpb; clear hpb)
      clear x0 x1
      have x0 := (BX.out.rel r2.out).cell 0
      have x1 := (BX.out.rel r2.out).cell 1
      go_upto_region 7 with (go_at_call 11; (with_reducible refine (KR.out _ r2.out.self).mono ?_); rintro e w3 ⟨rfl, r3⟩)
      clear x0 x1
      have HD4 := Lib.hid (two_new (w0 := W0) (P2 := fun w S => RqP w (.pointer (some ⟨w3.heap.size, 0, none⟩)) S mm gg [] []) (keepyP HH.out (.pointer p) mm gg [] []) (RX.out.trans r2.out) h2.out s2.out (r3.out.alloc (.cells #[.slice none 0 0, .int .i64 mm, .int .i64 gg, .slice none 0 0] 34)) (rq_new (Bk.new w3 _ _) HMb.out.1.1 HMb.out.1.2 HMb.out.2) (fun k e => by have := r3.out.size; rw [e]; exact this))
      obtain ⟨T4, hT4⟩ : ∃ T, (fun k => S k ∨ k = w3.heap.size) = T := ⟨_, rfl⟩
      rw [hT4] at HD4
      obtain ⟨W4, hW4⟩ : ∃ W, w3.alloc (.cells #[.slice none 0 0, .int .i64 mm, .int .i64 gg, .slice none 0 0] 34) = W := ⟨_, rfl⟩
      obtain ⟨gr, hgr⟩ : ∃ q, w3.heap.size = q := ⟨_, rfl⟩
      rw [hW4] at HD4
      rw [hgr] at HD4
      try rw [hW4]
      try rw [hgr]
      clear hW4 hgr hT4 KN KR h2 s2 r2 r3 RX BX
      have hpb := HPB.out
      have hpn : (p == none) = !b := by rw [← hpb]; cases p <;> rfl
      have hpd : decide (p = none) = !b := by rw [← hpb]; cases p <;> simp
      go_upto_region 10 with (fail)
      obtain ⟨va, hva⟩ : ∃ v, Value.pointer p = v := ⟨_, rfl⟩
      rw [hva] at HD4
      try rw [hva]
      clear hva hpb hpn hpd HPB HW
      have HD4 := Lib.hid (show Quo QP va gr mm gg [] [] [] [] W0 W4 T4 from HD4.out)
      go_wp2_with (fail)
      go_loopw [16] (fun i wx => ∃ (j2 : Nat) (Lx : List It) (Dx : List Int) (T : Nat → Prop), i = .int .i64 (j2 : Int) ∧ j2 ≤ N ∧ j2 ≤ 60 ∧ Hid (Quo QP va gr mm gg Lx Dx Lx Dx W0 wx T)) (fun i _ => N - (RowKit.intOf i).toNat)
      case atStart => exact ⟨0, [], [], T4, rfl, by omega, by omega, HD4⟩
      case round =>
        obtain ⟨j2, Lx, Dx, T, rfl, hj2, hj60, HD⟩ := hrel
        by_cases hl2 : j2 < N
        · by_cases hl60 : j2 < 60
          · have hl2i : (j2 : Int) < (N : Int) := by omega
            have hl60i : (j2 : Int) < 60 := by omega
            have hj20 : (0 : Int) ≤ (j2 : Int) := by omega
            obtain ⟨a, y0, y1, y2, y3, rfl, hal, c0, c1, c2, c3, _, i0, i1, i2, i3⟩ := quads_at (HZ0.out.rel HD.out.rel) HD.out.rel.self j2 (by rw [HN.out]; exact hl2)
            obtain ⟨s1, hs1⟩ : ∃ k, pk y1 12 = k := ⟨_, rfl⟩
            obtain ⟨p1, hp1⟩ : ∃ k, pk y2 9 = k := ⟨_, rfl⟩
            obtain ⟨t1, ht1⟩ : ∃ k, pk y3 5 = k := ⟨_, rfl⟩
            obtain ⟨d12, hd12⟩ : ∃ k, pk y0 12 = k := ⟨_, rfl⟩
            obtain ⟨d4, hd4⟩ : ∃ k, pk y0 4 = k := ⟨_, rfl⟩
            have bs1 := pk_bd y1 12 (by omega)
            have bp1 := pk_bd y2 9 (by omega)
            have bt1 := pk_bd y3 5 (by omega)
            have b12 := pk_bd y0 12 (by omega)
            have b4 := pk_bd y0 4 (by omega)
            rw [hs1] at bs1
            rw [hp1] at bp1
            rw [ht1] at bt1
            rw [hd12] at b12
            rw [hd4] at b4
            have P1 := Lib.hid (fun (w : World) => HPk.out y1 12 s1 i1 hs1 (by omega) (by omega) w)
            have P2 := Lib.hid (fun (w : World) => HPk.out y2 9 p1 i2 hp1 (by omega) (by omega) w)
            have P3 := Lib.hid (fun (w : World) => HPk.out y3 5 t1 i3 ht1 (by omega) (by omega) w)
            have P4 := Lib.hid (fun (w : World) => HPk.out y0 12 d12 i0 hd12 (by omega) (by omega) w)
            have P5 := Lib.hid (fun (w : World) => HPk.out y0 4 d4 i0 hd4 (by omega) (by omega) w)
            clear i0 i1 i2 i3 hs1 hp1 ht1 hd12 hd4 hal
            go_upto_block 4 with (go_at_call 9; (first | (with_reducible refine (P1.out _).mono ?_) | (with_reducible refine (P2.out _).mono ?_) | (with_reducible refine (P3.out _).mono ?_) | (with_reducible refine (P4.out _).mono ?_)); rintro e wq ⟨rfl, rfl⟩)
            clear P1 P2 P3 P4 c1 c2 c3
            go_cut [17, 18, 19] (fun f1 f2 f3 wx => ∃ s p t : Int, f1 = .int .i64 s ∧ f2 = .int .i64 p ∧ f3 = .int .i64 t ∧ Hid (i64 s ∧ i64 p ∧ i64 t) ∧ wx = wr)
            case first =>
              have H1 := Lib.hid (show i64 s1 ∧ i64 p1 ∧ i64 ((j2 : Int) + t1) ∧ i64 any from ⟨⟨by omega, by omega⟩, ⟨by omega, by omega⟩, ⟨by omega, by omega⟩, HAny.out⟩)
              have hd : d12 = 0 ∨ d12 = 1 ∨ d12 = 2 ∨ ¬ (d12 = 0 ∨ d12 = 1 ∨ d12 = 2) := by omega
              clear b12 b4 bs1 bp1
              rcases hd with rfl | rfl | rfl | hd
              · as_aux_lemma =>
                go_wp2_with (fail)
                go_meet
                exact ⟨_, _, _, rfl, rfl, rfl, Lib.hid ⟨H1.out.2.2.2, H1.out.2.1, H1.out.2.2.1⟩, rfl⟩
              · as_aux_lemma =>
                go_wp2_with (fail)
                go_meet
                exact ⟨_, _, _, rfl, rfl, rfl, Lib.hid ⟨H1.out.1, H1.out.2.2.2, H1.out.2.2.1⟩, rfl⟩
              · as_aux_lemma =>
                go_wp2_with (fail)
                go_meet
                exact ⟨_, _, _, rfl, rfl, rfl, Lib.hid ⟨H1.out.1, H1.out.2.1, H1.out.2.2.2⟩, rfl⟩
              · as_aux_lemma =>
                have e0 : (d12 == 0) = false := by simp; omega
                have e1 : (d12 == 1) = false := by simp; omega
                have e2 : (d12 == 2) = false := by simp; omega
                clear hd
                go_wp2_with (fail)
                go_meet
                exact ⟨_, _, _, rfl, rfl, rfl, Lib.hid ⟨H1.out.1, H1.out.2.1, H1.out.2.2.1⟩, rfl⟩
            obtain ⟨s, p, t, rfl, rfl, rfl, HI, rfl⟩ := hcut
            clear b12 bs1 bp1 bt1
            go_upto_block 5 with (go_at_call 9; (with_reducible refine (P5.out _).mono ?_); rintro e wq ⟨rfl, rfl⟩)
            clear P5 c0
            go_cut [] (fun wx => ∃ (L2 : List It) (D2 : List Int) (T2 : Nat → Prop), Hid (Quo QP va gr mm gg L2 D2 L2 D2 W0 wx T2))
            case first =>
              have hd : d4 = 0 ∨ d4 = 1 ∨ d4 = 2 ∨ d4 = 3 := by omega
              clear b4
              obtain ⟨E, hE⟩ : ∃ E, wantE mm gg Lx s p t = E := ⟨_, rfl⟩
              have HE := Lib.hid hE
              obtain ⟨nk, hnk⟩ : ∃ x, (itH (topH Lx)).1 = x := ⟨_, rfl⟩
              have HNk := Lib.hid hnk
              obtain ⟨nb, hnb⟩ : ∃ x, (topH Lx).isSome = x := ⟨_, rfl⟩
              have HNb := Lib.hid hnb
              obtain ⟨db, hdb⟩ : ∃ x, dropB Lx Dx s = x := ⟨_, rfl⟩
              have HDb := Lib.hid hdb
              clear hE hnk hnb hdb
              rcases hd with rfl | rfl | rfl | rfl
              · as_aux_lemma =>
                go_wp2_with (first | (go_at_call 12; (with_reducible refine (quo_wantP HH.out HD.out HI.out.1 HI.out.2.1 HI.out.2.2 HE.out rfl rfl).mono ?_); rintro e w7 ⟨T7, rfl, hd7, _⟩) | (go_at_call 13; (with_reducible refine (quo_wantR HH.out hd7.out HE.out rfl rfl).mono ?_); rintro e w8 ⟨T8, rfl, hd8, _⟩))
                go_meet
                exact ⟨_, _, T8, hd8⟩
              · as_aux_lemma =>
                go_wp2_with (first | (go_at_call 12; (with_reducible refine (quo_wantP HH.out HD.out HI.out.1 HI.out.2.1 HI.out.2.2 HE.out rfl rfl).mono ?_); rintro e w7 ⟨T7, rfl, hd7, _⟩) | (go_at_call 13; (with_reducible refine (quo_wantR HH.out hd7.out HE.out rfl rfl).mono ?_); rintro e w8 ⟨T8, rfl, hd8, _⟩))
                go_meet
                exact ⟨_, _, T8, hd8⟩
              · as_aux_lemma =>
                go_wp2_with (first | (go_at_call 14; (with_reducible refine (quo_nextP HH.out HD.out HI.out.2.2 HNk.out HNb.out rfl rfl).mono ?_); rintro e w7 ⟨T7, rfl, hd7, _⟩) | (go_at_call 15; (with_reducible refine (quo_nextR HH.out hd7.out HI.out.2.2 HNk.out HNb.out rfl rfl).mono ?_); rintro e w8 ⟨T8, rfl, hd8, _⟩))
                go_meet
                exact ⟨_, _, T8, hd8⟩
              · as_aux_lemma =>
                go_wp2_with (first | (go_at_call 16; (with_reducible refine (quo_dropP HH.out HD.out HI.out.1 HDb.out rfl rfl).mono ?_); rintro e w7 ⟨T7, rfl, hd7, _⟩) | (go_at_call 17; (with_reducible refine (quo_dropR HH.out hd7.out HDb.out rfl rfl).mono ?_); rintro e w8 ⟨T8, rfl, hd8, _⟩))
                go_meet
                exact ⟨_, _, T8, hd8⟩
            obtain ⟨L2, D2, T2, HQ⟩ := hcut
            clear HD HI
            obtain ⟨nW, hnW⟩ : ∃ n, L2.length = n := ⟨_, rfl⟩
            have HNW := Lib.hid hnW
            obtain ⟨nD, hnD⟩ : ∃ n, D2.length = n := ⟨_, rfl⟩
            have HND := Lib.hid hnD
            clear hnW hnD b4
            as_aux_lemma =>
              obtain ⟨wv, rfl⟩ : ∃ W : World, W = wc := ⟨_, rfl⟩
              have HKW := Lib.hid (show (keysQ L2).length = nW by unfold keysQ; rw [List.length_map]; exact HNW.out)
              obtain ⟨AD, kD, hdc, hdn⟩ := HQ.out.dirt
              rw [HND.out] at hdc
              have HDN := Lib.hid hdn
              have HDC := Lib.hid (fun (w' : World) (h : Rel wv w') => (h.2.cell (p := ⟨gr, 3, none⟩) (blk_of_cell hdc)).trans hdc)
              clear hdc hdn
              go_upto_region 37 with (fail)
              refine wp_region_held_drew (S := (fun w' => Rel wv w')) (by kernel_rfl) HQ.out.rel.self.drew (fun hHeld => ?_)
              refine held_take (i := 0) (v := ?_) (some 156) rfl rfl (by kernel_rfl) (by kernel_rfl) (by kernel_rfl) (fun _ _ _ h => h) (Or.inl ⟨by rfl, ?_⟩) hHeld ?_
              rotate_left 1
              · intro w' (h : Rel wv w'); have q3 := HDC.out w' h; go_simp; try with_reducible rfl
              try simp only [Act.put, List.setIfInBounds_toArray, List.set_cons_zero, List.set_cons_succ]
              refine held_take (i := 2) (v := ?_) (some 158) rfl rfl (by kernel_rfl) (by kernel_rfl) (by kernel_rfl) (fun _ _ _ h => h) (Or.inl ⟨by rfl, ?_⟩) hHeld ?_
              rotate_left 1
              · intro w' (h : Rel wv w'); have q3 := HDC.out w' h; go_simp; try with_reducible rfl
              try simp only [Act.put, List.setIfInBounds_toArray, List.set_cons_zero, List.set_cons_succ]
              refine held_one (j := 1) (by kernel_rfl) rfl (fun K hK => ?_)
              try simp only [List.getElem_toArray, List.getElem_cons_succ, List.getElem_cons_zero]
              rw [if_pos (by rfl)]
              go_simp
              go_at_call 19
              (with_reducible refine (quo_waitP HH.out (Quo.to HH.out HQ.out hHeld) HNW.out rfl).mono ?_)
              rintro e wa ⟨A1, k1, rfl, _, n1, r1⟩
              refine hK.out _ _ (hHeld.trans r1.out) (fun hHeld => ?_)
              clear hK K
              try simp only [Act.put, List.setIfInBounds_toArray, List.set_cons_zero, List.set_cons_succ]
              refine held_one (j := 3) (by kernel_rfl) rfl (fun K hK => ?_)
              try simp only [List.getElem_toArray, List.getElem_cons_succ, List.getElem_cons_zero]
              rw [if_pos (by rfl)]
              go_simp
              go_at_call 20
              (with_reducible refine (quo_waitR HH.out (Quo.to HH.out HQ.out hHeld) HNW.out rfl).mono ?_)
              rintro e wb ⟨A2, k2, rfl, _, n2, r2⟩
              have n1b := Lib.hid (n1.out.rel r2.out)
              refine hK.out _ _ (hHeld.trans r2.out) (fun hHeld => ?_)
              clear hK K
              try simp only [Act.put, List.setIfInBounds_toArray, List.set_cons_zero, List.set_cons_succ]
              refine held_one (j := 4) (by kernel_rfl) rfl (fun K hK => ?_)
              try simp only [List.getElem_toArray, List.getElem_cons_succ, List.getElem_cons_zero]
              rw [if_pos (by rfl)]
              go_simp
              go_at_call 18
              (with_reducible refine (ints_as nW HKW.out _ hHeld.self n1b.out n2.out).mono ?_)
              rintro e wi ⟨rfl, r3⟩
              refine hK.out _ _ (hHeld.trans r3.out) (fun hHeld => ?_)
              clear hK K
              try simp only [Act.put, List.setIfInBounds_toArray, List.set_cons_zero, List.set_cons_succ]
              refine held_take (i := 5) (v := ?_) (some 161) rfl rfl (by kernel_rfl) (by kernel_rfl) (by kernel_rfl) (fun _ _ _ h => h) (Or.inl ⟨by rfl, ?_⟩) hHeld ?_
              rotate_left 1
              · intro w' (h : Rel wv w'); have q3 := HDC.out w' h; go_simp; try with_reducible rfl
              try simp only [Act.put, List.setIfInBounds_toArray, List.set_cons_zero, List.set_cons_succ]
              refine held_take (i := 6) (v := ?_) (some 162) rfl rfl (by kernel_rfl) (by kernel_rfl) (by kernel_rfl) (fun _ _ _ h => h) (Or.inl ⟨by rfl, ?_⟩) hHeld ?_
              rotate_left 1
              · intro w' (h : Rel wv w'); have q3 := HDC.out w' h; go_simp; try with_reducible rfl
              try simp only [Act.put, List.setIfInBounds_toArray, List.set_cons_zero, List.set_cons_succ]
              refine held_take (i := 7) (v := ?_) (some 163) rfl rfl (by kernel_rfl) (by kernel_rfl) (by kernel_rfl) (fun _ _ _ h => h) (Or.inl ⟨by rfl, ?_⟩) hHeld ?_
              rotate_left 1
              · intro w' (h : Rel wv w'); have q3 := HDC.out w' h; go_simp; try with_reducible rfl
              try simp only [Act.put, List.setIfInBounds_toArray, List.set_cons_zero, List.set_cons_succ]
              refine held_take (i := 9) (v := ?_) (some 165) rfl rfl (by kernel_rfl) (by kernel_rfl) (by kernel_rfl) (fun _ _ _ h => h) (Or.inl ⟨by rfl, ?_⟩) hHeld ?_
              rotate_left 1
              · intro w' (h : Rel wv w'); have q3 := HDC.out w' h; go_simp; try with_reducible rfl
              try simp only [Act.put, List.setIfInBounds_toArray, List.set_cons_zero, List.set_cons_succ]
              refine held_take (i := 10) (v := ?_) (some 166) rfl rfl (by kernel_rfl) (by kernel_rfl) (by kernel_rfl) (fun _ _ _ h => h) (Or.inl ⟨by rfl, ?_⟩) hHeld ?_
              rotate_left 1
              · intro w' (h : Rel wv w'); have q3 := HDC.out w' h; go_simp; try with_reducible rfl
              try simp only [Act.put, List.setIfInBounds_toArray, List.set_cons_zero, List.set_cons_succ]
              refine held_take (i := 11) (v := ?_) (some 167) rfl rfl (by kernel_rfl) (by kernel_rfl) (by kernel_rfl) (fun _ _ _ h => h) (Or.inl ⟨by rfl, ?_⟩) hHeld ?_
              rotate_left 1
              · intro w' (h : Rel wv w'); have q3 := HDC.out w' h; go_simp; try with_reducible rfl
              try simp only [Act.put, List.setIfInBounds_toArray, List.set_cons_zero, List.set_cons_succ]
              refine held_take (i := 12) (v := ?_) (some 168) rfl rfl (by kernel_rfl) (by kernel_rfl) (by kernel_rfl) (fun _ _ _ h => h) (Or.inl ⟨by rfl, ?_⟩) hHeld ?_
              rotate_left 1
              · intro w' (h : Rel wv w'); have q3 := HDC.out w' h; go_simp; try with_reducible rfl
              try simp only [Act.put, List.setIfInBounds_toArray, List.set_cons_zero, List.set_cons_succ]
              refine held_one (j := 8) (by kernel_rfl) rfl (fun K hK => ?_)
              try simp only [List.getElem_toArray, List.getElem_cons_succ, List.getElem_cons_zero]
              rw [if_pos (by rfl)]
              go_simp
              go_at_call 21
              (with_reducible refine (quo_dirtyP HH.out (Quo.to HH.out HQ.out hHeld) HND.out).mono ?_)
              rintro e wd ⟨A4, k4, rfl, _, n4, r4⟩
              refine hK.out _ _ (hHeld.trans r4.out) (fun hHeld => ?_)
              clear hK K
              try simp only [Act.put, List.setIfInBounds_toArray, List.set_cons_zero, List.set_cons_succ]
              refine held_one (j := 13) (by kernel_rfl) rfl (fun K hK => ?_)
              try simp only [List.getElem_toArray, List.getElem_cons_succ, List.getElem_cons_zero]
              rw [if_pos (by rfl)]
              go_simp
              go_at_call 18
              (with_reducible refine (ints_as nD HND.out _ hHeld.self n4.out (HDN.out.rel hHeld)).mono ?_)
              rintro e we ⟨rfl, r5⟩
              refine hK.out _ _ (hHeld.trans r5.out) (fun hHeld => ?_)
              clear hK K
              try simp only [Act.put, List.setIfInBounds_toArray, List.set_cons_zero, List.set_cons_succ]
              refine held_take (i := 14) (v := ?_) (some 170) rfl rfl (by kernel_rfl) (by kernel_rfl) (by kernel_rfl) (fun _ _ _ h => h) (Or.inl ⟨by rfl, ?_⟩) hHeld ?_
              rotate_left 1
              · intro w' (h : Rel wv w'); have q3 := HDC.out w' h; go_simp; try with_reducible rfl
              try simp only [Act.put, List.setIfInBounds_toArray, List.set_cons_zero, List.set_cons_succ]
              refine held_take (i := 15) (v := ?_) (some 171) rfl rfl (by kernel_rfl) (by kernel_rfl) (by kernel_rfl) (fun _ _ _ h => h) (Or.inl ⟨by rfl, ?_⟩) hHeld ?_
              rotate_left 1
              · intro w' (h : Rel wv w'); have q3 := HDC.out w' h; go_simp; try with_reducible rfl
              try simp only [Act.put, List.setIfInBounds_toArray, List.set_cons_zero, List.set_cons_succ]
              refine wpAnyH_done (by kernel_rfl) ?_ _
              go_wp2_with (fail)
              go_roundw
              case rel => exact ⟨j2 + 1, L2, D2, T2, by go_num, by omega, by omega, Lib.hid (Quo.to HH.out HQ.out hHeld)⟩
              case measure => simp [RowKit.intOf]; omega
          · have hl2i : (j2 : Int) < (N : Int) := by omega
            have hl60i : ¬ (j2 : Int) < 60 := by omega
            have HWx := Lib.hid HD.out.rel
            go_wp2_with (fail)
            go_roundw
            case rel => exact ⟨j + 1, by go_num, by omega, HWx⟩
            case measure => simp [RowKit.intOf]; omega
        · have hl2i : ¬ (j2 : Int) < (N : Int) := by omega
          have HWx := Lib.hid HD.out.rel
          go_wp2_with (fail)
          go_roundw
          case rel => exact ⟨j + 1, by go_num, by omega, HWx⟩
          case measure => simp [RowKit.intOf]; omega
    · have hij : ¬ (j : Int) < 2 := by omega
      go_wp2_with (fail)
      go_ret
      exact ⟨rfl, R2.out.trans HW.out⟩
end Go.Proofs.Ytndmnlgancnbkaa
