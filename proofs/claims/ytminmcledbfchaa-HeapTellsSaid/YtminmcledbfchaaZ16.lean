/- Layer 16: step by step, the landed heap and the document's own tell the same (HeapTells). -/
import Derived.Test.YtminmcledbfchaaZL
import Derived.Test.YtminmcledbfchaaZ00
import Derived.Test.YtminmcledbfchaaZ01
import Derived.Test.YtminmcledbfchaaZ06
import Derived.Test.YtminmcledbfchaaZ11
import Derived.Test.YtminmcledbfchaaZ13
import Derived.Test.YtminmcledbfchaaZ15
namespace Go.Proofs.Ytminmcledbfchaa
open Go.RowKit Go.Lib
set_option linter.unusedVariables false
set_option linter.unusedSimpArgs false
set_option maxRecDepth 100000 in
set_option maxHeartbeats 16000000 in
theorem HeapTells_at {HP : HpT} (H : HeapOk HP) (most any : Int) (hm : i64 most) (hany : i64 any) (A : Option Addr) (c : Nat) (zs : List Tr) (w : World) (hr : Rel w w) (hZ : TripsIn w A zs.length zs) :
    Calls Try.prog 3 #[.int .i64 most, .slice A zs.length c, .int .i64 any] w fun e w' => e = .returned (.bool true) ∧ Rel w w' := by
  have HR := Lib.hid hr
  have HH := Lib.hid H
  have HZ := Lib.hid hZ
  have HAw := Lib.hid (fun (w : World) (hr : Rel w w) => awake16_any H w hr)
  obtain ⟨N, hN⟩ : ∃ n, zs.length = n := ⟨_, rfl⟩
  have hN9 : N ≤ 9223372036854775807 := by rw [← hN]; exact hZ.2.1
  have HN := Lib.hid hN
  rw [hN]
  obtain ⟨q, hq⟩ : ∃ q, pk most 12 = q := ⟨_, rfl⟩
  have hqb := pk_bd most 12 (by omega)
  rw [hq] at hqb
  have HPq := Lib.hid (fun (w : World) => pk16_as most 12 q (Lib.hid hq) hm (by omega) (by omega) w)
  have HM := Lib.hid hm
  have HAny := Lib.hid hany
  have HPk := Lib.hid (fun (x n y : Int) (hx : i64 x) (h : pk x n = y) (hn : 0 < n) (hn' : n ≤ 9223372036854775807) (w : World) => pk16_as x n y (Lib.hid h) hx hn hn' w)
  have HNw := Lib.hid (fun (n : Int) (hn : i64 n) (w : World) (hr : Rel w w) => H.new n w hr hn)
  have HNr := Lib.hid (fun (n : Int) (w : World) (hr : Rel w w) => rnew16_any n w hr)
  clear H hr hZ hN hq hm hany
  go_enter Try.func3, Try.ntmps3
  go_upto_region 2 with (go_at_call 9; (with_reducible refine (HAw.out w HR.out).mono ?_); rintro e w1 ⟨rfl, h1⟩; have R1 := Lib.hid h1; clear h1)
  go_upto_block 0 with (go_at_call 10; (with_reducible refine (HPq.out _).mono ?_); rintro e w1' ⟨rfl, rfl⟩)
  have R2 := Lib.hid (R1.out.alloc (.cells #[.int .i64 most, .int .i64 (1 + q)] 3))
  have BS := Lib.hid (Bk.new w1 3 #[.int .i64 most, .int .i64 (1 + q)])
  obtain ⟨W0, hW0⟩ : ∃ W, w1.alloc (.cells #[.int .i64 most, .int .i64 (1 + q)] 3) = W := ⟨_, rfl⟩
  obtain ⟨gs, hgs⟩ : ∃ q, w1.heap.size = q := ⟨_, rfl⟩
  rw [hW0] at R2 BS
  rw [hgs] at BS
  try rw [hW0]
  try rw [hgs]
  clear hW0 hgs HAw HPq R1
  have HZ0 := Lib.hid (HZ.out.rel R2.out)
  go_wp2_with (fail)
  go_loopw [34] (fun i wr => ∃ j : Nat, i = .int .i64 (j : Int) ∧ j ≤ 2 ∧ Hid (Rel W0 wr)) (fun i _ => 2 - (RowKit.intOf i).toNat)
  case atStart => exact ⟨0, rfl, by omega, Lib.hid R2.out.self⟩
  case round =>
    obtain ⟨j, rfl, hj, HW⟩ := hrel
    by_cases hlt : j < 2
    · have hij : (j : Int) < 2 := by omega
      obtain ⟨nn, hc0, hnn⟩ : ∃ nn : Int, wr.cell? ⟨gs, j, none⟩ = some (.int .i64 nn) ∧ i64 nn := by
        have hb := BS.out.rel HW.out
        by_cases e : j = 0
        · subst e; exact ⟨_, hb.cell 0, HM.out⟩
        · have e : j = 1 := by omega
          subst e; exact ⟨_, hb.cell 1, ⟨by omega, by omega⟩⟩
      have HNn := Lib.hid hnn
      obtain ⟨b, hb⟩ : ∃ b, decide (1 ≤ nn ∧ nn ≤ 1000) = b := ⟨_, rfl⟩
      obtain ⟨mm, hmm⟩ : ∃ m : Int, (if b then nn else 0) = m := ⟨_, rfl⟩
      have KN := Lib.hid (show Calls Try.prog 11 #[.int .i64 nn] wr fun e w' => ∃ (p : Option Addr) (S : Nat → Prop), e = .returned (.pointer p) ∧ Hid (HP w' (.pointer p) S mm []) ∧ Hid (∀ k, S k → W0.heap.size ≤ k) ∧ Hid (Rel W0 w') ∧ p.isSome = b from (HNw.out nn HNn.out wr HW.out.self).mono (by
        rintro e w' ⟨r1, ⟨h1, h2, g, S, he, hp, hS⟩ | ⟨hn, he⟩⟩
        · have hbt : b = true := by rw [← hb]; exact decide_eq_true ⟨h1, h2⟩
          rw [hbt] at hmm ⊢
          rw [if_pos rfl] at hmm
          subst hmm
          exact ⟨_, S, he, Lib.hid hp, Lib.hid (fun k q => Nat.le_trans HW.out.size (hS k q)), Lib.hid (HW.out.trans r1), rfl⟩
        · have hbt : b = false := by rw [← hb]; exact decide_eq_false hn
          rw [hbt] at hmm ⊢
          have hmm : (0 : Int) = mm := hmm
          subst hmm
          exact ⟨none, _, he, Lib.hid (HH.out.nil w'), Lib.hid (fun k q => q.elim), Lib.hid (HW.out.trans r1), rfl⟩))
      have KR := Lib.hid (fun (w1 : World) (hr : Rel w1 w1) => show Calls Try.prog 12 #[.int .i64 nn] w1 fun e w' => e = .returned (.tuple #[.agg #[.slice none 0 0, .int .i64 mm], .bool b]) ∧ Hid (Rel w1 w') from (HNr.out nn w1 hr).mono (by
        rintro e w' ⟨r1, h⟩
        rcases h.out with ⟨h1, h2, he⟩ | ⟨hn, he⟩
        · have hbt : b = true := by rw [← hb]; exact decide_eq_true ⟨h1, h2⟩
          rw [hbt] at hmm ⊢
          rw [if_pos rfl] at hmm
          subst hmm
          exact ⟨he, r1⟩
        · have hbt : b = false := by rw [← hb]; exact decide_eq_false hn
          rw [hbt] at hmm ⊢
          have hmm : (0 : Int) = mm := hmm
          subst hmm
          exact ⟨he, r1⟩))
      clear hb hmm hnn
      go_upto_region 8 with (first | (go_at_call 11; (with_reducible refine KN.out.mono ?_); rintro e w2 ⟨p, S, rfl, h2, s2, r2, hpb⟩; have HPB := Lib.hid hpb; clear hpb) | (go_at_call 12; (with_reducible refine (KR.out _ r2.out.self).mono ?_); rintro e w3 ⟨rfl, r3⟩))
      have HD4 := Lib.hid (duo_new HH.out (r2.out.trans r3.out) (HH.out.keep h2.out r3.out.size (fun k hk => r3.out.2.block k (HH.out.lt h2.out k hk))) s2.out)
      obtain ⟨T4, hT4⟩ : ∃ T, (fun k => S k ∨ SoR w3.heap.size (.slice none 0 0) k) = T := ⟨_, rfl⟩
      rw [hT4] at HD4
      obtain ⟨W4, hW4⟩ : ∃ W, w3.alloc (.cells #[.slice none 0 0, .int .i64 mm] 30) = W := ⟨_, rfl⟩
      obtain ⟨gr, hgr⟩ : ∃ q, w3.heap.size = q := ⟨_, rfl⟩
      rw [hW4] at HD4
      rw [hgr] at HD4
      try rw [hW4]
      try rw [hgr]
      clear hW4 hgr hT4 KN KR h2 s2 r2 r3
      have hpb := HPB.out
      have hpn : (p == none) = !b := by rw [← hpb]; cases p <;> rfl
      have hpd : decide (p = none) = !b := by rw [← hpb]; cases p <;> simp
      go_upto_region 10 with (fail)
      obtain ⟨va, hva⟩ : ∃ v, Value.pointer p = v := ⟨_, rfl⟩
      rw [hva] at HD4
      try rw [hva]
      clear hva hpb hpn hpd HPB hc0 HW
      go_wp2_with (fail)
      go_loopw [14] (fun i wx => ∃ (j2 : Nat) (Lx : List It) (T : Nat → Prop), i = .int .i64 (j2 : Int) ∧ j2 ≤ N ∧ j2 ≤ 60 ∧ Hid (Duo HP W0 wx va gr mm Lx Lx T)) (fun i _ => N - (RowKit.intOf i).toNat)
      case atStart => exact ⟨0, [], T4, rfl, by omega, by omega, HD4⟩
      case round =>
        obtain ⟨j2, Lx, T, rfl, hj2, hj60, HD⟩ := hrel
        by_cases hl2 : j2 < N
        · by_cases hl60 : j2 < 60
          · have hl2i : (j2 : Int) < (N : Int) := by omega
            have hl60i : (j2 : Int) < 60 := by omega
            have hj20 : (0 : Int) ≤ (j2 : Int) := by omega
            have HZx := Lib.hid (HZ0.out.rel HD.out.rel)
            have hj2z : j2 < zs.length := by rw [HN.out]; exact hl2
            obtain ⟨a, x, y, z, rfl, c0, c1, c2, hx, hy, hz⟩ := trips_at HZx.out j2 hj2z
            have C0 := Lib.hid c0
            obtain ⟨k1, hk1⟩ : ∃ k, pk y 16 = k := ⟨_, rfl⟩
            obtain ⟨p1, hp1⟩ : ∃ k, pk z 12 = k := ⟨_, rfl⟩
            obtain ⟨s1, hs1⟩ : ∃ k, pk x 20 = k := ⟨_, rfl⟩
            obtain ⟨s7, hs7⟩ : ∃ k, pk x 7 = k := ⟨_, rfl⟩
            have bk1 := pk_bd y 16 (by omega)
            have bp1 := pk_bd z 12 (by omega)
            have bs7 := pk_bd x 7 (by omega)
            rw [hk1] at bk1
            rw [hp1] at bp1
            rw [hs7] at bs7
            have P1 := Lib.hid (fun (w : World) => HPk.out y 16 k1 hy hk1 (by omega) (by omega) w)
            have P2 := Lib.hid (fun (w : World) => HPk.out z 12 p1 hz hp1 (by omega) (by omega) w)
            have P3 := Lib.hid (fun (w : World) => HPk.out x 20 s1 hx hs1 (by omega) (by omega) w)
            have P7 := Lib.hid (fun (w : World) => HPk.out x 7 s7 hx hs7 (by omega) (by omega) w)
            have HYz := Lib.hid hz
            clear hx hy hz hk1 hp1 hs1 hs7 hj2z
            by_cases h19 : s1 = 19
            · have hs19 : (s1 == 19) = true := by rw [h19]; rfl
              clear h19
              go_upto_region 18 with (go_at_call 10; (first | (with_reducible refine (P1.out _).mono ?_) | (with_reducible refine (P2.out _).mono ?_) | (with_reducible refine (P3.out _).mono ?_)); rintro e wq ⟨rfl, rfl⟩)
              clear c1 c2 P1 P2 P3 hs19
              go_upto_region 19 with (fail)
              have BX5 := Lib.hid (Bx.duo HH.out HD.out 36 #[.int .i64 0, .int .i64 0])
              have R5 := Lib.hid (HD.out.rel.self.alloc (.cells #[.int .i64 0, .int .i64 0] 36))
              have HD5 := Lib.hid (Duo.to HH.out HD.out R5.out)
              obtain ⟨W5, hW5⟩ : ∃ W, wr.alloc (.cells #[.int .i64 0, .int .i64 0] 36) = W := ⟨_, rfl⟩
              obtain ⟨gx, hgx⟩ : ∃ q, wr.heap.size = q := ⟨_, rfl⟩
              have HGx := Lib.hid (show W0.heap.size ≤ gx by rw [← hgx]; exact HD.out.rel.size)
              rw [hW5] at BX5 R5 HD5
              rw [hgx] at BX5
              try rw [hW5]
              try rw [hgx]
              clear hW5 hgx
              go_upto_region 20 with (fail)
              have BY6 := Lib.hid (Bx.duo HH.out HD5.out 36 #[.int .i64 0, .int .i64 0])
              have AL6 := HD5.out.rel.self.alloc (.cells #[.int .i64 0, .int .i64 0] 36)
              have BX6 := Lib.hid (BX5.out.rel AL6)
              have R6 := Lib.hid (R5.out.trans AL6)
              have HD6 := Lib.hid (Duo.to HH.out HD5.out AL6)
              have HNe := Lib.hid (Nat.ne_of_lt BX5.out.1.lt)
              clear AL6
              obtain ⟨W6, hW6⟩ : ∃ W, W5.alloc (.cells #[.int .i64 0, .int .i64 0] 36) = W := ⟨_, rfl⟩
              obtain ⟨gy, hgy⟩ : ∃ q, W5.heap.size = q := ⟨_, rfl⟩
              have HGy := Lib.hid (show W0.heap.size ≤ gy by rw [← hgy]; exact HD5.out.rel.size)
              rw [hW6] at BY6 BX6 R6 HD6
              rw [hgy] at BY6 HNe
              try rw [hW6]
              try rw [hgy]
              clear hW6 hgy
              have c6 := (R6.out.2.cell (p := a.add (j2 * 3)) (blk_of_cell C0.out)).trans C0.out
              clear c0 R5 R6 HD5 BX5 HD
              go_upto_block 4 with (go_at_call 10; (with_reducible refine (P7.out _).mono ?_); rintro e wq ⟨rfl, rfl⟩)
              clear c6 P7
              go_cut [18, 20] (fun f1 f2 wx => ∃ (Lz : List It) (T6 : Nat → Prop) (X Y : Int) (fl : Bool), f1 = .bool fl ∧ f2 = .bool fl ∧ Hid (Duo HP W0 wx va gr mm Lz Lz T6) ∧ Hid (Bx T6 wx gx 36 #[.int .i64 X, .int .i64 Y]) ∧ Hid (Bx T6 wx gy 36 #[.int .i64 X, .int .i64 Y]))
              case first =>
                have h7 : s7 = 0 ∨ s7 = 1 ∨ s7 = 2 ∨ s7 = 3 ∨ s7 = 4 ∨ s7 = 5 ∨ s7 = 6 := by omega
                clear bs7
                obtain ⟨E, hE⟩ : ∃ E, pushE mm Lx any = E := ⟨_, rfl⟩
                obtain ⟨Lp, hLp⟩ : ∃ L, pushL mm Lx any z = L := ⟨_, rfl⟩
                have HE := Lib.hid hE
                have HLp := Lib.hid hLp
                obtain ⟨Lc, hLc⟩ : ∃ L, chgH Lx any z = L := ⟨_, rfl⟩
                have HLc := Lib.hid hLc
                obtain ⟨Lr, hLr⟩ : ∃ L, remH Lx any = L := ⟨_, rfl⟩
                have HLr := Lib.hid hLr
                obtain ⟨bh, hbh⟩ : ∃ b, hasH Lx any = b := ⟨_, rfl⟩
                have HBh := Lib.hid hbh
                obtain ⟨np, hnp⟩ : ∃ n, (prioH Lx any).getD 0 = n := ⟨_, rfl⟩
                have HNp := Lib.hid hnp
                obtain ⟨⟨tx, ty⟩, htx⟩ : ∃ x, itH (topH Lx) = x := ⟨_, rfl⟩
                have HTx := Lib.hid htx
                obtain ⟨tb, htb⟩ : ∃ b, (topH Lx).isSome = b := ⟨_, rfl⟩
                have HTb := Lib.hid htb
                clear hE hLp hLc hLr hbh hnp htx htb
                rcases h7 with rfl | rfl | rfl | rfl | rfl | rfl | rfl
                · as_aux_lemma =>
                  go_wp2_with (first | (go_at_call 13; (with_reducible refine (dpush HH.out HD6.out HAny.out HYz.out HE.out HLp.out).mono ?_); rintro e w7 ⟨T7, rfl, hd7, st7⟩; have BX7 := Lib.hid (BX6.out.st st7.out); have BY7 := Lib.hid (BY6.out.st st7.out); clear st7) | (go_at_call 14; (with_reducible refine (dpushR HH.out hd7.out HAny.out HYz.out HE.out HLp.out).mono ?_); rintro e w8 ⟨T8, rfl, hd8, st8⟩; have BX8 := Lib.hid (BX7.out.st st8.out); have BY8 := Lib.hid (BY7.out.st st8.out); clear st8))
                  go_meet
                  exact ⟨_, T8, 0, 0, true, by first | rfl | (simp), rfl, hd8, BX8, BY8⟩
                · as_aux_lemma =>
                  go_wp2_with (first | (go_at_call 13; (with_reducible refine (dpush HH.out HD6.out HAny.out HYz.out HE.out HLp.out).mono ?_); rintro e w7 ⟨T7, rfl, hd7, st7⟩; have BX7 := Lib.hid (BX6.out.st st7.out); have BY7 := Lib.hid (BY6.out.st st7.out); clear st7) | (go_at_call 14; (with_reducible refine (dpushR HH.out hd7.out HAny.out HYz.out HE.out HLp.out).mono ?_); rintro e w8 ⟨T8, rfl, hd8, st8⟩; have BX8 := Lib.hid (BX7.out.st st8.out); have BY8 := Lib.hid (BY7.out.st st8.out); clear st8))
                  go_meet
                  exact ⟨_, T8, 0, 0, true, by first | rfl | (simp), rfl, hd8, BX8, BY8⟩
                · as_aux_lemma =>
                  go_wp2_with (first | (go_at_call 13; (with_reducible refine (dpush HH.out HD6.out HAny.out HYz.out HE.out HLp.out).mono ?_); rintro e w7 ⟨T7, rfl, hd7, st7⟩; have BX7 := Lib.hid (BX6.out.st st7.out); have BY7 := Lib.hid (BY6.out.st st7.out); clear st7) | (go_at_call 14; (with_reducible refine (dpushR HH.out hd7.out HAny.out HYz.out HE.out HLp.out).mono ?_); rintro e w8 ⟨T8, rfl, hd8, st8⟩; have BX8 := Lib.hid (BX7.out.st st8.out); have BY8 := Lib.hid (BY7.out.st st8.out); clear st8))
                  go_meet
                  exact ⟨_, T8, 0, 0, true, by first | rfl | (simp), rfl, hd8, BX8, BY8⟩
                · as_aux_lemma =>
                  go_upto_region 31 with (go_at_call 15; (with_reducible refine (dpop HH.out HD6.out HTx.out HTb.out rfl).mono ?_); rintro e w7 ⟨T7, rfl, hd7, st7⟩; have BX7 := Lib.hid (BX6.out.st st7.out); have BY7 := Lib.hid (BY6.out.st st7.out); clear st7; obtain ⟨⟨x0, x1⟩, ⟨f0, f1⟩⟩ := BX7.out.1.two)
                  have BX8 := Lib.hid (BX7.out.put (.int .i64 tx) (.int .i64 ty))
                  have BY8 := Lib.hid ((BY7.out.far (p := ⟨gx, 0, none⟩) HNe.out.symm (.int .i64 tx)).far (p := ⟨gx, 1, none⟩) HNe.out.symm (.int .i64 ty))
                  have hd8 := Lib.hid (Duo.put HH.out (Duo.put HH.out hd7.out (p := ⟨gx, 0, none⟩) BX7.out.2 HGx.out (.int .i64 tx)) (p := ⟨gx, 1, none⟩) BX7.out.2 HGx.out (.int .i64 ty))
                  obtain ⟨W8, hW8⟩ : ∃ W, (w7.setCell ⟨gx, 0, none⟩ (.int .i64 tx)).setCell ⟨gx, 1, none⟩ (.int .i64 ty) = W := ⟨_, rfl⟩
                  rw [hW8] at BX8 BY8 hd8
                  try rw [hW8]
                  clear hW8 x0 x1 f0 f1 BX7 BY7 hd7
                  go_wp2_with (go_at_call 16; (with_reducible refine (dpopR HH.out hd8.out HTx.out HTb.out rfl).mono ?_); rintro e w9 ⟨T9, rfl, hd9, st9⟩; have BX9 := Lib.hid (BX8.out.st st9.out); have BY9 := Lib.hid (BY8.out.st st9.out); clear st9; obtain ⟨⟨y0, y1⟩, ⟨f0, f1⟩⟩ := BY9.out.1.two)
                  have BY10 := Lib.hid (BY9.out.put (.int .i64 tx) (.int .i64 ty))
                  have BX10 := Lib.hid ((BX9.out.far (p := ⟨gy, 0, none⟩) HNe.out (.int .i64 tx)).far (p := ⟨gy, 1, none⟩) HNe.out (.int .i64 ty))
                  have hd10 := Lib.hid (Duo.put HH.out (Duo.put HH.out hd9.out (p := ⟨gy, 0, none⟩) BY9.out.2 HGy.out (.int .i64 tx)) (p := ⟨gy, 1, none⟩) BY9.out.2 HGy.out (.int .i64 ty))
                  go_meet
                  exact ⟨_, T9, tx, ty, tb, rfl, rfl, hd10, BX10, BY10⟩
                · as_aux_lemma =>
                  go_wp2_with (first | (go_at_call 17; (with_reducible refine (dchg HH.out HD6.out HAny.out HYz.out HBh.out HLc.out).mono ?_); rintro e w7 ⟨T7, rfl, hd7, st7⟩; have BX7 := Lib.hid (BX6.out.st st7.out); have BY7 := Lib.hid (BY6.out.st st7.out); clear st7) | (go_at_call 18; (with_reducible refine (dchgR HH.out hd7.out HAny.out HYz.out HBh.out HLc.out).mono ?_); rintro e w8 ⟨T8, rfl, hd8, st8⟩; have BX8 := Lib.hid (BX7.out.st st8.out); have BY8 := Lib.hid (BY7.out.st st8.out); clear st8))
                  go_meet
                  exact ⟨_, T8, 0, 0, bh, rfl, rfl, hd8, BX8, BY8⟩
                · as_aux_lemma =>
                  go_wp2_with (first | (go_at_call 19; (with_reducible refine (drem HH.out HD6.out HAny.out HBh.out HLr.out).mono ?_); rintro e w7 ⟨T7, rfl, hd7, st7⟩; have BX7 := Lib.hid (BX6.out.st st7.out); have BY7 := Lib.hid (BY6.out.st st7.out); clear st7) | (go_at_call 20; (with_reducible refine (dremR HH.out hd7.out HBh.out HLr.out).mono ?_); rintro e w8 ⟨T8, rfl, hd8, st8⟩; have BX8 := Lib.hid (BX7.out.st st8.out); have BY8 := Lib.hid (BY7.out.st st8.out); clear st8))
                  go_meet
                  exact ⟨_, T8, 0, 0, bh, rfl, rfl, hd8, BX8, BY8⟩
                · as_aux_lemma =>
                  go_upto_region 22 with (go_at_call 21; (with_reducible refine (dprio HH.out HD6.out HAny.out HNp.out HBh.out).mono ?_); rintro e w7 ⟨rfl, r7⟩; have hd7 := Lib.hid (Duo.to HH.out HD6.out r7.out); have BX7 := Lib.hid (BX6.out.rel r7.out); have BY7 := Lib.hid (BY6.out.rel r7.out); clear r7; obtain ⟨⟨x0, x1⟩, ⟨f0, f1⟩⟩ := BX7.out.1.two)
                  have BX8 := Lib.hid (BX7.out.put1 (.int .i64 np))
                  have BY8 := Lib.hid (BY7.out.far (p := ⟨gx, 1, none⟩) HNe.out.symm (.int .i64 np))
                  have hd8 := Lib.hid (Duo.put HH.out hd7.out (p := ⟨gx, 1, none⟩) BX7.out.2 HGx.out (.int .i64 np))
                  obtain ⟨W8, hW8⟩ : ∃ W, w7.setCell ⟨gx, 1, none⟩ (.int .i64 np) = W := ⟨_, rfl⟩
                  rw [hW8] at BX8 BY8 hd8
                  try rw [hW8]
                  clear hW8 x0 x1 f0 f1 BX7 BY7 hd7
                  go_wp2_with (go_at_call 22; (with_reducible refine (dprioR hd8.out HNp.out HBh.out).mono ?_); rintro e w9 ⟨rfl, r9⟩; have hd9 := Lib.hid (Duo.to HH.out hd8.out r9.out); have BX9 := Lib.hid (BX8.out.rel r9.out); have BY9 := Lib.hid (BY8.out.rel r9.out); clear r9; obtain ⟨⟨y0, y1⟩, ⟨f0, f1⟩⟩ := BY9.out.1.two)
                  have BY10 := Lib.hid (BY9.out.put1 (.int .i64 np))
                  have BX10 := Lib.hid (BX9.out.far (p := ⟨gy, 1, none⟩) HNe.out (.int .i64 np))
                  have hd10 := Lib.hid (Duo.put HH.out hd9.out (p := ⟨gy, 1, none⟩) BY9.out.2 HGy.out (.int .i64 np))
                  go_meet
                  exact ⟨_, _, 0, np, bh, rfl, rfl, hd10, BX10, BY10⟩
              obtain ⟨Lz, T6, X, Y, fl, rfl, rfl, HD7, BX7, BY7⟩ := hcut
              as_aux_lemma =>
                obtain ⟨⟨tx, ty⟩, htx⟩ : ∃ x, itH (topH Lz) = x := ⟨_, rfl⟩
                have HTx := Lib.hid htx
                obtain ⟨tb, htb⟩ : ∃ b, (topH Lz).isSome = b := ⟨_, rfl⟩
                have HTb := Lib.hid htb
                clear htx htb
                go_upto_region 39 with (go_at_call 23; (with_reducible refine (dtop HH.out HD7.out HTx.out HTb.out).mono ?_); rintro e w8 ⟨rfl, r8⟩)
                have HD8 := Lib.hid (Duo.to HH.out HD7.out r8.out)
                have XX8 := Lib.hid (BX7.out.1.rel r8.out)
                have XY8 := Lib.hid (BY7.out.1.rel r8.out)
                clear r8 BX7 BY7 HD7
                have ALV8 := HD8.out.rel.self.alloc (.cells #[.int .i64 tx, .int .i64 ty] 36)
                have HE8 := Lib.hid (Duo.to HH.out HD8.out ALV8)
                have BV8 := Lib.hid (Bk.new w8 36 #[.int .i64 tx, .int .i64 ty])
                have XX9 := Lib.hid (XX8.out.rel ALV8)
                have XY9 := Lib.hid (XY8.out.rel ALV8)
                clear ALV8
                obtain ⟨V8, hV8⟩ : ∃ W, w8.alloc (.cells #[.int .i64 tx, .int .i64 ty] 36) = W := ⟨_, rfl⟩
                obtain ⟨gt, hgt⟩ : ∃ q, w8.heap.size = q := ⟨_, rfl⟩
                rw [hV8] at HE8 BV8 XX9 XY9
                rw [hgt] at BV8
                try rw [hV8]
                try rw [hgt]
                clear hV8 hgt
                go_upto_region 40 with (go_at_call 24; (with_reducible refine (dtopR HE8.out HTx.out HTb.out).mono ?_); rintro e w9 ⟨rfl, r9⟩)
                have HD9 := Lib.hid (Duo.to HH.out HE8.out r9.out)
                have XX10 := Lib.hid (XX9.out.rel r9.out)
                have XY10 := Lib.hid (XY9.out.rel r9.out)
                have XT10 := Lib.hid (BV8.out.rel r9.out)
                clear r9 XX8 XY8 XX9 XY9 BV8 HE8 HD8
                have ALV9 := HD9.out.rel.self.alloc (.cells #[.int .i64 tx, .int .i64 ty] 36)
                have HE9 := Lib.hid (Duo.to HH.out HD9.out ALV9)
                have BV9 := Lib.hid (Bk.new w9 36 #[.int .i64 tx, .int .i64 ty])
                have ZX := Lib.hid (XX10.out.rel ALV9)
                have ZY := Lib.hid (XY10.out.rel ALV9)
                have ZT := Lib.hid (XT10.out.rel ALV9)
                clear ALV9
                obtain ⟨V9, hV9⟩ : ∃ W, w9.alloc (.cells #[.int .i64 tx, .int .i64 ty] 36) = W := ⟨_, rfl⟩
                obtain ⟨gw, hgw⟩ : ∃ q, w9.heap.size = q := ⟨_, rfl⟩
                rw [hV9] at HE9 BV9 ZX ZY ZT
                rw [hgw] at BV9
                try rw [hV9]
                try rw [hgw]
                clear hV9 hgw
                clear XX10 XY10 XT10 HD9
                obtain ⟨n9, hn9⟩ : ∃ n, Lz.length = n := ⟨_, rfl⟩
                have HN9 := Lib.hid hn9
                obtain ⟨A3, c3, hb3, hr3, hc3, hc4⟩ := HE9.out.box hn9
                have ZB := Lib.hid hb3
                have ZR := Lib.hid hr3
                clear hn9 hb3 hr3
                refine wp_region_held_drew (S := (fun w' => Rel V9 w')) (by kernel_rfl) HE9.out.rel.self.drew (fun hHeld => ?_)
                refine held_take (i := 0) (v := ?_) (some 163) rfl rfl (by kernel_rfl) (by kernel_rfl) (by kernel_rfl) (fun _ _ _ h => h) (Or.inl ⟨by rfl, ?_⟩) hHeld ?_
                rotate_left 1
                · intro w' (h : Rel V9 w'); obtain ⟨x0, x1⟩ := (ZX.out.rel h).two.1; obtain ⟨y0, y1⟩ := (ZY.out.rel h).two.1; obtain ⟨t0, t1⟩ := (ZT.out.rel h).two.1; obtain ⟨u0, u1⟩ := (BV9.out.rel h).two.1; obtain ⟨b0, b1⟩ := (ZB.out.rel h).two.1; go_simp; try with_reducible rfl
                try simp only [Act.put, List.setIfInBounds_toArray, List.set_cons_zero, List.set_cons_succ]
                refine held_take (i := 1) (v := ?_) (some 164) rfl rfl (by kernel_rfl) (by kernel_rfl) (by kernel_rfl) (fun _ _ _ h => h) (Or.inl ⟨by rfl, ?_⟩) hHeld ?_
                rotate_left 1
                · intro w' (h : Rel V9 w'); obtain ⟨x0, x1⟩ := (ZX.out.rel h).two.1; obtain ⟨y0, y1⟩ := (ZY.out.rel h).two.1; obtain ⟨t0, t1⟩ := (ZT.out.rel h).two.1; obtain ⟨u0, u1⟩ := (BV9.out.rel h).two.1; obtain ⟨b0, b1⟩ := (ZB.out.rel h).two.1; go_simp; try with_reducible rfl
                try simp only [Act.put, List.setIfInBounds_toArray, List.set_cons_zero, List.set_cons_succ]
                refine held_take (i := 2) (v := ?_) (some 165) rfl rfl (by kernel_rfl) (by kernel_rfl) (by kernel_rfl) (fun _ _ _ h => h) (Or.inl ⟨by rfl, ?_⟩) hHeld ?_
                rotate_left 1
                · intro w' (h : Rel V9 w'); obtain ⟨x0, x1⟩ := (ZX.out.rel h).two.1; obtain ⟨y0, y1⟩ := (ZY.out.rel h).two.1; obtain ⟨t0, t1⟩ := (ZT.out.rel h).two.1; obtain ⟨u0, u1⟩ := (BV9.out.rel h).two.1; obtain ⟨b0, b1⟩ := (ZB.out.rel h).two.1; go_simp; try with_reducible rfl
                try simp only [Act.put, List.setIfInBounds_toArray, List.set_cons_zero, List.set_cons_succ]
                refine held_take (i := 3) (v := ?_) (some 166) rfl rfl (by kernel_rfl) (by kernel_rfl) (by kernel_rfl) (fun _ _ _ h => h) (Or.inl ⟨by rfl, ?_⟩) hHeld ?_
                rotate_left 1
                · intro w' (h : Rel V9 w'); obtain ⟨x0, x1⟩ := (ZX.out.rel h).two.1; obtain ⟨y0, y1⟩ := (ZY.out.rel h).two.1; obtain ⟨t0, t1⟩ := (ZT.out.rel h).two.1; obtain ⟨u0, u1⟩ := (BV9.out.rel h).two.1; obtain ⟨b0, b1⟩ := (ZB.out.rel h).two.1; go_simp; try with_reducible rfl
                try simp only [Act.put, List.setIfInBounds_toArray, List.set_cons_zero, List.set_cons_succ]
                refine held_take (i := 4) (v := ?_) (some 167) rfl rfl (by kernel_rfl) (by kernel_rfl) (by kernel_rfl) (fun _ _ _ h => h) (Or.inl ⟨by rfl, ?_⟩) hHeld ?_
                rotate_left 1
                · intro w' (h : Rel V9 w'); obtain ⟨x0, x1⟩ := (ZX.out.rel h).two.1; obtain ⟨y0, y1⟩ := (ZY.out.rel h).two.1; obtain ⟨t0, t1⟩ := (ZT.out.rel h).two.1; obtain ⟨u0, u1⟩ := (BV9.out.rel h).two.1; obtain ⟨b0, b1⟩ := (ZB.out.rel h).two.1; go_simp; try with_reducible rfl
                try simp only [Act.put, List.setIfInBounds_toArray, List.set_cons_zero, List.set_cons_succ]
                refine held_take (i := 5) (v := ?_) (some 168) rfl rfl (by kernel_rfl) (by kernel_rfl) (by kernel_rfl) (fun _ _ _ h => h) (Or.inl ⟨by rfl, ?_⟩) hHeld ?_
                rotate_left 1
                · intro w' (h : Rel V9 w'); obtain ⟨x0, x1⟩ := (ZX.out.rel h).two.1; obtain ⟨y0, y1⟩ := (ZY.out.rel h).two.1; obtain ⟨t0, t1⟩ := (ZT.out.rel h).two.1; obtain ⟨u0, u1⟩ := (BV9.out.rel h).two.1; obtain ⟨b0, b1⟩ := (ZB.out.rel h).two.1; go_simp; try with_reducible rfl
                try simp only [Act.put, List.setIfInBounds_toArray, List.set_cons_zero, List.set_cons_succ]
                refine held_take (i := 6) (v := ?_) (some 169) rfl rfl (by kernel_rfl) (by kernel_rfl) (by kernel_rfl) (fun _ _ _ h => h) (Or.inl ⟨by rfl, ?_⟩) hHeld ?_
                rotate_left 1
                · intro w' (h : Rel V9 w'); obtain ⟨x0, x1⟩ := (ZX.out.rel h).two.1; obtain ⟨y0, y1⟩ := (ZY.out.rel h).two.1; obtain ⟨t0, t1⟩ := (ZT.out.rel h).two.1; obtain ⟨u0, u1⟩ := (BV9.out.rel h).two.1; obtain ⟨b0, b1⟩ := (ZB.out.rel h).two.1; go_simp; try with_reducible rfl
                try simp only [Act.put, List.setIfInBounds_toArray, List.set_cons_zero, List.set_cons_succ]
                refine held_take (i := 7) (v := ?_) (some 170) rfl rfl (by kernel_rfl) (by kernel_rfl) (by kernel_rfl) (fun _ _ _ h => h) (Or.inl ⟨by rfl, ?_⟩) hHeld ?_
                rotate_left 1
                · intro w' (h : Rel V9 w'); obtain ⟨x0, x1⟩ := (ZX.out.rel h).two.1; obtain ⟨y0, y1⟩ := (ZY.out.rel h).two.1; obtain ⟨t0, t1⟩ := (ZT.out.rel h).two.1; obtain ⟨u0, u1⟩ := (BV9.out.rel h).two.1; obtain ⟨b0, b1⟩ := (ZB.out.rel h).two.1; go_simp; try with_reducible rfl
                try simp only [Act.put, List.setIfInBounds_toArray, List.set_cons_zero, List.set_cons_succ]
                refine held_take (i := 8) (v := ?_) (some 171) rfl rfl (by kernel_rfl) (by kernel_rfl) (by kernel_rfl) (fun _ _ _ h => h) (Or.inl ⟨by rfl, ?_⟩) hHeld ?_
                rotate_left 1
                · intro w' (h : Rel V9 w'); obtain ⟨x0, x1⟩ := (ZX.out.rel h).two.1; obtain ⟨y0, y1⟩ := (ZY.out.rel h).two.1; obtain ⟨t0, t1⟩ := (ZT.out.rel h).two.1; obtain ⟨u0, u1⟩ := (BV9.out.rel h).two.1; obtain ⟨b0, b1⟩ := (ZB.out.rel h).two.1; go_simp; try with_reducible rfl
                try simp only [Act.put, List.setIfInBounds_toArray, List.set_cons_zero, List.set_cons_succ]
                refine held_take (i := 9) (v := ?_) (some 172) rfl rfl (by kernel_rfl) (by kernel_rfl) (by kernel_rfl) (fun _ _ _ h => h) (Or.inl ⟨by rfl, ?_⟩) hHeld ?_
                rotate_left 1
                · intro w' (h : Rel V9 w'); obtain ⟨x0, x1⟩ := (ZX.out.rel h).two.1; obtain ⟨y0, y1⟩ := (ZY.out.rel h).two.1; obtain ⟨t0, t1⟩ := (ZT.out.rel h).two.1; obtain ⟨u0, u1⟩ := (BV9.out.rel h).two.1; obtain ⟨b0, b1⟩ := (ZB.out.rel h).two.1; go_simp; try with_reducible rfl
                try simp only [Act.put, List.setIfInBounds_toArray, List.set_cons_zero, List.set_cons_succ]
                refine held_take (i := 10) (v := ?_) (some 173) rfl rfl (by kernel_rfl) (by kernel_rfl) (by kernel_rfl) (fun _ _ _ h => h) (Or.inl ⟨by rfl, ?_⟩) hHeld ?_
                rotate_left 1
                · intro w' (h : Rel V9 w'); obtain ⟨x0, x1⟩ := (ZX.out.rel h).two.1; obtain ⟨y0, y1⟩ := (ZY.out.rel h).two.1; obtain ⟨t0, t1⟩ := (ZT.out.rel h).two.1; obtain ⟨u0, u1⟩ := (BV9.out.rel h).two.1; obtain ⟨b0, b1⟩ := (ZB.out.rel h).two.1; go_simp; try with_reducible rfl
                try simp only [Act.put, List.setIfInBounds_toArray, List.set_cons_zero, List.set_cons_succ]
                refine held_take (i := 11) (v := ?_) (some 174) rfl rfl (by kernel_rfl) (by kernel_rfl) (by kernel_rfl) (fun _ _ _ h => h) (Or.inl ⟨by rfl, ?_⟩) hHeld ?_
                rotate_left 1
                · intro w' (h : Rel V9 w'); obtain ⟨x0, x1⟩ := (ZX.out.rel h).two.1; obtain ⟨y0, y1⟩ := (ZY.out.rel h).two.1; obtain ⟨t0, t1⟩ := (ZT.out.rel h).two.1; obtain ⟨u0, u1⟩ := (BV9.out.rel h).two.1; obtain ⟨b0, b1⟩ := (ZB.out.rel h).two.1; go_simp; try with_reducible rfl
                try simp only [Act.put, List.setIfInBounds_toArray, List.set_cons_zero, List.set_cons_succ]
                refine held_take (i := 12) (v := ?_) (some 175) rfl rfl (by kernel_rfl) (by kernel_rfl) (by kernel_rfl) (fun _ _ _ h => h) (Or.inl ⟨by rfl, ?_⟩) hHeld ?_
                rotate_left 1
                · intro w' (h : Rel V9 w'); obtain ⟨x0, x1⟩ := (ZX.out.rel h).two.1; obtain ⟨y0, y1⟩ := (ZY.out.rel h).two.1; obtain ⟨t0, t1⟩ := (ZT.out.rel h).two.1; obtain ⟨u0, u1⟩ := (BV9.out.rel h).two.1; obtain ⟨b0, b1⟩ := (ZB.out.rel h).two.1; go_simp; try with_reducible rfl
                try simp only [Act.put, List.setIfInBounds_toArray, List.set_cons_zero, List.set_cons_succ]
                refine held_take (i := 13) (v := ?_) (some 176) rfl rfl (by kernel_rfl) (by kernel_rfl) (by kernel_rfl) (fun _ _ _ h => h) (Or.inl ⟨by rfl, ?_⟩) hHeld ?_
                rotate_left 1
                · intro w' (h : Rel V9 w'); obtain ⟨x0, x1⟩ := (ZX.out.rel h).two.1; obtain ⟨y0, y1⟩ := (ZY.out.rel h).two.1; obtain ⟨t0, t1⟩ := (ZT.out.rel h).two.1; obtain ⟨u0, u1⟩ := (BV9.out.rel h).two.1; obtain ⟨b0, b1⟩ := (ZB.out.rel h).two.1; go_simp; try with_reducible rfl
                try simp only [Act.put, List.setIfInBounds_toArray, List.set_cons_zero, List.set_cons_succ]
                refine held_take (i := 14) (v := ?_) (some 177) rfl rfl (by kernel_rfl) (by kernel_rfl) (by kernel_rfl) (fun _ _ _ h => h) (Or.inl ⟨by rfl, ?_⟩) hHeld ?_
                rotate_left 1
                · intro w' (h : Rel V9 w'); obtain ⟨x0, x1⟩ := (ZX.out.rel h).two.1; obtain ⟨y0, y1⟩ := (ZY.out.rel h).two.1; obtain ⟨t0, t1⟩ := (ZT.out.rel h).two.1; obtain ⟨u0, u1⟩ := (BV9.out.rel h).two.1; obtain ⟨b0, b1⟩ := (ZB.out.rel h).two.1; go_simp; try with_reducible rfl
                try simp only [Act.put, List.setIfInBounds_toArray, List.set_cons_zero, List.set_cons_succ]
                refine held_take (i := 15) (v := ?_) (some 178) rfl rfl (by kernel_rfl) (by kernel_rfl) (by kernel_rfl) (fun _ _ _ h => h) (Or.inl ⟨by rfl, ?_⟩) hHeld ?_
                rotate_left 1
                · intro w' (h : Rel V9 w'); obtain ⟨x0, x1⟩ := (ZX.out.rel h).two.1; obtain ⟨y0, y1⟩ := (ZY.out.rel h).two.1; obtain ⟨t0, t1⟩ := (ZT.out.rel h).two.1; obtain ⟨u0, u1⟩ := (BV9.out.rel h).two.1; obtain ⟨b0, b1⟩ := (ZB.out.rel h).two.1; go_simp; try with_reducible rfl
                try simp only [Act.put, List.setIfInBounds_toArray, List.set_cons_zero, List.set_cons_succ]
                refine held_take (i := 16) (v := ?_) (some 179) rfl rfl (by kernel_rfl) (by kernel_rfl) (by kernel_rfl) (fun _ _ _ h => h) (Or.inl ⟨by rfl, ?_⟩) hHeld ?_
                rotate_left 1
                · intro w' (h : Rel V9 w'); obtain ⟨x0, x1⟩ := (ZX.out.rel h).two.1; obtain ⟨y0, y1⟩ := (ZY.out.rel h).two.1; obtain ⟨t0, t1⟩ := (ZT.out.rel h).two.1; obtain ⟨u0, u1⟩ := (BV9.out.rel h).two.1; obtain ⟨b0, b1⟩ := (ZB.out.rel h).two.1; go_simp; try with_reducible rfl
                try simp only [Act.put, List.setIfInBounds_toArray, List.set_cons_zero, List.set_cons_succ]
                refine held_take (i := 17) (v := ?_) (some 180) rfl rfl (by kernel_rfl) (by kernel_rfl) (by kernel_rfl) (fun _ _ _ h => h) (Or.inl ⟨by rfl, ?_⟩) hHeld ?_
                rotate_left 1
                · intro w' (h : Rel V9 w'); obtain ⟨x0, x1⟩ := (ZX.out.rel h).two.1; obtain ⟨y0, y1⟩ := (ZY.out.rel h).two.1; obtain ⟨t0, t1⟩ := (ZT.out.rel h).two.1; obtain ⟨u0, u1⟩ := (BV9.out.rel h).two.1; obtain ⟨b0, b1⟩ := (ZB.out.rel h).two.1; go_simp; try with_reducible rfl
                try simp only [Act.put, List.setIfInBounds_toArray, List.set_cons_zero, List.set_cons_succ]
                refine held_take (i := 18) (v := ?_) (some 181) rfl rfl (by kernel_rfl) (by kernel_rfl) (by kernel_rfl) (fun _ _ _ h => h) (Or.inl ⟨by rfl, ?_⟩) hHeld ?_
                rotate_left 1
                · intro w' (h : Rel V9 w'); obtain ⟨x0, x1⟩ := (ZX.out.rel h).two.1; obtain ⟨y0, y1⟩ := (ZY.out.rel h).two.1; obtain ⟨t0, t1⟩ := (ZT.out.rel h).two.1; obtain ⟨u0, u1⟩ := (BV9.out.rel h).two.1; obtain ⟨b0, b1⟩ := (ZB.out.rel h).two.1; go_simp; try with_reducible rfl
                try simp only [Act.put, List.setIfInBounds_toArray, List.set_cons_zero, List.set_cons_succ]
                refine held_take (i := 19) (v := ?_) (some 182) rfl rfl (by kernel_rfl) (by kernel_rfl) (by kernel_rfl) (fun _ _ _ h => h) (Or.inl ⟨by rfl, ?_⟩) hHeld ?_
                rotate_left 1
                · intro w' (h : Rel V9 w'); obtain ⟨x0, x1⟩ := (ZX.out.rel h).two.1; obtain ⟨y0, y1⟩ := (ZY.out.rel h).two.1; obtain ⟨t0, t1⟩ := (ZT.out.rel h).two.1; obtain ⟨u0, u1⟩ := (BV9.out.rel h).two.1; obtain ⟨b0, b1⟩ := (ZB.out.rel h).two.1; go_simp; try with_reducible rfl
                try simp only [Act.put, List.setIfInBounds_toArray, List.set_cons_zero, List.set_cons_succ]
                refine held_take (i := 21) (v := ?_) (some 184) rfl rfl (by kernel_rfl) (by kernel_rfl) (by kernel_rfl) (fun _ _ _ h => h) (Or.inl ⟨by rfl, ?_⟩) hHeld ?_
                rotate_left 1
                · intro w' (h : Rel V9 w'); obtain ⟨x0, x1⟩ := (ZX.out.rel h).two.1; obtain ⟨y0, y1⟩ := (ZY.out.rel h).two.1; obtain ⟨t0, t1⟩ := (ZT.out.rel h).two.1; obtain ⟨u0, u1⟩ := (BV9.out.rel h).two.1; obtain ⟨b0, b1⟩ := (ZB.out.rel h).two.1; go_simp; try with_reducible rfl
                try simp only [Act.put, List.setIfInBounds_toArray, List.set_cons_zero, List.set_cons_succ]
                refine held_take (i := 22) (v := ?_) (some 185) rfl rfl (by kernel_rfl) (by kernel_rfl) (by kernel_rfl) (fun _ _ _ h => h) (Or.inl ⟨by rfl, ?_⟩) hHeld ?_
                rotate_left 1
                · intro w' (h : Rel V9 w'); obtain ⟨x0, x1⟩ := (ZX.out.rel h).two.1; obtain ⟨y0, y1⟩ := (ZY.out.rel h).two.1; obtain ⟨t0, t1⟩ := (ZT.out.rel h).two.1; obtain ⟨u0, u1⟩ := (BV9.out.rel h).two.1; obtain ⟨b0, b1⟩ := (ZB.out.rel h).two.1; go_simp; try with_reducible rfl
                try simp only [Act.put, List.setIfInBounds_toArray, List.set_cons_zero, List.set_cons_succ]
                refine held_take (i := 23) (v := ?_) (some 186) rfl rfl (by kernel_rfl) (by kernel_rfl) (by kernel_rfl) (fun _ _ _ h => h) (Or.inl ⟨by rfl, ?_⟩) hHeld ?_
                rotate_left 1
                · intro w' (h : Rel V9 w'); obtain ⟨x0, x1⟩ := (ZX.out.rel h).two.1; obtain ⟨y0, y1⟩ := (ZY.out.rel h).two.1; obtain ⟨t0, t1⟩ := (ZT.out.rel h).two.1; obtain ⟨u0, u1⟩ := (BV9.out.rel h).two.1; obtain ⟨b0, b1⟩ := (ZB.out.rel h).two.1; go_simp; try with_reducible rfl
                try simp only [Act.put, List.setIfInBounds_toArray, List.set_cons_zero, List.set_cons_succ]
                refine held_take (i := 24) (v := ?_) (some 187) rfl rfl (by kernel_rfl) (by kernel_rfl) (by kernel_rfl) (fun _ _ _ h => h) (Or.inl ⟨by rfl, ?_⟩) hHeld ?_
                rotate_left 1
                · intro w' (h : Rel V9 w'); obtain ⟨x0, x1⟩ := (ZX.out.rel h).two.1; obtain ⟨y0, y1⟩ := (ZY.out.rel h).two.1; obtain ⟨t0, t1⟩ := (ZT.out.rel h).two.1; obtain ⟨u0, u1⟩ := (BV9.out.rel h).two.1; obtain ⟨b0, b1⟩ := (ZB.out.rel h).two.1; go_simp; try with_reducible rfl
                try simp only [Act.put, List.setIfInBounds_toArray, List.set_cons_zero, List.set_cons_succ]
                refine held_take (i := 25) (v := ?_) (some 188) rfl rfl (by kernel_rfl) (by kernel_rfl) (by kernel_rfl) (fun _ _ _ h => h) (Or.inl ⟨by rfl, ?_⟩) hHeld ?_
                rotate_left 1
                · intro w' (h : Rel V9 w'); obtain ⟨x0, x1⟩ := (ZX.out.rel h).two.1; obtain ⟨y0, y1⟩ := (ZY.out.rel h).two.1; obtain ⟨t0, t1⟩ := (ZT.out.rel h).two.1; obtain ⟨u0, u1⟩ := (BV9.out.rel h).two.1; obtain ⟨b0, b1⟩ := (ZB.out.rel h).two.1; go_simp; try with_reducible rfl
                try simp only [Act.put, List.setIfInBounds_toArray, List.set_cons_zero, List.set_cons_succ]
                refine held_one (j := 20) (by kernel_rfl) rfl (fun K hK => ?_)
                try simp only [List.getElem_toArray, List.getElem_cons_succ, List.getElem_cons_zero]
                rw [if_pos (by rfl)]
                go_simp
                go_at_call 25
                (with_reducible refine (dlen HH.out (Duo.to HH.out HE9.out hHeld) HN9.out).mono ?_)
                rintro e wl ⟨rfl, rl⟩
                refine hK.out _ _ (hHeld.trans rl.out) (fun hHeld => ?_)
                clear hK K
                try simp only [Act.put, List.setIfInBounds_toArray, List.set_cons_zero, List.set_cons_succ]
                refine held_take (i := 26) (v := ?_) (some 189) rfl rfl (by kernel_rfl) (by kernel_rfl) (by kernel_rfl) (fun _ _ _ h => h) (Or.inl ⟨by rfl, ?_⟩) hHeld ?_
                rotate_left 1
                · intro w' (h : Rel V9 w'); obtain ⟨x0, x1⟩ := (ZX.out.rel h).two.1; obtain ⟨y0, y1⟩ := (ZY.out.rel h).two.1; obtain ⟨t0, t1⟩ := (ZT.out.rel h).two.1; obtain ⟨u0, u1⟩ := (BV9.out.rel h).two.1; obtain ⟨b0, b1⟩ := (ZB.out.rel h).two.1; go_simp; try with_reducible rfl
                try simp only [Act.put, List.setIfInBounds_toArray, List.set_cons_zero, List.set_cons_succ]
                refine held_take (i := 27) (v := ?_) (some 190) rfl rfl (by kernel_rfl) (by kernel_rfl) (by kernel_rfl) (fun _ _ _ h => h) (Or.inl ⟨by rfl, ?_⟩) hHeld ?_
                rotate_left 1
                · intro w' (h : Rel V9 w'); obtain ⟨x0, x1⟩ := (ZX.out.rel h).two.1; obtain ⟨y0, y1⟩ := (ZY.out.rel h).two.1; obtain ⟨t0, t1⟩ := (ZT.out.rel h).two.1; obtain ⟨u0, u1⟩ := (BV9.out.rel h).two.1; obtain ⟨b0, b1⟩ := (ZB.out.rel h).two.1; go_simp; try with_reducible rfl
                try simp only [Act.put, List.setIfInBounds_toArray, List.set_cons_zero, List.set_cons_succ]
                refine held_take (i := 28) (v := ?_) (some 191) rfl rfl (by kernel_rfl) (by kernel_rfl) (by kernel_rfl) (fun _ _ _ h => h) (Or.inl ⟨by rfl, ?_⟩) hHeld ?_
                rotate_left 1
                · intro w' (h : Rel V9 w'); obtain ⟨x0, x1⟩ := (ZX.out.rel h).two.1; obtain ⟨y0, y1⟩ := (ZY.out.rel h).two.1; obtain ⟨t0, t1⟩ := (ZT.out.rel h).two.1; obtain ⟨u0, u1⟩ := (BV9.out.rel h).two.1; obtain ⟨b0, b1⟩ := (ZB.out.rel h).two.1; go_simp; try with_reducible rfl
                try simp only [Act.put, List.setIfInBounds_toArray, List.set_cons_zero, List.set_cons_succ]
                refine held_take (i := 29) (v := ?_) (some 192) rfl rfl (by kernel_rfl) (by kernel_rfl) (by kernel_rfl) (fun _ _ _ h => h) (Or.inl ⟨by rfl, ?_⟩) hHeld ?_
                rotate_left 1
                · intro w' (h : Rel V9 w'); obtain ⟨x0, x1⟩ := (ZX.out.rel h).two.1; obtain ⟨y0, y1⟩ := (ZY.out.rel h).two.1; obtain ⟨t0, t1⟩ := (ZT.out.rel h).two.1; obtain ⟨u0, u1⟩ := (BV9.out.rel h).two.1; obtain ⟨b0, b1⟩ := (ZB.out.rel h).two.1; go_simp; try with_reducible rfl
                try simp only [Act.put, List.setIfInBounds_toArray, List.set_cons_zero, List.set_cons_succ]
                refine held_take (i := 31) (v := ?_) (some 194) rfl rfl (by kernel_rfl) (by kernel_rfl) (by kernel_rfl) (fun _ _ _ h => h) (Or.inl ⟨by rfl, ?_⟩) hHeld ?_
                rotate_left 1
                · intro w' (h : Rel V9 w'); obtain ⟨x0, x1⟩ := (ZX.out.rel h).two.1; obtain ⟨y0, y1⟩ := (ZY.out.rel h).two.1; obtain ⟨t0, t1⟩ := (ZT.out.rel h).two.1; obtain ⟨u0, u1⟩ := (BV9.out.rel h).two.1; obtain ⟨b0, b1⟩ := (ZB.out.rel h).two.1; go_simp; try with_reducible rfl
                try simp only [Act.put, List.setIfInBounds_toArray, List.set_cons_zero, List.set_cons_succ]
                refine held_take (i := 32) (v := ?_) (some 195) rfl rfl (by kernel_rfl) (by kernel_rfl) (by kernel_rfl) (fun _ _ _ h => h) (Or.inl ⟨by rfl, ?_⟩) hHeld ?_
                rotate_left 1
                · intro w' (h : Rel V9 w'); obtain ⟨x0, x1⟩ := (ZX.out.rel h).two.1; obtain ⟨y0, y1⟩ := (ZY.out.rel h).two.1; obtain ⟨t0, t1⟩ := (ZT.out.rel h).two.1; obtain ⟨u0, u1⟩ := (BV9.out.rel h).two.1; obtain ⟨b0, b1⟩ := (ZB.out.rel h).two.1; go_simp; try with_reducible rfl
                try simp only [Act.put, List.setIfInBounds_toArray, List.set_cons_zero, List.set_cons_succ]
                refine held_take (i := 33) (v := ?_) (some 196) rfl rfl (by kernel_rfl) (by kernel_rfl) (by kernel_rfl) (fun _ _ _ h => h) (Or.inl ⟨by rfl, ?_⟩) hHeld ?_
                rotate_left 1
                · intro w' (h : Rel V9 w'); obtain ⟨x0, x1⟩ := (ZX.out.rel h).two.1; obtain ⟨y0, y1⟩ := (ZY.out.rel h).two.1; obtain ⟨t0, t1⟩ := (ZT.out.rel h).two.1; obtain ⟨u0, u1⟩ := (BV9.out.rel h).two.1; obtain ⟨b0, b1⟩ := (ZB.out.rel h).two.1; go_simp; try with_reducible rfl
                try simp only [Act.put, List.setIfInBounds_toArray, List.set_cons_zero, List.set_cons_succ]
                refine held_take (i := 34) (v := ?_) (some 197) rfl rfl (by kernel_rfl) (by kernel_rfl) (by kernel_rfl) (fun _ _ _ h => h) (Or.inl ⟨by rfl, ?_⟩) hHeld ?_
                rotate_left 1
                · intro w' (h : Rel V9 w'); obtain ⟨x0, x1⟩ := (ZX.out.rel h).two.1; obtain ⟨y0, y1⟩ := (ZY.out.rel h).two.1; obtain ⟨t0, t1⟩ := (ZT.out.rel h).two.1; obtain ⟨u0, u1⟩ := (BV9.out.rel h).two.1; obtain ⟨b0, b1⟩ := (ZB.out.rel h).two.1; go_simp; try with_reducible rfl
                try simp only [Act.put, List.setIfInBounds_toArray, List.set_cons_zero, List.set_cons_succ]
                refine held_one (j := 30) (by kernel_rfl) rfl (fun K hK => ?_)
                try simp only [List.getElem_toArray, List.getElem_cons_succ, List.getElem_cons_zero]
                rw [if_pos (by rfl)]
                go_simp
                go_at_call 27
                (with_reducible refine (dall HH.out (Duo.to HH.out HE9.out hHeld) HN9.out).mono ?_)
                rintro e wa ⟨AA, ca, rfl, qa, ra⟩
                refine hK.out _ _ (hHeld.trans ra.out) (fun hHeld => ?_)
                clear hK K
                try simp only [Act.put, List.setIfInBounds_toArray, List.set_cons_zero, List.set_cons_succ]
                refine held_one (j := 35) (by kernel_rfl) rfl (fun K hK => ?_)
                try simp only [List.getElem_toArray, List.getElem_cons_succ, List.getElem_cons_zero]
                rw [if_pos (by rfl)]
                go_simp
                go_at_call 26
                (with_reducible refine (rsame16_yes Lz AA A3 n9 ca c3 HN9.out qa.out.2.1 qa.out.2.2 hc3 hc4 _ hHeld.self qa.out.1 (ZR.out.rel hHeld)).mono ?_)
                rintro e wz ⟨rfl, rz⟩
                refine hK.out _ _ (hHeld.trans rz) (fun hHeld => ?_)
                clear hK K
                try simp only [Act.put, List.setIfInBounds_toArray, List.set_cons_zero, List.set_cons_succ]
                refine held_take (i := 36) (v := ?_) (some 199) rfl rfl (by kernel_rfl) (by kernel_rfl) (by kernel_rfl) (fun _ _ _ h => h) (Or.inl ⟨by rfl, ?_⟩) hHeld ?_
                rotate_left 1
                · intro w' (h : Rel V9 w'); obtain ⟨x0, x1⟩ := (ZX.out.rel h).two.1; obtain ⟨y0, y1⟩ := (ZY.out.rel h).two.1; obtain ⟨t0, t1⟩ := (ZT.out.rel h).two.1; obtain ⟨u0, u1⟩ := (BV9.out.rel h).two.1; obtain ⟨b0, b1⟩ := (ZB.out.rel h).two.1; go_simp; try with_reducible rfl
                try simp only [Act.put, List.setIfInBounds_toArray, List.set_cons_zero, List.set_cons_succ]
                refine held_take (i := 37) (v := ?_) (some 200) rfl rfl (by kernel_rfl) (by kernel_rfl) (by kernel_rfl) (fun _ _ _ h => h) (Or.inl ⟨by rfl, ?_⟩) hHeld ?_
                rotate_left 1
                · intro w' (h : Rel V9 w'); obtain ⟨x0, x1⟩ := (ZX.out.rel h).two.1; obtain ⟨y0, y1⟩ := (ZY.out.rel h).two.1; obtain ⟨t0, t1⟩ := (ZT.out.rel h).two.1; obtain ⟨u0, u1⟩ := (BV9.out.rel h).two.1; obtain ⟨b0, b1⟩ := (ZB.out.rel h).two.1; go_simp; try with_reducible rfl
                try simp only [Act.put, List.setIfInBounds_toArray, List.set_cons_zero, List.set_cons_succ]
                refine wpAnyH_done (by kernel_rfl) ?_ _
                go_wp2_with (fail)
                go_roundw
                case rel => exact ⟨j2 + 1, Lz, T6, by go_num, by omega, by omega, Lib.hid (Duo.to HH.out HE9.out hHeld)⟩
                case measure => simp [RowKit.intOf]; omega
            · have hs19 : (s1 == 19) = false := by simpa using h19
              have hk4 : i64 (k1 - 4) := ⟨by omega, by omega⟩
              have hp4 : i64 (p1 - 4) := ⟨by omega, by omega⟩
              have HK4 := Lib.hid hk4
              have HP4 := Lib.hid hp4
              clear h19 hk4 hp4
              go_upto_region 18 with (go_at_call 10; (first | (with_reducible refine (P1.out _).mono ?_) | (with_reducible refine (P2.out _).mono ?_) | (with_reducible refine (P3.out _).mono ?_)); rintro e wq ⟨rfl, rfl⟩)
              clear c1 c2 P1 P2 P3 hs19
              go_upto_region 19 with (fail)
              have BX5 := Lib.hid (Bx.duo HH.out HD.out 36 #[.int .i64 0, .int .i64 0])
              have R5 := Lib.hid (HD.out.rel.self.alloc (.cells #[.int .i64 0, .int .i64 0] 36))
              have HD5 := Lib.hid (Duo.to HH.out HD.out R5.out)
              obtain ⟨W5, hW5⟩ : ∃ W, wr.alloc (.cells #[.int .i64 0, .int .i64 0] 36) = W := ⟨_, rfl⟩
              obtain ⟨gx, hgx⟩ : ∃ q, wr.heap.size = q := ⟨_, rfl⟩
              have HGx := Lib.hid (show W0.heap.size ≤ gx by rw [← hgx]; exact HD.out.rel.size)
              rw [hW5] at BX5 R5 HD5
              rw [hgx] at BX5
              try rw [hW5]
              try rw [hgx]
              clear hW5 hgx
              go_upto_region 20 with (fail)
              have BY6 := Lib.hid (Bx.duo HH.out HD5.out 36 #[.int .i64 0, .int .i64 0])
              have AL6 := HD5.out.rel.self.alloc (.cells #[.int .i64 0, .int .i64 0] 36)
              have BX6 := Lib.hid (BX5.out.rel AL6)
              have R6 := Lib.hid (R5.out.trans AL6)
              have HD6 := Lib.hid (Duo.to HH.out HD5.out AL6)
              have HNe := Lib.hid (Nat.ne_of_lt BX5.out.1.lt)
              clear AL6
              obtain ⟨W6, hW6⟩ : ∃ W, W5.alloc (.cells #[.int .i64 0, .int .i64 0] 36) = W := ⟨_, rfl⟩
              obtain ⟨gy, hgy⟩ : ∃ q, W5.heap.size = q := ⟨_, rfl⟩
              have HGy := Lib.hid (show W0.heap.size ≤ gy by rw [← hgy]; exact HD5.out.rel.size)
              rw [hW6] at BY6 BX6 R6 HD6
              rw [hgy] at BY6 HNe
              try rw [hW6]
              try rw [hgy]
              clear hW6 hgy
              have c6 := (R6.out.2.cell (p := a.add (j2 * 3)) (blk_of_cell C0.out)).trans C0.out
              clear c0 R5 R6 HD5 BX5 HD
              go_upto_block 4 with (go_at_call 10; (with_reducible refine (P7.out _).mono ?_); rintro e wq ⟨rfl, rfl⟩)
              clear c6 P7
              go_cut [18, 20] (fun f1 f2 wx => ∃ (Lz : List It) (T6 : Nat → Prop) (X Y : Int) (fl : Bool), f1 = .bool fl ∧ f2 = .bool fl ∧ Hid (Duo HP W0 wx va gr mm Lz Lz T6) ∧ Hid (Bx T6 wx gx 36 #[.int .i64 X, .int .i64 Y]) ∧ Hid (Bx T6 wx gy 36 #[.int .i64 X, .int .i64 Y]))
              case first =>
                have h7 : s7 = 0 ∨ s7 = 1 ∨ s7 = 2 ∨ s7 = 3 ∨ s7 = 4 ∨ s7 = 5 ∨ s7 = 6 := by omega
                clear bs7
                obtain ⟨E, hE⟩ : ∃ E, pushE mm Lx (k1 - 4) = E := ⟨_, rfl⟩
                obtain ⟨Lp, hLp⟩ : ∃ L, pushL mm Lx (k1 - 4) (p1 - 4) = L := ⟨_, rfl⟩
                have HE := Lib.hid hE
                have HLp := Lib.hid hLp
                obtain ⟨Lc, hLc⟩ : ∃ L, chgH Lx (k1 - 4) (p1 - 4) = L := ⟨_, rfl⟩
                have HLc := Lib.hid hLc
                obtain ⟨Lr, hLr⟩ : ∃ L, remH Lx (k1 - 4) = L := ⟨_, rfl⟩
                have HLr := Lib.hid hLr
                obtain ⟨bh, hbh⟩ : ∃ b, hasH Lx (k1 - 4) = b := ⟨_, rfl⟩
                have HBh := Lib.hid hbh
                obtain ⟨np, hnp⟩ : ∃ n, (prioH Lx (k1 - 4)).getD 0 = n := ⟨_, rfl⟩
                have HNp := Lib.hid hnp
                obtain ⟨⟨tx, ty⟩, htx⟩ : ∃ x, itH (topH Lx) = x := ⟨_, rfl⟩
                have HTx := Lib.hid htx
                obtain ⟨tb, htb⟩ : ∃ b, (topH Lx).isSome = b := ⟨_, rfl⟩
                have HTb := Lib.hid htb
                clear hE hLp hLc hLr hbh hnp htx htb
                rcases h7 with rfl | rfl | rfl | rfl | rfl | rfl | rfl
                · as_aux_lemma =>
                  go_wp2_with (first | (go_at_call 13; (with_reducible refine (dpush HH.out HD6.out HK4.out HP4.out HE.out HLp.out).mono ?_); rintro e w7 ⟨T7, rfl, hd7, st7⟩; have BX7 := Lib.hid (BX6.out.st st7.out); have BY7 := Lib.hid (BY6.out.st st7.out); clear st7) | (go_at_call 14; (with_reducible refine (dpushR HH.out hd7.out HK4.out HP4.out HE.out HLp.out).mono ?_); rintro e w8 ⟨T8, rfl, hd8, st8⟩; have BX8 := Lib.hid (BX7.out.st st8.out); have BY8 := Lib.hid (BY7.out.st st8.out); clear st8))
                  go_meet
                  exact ⟨_, T8, 0, 0, true, by first | rfl | (simp), rfl, hd8, BX8, BY8⟩
                · as_aux_lemma =>
                  go_wp2_with (first | (go_at_call 13; (with_reducible refine (dpush HH.out HD6.out HK4.out HP4.out HE.out HLp.out).mono ?_); rintro e w7 ⟨T7, rfl, hd7, st7⟩; have BX7 := Lib.hid (BX6.out.st st7.out); have BY7 := Lib.hid (BY6.out.st st7.out); clear st7) | (go_at_call 14; (with_reducible refine (dpushR HH.out hd7.out HK4.out HP4.out HE.out HLp.out).mono ?_); rintro e w8 ⟨T8, rfl, hd8, st8⟩; have BX8 := Lib.hid (BX7.out.st st8.out); have BY8 := Lib.hid (BY7.out.st st8.out); clear st8))
                  go_meet
                  exact ⟨_, T8, 0, 0, true, by first | rfl | (simp), rfl, hd8, BX8, BY8⟩
                · as_aux_lemma =>
                  go_wp2_with (first | (go_at_call 13; (with_reducible refine (dpush HH.out HD6.out HK4.out HP4.out HE.out HLp.out).mono ?_); rintro e w7 ⟨T7, rfl, hd7, st7⟩; have BX7 := Lib.hid (BX6.out.st st7.out); have BY7 := Lib.hid (BY6.out.st st7.out); clear st7) | (go_at_call 14; (with_reducible refine (dpushR HH.out hd7.out HK4.out HP4.out HE.out HLp.out).mono ?_); rintro e w8 ⟨T8, rfl, hd8, st8⟩; have BX8 := Lib.hid (BX7.out.st st8.out); have BY8 := Lib.hid (BY7.out.st st8.out); clear st8))
                  go_meet
                  exact ⟨_, T8, 0, 0, true, by first | rfl | (simp), rfl, hd8, BX8, BY8⟩
                · as_aux_lemma =>
                  go_upto_region 31 with (go_at_call 15; (with_reducible refine (dpop HH.out HD6.out HTx.out HTb.out rfl).mono ?_); rintro e w7 ⟨T7, rfl, hd7, st7⟩; have BX7 := Lib.hid (BX6.out.st st7.out); have BY7 := Lib.hid (BY6.out.st st7.out); clear st7; obtain ⟨⟨x0, x1⟩, ⟨f0, f1⟩⟩ := BX7.out.1.two)
                  have BX8 := Lib.hid (BX7.out.put (.int .i64 tx) (.int .i64 ty))
                  have BY8 := Lib.hid ((BY7.out.far (p := ⟨gx, 0, none⟩) HNe.out.symm (.int .i64 tx)).far (p := ⟨gx, 1, none⟩) HNe.out.symm (.int .i64 ty))
                  have hd8 := Lib.hid (Duo.put HH.out (Duo.put HH.out hd7.out (p := ⟨gx, 0, none⟩) BX7.out.2 HGx.out (.int .i64 tx)) (p := ⟨gx, 1, none⟩) BX7.out.2 HGx.out (.int .i64 ty))
                  obtain ⟨W8, hW8⟩ : ∃ W, (w7.setCell ⟨gx, 0, none⟩ (.int .i64 tx)).setCell ⟨gx, 1, none⟩ (.int .i64 ty) = W := ⟨_, rfl⟩
                  rw [hW8] at BX8 BY8 hd8
                  try rw [hW8]
                  clear hW8 x0 x1 f0 f1 BX7 BY7 hd7
                  go_wp2_with (go_at_call 16; (with_reducible refine (dpopR HH.out hd8.out HTx.out HTb.out rfl).mono ?_); rintro e w9 ⟨T9, rfl, hd9, st9⟩; have BX9 := Lib.hid (BX8.out.st st9.out); have BY9 := Lib.hid (BY8.out.st st9.out); clear st9; obtain ⟨⟨y0, y1⟩, ⟨f0, f1⟩⟩ := BY9.out.1.two)
                  have BY10 := Lib.hid (BY9.out.put (.int .i64 tx) (.int .i64 ty))
                  have BX10 := Lib.hid ((BX9.out.far (p := ⟨gy, 0, none⟩) HNe.out (.int .i64 tx)).far (p := ⟨gy, 1, none⟩) HNe.out (.int .i64 ty))
                  have hd10 := Lib.hid (Duo.put HH.out (Duo.put HH.out hd9.out (p := ⟨gy, 0, none⟩) BY9.out.2 HGy.out (.int .i64 tx)) (p := ⟨gy, 1, none⟩) BY9.out.2 HGy.out (.int .i64 ty))
                  go_meet
                  exact ⟨_, T9, tx, ty, tb, rfl, rfl, hd10, BX10, BY10⟩
                · as_aux_lemma =>
                  go_wp2_with (first | (go_at_call 17; (with_reducible refine (dchg HH.out HD6.out HK4.out HP4.out HBh.out HLc.out).mono ?_); rintro e w7 ⟨T7, rfl, hd7, st7⟩; have BX7 := Lib.hid (BX6.out.st st7.out); have BY7 := Lib.hid (BY6.out.st st7.out); clear st7) | (go_at_call 18; (with_reducible refine (dchgR HH.out hd7.out HK4.out HP4.out HBh.out HLc.out).mono ?_); rintro e w8 ⟨T8, rfl, hd8, st8⟩; have BX8 := Lib.hid (BX7.out.st st8.out); have BY8 := Lib.hid (BY7.out.st st8.out); clear st8))
                  go_meet
                  exact ⟨_, T8, 0, 0, bh, rfl, rfl, hd8, BX8, BY8⟩
                · as_aux_lemma =>
                  go_wp2_with (first | (go_at_call 19; (with_reducible refine (drem HH.out HD6.out HK4.out HBh.out HLr.out).mono ?_); rintro e w7 ⟨T7, rfl, hd7, st7⟩; have BX7 := Lib.hid (BX6.out.st st7.out); have BY7 := Lib.hid (BY6.out.st st7.out); clear st7) | (go_at_call 20; (with_reducible refine (dremR HH.out hd7.out HBh.out HLr.out).mono ?_); rintro e w8 ⟨T8, rfl, hd8, st8⟩; have BX8 := Lib.hid (BX7.out.st st8.out); have BY8 := Lib.hid (BY7.out.st st8.out); clear st8))
                  go_meet
                  exact ⟨_, T8, 0, 0, bh, rfl, rfl, hd8, BX8, BY8⟩
                · as_aux_lemma =>
                  go_upto_region 22 with (go_at_call 21; (with_reducible refine (dprio HH.out HD6.out HK4.out HNp.out HBh.out).mono ?_); rintro e w7 ⟨rfl, r7⟩; have hd7 := Lib.hid (Duo.to HH.out HD6.out r7.out); have BX7 := Lib.hid (BX6.out.rel r7.out); have BY7 := Lib.hid (BY6.out.rel r7.out); clear r7; obtain ⟨⟨x0, x1⟩, ⟨f0, f1⟩⟩ := BX7.out.1.two)
                  have BX8 := Lib.hid (BX7.out.put1 (.int .i64 np))
                  have BY8 := Lib.hid (BY7.out.far (p := ⟨gx, 1, none⟩) HNe.out.symm (.int .i64 np))
                  have hd8 := Lib.hid (Duo.put HH.out hd7.out (p := ⟨gx, 1, none⟩) BX7.out.2 HGx.out (.int .i64 np))
                  obtain ⟨W8, hW8⟩ : ∃ W, w7.setCell ⟨gx, 1, none⟩ (.int .i64 np) = W := ⟨_, rfl⟩
                  rw [hW8] at BX8 BY8 hd8
                  try rw [hW8]
                  clear hW8 x0 x1 f0 f1 BX7 BY7 hd7
                  go_wp2_with (go_at_call 22; (with_reducible refine (dprioR hd8.out HNp.out HBh.out).mono ?_); rintro e w9 ⟨rfl, r9⟩; have hd9 := Lib.hid (Duo.to HH.out hd8.out r9.out); have BX9 := Lib.hid (BX8.out.rel r9.out); have BY9 := Lib.hid (BY8.out.rel r9.out); clear r9; obtain ⟨⟨y0, y1⟩, ⟨f0, f1⟩⟩ := BY9.out.1.two)
                  have BY10 := Lib.hid (BY9.out.put1 (.int .i64 np))
                  have BX10 := Lib.hid (BX9.out.far (p := ⟨gy, 1, none⟩) HNe.out (.int .i64 np))
                  have hd10 := Lib.hid (Duo.put HH.out hd9.out (p := ⟨gy, 1, none⟩) BY9.out.2 HGy.out (.int .i64 np))
                  go_meet
                  exact ⟨_, _, 0, np, bh, rfl, rfl, hd10, BX10, BY10⟩
              obtain ⟨Lz, T6, X, Y, fl, rfl, rfl, HD7, BX7, BY7⟩ := hcut
              as_aux_lemma =>
                obtain ⟨⟨tx, ty⟩, htx⟩ : ∃ x, itH (topH Lz) = x := ⟨_, rfl⟩
                have HTx := Lib.hid htx
                obtain ⟨tb, htb⟩ : ∃ b, (topH Lz).isSome = b := ⟨_, rfl⟩
                have HTb := Lib.hid htb
                clear htx htb
                go_upto_region 39 with (go_at_call 23; (with_reducible refine (dtop HH.out HD7.out HTx.out HTb.out).mono ?_); rintro e w8 ⟨rfl, r8⟩)
                have HD8 := Lib.hid (Duo.to HH.out HD7.out r8.out)
                have XX8 := Lib.hid (BX7.out.1.rel r8.out)
                have XY8 := Lib.hid (BY7.out.1.rel r8.out)
                clear r8 BX7 BY7 HD7
                have ALV8 := HD8.out.rel.self.alloc (.cells #[.int .i64 tx, .int .i64 ty] 36)
                have HE8 := Lib.hid (Duo.to HH.out HD8.out ALV8)
                have BV8 := Lib.hid (Bk.new w8 36 #[.int .i64 tx, .int .i64 ty])
                have XX9 := Lib.hid (XX8.out.rel ALV8)
                have XY9 := Lib.hid (XY8.out.rel ALV8)
                clear ALV8
                obtain ⟨V8, hV8⟩ : ∃ W, w8.alloc (.cells #[.int .i64 tx, .int .i64 ty] 36) = W := ⟨_, rfl⟩
                obtain ⟨gt, hgt⟩ : ∃ q, w8.heap.size = q := ⟨_, rfl⟩
                rw [hV8] at HE8 BV8 XX9 XY9
                rw [hgt] at BV8
                try rw [hV8]
                try rw [hgt]
                clear hV8 hgt
                go_upto_region 40 with (go_at_call 24; (with_reducible refine (dtopR HE8.out HTx.out HTb.out).mono ?_); rintro e w9 ⟨rfl, r9⟩)
                have HD9 := Lib.hid (Duo.to HH.out HE8.out r9.out)
                have XX10 := Lib.hid (XX9.out.rel r9.out)
                have XY10 := Lib.hid (XY9.out.rel r9.out)
                have XT10 := Lib.hid (BV8.out.rel r9.out)
                clear r9 XX8 XY8 XX9 XY9 BV8 HE8 HD8
                have ALV9 := HD9.out.rel.self.alloc (.cells #[.int .i64 tx, .int .i64 ty] 36)
                have HE9 := Lib.hid (Duo.to HH.out HD9.out ALV9)
                have BV9 := Lib.hid (Bk.new w9 36 #[.int .i64 tx, .int .i64 ty])
                have ZX := Lib.hid (XX10.out.rel ALV9)
                have ZY := Lib.hid (XY10.out.rel ALV9)
                have ZT := Lib.hid (XT10.out.rel ALV9)
                clear ALV9
                obtain ⟨V9, hV9⟩ : ∃ W, w9.alloc (.cells #[.int .i64 tx, .int .i64 ty] 36) = W := ⟨_, rfl⟩
                obtain ⟨gw, hgw⟩ : ∃ q, w9.heap.size = q := ⟨_, rfl⟩
                rw [hV9] at HE9 BV9 ZX ZY ZT
                rw [hgw] at BV9
                try rw [hV9]
                try rw [hgw]
                clear hV9 hgw
                clear XX10 XY10 XT10 HD9
                obtain ⟨n9, hn9⟩ : ∃ n, Lz.length = n := ⟨_, rfl⟩
                have HN9 := Lib.hid hn9
                obtain ⟨A3, c3, hb3, hr3, hc3, hc4⟩ := HE9.out.box hn9
                have ZB := Lib.hid hb3
                have ZR := Lib.hid hr3
                clear hn9 hb3 hr3
                refine wp_region_held_drew (S := (fun w' => Rel V9 w')) (by kernel_rfl) HE9.out.rel.self.drew (fun hHeld => ?_)
                refine held_take (i := 0) (v := ?_) (some 163) rfl rfl (by kernel_rfl) (by kernel_rfl) (by kernel_rfl) (fun _ _ _ h => h) (Or.inl ⟨by rfl, ?_⟩) hHeld ?_
                rotate_left 1
                · intro w' (h : Rel V9 w'); obtain ⟨x0, x1⟩ := (ZX.out.rel h).two.1; obtain ⟨y0, y1⟩ := (ZY.out.rel h).two.1; obtain ⟨t0, t1⟩ := (ZT.out.rel h).two.1; obtain ⟨u0, u1⟩ := (BV9.out.rel h).two.1; obtain ⟨b0, b1⟩ := (ZB.out.rel h).two.1; go_simp; try with_reducible rfl
                try simp only [Act.put, List.setIfInBounds_toArray, List.set_cons_zero, List.set_cons_succ]
                refine held_take (i := 1) (v := ?_) (some 164) rfl rfl (by kernel_rfl) (by kernel_rfl) (by kernel_rfl) (fun _ _ _ h => h) (Or.inl ⟨by rfl, ?_⟩) hHeld ?_
                rotate_left 1
                · intro w' (h : Rel V9 w'); obtain ⟨x0, x1⟩ := (ZX.out.rel h).two.1; obtain ⟨y0, y1⟩ := (ZY.out.rel h).two.1; obtain ⟨t0, t1⟩ := (ZT.out.rel h).two.1; obtain ⟨u0, u1⟩ := (BV9.out.rel h).two.1; obtain ⟨b0, b1⟩ := (ZB.out.rel h).two.1; go_simp; try with_reducible rfl
                try simp only [Act.put, List.setIfInBounds_toArray, List.set_cons_zero, List.set_cons_succ]
                refine held_take (i := 2) (v := ?_) (some 165) rfl rfl (by kernel_rfl) (by kernel_rfl) (by kernel_rfl) (fun _ _ _ h => h) (Or.inl ⟨by rfl, ?_⟩) hHeld ?_
                rotate_left 1
                · intro w' (h : Rel V9 w'); obtain ⟨x0, x1⟩ := (ZX.out.rel h).two.1; obtain ⟨y0, y1⟩ := (ZY.out.rel h).two.1; obtain ⟨t0, t1⟩ := (ZT.out.rel h).two.1; obtain ⟨u0, u1⟩ := (BV9.out.rel h).two.1; obtain ⟨b0, b1⟩ := (ZB.out.rel h).two.1; go_simp; try with_reducible rfl
                try simp only [Act.put, List.setIfInBounds_toArray, List.set_cons_zero, List.set_cons_succ]
                refine held_take (i := 3) (v := ?_) (some 166) rfl rfl (by kernel_rfl) (by kernel_rfl) (by kernel_rfl) (fun _ _ _ h => h) (Or.inl ⟨by rfl, ?_⟩) hHeld ?_
                rotate_left 1
                · intro w' (h : Rel V9 w'); obtain ⟨x0, x1⟩ := (ZX.out.rel h).two.1; obtain ⟨y0, y1⟩ := (ZY.out.rel h).two.1; obtain ⟨t0, t1⟩ := (ZT.out.rel h).two.1; obtain ⟨u0, u1⟩ := (BV9.out.rel h).two.1; obtain ⟨b0, b1⟩ := (ZB.out.rel h).two.1; go_simp; try with_reducible rfl
                try simp only [Act.put, List.setIfInBounds_toArray, List.set_cons_zero, List.set_cons_succ]
                refine held_take (i := 4) (v := ?_) (some 167) rfl rfl (by kernel_rfl) (by kernel_rfl) (by kernel_rfl) (fun _ _ _ h => h) (Or.inl ⟨by rfl, ?_⟩) hHeld ?_
                rotate_left 1
                · intro w' (h : Rel V9 w'); obtain ⟨x0, x1⟩ := (ZX.out.rel h).two.1; obtain ⟨y0, y1⟩ := (ZY.out.rel h).two.1; obtain ⟨t0, t1⟩ := (ZT.out.rel h).two.1; obtain ⟨u0, u1⟩ := (BV9.out.rel h).two.1; obtain ⟨b0, b1⟩ := (ZB.out.rel h).two.1; go_simp; try with_reducible rfl
                try simp only [Act.put, List.setIfInBounds_toArray, List.set_cons_zero, List.set_cons_succ]
                refine held_take (i := 5) (v := ?_) (some 168) rfl rfl (by kernel_rfl) (by kernel_rfl) (by kernel_rfl) (fun _ _ _ h => h) (Or.inl ⟨by rfl, ?_⟩) hHeld ?_
                rotate_left 1
                · intro w' (h : Rel V9 w'); obtain ⟨x0, x1⟩ := (ZX.out.rel h).two.1; obtain ⟨y0, y1⟩ := (ZY.out.rel h).two.1; obtain ⟨t0, t1⟩ := (ZT.out.rel h).two.1; obtain ⟨u0, u1⟩ := (BV9.out.rel h).two.1; obtain ⟨b0, b1⟩ := (ZB.out.rel h).two.1; go_simp; try with_reducible rfl
                try simp only [Act.put, List.setIfInBounds_toArray, List.set_cons_zero, List.set_cons_succ]
                refine held_take (i := 6) (v := ?_) (some 169) rfl rfl (by kernel_rfl) (by kernel_rfl) (by kernel_rfl) (fun _ _ _ h => h) (Or.inl ⟨by rfl, ?_⟩) hHeld ?_
                rotate_left 1
                · intro w' (h : Rel V9 w'); obtain ⟨x0, x1⟩ := (ZX.out.rel h).two.1; obtain ⟨y0, y1⟩ := (ZY.out.rel h).two.1; obtain ⟨t0, t1⟩ := (ZT.out.rel h).two.1; obtain ⟨u0, u1⟩ := (BV9.out.rel h).two.1; obtain ⟨b0, b1⟩ := (ZB.out.rel h).two.1; go_simp; try with_reducible rfl
                try simp only [Act.put, List.setIfInBounds_toArray, List.set_cons_zero, List.set_cons_succ]
                refine held_take (i := 7) (v := ?_) (some 170) rfl rfl (by kernel_rfl) (by kernel_rfl) (by kernel_rfl) (fun _ _ _ h => h) (Or.inl ⟨by rfl, ?_⟩) hHeld ?_
                rotate_left 1
                · intro w' (h : Rel V9 w'); obtain ⟨x0, x1⟩ := (ZX.out.rel h).two.1; obtain ⟨y0, y1⟩ := (ZY.out.rel h).two.1; obtain ⟨t0, t1⟩ := (ZT.out.rel h).two.1; obtain ⟨u0, u1⟩ := (BV9.out.rel h).two.1; obtain ⟨b0, b1⟩ := (ZB.out.rel h).two.1; go_simp; try with_reducible rfl
                try simp only [Act.put, List.setIfInBounds_toArray, List.set_cons_zero, List.set_cons_succ]
                refine held_take (i := 8) (v := ?_) (some 171) rfl rfl (by kernel_rfl) (by kernel_rfl) (by kernel_rfl) (fun _ _ _ h => h) (Or.inl ⟨by rfl, ?_⟩) hHeld ?_
                rotate_left 1
                · intro w' (h : Rel V9 w'); obtain ⟨x0, x1⟩ := (ZX.out.rel h).two.1; obtain ⟨y0, y1⟩ := (ZY.out.rel h).two.1; obtain ⟨t0, t1⟩ := (ZT.out.rel h).two.1; obtain ⟨u0, u1⟩ := (BV9.out.rel h).two.1; obtain ⟨b0, b1⟩ := (ZB.out.rel h).two.1; go_simp; try with_reducible rfl
                try simp only [Act.put, List.setIfInBounds_toArray, List.set_cons_zero, List.set_cons_succ]
                refine held_take (i := 9) (v := ?_) (some 172) rfl rfl (by kernel_rfl) (by kernel_rfl) (by kernel_rfl) (fun _ _ _ h => h) (Or.inl ⟨by rfl, ?_⟩) hHeld ?_
                rotate_left 1
                · intro w' (h : Rel V9 w'); obtain ⟨x0, x1⟩ := (ZX.out.rel h).two.1; obtain ⟨y0, y1⟩ := (ZY.out.rel h).two.1; obtain ⟨t0, t1⟩ := (ZT.out.rel h).two.1; obtain ⟨u0, u1⟩ := (BV9.out.rel h).two.1; obtain ⟨b0, b1⟩ := (ZB.out.rel h).two.1; go_simp; try with_reducible rfl
                try simp only [Act.put, List.setIfInBounds_toArray, List.set_cons_zero, List.set_cons_succ]
                refine held_take (i := 10) (v := ?_) (some 173) rfl rfl (by kernel_rfl) (by kernel_rfl) (by kernel_rfl) (fun _ _ _ h => h) (Or.inl ⟨by rfl, ?_⟩) hHeld ?_
                rotate_left 1
                · intro w' (h : Rel V9 w'); obtain ⟨x0, x1⟩ := (ZX.out.rel h).two.1; obtain ⟨y0, y1⟩ := (ZY.out.rel h).two.1; obtain ⟨t0, t1⟩ := (ZT.out.rel h).two.1; obtain ⟨u0, u1⟩ := (BV9.out.rel h).two.1; obtain ⟨b0, b1⟩ := (ZB.out.rel h).two.1; go_simp; try with_reducible rfl
                try simp only [Act.put, List.setIfInBounds_toArray, List.set_cons_zero, List.set_cons_succ]
                refine held_take (i := 11) (v := ?_) (some 174) rfl rfl (by kernel_rfl) (by kernel_rfl) (by kernel_rfl) (fun _ _ _ h => h) (Or.inl ⟨by rfl, ?_⟩) hHeld ?_
                rotate_left 1
                · intro w' (h : Rel V9 w'); obtain ⟨x0, x1⟩ := (ZX.out.rel h).two.1; obtain ⟨y0, y1⟩ := (ZY.out.rel h).two.1; obtain ⟨t0, t1⟩ := (ZT.out.rel h).two.1; obtain ⟨u0, u1⟩ := (BV9.out.rel h).two.1; obtain ⟨b0, b1⟩ := (ZB.out.rel h).two.1; go_simp; try with_reducible rfl
                try simp only [Act.put, List.setIfInBounds_toArray, List.set_cons_zero, List.set_cons_succ]
                refine held_take (i := 12) (v := ?_) (some 175) rfl rfl (by kernel_rfl) (by kernel_rfl) (by kernel_rfl) (fun _ _ _ h => h) (Or.inl ⟨by rfl, ?_⟩) hHeld ?_
                rotate_left 1
                · intro w' (h : Rel V9 w'); obtain ⟨x0, x1⟩ := (ZX.out.rel h).two.1; obtain ⟨y0, y1⟩ := (ZY.out.rel h).two.1; obtain ⟨t0, t1⟩ := (ZT.out.rel h).two.1; obtain ⟨u0, u1⟩ := (BV9.out.rel h).two.1; obtain ⟨b0, b1⟩ := (ZB.out.rel h).two.1; go_simp; try with_reducible rfl
                try simp only [Act.put, List.setIfInBounds_toArray, List.set_cons_zero, List.set_cons_succ]
                refine held_take (i := 13) (v := ?_) (some 176) rfl rfl (by kernel_rfl) (by kernel_rfl) (by kernel_rfl) (fun _ _ _ h => h) (Or.inl ⟨by rfl, ?_⟩) hHeld ?_
                rotate_left 1
                · intro w' (h : Rel V9 w'); obtain ⟨x0, x1⟩ := (ZX.out.rel h).two.1; obtain ⟨y0, y1⟩ := (ZY.out.rel h).two.1; obtain ⟨t0, t1⟩ := (ZT.out.rel h).two.1; obtain ⟨u0, u1⟩ := (BV9.out.rel h).two.1; obtain ⟨b0, b1⟩ := (ZB.out.rel h).two.1; go_simp; try with_reducible rfl
                try simp only [Act.put, List.setIfInBounds_toArray, List.set_cons_zero, List.set_cons_succ]
                refine held_take (i := 14) (v := ?_) (some 177) rfl rfl (by kernel_rfl) (by kernel_rfl) (by kernel_rfl) (fun _ _ _ h => h) (Or.inl ⟨by rfl, ?_⟩) hHeld ?_
                rotate_left 1
                · intro w' (h : Rel V9 w'); obtain ⟨x0, x1⟩ := (ZX.out.rel h).two.1; obtain ⟨y0, y1⟩ := (ZY.out.rel h).two.1; obtain ⟨t0, t1⟩ := (ZT.out.rel h).two.1; obtain ⟨u0, u1⟩ := (BV9.out.rel h).two.1; obtain ⟨b0, b1⟩ := (ZB.out.rel h).two.1; go_simp; try with_reducible rfl
                try simp only [Act.put, List.setIfInBounds_toArray, List.set_cons_zero, List.set_cons_succ]
                refine held_take (i := 15) (v := ?_) (some 178) rfl rfl (by kernel_rfl) (by kernel_rfl) (by kernel_rfl) (fun _ _ _ h => h) (Or.inl ⟨by rfl, ?_⟩) hHeld ?_
                rotate_left 1
                · intro w' (h : Rel V9 w'); obtain ⟨x0, x1⟩ := (ZX.out.rel h).two.1; obtain ⟨y0, y1⟩ := (ZY.out.rel h).two.1; obtain ⟨t0, t1⟩ := (ZT.out.rel h).two.1; obtain ⟨u0, u1⟩ := (BV9.out.rel h).two.1; obtain ⟨b0, b1⟩ := (ZB.out.rel h).two.1; go_simp; try with_reducible rfl
                try simp only [Act.put, List.setIfInBounds_toArray, List.set_cons_zero, List.set_cons_succ]
                refine held_take (i := 16) (v := ?_) (some 179) rfl rfl (by kernel_rfl) (by kernel_rfl) (by kernel_rfl) (fun _ _ _ h => h) (Or.inl ⟨by rfl, ?_⟩) hHeld ?_
                rotate_left 1
                · intro w' (h : Rel V9 w'); obtain ⟨x0, x1⟩ := (ZX.out.rel h).two.1; obtain ⟨y0, y1⟩ := (ZY.out.rel h).two.1; obtain ⟨t0, t1⟩ := (ZT.out.rel h).two.1; obtain ⟨u0, u1⟩ := (BV9.out.rel h).two.1; obtain ⟨b0, b1⟩ := (ZB.out.rel h).two.1; go_simp; try with_reducible rfl
                try simp only [Act.put, List.setIfInBounds_toArray, List.set_cons_zero, List.set_cons_succ]
                refine held_take (i := 17) (v := ?_) (some 180) rfl rfl (by kernel_rfl) (by kernel_rfl) (by kernel_rfl) (fun _ _ _ h => h) (Or.inl ⟨by rfl, ?_⟩) hHeld ?_
                rotate_left 1
                · intro w' (h : Rel V9 w'); obtain ⟨x0, x1⟩ := (ZX.out.rel h).two.1; obtain ⟨y0, y1⟩ := (ZY.out.rel h).two.1; obtain ⟨t0, t1⟩ := (ZT.out.rel h).two.1; obtain ⟨u0, u1⟩ := (BV9.out.rel h).two.1; obtain ⟨b0, b1⟩ := (ZB.out.rel h).two.1; go_simp; try with_reducible rfl
                try simp only [Act.put, List.setIfInBounds_toArray, List.set_cons_zero, List.set_cons_succ]
                refine held_take (i := 18) (v := ?_) (some 181) rfl rfl (by kernel_rfl) (by kernel_rfl) (by kernel_rfl) (fun _ _ _ h => h) (Or.inl ⟨by rfl, ?_⟩) hHeld ?_
                rotate_left 1
                · intro w' (h : Rel V9 w'); obtain ⟨x0, x1⟩ := (ZX.out.rel h).two.1; obtain ⟨y0, y1⟩ := (ZY.out.rel h).two.1; obtain ⟨t0, t1⟩ := (ZT.out.rel h).two.1; obtain ⟨u0, u1⟩ := (BV9.out.rel h).two.1; obtain ⟨b0, b1⟩ := (ZB.out.rel h).two.1; go_simp; try with_reducible rfl
                try simp only [Act.put, List.setIfInBounds_toArray, List.set_cons_zero, List.set_cons_succ]
                refine held_take (i := 19) (v := ?_) (some 182) rfl rfl (by kernel_rfl) (by kernel_rfl) (by kernel_rfl) (fun _ _ _ h => h) (Or.inl ⟨by rfl, ?_⟩) hHeld ?_
                rotate_left 1
                · intro w' (h : Rel V9 w'); obtain ⟨x0, x1⟩ := (ZX.out.rel h).two.1; obtain ⟨y0, y1⟩ := (ZY.out.rel h).two.1; obtain ⟨t0, t1⟩ := (ZT.out.rel h).two.1; obtain ⟨u0, u1⟩ := (BV9.out.rel h).two.1; obtain ⟨b0, b1⟩ := (ZB.out.rel h).two.1; go_simp; try with_reducible rfl
                try simp only [Act.put, List.setIfInBounds_toArray, List.set_cons_zero, List.set_cons_succ]
                refine held_take (i := 21) (v := ?_) (some 184) rfl rfl (by kernel_rfl) (by kernel_rfl) (by kernel_rfl) (fun _ _ _ h => h) (Or.inl ⟨by rfl, ?_⟩) hHeld ?_
                rotate_left 1
                · intro w' (h : Rel V9 w'); obtain ⟨x0, x1⟩ := (ZX.out.rel h).two.1; obtain ⟨y0, y1⟩ := (ZY.out.rel h).two.1; obtain ⟨t0, t1⟩ := (ZT.out.rel h).two.1; obtain ⟨u0, u1⟩ := (BV9.out.rel h).two.1; obtain ⟨b0, b1⟩ := (ZB.out.rel h).two.1; go_simp; try with_reducible rfl
                try simp only [Act.put, List.setIfInBounds_toArray, List.set_cons_zero, List.set_cons_succ]
                refine held_take (i := 22) (v := ?_) (some 185) rfl rfl (by kernel_rfl) (by kernel_rfl) (by kernel_rfl) (fun _ _ _ h => h) (Or.inl ⟨by rfl, ?_⟩) hHeld ?_
                rotate_left 1
                · intro w' (h : Rel V9 w'); obtain ⟨x0, x1⟩ := (ZX.out.rel h).two.1; obtain ⟨y0, y1⟩ := (ZY.out.rel h).two.1; obtain ⟨t0, t1⟩ := (ZT.out.rel h).two.1; obtain ⟨u0, u1⟩ := (BV9.out.rel h).two.1; obtain ⟨b0, b1⟩ := (ZB.out.rel h).two.1; go_simp; try with_reducible rfl
                try simp only [Act.put, List.setIfInBounds_toArray, List.set_cons_zero, List.set_cons_succ]
                refine held_take (i := 23) (v := ?_) (some 186) rfl rfl (by kernel_rfl) (by kernel_rfl) (by kernel_rfl) (fun _ _ _ h => h) (Or.inl ⟨by rfl, ?_⟩) hHeld ?_
                rotate_left 1
                · intro w' (h : Rel V9 w'); obtain ⟨x0, x1⟩ := (ZX.out.rel h).two.1; obtain ⟨y0, y1⟩ := (ZY.out.rel h).two.1; obtain ⟨t0, t1⟩ := (ZT.out.rel h).two.1; obtain ⟨u0, u1⟩ := (BV9.out.rel h).two.1; obtain ⟨b0, b1⟩ := (ZB.out.rel h).two.1; go_simp; try with_reducible rfl
                try simp only [Act.put, List.setIfInBounds_toArray, List.set_cons_zero, List.set_cons_succ]
                refine held_take (i := 24) (v := ?_) (some 187) rfl rfl (by kernel_rfl) (by kernel_rfl) (by kernel_rfl) (fun _ _ _ h => h) (Or.inl ⟨by rfl, ?_⟩) hHeld ?_
                rotate_left 1
                · intro w' (h : Rel V9 w'); obtain ⟨x0, x1⟩ := (ZX.out.rel h).two.1; obtain ⟨y0, y1⟩ := (ZY.out.rel h).two.1; obtain ⟨t0, t1⟩ := (ZT.out.rel h).two.1; obtain ⟨u0, u1⟩ := (BV9.out.rel h).two.1; obtain ⟨b0, b1⟩ := (ZB.out.rel h).two.1; go_simp; try with_reducible rfl
                try simp only [Act.put, List.setIfInBounds_toArray, List.set_cons_zero, List.set_cons_succ]
                refine held_take (i := 25) (v := ?_) (some 188) rfl rfl (by kernel_rfl) (by kernel_rfl) (by kernel_rfl) (fun _ _ _ h => h) (Or.inl ⟨by rfl, ?_⟩) hHeld ?_
                rotate_left 1
                · intro w' (h : Rel V9 w'); obtain ⟨x0, x1⟩ := (ZX.out.rel h).two.1; obtain ⟨y0, y1⟩ := (ZY.out.rel h).two.1; obtain ⟨t0, t1⟩ := (ZT.out.rel h).two.1; obtain ⟨u0, u1⟩ := (BV9.out.rel h).two.1; obtain ⟨b0, b1⟩ := (ZB.out.rel h).two.1; go_simp; try with_reducible rfl
                try simp only [Act.put, List.setIfInBounds_toArray, List.set_cons_zero, List.set_cons_succ]
                refine held_one (j := 20) (by kernel_rfl) rfl (fun K hK => ?_)
                try simp only [List.getElem_toArray, List.getElem_cons_succ, List.getElem_cons_zero]
                rw [if_pos (by rfl)]
                go_simp
                go_at_call 25
                (with_reducible refine (dlen HH.out (Duo.to HH.out HE9.out hHeld) HN9.out).mono ?_)
                rintro e wl ⟨rfl, rl⟩
                refine hK.out _ _ (hHeld.trans rl.out) (fun hHeld => ?_)
                clear hK K
                try simp only [Act.put, List.setIfInBounds_toArray, List.set_cons_zero, List.set_cons_succ]
                refine held_take (i := 26) (v := ?_) (some 189) rfl rfl (by kernel_rfl) (by kernel_rfl) (by kernel_rfl) (fun _ _ _ h => h) (Or.inl ⟨by rfl, ?_⟩) hHeld ?_
                rotate_left 1
                · intro w' (h : Rel V9 w'); obtain ⟨x0, x1⟩ := (ZX.out.rel h).two.1; obtain ⟨y0, y1⟩ := (ZY.out.rel h).two.1; obtain ⟨t0, t1⟩ := (ZT.out.rel h).two.1; obtain ⟨u0, u1⟩ := (BV9.out.rel h).two.1; obtain ⟨b0, b1⟩ := (ZB.out.rel h).two.1; go_simp; try with_reducible rfl
                try simp only [Act.put, List.setIfInBounds_toArray, List.set_cons_zero, List.set_cons_succ]
                refine held_take (i := 27) (v := ?_) (some 190) rfl rfl (by kernel_rfl) (by kernel_rfl) (by kernel_rfl) (fun _ _ _ h => h) (Or.inl ⟨by rfl, ?_⟩) hHeld ?_
                rotate_left 1
                · intro w' (h : Rel V9 w'); obtain ⟨x0, x1⟩ := (ZX.out.rel h).two.1; obtain ⟨y0, y1⟩ := (ZY.out.rel h).two.1; obtain ⟨t0, t1⟩ := (ZT.out.rel h).two.1; obtain ⟨u0, u1⟩ := (BV9.out.rel h).two.1; obtain ⟨b0, b1⟩ := (ZB.out.rel h).two.1; go_simp; try with_reducible rfl
                try simp only [Act.put, List.setIfInBounds_toArray, List.set_cons_zero, List.set_cons_succ]
                refine held_take (i := 28) (v := ?_) (some 191) rfl rfl (by kernel_rfl) (by kernel_rfl) (by kernel_rfl) (fun _ _ _ h => h) (Or.inl ⟨by rfl, ?_⟩) hHeld ?_
                rotate_left 1
                · intro w' (h : Rel V9 w'); obtain ⟨x0, x1⟩ := (ZX.out.rel h).two.1; obtain ⟨y0, y1⟩ := (ZY.out.rel h).two.1; obtain ⟨t0, t1⟩ := (ZT.out.rel h).two.1; obtain ⟨u0, u1⟩ := (BV9.out.rel h).two.1; obtain ⟨b0, b1⟩ := (ZB.out.rel h).two.1; go_simp; try with_reducible rfl
                try simp only [Act.put, List.setIfInBounds_toArray, List.set_cons_zero, List.set_cons_succ]
                refine held_take (i := 29) (v := ?_) (some 192) rfl rfl (by kernel_rfl) (by kernel_rfl) (by kernel_rfl) (fun _ _ _ h => h) (Or.inl ⟨by rfl, ?_⟩) hHeld ?_
                rotate_left 1
                · intro w' (h : Rel V9 w'); obtain ⟨x0, x1⟩ := (ZX.out.rel h).two.1; obtain ⟨y0, y1⟩ := (ZY.out.rel h).two.1; obtain ⟨t0, t1⟩ := (ZT.out.rel h).two.1; obtain ⟨u0, u1⟩ := (BV9.out.rel h).two.1; obtain ⟨b0, b1⟩ := (ZB.out.rel h).two.1; go_simp; try with_reducible rfl
                try simp only [Act.put, List.setIfInBounds_toArray, List.set_cons_zero, List.set_cons_succ]
                refine held_take (i := 31) (v := ?_) (some 194) rfl rfl (by kernel_rfl) (by kernel_rfl) (by kernel_rfl) (fun _ _ _ h => h) (Or.inl ⟨by rfl, ?_⟩) hHeld ?_
                rotate_left 1
                · intro w' (h : Rel V9 w'); obtain ⟨x0, x1⟩ := (ZX.out.rel h).two.1; obtain ⟨y0, y1⟩ := (ZY.out.rel h).two.1; obtain ⟨t0, t1⟩ := (ZT.out.rel h).two.1; obtain ⟨u0, u1⟩ := (BV9.out.rel h).two.1; obtain ⟨b0, b1⟩ := (ZB.out.rel h).two.1; go_simp; try with_reducible rfl
                try simp only [Act.put, List.setIfInBounds_toArray, List.set_cons_zero, List.set_cons_succ]
                refine held_take (i := 32) (v := ?_) (some 195) rfl rfl (by kernel_rfl) (by kernel_rfl) (by kernel_rfl) (fun _ _ _ h => h) (Or.inl ⟨by rfl, ?_⟩) hHeld ?_
                rotate_left 1
                · intro w' (h : Rel V9 w'); obtain ⟨x0, x1⟩ := (ZX.out.rel h).two.1; obtain ⟨y0, y1⟩ := (ZY.out.rel h).two.1; obtain ⟨t0, t1⟩ := (ZT.out.rel h).two.1; obtain ⟨u0, u1⟩ := (BV9.out.rel h).two.1; obtain ⟨b0, b1⟩ := (ZB.out.rel h).two.1; go_simp; try with_reducible rfl
                try simp only [Act.put, List.setIfInBounds_toArray, List.set_cons_zero, List.set_cons_succ]
                refine held_take (i := 33) (v := ?_) (some 196) rfl rfl (by kernel_rfl) (by kernel_rfl) (by kernel_rfl) (fun _ _ _ h => h) (Or.inl ⟨by rfl, ?_⟩) hHeld ?_
                rotate_left 1
                · intro w' (h : Rel V9 w'); obtain ⟨x0, x1⟩ := (ZX.out.rel h).two.1; obtain ⟨y0, y1⟩ := (ZY.out.rel h).two.1; obtain ⟨t0, t1⟩ := (ZT.out.rel h).two.1; obtain ⟨u0, u1⟩ := (BV9.out.rel h).two.1; obtain ⟨b0, b1⟩ := (ZB.out.rel h).two.1; go_simp; try with_reducible rfl
                try simp only [Act.put, List.setIfInBounds_toArray, List.set_cons_zero, List.set_cons_succ]
                refine held_take (i := 34) (v := ?_) (some 197) rfl rfl (by kernel_rfl) (by kernel_rfl) (by kernel_rfl) (fun _ _ _ h => h) (Or.inl ⟨by rfl, ?_⟩) hHeld ?_
                rotate_left 1
                · intro w' (h : Rel V9 w'); obtain ⟨x0, x1⟩ := (ZX.out.rel h).two.1; obtain ⟨y0, y1⟩ := (ZY.out.rel h).two.1; obtain ⟨t0, t1⟩ := (ZT.out.rel h).two.1; obtain ⟨u0, u1⟩ := (BV9.out.rel h).two.1; obtain ⟨b0, b1⟩ := (ZB.out.rel h).two.1; go_simp; try with_reducible rfl
                try simp only [Act.put, List.setIfInBounds_toArray, List.set_cons_zero, List.set_cons_succ]
                refine held_one (j := 30) (by kernel_rfl) rfl (fun K hK => ?_)
                try simp only [List.getElem_toArray, List.getElem_cons_succ, List.getElem_cons_zero]
                rw [if_pos (by rfl)]
                go_simp
                go_at_call 27
                (with_reducible refine (dall HH.out (Duo.to HH.out HE9.out hHeld) HN9.out).mono ?_)
                rintro e wa ⟨AA, ca, rfl, qa, ra⟩
                refine hK.out _ _ (hHeld.trans ra.out) (fun hHeld => ?_)
                clear hK K
                try simp only [Act.put, List.setIfInBounds_toArray, List.set_cons_zero, List.set_cons_succ]
                refine held_one (j := 35) (by kernel_rfl) rfl (fun K hK => ?_)
                try simp only [List.getElem_toArray, List.getElem_cons_succ, List.getElem_cons_zero]
                rw [if_pos (by rfl)]
                go_simp
                go_at_call 26
                (with_reducible refine (rsame16_yes Lz AA A3 n9 ca c3 HN9.out qa.out.2.1 qa.out.2.2 hc3 hc4 _ hHeld.self qa.out.1 (ZR.out.rel hHeld)).mono ?_)
                rintro e wz ⟨rfl, rz⟩
                refine hK.out _ _ (hHeld.trans rz) (fun hHeld => ?_)
                clear hK K
                try simp only [Act.put, List.setIfInBounds_toArray, List.set_cons_zero, List.set_cons_succ]
                refine held_take (i := 36) (v := ?_) (some 199) rfl rfl (by kernel_rfl) (by kernel_rfl) (by kernel_rfl) (fun _ _ _ h => h) (Or.inl ⟨by rfl, ?_⟩) hHeld ?_
                rotate_left 1
                · intro w' (h : Rel V9 w'); obtain ⟨x0, x1⟩ := (ZX.out.rel h).two.1; obtain ⟨y0, y1⟩ := (ZY.out.rel h).two.1; obtain ⟨t0, t1⟩ := (ZT.out.rel h).two.1; obtain ⟨u0, u1⟩ := (BV9.out.rel h).two.1; obtain ⟨b0, b1⟩ := (ZB.out.rel h).two.1; go_simp; try with_reducible rfl
                try simp only [Act.put, List.setIfInBounds_toArray, List.set_cons_zero, List.set_cons_succ]
                refine held_take (i := 37) (v := ?_) (some 200) rfl rfl (by kernel_rfl) (by kernel_rfl) (by kernel_rfl) (fun _ _ _ h => h) (Or.inl ⟨by rfl, ?_⟩) hHeld ?_
                rotate_left 1
                · intro w' (h : Rel V9 w'); obtain ⟨x0, x1⟩ := (ZX.out.rel h).two.1; obtain ⟨y0, y1⟩ := (ZY.out.rel h).two.1; obtain ⟨t0, t1⟩ := (ZT.out.rel h).two.1; obtain ⟨u0, u1⟩ := (BV9.out.rel h).two.1; obtain ⟨b0, b1⟩ := (ZB.out.rel h).two.1; go_simp; try with_reducible rfl
                try simp only [Act.put, List.setIfInBounds_toArray, List.set_cons_zero, List.set_cons_succ]
                refine wpAnyH_done (by kernel_rfl) ?_ _
                go_wp2_with (fail)
                go_roundw
                case rel => exact ⟨j2 + 1, Lz, T6, by go_num, by omega, by omega, Lib.hid (Duo.to HH.out HE9.out hHeld)⟩
                case measure => simp [RowKit.intOf]; omega
          · have hl2i : (j2 : Int) < (N : Int) := by omega
            have hl60i : ¬ (j2 : Int) < 60 := by omega
            have HWx := Lib.hid HD.out.rel
            go_wp2_with (fail)
            go_roundw
            case rel => exact ⟨j + 1, by go_num, by omega, HWx⟩
            case measure => simp [RowKit.intOf]; omega
        · have hl2i : ¬ (j2 : Int) < (N : Int) := by omega
          have HWx := Lib.hid HD.out.rel
          go_wp2_with (fail)
          go_roundw
          case rel => exact ⟨j + 1, by go_num, by omega, HWx⟩
          case measure => simp [RowKit.intOf]; omega
    · have hij : ¬ (j : Int) < 2 := by omega
      go_wp2_with (fail)
      go_ret
      exact ⟨rfl, R2.out.trans HW.out⟩
end Go.Proofs.Ytminmcledbfchaa
