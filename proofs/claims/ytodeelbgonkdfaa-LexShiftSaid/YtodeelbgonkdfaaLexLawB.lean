/- The walk of LexShift. -/
import Derived.Test.YtodeelbgonkdfaaLexLawBase
namespace Go.Proofs.Ytodeelbgonkdfaa
open Go.RowKit Go.Lib
set_option linter.unusedVariables false
set_option linter.unusedSimpArgs false

set_option maxRecDepth 100000 in
set_option maxHeartbeats 4000000 in
theorem LexShift_at (H : AllOk) (s : ByteArray) (hs : s.size ≤ 140737488351232) (A : Option Addr) (cap : Nat) (zs : List (Int × Int)) (many : Int) (w : World) (hz : PairsIn w A zs.length zs) (m0 : -9223372036854775808 ≤ many) (m1 : many ≤ 9223372036854775807) (hr : Rel w w) :
    Calls Try.prog 7 #[.string s, .slice A zs.length cap, .int .i64 many] w fun e w' => e = .returned (.bool true) ∧ Below w.heap.size w w' := by
  have H := Lib.hid H
  have HZ := Lib.hid hz
  have hzl := hz.2.1
  clear hz
  go_enter Try.func7, Try.ntmps7
  go_upto_block 0 with (go_at_call 9; (with_reducible refine (awake_any H.out _ _ hr.self).mono ?_); rintro e w1 ⟨rfl, h1⟩)
  go_cut [8] (fun t wx => ∃ L : List UInt8, t = .string (B L) ∧ L.length ≤ 200 ∧ Rel w wx)
  case first =>
    go_wp2_with (fail)
    go_loopw [8, 9] (fun t i wr => ∃ (j : Nat) (L : List UInt8), j ≤ zs.length ∧ j ≤ 20 ∧ i = .int .i64 j ∧ t = .string (B L) ∧ L.length ≤ 10 * j ∧ Rel w wr) (fun _ i _ => 20 - (intOf i).toNat)
    case atStart => exact ⟨0, [], by omega, by omega, rfl, rfl, by simp, h1⟩
    case round =>
      obtain ⟨j, L, hj1, hj2, rfl, rfl, hL, hR2⟩ := hrel
      by_cases hlt : j < zs.length
      · by_cases h20 : j < 20
        · obtain ⟨a, x, y, rfl, c0, c1, hxy, ⟨x0, x1⟩, ⟨y0, y1⟩, hab⟩ := HZ.out.at hR2 j hlt
          have HXY := Lib.hid hxy
          have hP := pc_len x y
          obtain ⟨P, hPP⟩ : ∃ P, pcL x y = P := ⟨_, rfl⟩
          have HP := Lib.hid (show B (pcL x y) = B P by rw [hPP])
          have HPC := Lib.hid (show Good P (pieceK (pk x 5)) (pieceN (pk x 5) (pk y (pieceM (pk x 5)))) by rw [← hPP]; exact pc_good x y)
          rw [hPP] at hP
          have zL : (B L).size ≤ 2000 := by rw [B_size]; omega
          have zP : (B P).size ≤ 9 := by rw [B_size]; exact hP
          have k1 : ¬ 9223372036854775807 < (B L).size + (B P).size := by omega
          have k2 : ¬ 9223372036854775807 < (B L).size + (B P).size + 1 := by omega
          clear hxy hPP
          have HB := Lib.hid (B_32 L P)
          go_wp2_with (fail)
          go_region_law (rw [if_pos (by rfl)]; go_simp; go_at_call 10; (with_reducible refine (str_at _ (piece_any x y x0 x1 y0 y1 _ _ hR2.self.drew.self) HP).mono ?_); rintro e w2 ⟨rfl, h2⟩; have d0 := (h2.2.cell (p := a.add (j * 2)) hab).trans c0; have d1 := (h2.2.cell (p := ⟨(a.add (j * 2)).block, (a.add (j * 2)).off + 1, none⟩) hab).trans c1)
          all_goals
            go_wp2_with (fail)
            go_roundw
            case rel => exact ⟨j + 1, L ++ (P ++ [32]), by omega, by omega, by go_num, by rw [HB.out], by simp; omega, by first | exact hR2.drew.trans h2 | exact (hR2.trans h2)⟩
            case measure => simp [intOf]; omega
        · obtain rfl : j = 20 := by omega
          go_wp2_with (fail)
          go_meet
          exact ⟨L, rfl, by omega, hR2⟩
      · obtain rfl : j = zs.length := by omega
        go_wp2_with (fail)
        all_goals
          go_meet
          exact ⟨L, rfl, by omega, hR2⟩
  obtain ⟨L, rfl, hL, hRL⟩ := hcut
  obtain ⟨n, hn, hn8⟩ : ∃ n : Nat, pk many 9 = (n : Int) ∧ n ≤ 8 := ⟨(pk many 9).toNat, by have := pk_bd many 9 (by omega); omega, by have := pk_bd many 9 (by omega); omega⟩
  obtain ⟨hcut, hbl, hbn⟩ := blanks_cut n hn8
  obtain ⟨bl, hbl0⟩ : ∃ bl, blanks8.take n = bl := ⟨_, rfl⟩
  rw [hbl0] at hcut hbl hbn
  have HN := Lib.hid hn
  have HBL := Lib.hid hbl
  have HBN := Lib.hid hbn
  have hn8' : (n : Int) ≤ 8 := by omega
  have zb : (B bl).size ≤ 8 := by rw [B_size]; omega
  clear hn hbl hbn hbl0
  go_upto_region 9 with (go_at_call 11; (with_reducible refine (pick_as many 9 (n : Int) HN m0 m1 (by omega) (by omega) _).mono ?_); rintro e w' ⟨rfl, rfl⟩)
  obtain ⟨W, hW⟩ : ∃ W, wc.alloc (.cells #[.string s, .string (B L)] 9) = W := ⟨_, rfl⟩
  have HS0 := Lib.hid (hW ▸ Bk.new wc 9 #[.string s, .string (B L)])
  have HRW := Lib.hid (hW ▸ hRL.alloc (.cells #[.string s, .string (B L)] 9))
  have HWS := Lib.hid HRW.out.self
  have zL : (B L).size ≤ 140737488351232 := by rw [B_size]; omega
  go_upto_block 2 with (fail)
  try rw [hW]
  clear hW
  go_wp2_with (fail)
  go_loopw [55] (fun q wr => ∃ j : Nat, j ≤ 2 ∧ q = .int .i64 j ∧ Rel W wr) (fun q _ => 2 - (intOf q).toNat)
  case atStart => exact ⟨0, by omega, rfl, HWS.out⟩
  case round =>
    obtain ⟨j, hj, rfl, hR2⟩ := hrel
    by_cases hlt : j < 2
    · obtain ⟨X, hX, zX⟩ : ∃ X : ByteArray, wr.cell? ⟨wc.heap.size, j, none⟩ = some (.string X) ∧ X.size ≤ 140737488351232 := by
        have hc := (HS0.out.rel hR2).cell j
        match j, hlt with
        | 0, _ => exact ⟨s, hc, hs⟩
        | 1, _ => exact ⟨B L, hc, zL⟩
      by_cases hX19 : 1900 < X.size
      · have b1 : decide ((1900 : Int) < (X.size : Int)) = true := decide_eq_true (by omega)
        clear hX19
        go_wp2_with (fail)
        go_roundw
        case rel => exact ⟨j + 1, by omega, by go_num, hR2⟩
        case measure => simp [intOf]; omega
      · have b1 : decide ((1900 : Int) < (X.size : Int)) = false := decide_eq_false (by omega)
        go_upto_region 14 with (go_at_call 12; (with_reducible refine (lex_post H.out X (by omega) _ _ hR2.self).mono ?_); rintro e w3 ⟨ts, A', c', err, place, rfl, h3, hT, hO⟩)
        have HT := Lib.hid hT
        have hXX : (B bl ++ X).data.toList = bl ++ X.data.toList := by rw [← B_of X, B_append, B_list, B_list]
        have zbx : (B bl ++ X).size ≤ 2000 := by rw [ByteArray.size_append]; omega
        have k9 : ¬ 9223372036854775807 < (B bl).size + X.size := by omega
        have hsh := out_shift hO (by have : X.data.toList.length = X.size := by simp
                                     omega) HBL.out HBN.out hn8
        have HO := Lib.hid hO
        clear hT hO
        rcases hsh with ⟨rfl, rfl, hO2⟩ | ⟨rfl, rfl, hp0, hp1, hO2⟩
        · obtain ⟨hts, hbd⟩ := HO.out.bounds
          have HBD := Lib.hid hbd
          have HO2 := Lib.hid (show Out (B bl ++ X).data.toList (ts.map (shiftT n)) 0 0 by rw [hXX]; exact hO2)
          clear hbd hO2 hXX
          go_wp2_with (go_at_call 12; (with_reducible refine (lex_is H.out (B bl ++ X) _ _ _ HO2 (by omega) _ _ h3.self).mono ?_); rintro e w4 ⟨A2, c2, rfl, h4, hT2⟩; have HT2 := Lib.hid hT2)
          go_loopw [20] (fun i wx => ∃ r : Nat, r ≤ ts.length ∧ i = .int .i64 r ∧ Rel w4 wx) (fun i _ => ts.length - (intOf i).toNat)
          case atStart => exact ⟨0, by omega, rfl, h4.self⟩
          case round =>
            obtain ⟨r, hr1, rfl, hR4⟩ := hrel
            by_cases hrlt : r < ts.length
            · obtain ⟨g, off, rfl, hgb, t0, t1, t2, t3⟩ := (HT.out.rel (h4.trans hR4)) r hrlt
              have hr2 : r < (ts.map (shiftT n)).length := by rw [List.length_map]; exact hrlt
              obtain ⟨g2, off2, rfl, hgb2, v0, v1, v2, v3⟩ := (HT2.out.rel hR4) r hr2
              have g0 := HBD.out ts[r] (List.getElem_mem hrlt)
              have hmm : (ts.map (shiftT n))[r]'hr2 = shiftT n ts[r] := List.getElem_map ..
              rw [hmm] at v0 v1 v2 v3
              obtain ⟨⟨k, x, nn, p⟩, htk⟩ : ∃ t, ts[r] = t := ⟨_, rfl⟩
              rw [htk] at t0 t1 t2 t3 g0 v0 v1 v2 v3
              simp only [shiftT] at t0 t1 t2 t3 g0 v0 v1 v2 v3
              obtain ⟨g0, g1⟩ := g0
              have hw : wrap64 (p + (n : Int)) = p + (n : Int) := IntWalk.wrap64_in _ (by omega)
              clear htk hmm
              go_upto_region 22 with (fail)
              have hbl1 : ∀ v : Value, ∀ q : Nat, wr.cell? ⟨g2, q, none⟩ = some v → (wr.alloc (.cells #[.int .i64 k, .string (B x), .int .i64 nn, .int .i64 (p + (n : Int))] 36)).cell? ⟨g2, q, none⟩ = some v := fun v q h => (World.cell?_alloc_lt wr _ _ (blk_of_cell h)).trans h
              have HTB := Lib.hid (Bk.new wr 36 #[.int .i64 k, .string (B x), .int .i64 nn, .int .i64 (p + (n : Int))])
              have HR8 := Lib.hid (hR4.alloc (.cells #[.int .i64 k, .string (B x), .int .i64 nn, .int .i64 (p + (n : Int))] 36))
              replace v0 := hbl1 _ _ v0
              replace v1 := hbl1 _ _ v1
              replace v2 := hbl1 _ _ v2
              replace v3 := hbl1 _ _ v3
              obtain ⟨gy, hgy⟩ : ∃ gy, wr.heap.size = gy := ⟨_, rfl⟩
              rw [hgy] at HTB ⊢
              obtain ⟨W8, hW8⟩ : ∃ W8, wr.alloc (.cells #[.int .i64 k, .string (B x), .int .i64 nn, .int .i64 (p + (n : Int))] 36) = W8 := ⟨_, rfl⟩
              rw [hW8] at v0 v1 v2 v3 HTB HR8 ⊢
              obtain ⟨⟨y0, y1, y2, y3⟩, _⟩ := HTB.out.four
              clear hW8 hgy hbl1 t0 t1 t2 t3 hw
              go_quiet (fail)
              go_wp2_with (fail)
              go_roundw
              case rel => exact ⟨r + 1, by omega, by go_num, HR8.out.drewN _⟩
              case measure => simp [intOf]; omega
            · obtain rfl : r = ts.length := by omega
              go_wp2_with (fail)
              go_roundw
              case rel => exact ⟨j + 1, by omega, by go_num, ((hR2.trans h3).trans h4).trans hR4⟩
              case measure => simp [intOf]; omega
        · have HO2 := Lib.hid (show Out (B bl ++ X).data.toList [] 61 (place + (n : Int)) by rw [hXX]; exact hO2)
          have hw : wrap64 (place + (n : Int)) = place + (n : Int) := IntWalk.wrap64_in _ (by omega)
          clear hO2 hXX
          go_wp2_with (go_at_call 12; (with_reducible refine (lex_is H.out (B bl ++ X) _ _ _ HO2 (by omega) _ _ h3.self).mono ?_); rintro e w4 ⟨A2, c2, rfl, h4, hT2⟩; have HT2 := Lib.hid hT2)
          go_loopw [20] (fun i wx => i = .int .i64 0 ∧ Rel w4 wx) (fun _ _ => 0)
          case atStart => exact ⟨rfl, h4.self⟩
          case round =>
            obtain ⟨rfl, hR4⟩ := hrel
            go_wp2_with (fail)
            go_roundw
            case rel => exact ⟨j + 1, by omega, by go_num, ((hR2.trans h3).trans h4).trans hR4⟩
            case measure => simp [intOf]; omega
    · obtain rfl : j = 2 := by omega
      go_wp2_with (fail)
      go_ret
      exact ⟨rfl, (HRW.out.trans hR2).2⟩
end Go.Proofs.Ytodeelbgonkdfaa
