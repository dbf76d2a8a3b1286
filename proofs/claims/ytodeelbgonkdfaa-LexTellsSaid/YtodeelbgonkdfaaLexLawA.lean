/- The walk of LexAlone. -/
import Derived.Test.YtodeelbgonkdfaaLexLawBase
namespace Go.Proofs.Ytodeelbgonkdfaa
open Go.RowKit Go.Lib
set_option linter.unusedVariables false
set_option linter.unusedSimpArgs false

set_option maxRecDepth 100000 in
set_option maxHeartbeats 4000000 in
theorem LexAlone_at (H : AllOk) (s : ByteArray) (hs : s.size ≤ 140737488351232) (A : Option Addr) (cap : Nat) (zs : List (Int × Int)) (w : World) (hz : PairsIn w A zs.length zs) (hr : Rel w w) :
    Calls Try.prog 5 #[.string s, .slice A zs.length cap] w fun e w' => e = .returned (.bool true) ∧ Below w.heap.size w w' := by
  have H := Lib.hid H
  have HZ := Lib.hid hz
  have hzl := hz.2.1
  clear hz
  go_enter Try.func5, Try.ntmps5
  go_upto_block 0 with (go_at_call 9; (with_reducible refine (awake_any H.out _ _ hr.self).mono ?_); rintro e w1 ⟨rfl, h1⟩)
  go_cut [6] (fun t wx => ∃ L : List UInt8, t = .string (B L) ∧ L.length ≤ 200 ∧ Rel w wx)
  case first =>
    go_wp2_with (fail)
    go_loopw [6, 7] (fun t i wr => ∃ (j : Nat) (L : List UInt8), j ≤ zs.length ∧ j ≤ 20 ∧ i = .int .i64 j ∧ t = .string (B L) ∧ L.length ≤ 10 * j ∧ Rel w wr) (fun _ i _ => 20 - (intOf i).toNat)
    case atStart => exact ⟨0, [], by omega, by omega, rfl, rfl, by simp, h1⟩
    case round =>
      obtain ⟨j, L, hj1, hj2, rfl, rfl, hL, hR2⟩ := hrel
      by_cases hlt : j < zs.length
      · by_cases h20 : j < 20
        · obtain ⟨a, x, y, rfl, c0, c1, hxy, ⟨x0, x1⟩, ⟨y0, y1⟩, hab⟩ := HZ.out.at hR2 j hlt
          have HXY := Lib.hid hxy
          have hP := pc_len x y
          obtain ⟨P, hPP⟩ : ∃ P, pcL x y = P := ⟨_, rfl⟩
          have HP := Lib.hid (show B (pcL x y) = B P by rw [hPP])
          have HPC := Lib.hid (show Good P (pieceK (pk x 5)) (pieceN (pk x 5) (pk y (pieceM (pk x 5)))) by rw [← hPP]; exact pc_good x y)
          rw [hPP] at hP
          have zL : (B L).size ≤ 2000 := by rw [B_size]; omega
          have zP : (B P).size ≤ 9 := by rw [B_size]; exact hP
          have k1 : ¬ 9223372036854775807 < (B L).size + (B P).size := by omega
          have k2 : ¬ 9223372036854775807 < (B L).size + (B P).size + 1 := by omega
          clear hxy hPP
          have HB := Lib.hid (B_32 L P)
          go_wp2_with (fail)
          go_region_law (rw [if_pos (by rfl)]; go_simp; go_at_call 10; (with_reducible refine (str_at _ (piece_any x y x0 x1 y0 y1 _ _ hR2.self.drew.self) HP).mono ?_); rintro e w2 ⟨rfl, h2⟩; have d0 := (h2.2.cell (p := a.add (j * 2)) hab).trans c0; have d1 := (h2.2.cell (p := ⟨(a.add (j * 2)).block, (a.add (j * 2)).off + 1, none⟩) hab).trans c1)
          all_goals
            go_wp2_with (fail)
            go_roundw
            case rel => exact ⟨j + 1, L ++ (P ++ [32]), by omega, by omega, by go_num, by rw [HB.out], by simp; omega, by first | exact hR2.drew.trans h2 | exact (hR2.trans h2)⟩
            case measure => simp [intOf]; omega
        · obtain rfl : j = 20 := by omega
          go_wp2_with (fail)
          go_meet
          exact ⟨L, rfl, by omega, hR2⟩
      · obtain rfl : j = zs.length := by omega
        go_wp2_with (fail)
        all_goals
          go_meet
          exact ⟨L, rfl, by omega, hR2⟩
  obtain ⟨L, rfl, hL, hRL⟩ := hcut
  obtain ⟨W, hW⟩ : ∃ W, wc.alloc (.cells #[.string s, .string (B L)] 9) = W := ⟨_, rfl⟩
  have HS0 := Lib.hid (hW ▸ Bk.new wc 9 #[.string s, .string (B L)])
  have HRW := Lib.hid (hW ▸ hRL.alloc (.cells #[.string s, .string (B L)] 9))
  have HWS := Lib.hid HRW.out.self
  have zL : (B L).size ≤ 140737488351232 := by rw [B_size]; omega
  go_upto_block 2 with (fail)
  try rw [hW]
  clear hW
  go_wp2_with (fail)
  go_loopw [47] (fun q wr => ∃ j : Nat, j ≤ 2 ∧ q = .int .i64 j ∧ Rel W wr) (fun q _ => 2 - (intOf q).toNat)
  case atStart => exact ⟨0, by omega, rfl, HWS.out⟩
  case round =>
    obtain ⟨j, hj, rfl, hR2⟩ := hrel
    by_cases hlt : j < 2
    · obtain ⟨X, hX, zX⟩ : ∃ X : ByteArray, wr.cell? ⟨wc.heap.size, j, none⟩ = some (.string X) ∧ X.size ≤ 140737488351232 := by
        have hc := (HS0.out.rel hR2).cell j
        match j, hlt with
        | 0, _ => exact ⟨s, hc, hs⟩
        | 1, _ => exact ⟨B L, hc, zL⟩
      go_upto_region 11 with (go_at_call 12; (with_reducible refine (lex_post H.out X (by omega) _ _ hR2.self).mono ?_); rintro e w3 ⟨ts, A', c', err, place, rfl, h3, hT, hO⟩)
      have HO := Lib.hid hO
      have HT := Lib.hid hT
      clear hO hT
      by_cases he : err = 0
      · subst he
        obtain ⟨hXl, rfl, us, rfl, hg, ho, hle⟩ := HO.out.good
        have hul : us.length ≤ 2000 := by omega
        have HG := Lib.hid hg
        have HOr := Lib.hid ho
        have HTL := Lib.hid (show (us ++ [((5 : Int), ([] : List UInt8), (0 : Int), (X.data.toList.length : Int))]).length = us.length + 1 by simp)
        rw [HTL.out]
        clear hg ho hle
        go_wp2_with (fail)
        go_loopw [13] (fun i wx => ∃ r : Nat, r ≤ us.length ∧ i = .int .i64 r ∧ Rel w3 wx) (fun i _ => us.length - (intOf i).toNat)
        case atStart => exact ⟨0, by omega, rfl, h3.self⟩
        case round =>
          obtain ⟨r, hr1, rfl, hR4⟩ := hrel
          by_cases hrlt : r < us.length
          · obtain ⟨g, off, rfl, hgb, t0, t1, t2, t3⟩ := (HT.out.rel hR4).one r hrlt
            obtain ⟨gd, gl, g0, g1⟩ := HG.out us[r] (List.getElem_mem hrlt)
            obtain ⟨⟨k, x, n, p⟩, htk⟩ : ∃ t, us[r] = t := ⟨_, rfl⟩
            have HTK := Lib.hid htk
            rw [htk] at t0 t1 t2 t3 gd gl g0 g1
            simp only [] at t0 t1 t2 t3 gd gl g0 g1
            have hxl : x.length ≤ 2000 := by omega
            have hp2 : p ≤ 2000 := by omega
            have HOA := Lib.hid (show Out (B x).data.toList [(k, x, n, 0), (5, [], 0, (x.length : Int))] 0 0 by rw [B_list]; exact out_alone gd hxl)
            have hBx := B_size x
            have HGD := Lib.hid gd
            clear htk gd
            go_upto_region 16 with (go_at_call 12; (with_reducible refine (lex_is H.out (B x) _ _ _ HOA (by rw [B_size]; omega) _ _ hR4.self).mono ?_); rintro e w5 ⟨A2, c2, rfl, h5, hT2⟩)
            have u0 := (h5.2.cell (p := ⟨g, off + r * 4, none⟩) hgb).trans t0
            have u1 := (h5.2.cell (p := ⟨g, off + r * 4 + 1, none⟩) hgb).trans t1
            have u2 := (h5.2.cell (p := ⟨g, off + r * 4 + 2, none⟩) hgb).trans t2
            have u3 := (h5.2.cell (p := ⟨g, off + r * 4 + 3, none⟩) hgb).trans t3
            obtain ⟨g2, off2, rfl, ⟨a0, a1, a2, a3⟩, ⟨b0, b1, b2, b3⟩⟩ := alone_cells hT2
            go_upto_region 18 with (fail)
            have hbl : ∀ v : Value, ∀ q : Nat, w5.cell? ⟨g, q, none⟩ = some v → (w5.alloc (.cells #[.int .i64 k, .string (B x), .int .i64 n, .int .i64 0] 36)).cell? ⟨g, q, none⟩ = some v := fun v q h => (World.cell?_alloc_lt w5 _ _ (blk_of_cell h)).trans h
            have hbl2 : ∀ v : Value, ∀ q : Nat, w5.cell? ⟨g2, q, none⟩ = some v → (w5.alloc (.cells #[.int .i64 k, .string (B x), .int .i64 n, .int .i64 0] 36)).cell? ⟨g2, q, none⟩ = some v := fun v q h => (World.cell?_alloc_lt w5 _ _ (blk_of_cell h)).trans h
            have HTB := Lib.hid (Bk.new w5 36 #[.int .i64 k, .string (B x), .int .i64 n, .int .i64 0])
            have HR8 := Lib.hid ((hR4.trans h5).alloc (.cells #[.int .i64 k, .string (B x), .int .i64 n, .int .i64 0] 36))
            replace u0 := hbl _ _ u0
            replace u1 := hbl _ _ u1
            replace u2 := hbl _ _ u2
            replace u3 := hbl _ _ u3
            replace a0 := hbl2 _ _ a0
            replace a1 := hbl2 _ _ a1
            replace a2 := hbl2 _ _ a2
            replace a3 := hbl2 _ _ a3
            replace b0 := hbl2 _ _ b0
            replace b1 := hbl2 _ _ b1
            replace b2 := hbl2 _ _ b2
            replace b3 := hbl2 _ _ b3
            obtain ⟨gy, hgy⟩ : ∃ gy, w5.heap.size = gy := ⟨_, rfl⟩
            have HPREV := Lib.hid (show ∀ r', r = r' + 1 → ∃ (q : Int) (y : List UInt8), (w5.alloc (.cells #[.int .i64 k, .string (B x), .int .i64 n, .int .i64 0] 36)).cell? ⟨g, off + r' * 4 + 3, none⟩ = some (.int .i64 q) ∧ (w5.alloc (.cells #[.int .i64 k, .string (B x), .int .i64 n, .int .i64 0] 36)).cell? ⟨g, off + r' * 4 + 1, none⟩ = some (.string (B y)) ∧ 0 ≤ q ∧ q + (y.length : Int) ≤ p ∧ y.length ≤ 2000 from fun r' hr' => by
              have hr2 : r' < us.length := by omega
              obtain ⟨g', off', e', _, _, v1, _, v3⟩ := (HT.out.rel (hR4.trans h5)).one r' hr2
              cases e'
              have := HG.out us[r'] (List.getElem_mem hr2)
              have ho := HOr.out.at r' (by omega)
              have hp9 : us[r' + 1]'(by omega) = (k, x, n, p) := by rw [← HTK.out]; simp only [hr']
              rw [hp9] at ho
              exact ⟨us[r'].2.2.2, us[r'].2.1, hbl _ _ v3, hbl _ _ v1, this.2.2.1, ho, by have := this.2.1; omega⟩)
            rw [hgy] at HTB ⊢
            obtain ⟨W8, hW8⟩ : ∃ W8, w5.alloc (.cells #[.int .i64 k, .string (B x), .int .i64 n, .int .i64 0] 36) = W8 := ⟨_, rfl⟩
            rw [hW8] at u0 u1 u2 u3 a0 a1 a2 a3 b0 b1 b2 b3 HTB HR8 HPREV ⊢
            obtain ⟨⟨y0, y1, y2, y3⟩, _⟩ := HTB.out.four
            clear hW8 hgy hbl hbl2 t0 t1 t2 t3 hT2
            rcases r with _ | r'
            · go_quiet (fail)
              go_wp2_with (fail)
              go_roundw
              case rel => exact ⟨1, by omega, by go_num, HR8.out.drewN _⟩
              case measure => simp [intOf]; omega
            · obtain ⟨q, y, v3, v1, q0, q1, q2⟩ := HPREV.out r' rfl
              have hBy := B_size y
              have hw : wrap64 (q + (y.length : Int)) = q + (y.length : Int) := IntWalk.wrap64_in _ (by omega)
              go_quiet (fail)
              go_wp2_with (fail)
              go_roundw
              case rel => exact ⟨r' + 2, by omega, by go_num, HR8.out.drewN _⟩
              case measure => simp [intOf]; omega
          · obtain rfl : r = us.length := by omega
            go_wp2_with (fail)
            go_roundw
            case rel => exact ⟨j + 1, by omega, by go_num, (hR2.trans h3).trans hR4⟩
            case measure => simp [intOf]; omega
      · have he' : (err != 0) = true := by simpa using he
        clear he
        go_wp2_with (fail)
        go_roundw
        case rel => exact ⟨j + 1, by omega, by go_num, hR2.trans h3⟩
        case measure => simp [intOf]; omega
    · obtain rfl : j = 2 := by omega
      go_wp2_with (fail)
      go_ret
      exact ⟨rfl, (HRW.out.trans hR2).2⟩
end Go.Proofs.Ytodeelbgonkdfaa
