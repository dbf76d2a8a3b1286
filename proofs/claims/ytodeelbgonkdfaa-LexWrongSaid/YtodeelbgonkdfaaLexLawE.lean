/- The walk of LexWords. -/
import Derived.Test.YtodeelbgonkdfaaLexLawBase
namespace Go.Proofs.Ytodeelbgonkdfaa
open Go.RowKit Go.Lib
set_option linter.unusedVariables false
set_option linter.unusedSimpArgs false

def theSeps : List (List UInt8) := [[32], [10], [32, 10, 32]]
theorem sep_like (w : World) (j : Nat) (hj : j < 3) (X : ByteArray) (hX : B (theSeps.getD j []) = X) : (w.alloc (.cells #[.string ⟨#[32]⟩, .string ⟨#[10]⟩, .string ⟨#[32, 10, 32]⟩] 9)).cell? ⟨w.heap.size, j, none⟩ = some (.string X) := by
  rw [← hX]; exact str_cell (ls := theSeps) (Bk.new w 9 (strCells theSeps)) j hj
theorem seps_blank : ∀ i : Fin 3, (theSeps.getD i.val []).all isBl = true ∧ theSeps.getD i.val [] ≠ [] ∧ (theSeps.getD i.val []).length ≤ 3 := by decide
theorem Pre.out {l : List UInt8} {ts : List Tok} (h : Pre l ts) (hl : l.length ≤ 2000) : Out l (ts ++ [(5, [], 0, (l.length : Int))]) 0 0 := by
  have := h []
  rw [List.append_nil, lx_nil] at this
  exact .inr (.inl ⟨hl, this, rfl, rfl⟩)
set_option maxRecDepth 100000 in
set_option maxHeartbeats 8000000 in
theorem LexWords_at (H : AllOk) (A : Option Addr) (cap : Nat) (zs : List (Int × Int)) (w : World) (hz : PairsIn w A zs.length zs) (hr : Rel w w) :
    Calls Try.prog 4 #[.slice A zs.length cap] w fun e w' => e = .returned (.bool true) ∧ Below w.heap.size w w' := by
  obtain ⟨i0, hi, hz0, hz1, hz2⟩ := info_parts tok_info
  have H := Lib.hid H
  have HZ := Lib.hid hz
  have hzl := hz.2.1
  clear hz
  go_enter Try.func4, Try.ntmps4
  go_upto_block 0 with (go_at_call 9; (with_reducible refine (awake_any H.out _ _ hr.self).mono ?_); rintro e w1 ⟨rfl, h1⟩)
  go_cut [4, 5] (fun s v wx => ∃ (L : List UInt8) (T : List Tok) (A' : Option Addr) (c' : Nat), s = .string (B L) ∧ v = .slice A' T.length c' ∧ L.length ≤ 500 ∧ T.length ≤ 40 ∧ Hid (Pre L T) ∧ Rel w wx ∧ TokOwn wx w.heap.size (.slice A' T.length c') T)
  case first =>
    go_wp2_with (fail)
    go_loopw [4, 5, 6] (fun s v i wr => ∃ (j : Nat) (L : List UInt8) (T : List Tok) (A' : Option Addr) (c' : Nat), j ≤ zs.length ∧ j ≤ 40 ∧ i = .int .i64 j ∧ s = .string (B L) ∧ v = .slice A' T.length c' ∧ L.length ≤ 12 * j ∧ T.length ≤ j ∧ Hid (Pre L T) ∧ Rel w wr ∧ TokOwn wr w.heap.size (.slice A' T.length c') T) (fun _ _ i _ => 40 - (intOf i).toNat)
    case atStart => exact ⟨0, [], [], none, 0, by omega, by omega, rfl, rfl, rfl, by simp, by simp, Lib.hid Pre.nil, h1, TokOwn.nil _ _⟩
    case round =>
      obtain ⟨j, L, T, A', c', hj1, hj2, rfl, rfl, rfl, hL, hTl, HPre, hR2, hE⟩ := hrel
      by_cases hlt : j < zs.length
      · by_cases h40 : j < 40
        · obtain ⟨a, x, y, rfl, c0, c1, hxy, ⟨x0, x1⟩, ⟨y0, y1⟩, hab⟩ := HZ.out.at hR2 j hlt
          have HXY := Lib.hid hxy
          have hP := pc_len x y
          obtain ⟨P, hPP⟩ : ∃ P, pcL x y = P := ⟨_, rfl⟩
          have HP := Lib.hid (show B (pcL x y) = B P by rw [hPP])
          have HPC := Lib.hid (show Good P (pieceK (pk x 5)) (pieceN (pk x 5) (pk y (pieceM (pk x 5)))) by rw [← hPP]; exact pc_good x y)
          rw [hPP] at hP
          clear hxy hPP
          go_upto_region 7 with (fail)
          go_cut [7] (fun s wx => s = .string (B P) ∧ Rel wr wx)
          case first =>
            go_region_law (rw [if_pos (by rfl)]; go_simp; go_at_call 10; (with_reducible refine (str_at _ (piece_any x y x0 x1 y0 y1 _ _ hR2.self.drew.self) HP).mono ?_); rintro e w2 ⟨rfl, h2⟩; have d0 := (h2.2.cell (p := a.add (j * 2)) hab).trans c0; have d1 := (h2.2.cell (p := ⟨(a.add (j * 2)).block, (a.add (j * 2)).off + 1, none⟩) hab).trans c1)
            all_goals
              go_wp2_with (fail)
              go_meet
              exact ⟨rfl, by first | exact hR2.self.drew.trans h2 | exact h2⟩
          obtain ⟨rfl, hwc⟩ := hcut
          have hBL := B_size L
          go_upto_region 9 with (fail)
          have hwcs := hwc.size
          have hws := hR2.size
          have hE2 := (hE.rel hwc).row
          have HTB := Lib.hid (Bk.new wc 36 #[.int .i64 1, .string (B P), .int .i64 0, .int .i64 (L.length : Int)])
          have HR8 := Lib.hid ((hR2.trans hwc).alloc (.cells #[.int .i64 1, .string (B P), .int .i64 0, .int .i64 (L.length : Int)] 36))
          have hE8 : TokOwn (wc.alloc (.cells #[.int .i64 1, .string (B P), .int .i64 0, .int .i64 (L.length : Int)] 36)) w.heap.size (.slice A' T.length c') T := hE2.alloc _
          have d0 := (World.cell?_alloc_lt wc (.cells #[.int .i64 1, .string (B P), .int .i64 0, .int .i64 (L.length : Int)] 36) _ (blk_of_cell ((hwc.2.cell (p := a.add (j * 2)) hab).trans c0))).trans ((hwc.2.cell (p := a.add (j * 2)) hab).trans c0)
          have d1 := (World.cell?_alloc_lt wc (.cells #[.int .i64 1, .string (B P), .int .i64 0, .int .i64 (L.length : Int)] 36) _ (blk_of_cell ((hwc.2.cell (p := ⟨(a.add (j * 2)).block, (a.add (j * 2)).off + 1, none⟩) hab).trans c1))).trans ((hwc.2.cell (p := ⟨(a.add (j * 2)).block, (a.add (j * 2)).off + 1, none⟩) hab).trans c1)
          have hgn : some wc.heap.size ≠ (Value.slice A' T.length c').ownBlock := fun he => by
            have := (hE2.lt wc.heap.size he.symm).2
            omega
          have hag : (a.add (j * 2)).block ≠ wc.heap.size := by omega
          have hgw : w.heap.size ≤ wc.heap.size := by omega
          obtain ⟨gy, hgy⟩ : ∃ gy, wc.heap.size = gy := ⟨_, rfl⟩
          rw [hgy] at HTB hgn hag hgw ⊢
          obtain ⟨W8, hW8⟩ : ∃ W8, wc.alloc (.cells #[.int .i64 1, .string (B P), .int .i64 0, .int .i64 (L.length : Int)] 36) = W8 := ⟨_, rfl⟩
          rw [hW8] at HTB HR8 hE8 d0 d1 ⊢
          obtain ⟨⟨t0, t1, t2, t3⟩, f0, f1, f2, f3⟩ := HTB.out.four
          have HE8 := Lib.hid hE8
          have HGN := Lib.hid hgn
          clear hW8 hgy hE8 hE2 hE hgn c0 c1
          obtain ⟨j5, hj5⟩ : ∃ j5, pk x 5 = j5 := ⟨_, rfl⟩
          have HJ5 := Lib.hid hj5
          have hb5 := pk_bd x 5 (by omega)
          rw [hj5] at hb5 HPC
          obtain ⟨p0, p1⟩ := hb5
          obtain ⟨m0, m1, m2, m3, m4⟩ := pieceM_at j5
          clear hj5
          go_upto_block 2 with (go_at_call 11; (with_reducible refine (pick_as x 5 j5 HJ5 x0 x1 (by omega) (by omega) _).mono ?_); rintro e w' ⟨rfl, rfl⟩)
          go_cut [] (fun wx => ∃ (K nn : Int), Good P K nn ∧ TB wx gy (K, P, nn, (L.length : Int)) ∧ Rel w wx ∧ TokOwn wx w.heap.size (.slice A' T.length c') T)
          case first =>
            have hne : ∀ q, (⟨gy, q, none⟩ : Addr).block = gy := fun q => rfl
            by_cases q1 : j5 = 1
            · have hK : pieceK j5 = 4 ∧ pieceN j5 (pk y (pieceM j5)) = 0 := by subst q1; exact ⟨rfl, rfl⟩
              rw [hK.1, hK.2] at HPC
              subst q1
              clear m0 m1 m2 m3 m4 hK
              go_wp2_with (fail)
              go_meet
              exact ⟨4, 0, HPC.out, (HTB.out.set_ 0 (.int .i64 4)), HR8.out.setCell hgw _, own_set HE8.out HGN.out _⟩
            · by_cases q2 : j5 = 2
              · have hM := m2 q2
                obtain ⟨v, hv⟩ : ∃ v, pk y 100001 = v := ⟨_, rfl⟩
                have hK : pieceK j5 = 2 ∧ pieceN j5 (pk y (pieceM j5)) = v := by rw [hM, hv]; subst q2; exact ⟨rfl, rfl⟩
                rw [hK.1, hK.2] at HPC
                have HV := Lib.hid hv
                subst q2
                have e1 := (World.cell?_setCell_far W8 ⟨gy, 0, none⟩ ⟨(a.add (j * 2)).block, (a.add (j * 2)).off + 1, none⟩ (.int .i64 2) (Ne.symm hag)).trans d1
                clear m0 m1 m2 m3 m4 hK hM hv
                go_wp2_with (go_at_call 11; (with_reducible refine (pick_as y 100001 v HV y0 y1 (by omega) (by omega) _).mono ?_); rintro e w' ⟨rfl, rfl⟩)
                go_meet
                exact ⟨2, v, HPC.out, ((HTB.out.set_ 0 (.int .i64 2)).set_ 2 (.int .i64 v)), (HR8.out.setCell hgw _).setCell hgw _, own_set (own_set HE8.out HGN.out _) HGN.out _⟩
              · by_cases q3 : j5 = 3
                · have hM := m3 q3
                  obtain ⟨v, hv⟩ : ∃ v, pk y 1000000 = v := ⟨_, rfl⟩
                  have hK : pieceK j5 = 3 ∧ pieceN j5 (pk y (pieceM j5)) = v := by rw [hM, hv]; subst q3; exact ⟨rfl, rfl⟩
                  rw [hK.1, hK.2] at HPC
                  have HV := Lib.hid hv
                  subst q3
                  have e1 := (World.cell?_setCell_far W8 ⟨gy, 0, none⟩ ⟨(a.add (j * 2)).block, (a.add (j * 2)).off + 1, none⟩ (.int .i64 3) (Ne.symm hag)).trans d1
                  clear m0 m1 m2 m3 m4 hK hM hv
                  go_wp2_with (go_at_call 11; (with_reducible refine (pick_as y 1000000 v HV y0 y1 (by omega) (by omega) _).mono ?_); rintro e w' ⟨rfl, rfl⟩)
                  go_meet
                  exact ⟨3, v, HPC.out, ((HTB.out.set_ 0 (.int .i64 3)).set_ 2 (.int .i64 v)), (HR8.out.setCell hgw _).setCell hgw _, own_set (own_set HE8.out HGN.out _) HGN.out _⟩
                · have hK : pieceK j5 = 1 ∧ pieceN j5 (pk y (pieceM j5)) = 0 := by
                    unfold pieceK pieceN
                    rw [if_neg q1, if_neg q2, if_neg q3, if_neg (by omega)]
                    exact ⟨rfl, rfl⟩
                  rw [hK.1, hK.2] at HPC
                  have r1 : (j5 == 1) = false := by simpa using q1
                  have r2 : (j5 == 2) = false := by simpa using q2
                  have r3 : (j5 == 3) = false := by simpa using q3
                  clear m0 m1 m2 m3 m4 hK q1 q2 q3
                  go_wp2_with (fail)
                  go_meet
                  exact ⟨1, 0, HPC.out, HTB.out, HR8.out, HE8.out⟩
          obtain ⟨K, nn, hgd, hTB, hR9, hE9⟩ := hcut
          have HTK := Lib.hid hTB
          obtain ⟨⟨b0, b1, b2, b3⟩, _⟩ := hTB.four
          have HGD := Lib.hid hgd
          obtain ⟨sp, hsp⟩ : ∃ sp, theSeps.getD (j % 3) [] = sp := ⟨_, rfl⟩
          obtain ⟨sb1, sb2, sb3⟩ := seps_blank ⟨j % 3, Nat.mod_lt _ (by omega)⟩
          simp only [] at sb1 sb2 sb3
          rw [hsp] at sb1 sb2 sb3
          have hsc := fun w => sep_like w (j % 3) (Nat.mod_lt _ (by omega)) (B sp) (by rw [hsp])
          have hL2 : (L ++ (P ++ sp)).length ≤ 12 * (j + 1) := by simp; omega
          have HPre2 := Lib.hid (HPre.out.piece hgd sb2 sb1)
          have hBB : B L ++ B P ++ B sp = B (L ++ (P ++ sp)) := by rw [B_append, B_append, List.append_assoc]
          have HBB := Lib.hid hBB
          have zp : (B P).size ≤ 9 := by rw [B_size]; exact hP
          have zs9 : (B sp).size ≤ 3 := by rw [B_size]; exact sb3
          have hws9 := hR9.size
          have hj3 : ((j : Int)).tmod 3 = ((j % 3 : Nat) : Int) := by rw [Int.tmod_eq_emod_of_nonneg (by omega)]; omega
          have k7 : ¬ 9223372036854775807 < L.length + (B P).size := by omega
          have k8 : ¬ 9223372036854775807 < L.length + (B P).size + (B sp).size := by omega
          clear hsp sb1 sb2 sb3 hBB d0 d1 t0 t1 t2 t3 f0 f1 f2 f3 hTB hgd m0 m1 m2 m3 m4
          go_wp2_with (at_builtin; (refine wpList_append_lies _ rfl _ _ 28 rfl w.heap.size 36 i0 (.agg #[.int .i64 0, .string ⟨#[]⟩, .int .i64 0, .int .i64 0]) 4 40 Try.underlying28 hi hz0 hz1 hz2 rfl (by decide) _ T.length (cellsOf T) rfl (hE9.row.alloc _) ⟨wc.heap.size, 0, none⟩ 1 1 (cells4 (K, P, nn, (L.length : Int))) rfl rfl (World.news_of_block (Bk.new wc 36 #[.int .i64 K, .string (B P), .int .i64 nn, .int .i64 (L.length : Int)])) (cells4_one _) (by decide) (by unfold maxLen; omega) (by omega) (by simp; omega) _ rfl ?_); intro g cap2 w7 hown1 hgrow hat hlt1)
          have hE7 := TokOwn.more (t := (K, P, nn, (L.length : Int))) hown1
          have hR7 : Rel w w7 := (hR9.alloc _).grown hgrow (fun k hk => (hE9.row.lt k hk).1)
          have HL7 := Lib.hid (show (T ++ [(K, P, nn, (L.length : Int))]).length = T.length + 1 by simp)
          go_roundw
          case rel => exact ⟨j + 1, L ++ (P ++ sp), T ++ [(K, P, nn, (L.length : Int))], some ⟨g, 0, none⟩, cap2, by omega, by omega, by go_num, by rw [HBB.out], by rw [HL7.out], hL2, by rw [HL7.out]; omega, HPre2, hR7.alloc _, by rw [HL7.out]; exact hE7.row.alloc _⟩
          case measure => simp [intOf]; omega
        · obtain rfl : j = 40 := by omega
          go_wp2_with (fail)
          go_meet
          exact ⟨L, T, A', c', rfl, rfl, by omega, by omega, HPre, hR2, hE⟩
      · obtain rfl : j = zs.length := by omega
        go_wp2_with (fail)
        all_goals
          go_meet
          exact ⟨L, T, A', c', rfl, rfl, by omega, by omega, HPre, hR2, hE⟩
  obtain ⟨L, T, A', c', rfl, rfl, hL, hTl, HPre, hRc, hE⟩ := hcut
  have hBL := B_size L
  have hws := hRc.size
  have HO := Lib.hid (show Out (B L).data.toList (T ++ [(5, [], 0, (L.length : Int))]) 0 0 by rw [B_list]; exact HPre.out.out (by omega))
  have HLE := Lib.hid (show (T ++ [((5 : Int), ([] : List UInt8), (0 : Int), (L.length : Int))]).length = T.length + 1 by simp)
  have hmx : L.length ≤ 9223372036854775807 := by omega
  go_upto_region 21 with (at_builtin; (refine wpList_append_lies _ rfl _ _ 28 rfl w.heap.size 36 i0 (.agg #[.int .i64 0, .string ⟨#[]⟩, .int .i64 0, .int .i64 0]) 4 40 Try.underlying28 hi hz0 hz1 hz2 rfl (by decide) _ T.length (cellsOf T) rfl (hE.row.alloc _) ⟨wc.heap.size, 0, none⟩ 1 1 (cells4 (5, [], 0, (L.length : Int))) rfl rfl (World.news_of_block (Bk.new wc 36 #[.int .i64 5, .string (B []), .int .i64 0, .int .i64 (L.length : Int)])) (cells4_one _) (by decide) (by unfold maxLen; omega) (by omega) (by simp; omega) _ rfl ?_); intro g cap2 w7 hown1 hgrow hat hlt1)
  have hE7 := TokOwn.more (t := (5, [], 0, (L.length : Int))) hown1
  have hR7 : Rel w w7 := (hRc.alloc _).grown hgrow (fun k hk => (hE.row.lt k hk).1)
  have HT7 := Lib.hid (hE7.toks HLE.out.symm)
  have zBL : (B L).size ≤ 9223372036854775807 := by omega
  rw [← HLE.out]
  have hsl : (T ++ [((5 : Int), ([] : List UInt8), (0 : Int), (L.length : Int))]).length ≤ 9223372036854775807 := by rw [HLE.out]; omega
  obtain ⟨TE, hTE⟩ : ∃ TE, T ++ [((5 : Int), ([] : List UInt8), (0 : Int), (L.length : Int))] = TE := ⟨_, rfl⟩
  rw [hTE] at HO HT7 hsl ⊢
  have HR7 := Lib.hid hR7
  clear hTE HLE hE7 hown1 hgrow hat hlt1 hR7
  go_wp2_with (first
    | (go_at_call 12; (with_reducible refine (lex_is H.out (B L) _ _ _ HO zBL _ _ HR7.out.self).mono ?_); rintro e w8 ⟨A2, c2, rfl, h8, hT2⟩; have HX := Lib.hid hT2; have HY := Lib.hid (HT7.out.rel h8))
    | (go_at_call 14; (with_reducible refine (same_any _ _ _ _ TE hsl _ _ h8.self HX HY).mono ?_); rintro e w9 ⟨rfl, h9⟩))
  go_ret
  exact ⟨rfl, ((HR7.out.trans h8).trans h9).2⟩
end Go.Proofs.Ytodeelbgonkdfaa
