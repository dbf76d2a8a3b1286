/- The walk of LexWrong. -/
import Derived.Test.YtodeelbgonkdfaaLexLawBase
namespace Go.Proofs.Ytodeelbgonkdfaa
open Go.RowKit Go.Lib
set_option linter.unusedVariables false
set_option linter.unusedSimpArgs false

set_option maxRecDepth 100000 in
set_option maxHeartbeats 4000000 in
theorem LexWrong_at (H : AllOk) (A : Option Addr) (cap : Nat) (zs : List (Int × Int)) (att what : Int) (w : World) (hz : PairsIn w A zs.length zs) (a0 : -9223372036854775808 ≤ att) (a1 : att ≤ 9223372036854775807) (b0 : -9223372036854775808 ≤ what) (b1 : what ≤ 9223372036854775807) (hr : Rel w w) :
    Calls Try.prog 6 #[.slice A zs.length cap, .int .i64 att, .int .i64 what] w fun e w' => e = .returned (.bool true) ∧ Below w.heap.size w w' := by
  have H := Lib.hid H
  have HZ := Lib.hid hz
  have hzl := hz.2.1
  clear hz
  obtain ⟨N, hN, hN30, hNz⟩ : ∃ N : Nat, (if (30 : Int) < (zs.length : Int) then (30 : Int) else (zs.length : Int)) = (N : Int) ∧ N ≤ 30 ∧ N ≤ zs.length := ⟨min 30 zs.length, by split <;> omega, by omega, by omega⟩
  obtain ⟨u, hu, u14⟩ : ∃ u : Nat, pk what 14 = (u : Int) ∧ u < 14 := ⟨(pk what 14).toNat, by have := pk_bd what 14 (by omega); omega, by have := pk_bd what 14 (by omega); omega⟩
  obtain ⟨kk, hkk, hkN⟩ : ∃ k : Nat, pk att ((N : Int) + 1) = (k : Int) ∧ k ≤ N := ⟨(pk att ((N : Int) + 1)).toNat, by have := pk_bd att ((N : Int) + 1) (by omega); omega, by have := pk_bd att ((N : Int) + 1) (by omega); omega⟩
  obtain ⟨bd, hbd⟩ : ∃ bd, theBads.getD u [] = bd := ⟨_, rfl⟩
  have hc := fun w => bad_like w u u14 (B bd) (by rw [hbd])
  have HBD := Lib.hid (show Bad bd = true by rw [← hbd]; exact bads_bad ⟨u, u14⟩)
  have zbd : bd.length ≤ 13 := by rw [← hbd]; exact bads_len ⟨u, u14⟩
  have zBd : (B bd).size ≤ 13 := by rw [B_size]; exact zbd
  have HU := Lib.hid hu
  have HK := Lib.hid hkk
  have u14' : (u : Int) < 14 := by omega
  clear hu hkk hbd
  go_enter Try.func6, Try.ntmps6
  go_upto_block 0 with (first
    | (go_at_call 9; (with_reducible refine (awake_any H.out _ _ hr.self).mono ?_); rintro e w1 ⟨rfl, h1⟩)
    | (go_at_call 11; (with_reducible refine (pick_as what 14 (u : Int) HU b0 b1 (by omega) (by omega) _).mono ?_); rintro e w' ⟨rfl, rfl⟩)
    | (go_at_call 11; (with_reducible refine (pick_as att ((N : Int) + 1) (kk : Int) HK a0 a1 (by omega) (by omega) _).mono ?_); rintro e w' ⟨rfl, rfl⟩))
  have hR0 := Lib.hid (hr.trans h1)
  clear hN
  go_wp2_with (fail)
  go_loopw [11, 12, 13] (fun s pl i wr => ∃ (j : Nat) (L : List UInt8) (q : Nat), j ≤ N ∧ i = .int .i64 j ∧ s = .string (B L) ∧ pl = .int .i64 q ∧ L.length ≤ 30 * j ∧ Rel w wr ∧ Hid ((j ≤ kk ∧ ∃ T, Pre L T) ∨ (kk < j ∧ Err L q))) (fun _ _ i _ => N - (intOf i).toNat)
  case atStart => exact ⟨0, [], 0, by omega, rfl, rfl, rfl, by simp, hR0.out.alloc _, Lib.hid (.inl ⟨Nat.zero_le _, [], Pre.nil⟩)⟩
  case round =>
    obtain ⟨j, L0, q, hj, rfl, rfl, rfl, hL0, hR2, HI⟩ := hrel
    clear hc
    by_cases hjN : j < N
    · have hlt : j < zs.length := by omega
      by_cases hjk : j = kk
      · subst hjk
        have hBL0 := B_size L0
        obtain ⟨L, hL1⟩ : ∃ L, L0 ++ (bd ++ [32]) = L := ⟨_, rfl⟩
        have hL : L.length ≤ 30 * j + 14 := by rw [← hL1]; simp; omega
        have e1 : B L0 ++ B bd ++ ⟨#[32]⟩ = B L := by rw [B_32, hL1]
        have HER := Lib.hid (show Err L L0.length by
          rw [← hL1]
          rcases HI.out with ⟨_, T, h⟩ | ⟨h, _⟩
          · exact h.bad HBD.out
          · omega)
        have k5 : ¬ 9223372036854775807 < (B L0).size + (B bd).size := by omega
        have k6 : ¬ 9223372036854775807 < (B L0).size + (B bd).size + 1 := by omega
        have zL2 : L.length ≤ 2000 := by omega
        clear hL1 HI
        obtain ⟨a, x, y, rfl, c0, c1, hxy, ⟨x0, x1⟩, ⟨y0, y1⟩, hab⟩ := HZ.out.at hR2 j hlt
        have HXY := Lib.hid hxy
        have hP := pc_len x y
        obtain ⟨P, hPP⟩ : ∃ P, pcL x y = P := ⟨_, rfl⟩
        have HP := Lib.hid (show B (pcL x y) = B P by rw [hPP])
        have HPC := Lib.hid (show Good P (pieceK (pk x 5)) (pieceN (pk x 5) (pk y (pieceM (pk x 5)))) by rw [← hPP]; exact pc_good x y)
        rw [hPP] at hP
        have zL : (B L).size ≤ 2000 := by rw [B_size]; omega
        have zP : (B P).size ≤ 9 := by rw [B_size]; exact hP
        have k1 : ¬ 9223372036854775807 < (B L).size + (B P).size := by omega
        have k2 : ¬ 9223372036854775807 < (B L).size + (B P).size + 1 := by omega
        clear hxy hPP
        have HB := Lib.hid (B_32 L P)
        go_wp2_with (fail)
        go_region_law (rw [if_pos (by rfl)]; go_simp; go_at_call 10; (with_reducible refine (str_at _ (piece_any x y x0 x1 y0 y1 _ _ hR2.self.drew.self) HP).mono ?_); rintro e w2 ⟨rfl, h2⟩; have d0 := (h2.2.cell (p := a.add (j * 2)) hab).trans c0; have d1 := (h2.2.cell (p := ⟨(a.add (j * 2)).block, (a.add (j * 2)).off + 1, none⟩) hab).trans c1)
        all_goals
          go_wp2_with (fail)
          go_roundw
          case rel => exact ⟨j + 1, L ++ (P ++ [32]), L0.length, by omega, by go_num, by rw [HB.out], rfl, by simp; omega, by first | exact hR2.drew.trans h2 | exact hR2.trans h2, Lib.hid (.inr ⟨by omega, HER.out.more⟩)⟩
          case measure => simp [intOf]; omega
      · obtain ⟨L, hL1⟩ : ∃ L, L0 = L := ⟨_, rfl⟩
        subst hL1
        have b3 : ((j : Int) == (kk : Int)) = false := by simp; omega
        have zL2 : L0.length ≤ 2000 := by omega
        obtain ⟨a, x, y, rfl, c0, c1, hxy, ⟨x0, x1⟩, ⟨y0, y1⟩, hab⟩ := HZ.out.at hR2 j hlt
        have HXY := Lib.hid hxy
        have hP := pc_len x y
        obtain ⟨P, hPP⟩ : ∃ P, pcL x y = P := ⟨_, rfl⟩
        have HP := Lib.hid (show B (pcL x y) = B P by rw [hPP])
        have HPC := Lib.hid (show Good P (pieceK (pk x 5)) (pieceN (pk x 5) (pk y (pieceM (pk x 5)))) by rw [← hPP]; exact pc_good x y)
        rw [hPP] at hP
        have zL : (B L0).size ≤ 2000 := by rw [B_size]; omega
        have zP : (B P).size ≤ 9 := by rw [B_size]; exact hP
        have k1 : ¬ 9223372036854775807 < (B L0).size + (B P).size := by omega
        have k2 : ¬ 9223372036854775807 < (B L0).size + (B P).size + 1 := by omega
        clear hxy hPP
        have HB := Lib.hid (B_32 L0 P)
        have HI2 := Lib.hid (show (j + 1 ≤ kk ∧ ∃ T, Pre (L0 ++ (P ++ [32])) T) ∨ (kk < j + 1 ∧ Err (L0 ++ (P ++ [32])) q) by
          rcases HI.out with ⟨h, T, h'⟩ | ⟨h, h'⟩
          · exact .inl ⟨by omega, _, h'.piece HPC.out (by simp) (by decide)⟩
          · exact .inr ⟨by omega, h'.more⟩)
        clear HI
        go_wp2_with (fail)
        go_region_law (rw [if_pos (by rfl)]; go_simp; go_at_call 10; (with_reducible refine (str_at _ (piece_any x y x0 x1 y0 y1 _ _ hR2.self.drew.self) HP).mono ?_); rintro e w2 ⟨rfl, h2⟩; have d0 := (h2.2.cell (p := a.add (j * 2)) hab).trans c0; have d1 := (h2.2.cell (p := ⟨(a.add (j * 2)).block, (a.add (j * 2)).off + 1, none⟩) hab).trans c1)
        all_goals
          go_wp2_with (fail)
          go_roundw
          case rel => exact ⟨j + 1, L0 ++ (P ++ [32]), q, by omega, by go_num, by rw [HB.out], rfl, by simp; omega, by first | exact hR2.drew.trans h2 | exact hR2.trans h2, HI2⟩
          case measure => simp [intOf]; omega
    · obtain rfl : j = N := by omega
      have zL0 : (B L0).size ≤ 900 := by rw [B_size]; omega
      by_cases hjk : j = kk
      · subst hjk
        have hBL0 := B_size L0
        have HO := Lib.hid (show Out (B L0 ++ B bd).data.toList [] 61 (L0.length : Int) by
          rw [B_append, B_list]
          rcases HI.out with ⟨_, T, h⟩ | ⟨h, _⟩
          · exact .inr (.inr ⟨by simp; omega, _, h.bad_end HBD.out, rfl, rfl, rfl⟩)
          · omega)
        have k5 : ¬ 9223372036854775807 < (B L0).size + (B bd).size := by omega
        have z9 : (B L0 ++ B bd).size ≤ 9223372036854775807 := by rw [ByteArray.size_append]; omega
        clear HI
        go_wp2_with (go_at_call 12; (with_reducible refine (lex_is H.out _ _ _ _ HO z9 _ _ hR2.self).mono ?_); rintro e w3 ⟨A2, c2, rfl, h3, _⟩)
        go_ret
        exact ⟨rfl, (hR2.trans h3).2⟩
      · have HO := Lib.hid (show Out (B L0).data.toList [] 61 (q : Int) by
          rw [B_list]
          rcases HI.out with ⟨h, _⟩ | ⟨_, h⟩
          · omega
          · exact .inr (.inr ⟨by omega, _, h.out, rfl, rfl, rfl⟩))
        have b3 : ((kk : Int) == (j : Int)) = false := by simp; omega
        have z9 : (B L0).size ≤ 9223372036854775807 := by omega
        clear HI
        go_wp2_with (go_at_call 12; (with_reducible refine (lex_is H.out _ _ _ _ HO z9 _ _ hR2.self).mono ?_); rintro e w3 ⟨A2, c2, rfl, h3, _⟩)
        go_ret
        exact ⟨rfl, (hR2.trans h3).2⟩
end Go.Proofs.Ytodeelbgonkdfaa
