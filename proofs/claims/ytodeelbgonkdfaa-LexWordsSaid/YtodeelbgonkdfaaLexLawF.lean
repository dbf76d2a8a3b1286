/- The walk of LexTells. -/
import Derived.Test.YtodeelbgonkdfaaLexLawBase
namespace Go.Proofs.Ytodeelbgonkdfaa
open Go.RowKit Go.Lib
set_option linter.unusedVariables false
set_option linter.unusedSimpArgs false

def theGaps : List (List UInt8) := [[32], [10], [32, 32]]
theorem gap_like (w : World) (j : Nat) (hj : j < 3) (X : ByteArray) (hX : B (theGaps.getD j []) = X) : (w.alloc (.cells #[.string ⟨#[32]⟩, .string ⟨#[10]⟩, .string ⟨#[32, 32]⟩] 9)).cell? ⟨w.heap.size, j, none⟩ = some (.string X) := by
  rw [← hX]; exact str_cell (ls := theGaps) (Bk.new w 9 (strCells theGaps)) j hj
theorem gap_after {w w' : World} (hr : Rel (w.alloc (.cells #[.string ⟨#[32]⟩, .string ⟨#[10]⟩, .string ⟨#[32, 32]⟩] 9)).drew w') (j : Nat) (hj : j < 3) (X : ByteArray) (hX : B (theGaps.getD j []) = X) : w'.cell? ⟨w.heap.size, j, none⟩ = some (.string X) := by
  rw [← hX]
  exact str_cell (ls := theGaps) (Bk.rel (w := (w.alloc (.cells (strCells theGaps) 9)).drew) (Bk.new w 9 (strCells theGaps)) hr) j hj
theorem gaps_len : ∀ i : Fin 3, (theGaps.getD i.val []).length ≤ 2 := by decide
theorem Out.few {l : List UInt8} {ts : List Tok} {e p : Int} (h : Out l ts e p) : ts.length ≤ 2001 := by
  by_cases he : e = 0
  · subst he
    obtain ⟨h1, rfl, us, rfl, _, _, hle⟩ := h.good
    simp; omega
  · rcases h with ⟨_, rfl, _⟩ | ⟨_, _, h, _⟩ | ⟨_, _, _, rfl, _⟩
    · simp
    · exact absurd h he
    · simp
theorem five_cell {w : World} {g : Nat} {a b c d e : ByteArray} (h : Bk w g 9 #[.string a, .string b, .string c, .string d, .string e]) (m : Nat) (ha : a.size ≤ m ∧ b.size ≤ m ∧ c.size ≤ m ∧ d.size ≤ m ∧ e.size ≤ m) (j : Nat) (hj : j < 5) : ∃ X : ByteArray, w.cell? ⟨g, j, none⟩ = some (.string X) ∧ X.size ≤ m := by
  rw [h.cell]
  match j, hj with
  | 0, _ => exact ⟨_, rfl, ha.1⟩
  | 1, _ => exact ⟨_, rfl, ha.2.1⟩
  | 2, _ => exact ⟨_, rfl, ha.2.2.1⟩
  | 3, _ => exact ⟨_, rfl, ha.2.2.2.1⟩
  | 4, _ => exact ⟨_, rfl, ha.2.2.2.2⟩
theorem four_cell {w : World} {g : Nat} {a b c d : ByteArray} (h : Bk w g 9 #[.string a, .string b, .string c, .string d]) (m : Nat) (ha : a.size ≤ m ∧ b.size ≤ m ∧ c.size ≤ m ∧ d.size ≤ m) (j : Nat) (hj : j < 4) : ∃ X : ByteArray, w.cell? ⟨g, j, none⟩ = some (.string X) ∧ X.size ≤ m := by
  rw [h.cell]
  match j, hj with
  | 0, _ => exact ⟨_, rfl, ha.1⟩
  | 1, _ => exact ⟨_, rfl, ha.2.1⟩
  | 2, _ => exact ⟨_, rfl, ha.2.2.1⟩
  | 3, _ => exact ⟨_, rfl, ha.2.2.2⟩
set_option maxRecDepth 100000 in
set_option maxHeartbeats 8000000 in
theorem LexTells_at (H : AllOk) (s : ByteArray) (hs : s.size ≤ 140737488351232) (A : Option Addr) (cap : Nat) (zs : List (Int × Int)) (att : Int) (M : ByteArray) (hM : M.size ≤ 140737488351232) (w : World) (hz : PairsIn w A zs.length zs) (a0 : -9223372036854775808 ≤ att) (a1 : att ≤ 9223372036854775807) (hr : Rel w w) :
    Calls Try.prog 3 #[.string s, .slice A zs.length cap, .int .i64 att, .string M] w fun e w' => e = .returned (.bool true) ∧ Below w.heap.size w w' := by
  have H := Lib.hid H
  have HZ := Lib.hid hz
  have hzl := hz.2.1
  clear hz
  go_enter Try.func3, Try.ntmps3
  go_upto_block 0 with (go_at_call 9; (with_reducible refine (awake_any H.out _ _ hr.self).mono ?_); rintro e w1 ⟨rfl, h1⟩)
  go_cut [10] (fun t wx => ∃ L : List UInt8, t = .string (B L) ∧ L.length ≤ 400 ∧ Rel w wx)
  case first =>
    go_wp2_with (fail)
    go_loopw [10, 11] (fun t i wr => ∃ (j : Nat) (L : List UInt8), j ≤ zs.length ∧ j ≤ 30 ∧ i = .int .i64 j ∧ t = .string (B L) ∧ L.length ≤ 12 * j ∧ Rel w wr) (fun _ i _ => 30 - (intOf i).toNat)
    case atStart => exact ⟨0, [], by omega, by omega, rfl, rfl, by simp, h1⟩
    case round =>
      obtain ⟨j, L, hj1, hj2, rfl, rfl, hL, hR2⟩ := hrel
      by_cases hlt : j < zs.length
      · by_cases h20 : j < 30
        · obtain ⟨a, x, y, rfl, c0, c1, hxy, ⟨x0, x1⟩, ⟨y0, y1⟩, hab⟩ := HZ.out.at hR2 j hlt
          have HXY := Lib.hid hxy
          have hP := pc_len x y
          obtain ⟨P, hPP⟩ : ∃ P, pcL x y = P := ⟨_, rfl⟩
          have HP := Lib.hid (show B (pcL x y) = B P by rw [hPP])
          rw [hPP] at hP
          obtain ⟨m, hjm, hm3⟩ : ∃ m : Nat, (j : Int) % 3 = (m : Int) ∧ m < 3 := ⟨j % 3, by omega, Nat.mod_lt _ (by omega)⟩
          obtain ⟨sp, hsp⟩ : ∃ sp, theGaps.getD m [] = sp := ⟨_, rfl⟩
          have sb3 := gaps_len ⟨m, hm3⟩
          simp only [] at sb3
          rw [hsp] at sb3
          have hX3 : B (theGaps.getD m []) = B sp := by rw [hsp]
          have HX3 := Lib.hid hX3
          have hm3' : (m : Int) < 3 := by omega
          have hsc := fun w => gap_like w m hm3 (B sp) hX3
          have zL : (B L).size ≤ 2000 := by rw [B_size]; omega
          have zP : (B P).size ≤ 9 := by rw [B_size]; exact hP
          have zs9 : (B sp).size ≤ 2 := by rw [B_size]; exact sb3
          have k1 : ¬ 9223372036854775807 < (B L).size + (B P).size := by omega
          have k2 : ¬ 9223372036854775807 < (B L).size + (B P).size + (B sp).size := by omega
          have hj3 : ((j : Int)).tmod 3 = (m : Int) := by rw [Int.tmod_eq_emod_of_nonneg (by omega)]; exact hjm
          have HBB := Lib.hid (show B L ++ B P ++ B sp = B (L ++ (P ++ sp)) by rw [B_append, B_append, List.append_assoc])
          have c0' := fun o => (World.cell?_alloc_lt wr o (a.add (j * 2)) hab).trans c0
          have c1' := fun o => (World.cell?_alloc_lt wr o ⟨(a.add (j * 2)).block, (a.add (j * 2)).off + 1, none⟩ hab).trans c1
          have HS := Lib.hid hR2.self
          have HR2 := Lib.hid hR2
          clear hxy hPP hsp hX3
          go_wp2_with (fail)
          go_region_law (rw [if_pos (by rfl)]; go_simp; go_at_call 10; (with_reducible refine (str_at _ (piece_any x y x0 x1 y0 y1 _ _ (by first | exact HS.out.drew.self | exact (HS.out.alloc _).drew.self)) HP).mono ?_); rintro e w2 ⟨rfl, h2⟩; have d0 := (h2.2.cell (p := a.add (j * 2)) (by first | exact hab | exact Nat.lt_trans hab (by rw [World.size_drew, World.size_alloc]; exact Nat.lt_succ_self _))).trans (by first | exact c0 | exact c0' _); have d1 := (h2.2.cell (p := ⟨(a.add (j * 2)).block, (a.add (j * 2)).off + 1, none⟩) (by first | exact hab | exact Nat.lt_trans hab (by rw [World.size_drew, World.size_alloc]; exact Nat.lt_succ_self _))).trans (by first | exact c1 | exact c1' _); try (have cx := gap_after h2 m hm3 (B sp) HX3.out))
          all_goals
            go_wp2_with (fail)
            go_roundw
            case rel => exact ⟨j + 1, L ++ (P ++ sp), by omega, by omega, by go_num, by rw [HBB.out], by simp; omega, by first | exact (HR2.out.alloc _).drew.trans h2 | exact (HR2.out.drew.trans h2).alloc _⟩
            case measure => simp [intOf]; omega
        · obtain rfl : j = 30 := by omega
          go_wp2_with (fail)
          go_meet
          exact ⟨L, rfl, by omega, hR2⟩
      · obtain rfl : j = zs.length := by omega
        go_wp2_with (fail)
        all_goals
          go_meet
          exact ⟨L, rfl, by omega, hR2⟩
  obtain ⟨L, rfl, hL, hRL⟩ := hcut
  obtain ⟨p, hp, hpL⟩ : ∃ p : Nat, pk att ((L.length : Int) + 1) = (p : Int) ∧ p ≤ L.length := ⟨(pk att ((L.length : Int) + 1)).toNat, by have := pk_bd att ((L.length : Int) + 1) (by omega); omega, by have := pk_bd att ((L.length : Int) + 1) (by omega); omega⟩
  have HPK := Lib.hid hp
  have hBL := B_size L
  go_upto_region 8 with (go_at_call 11; (with_reducible refine (pick_as att ((L.length : Int) + 1) (p : Int) HPK a0 a1 (by omega) (by omega) _).mono ?_); rintro e w' ⟨rfl, rfl⟩)
  clear hp
  obtain ⟨S, hS⟩ : ∃ S, B L = S := ⟨_, rfl⟩
  rw [hS] at hBL ⊢
  clear hS
  have zS : S.size ≤ 400 := by omega
  obtain ⟨LL, hLL⟩ : ∃ n : Nat, L.length = n := ⟨_, rfl⟩
  have hpS : p ≤ S.size := by omega
  have HSL := Lib.hid hBL
  clear hBL HPK hL hLL hpL
  obtain ⟨P, E1⟩ : ∃ P, S.extract 0 p = P := ⟨_, rfl⟩
  obtain ⟨Q, E2⟩ : ∃ Q, P ++ M = Q := ⟨_, rfl⟩
  obtain ⟨R', E5⟩ : ∃ R, S.extract p S.size = R := ⟨_, rfl⟩
  obtain ⟨X3, E6⟩ : ∃ X, Q ++ R' = X := ⟨_, rfl⟩
  have zP : P.size ≤ 400 := by rw [← E1, ByteArray.size_extract]; omega
  have zQ : Q.size ≤ 140737488351632 := by rw [← E2, ByteArray.size_append]; omega
  have zR' : R'.size ≤ 400 := by rw [← E5, ByteArray.size_extract]; omega
  have zX3 : X3.size ≤ 140737488352032 := by rw [← E6, ByteArray.size_append]; omega
  obtain ⟨m, hm⟩ : ∃ m : Nat, (if (S.size : Int) < (p : Int) + (M.size : Int) then (S.size : Int) else (p : Int) + (M.size : Int)) = (m : Int) := ⟨min S.size (p + M.size), by split <;> omega⟩
  have hmS : m ≤ S.size := by split at hm <;> omega
  obtain ⟨R, E3⟩ : ∃ R, S.extract m S.size = R := ⟨_, rfl⟩
  obtain ⟨X2, E4⟩ : ∃ X, Q ++ R = X := ⟨_, rfl⟩
  have zR : R.size ≤ 400 := by rw [← E3, ByteArray.size_extract]; omega
  have zX2 : X2.size ≤ 140737488352032 := by rw [← E4, ByteArray.size_append]; omega
  have hk1 : (p : Int) ≤ (S.size : Int) := by omega
  have hm1 : (m : Int) ≤ (S.size : Int) := by omega
  have c1 : ¬ 9223372036854775807 < P.size + M.size := by omega
  have c2 : ¬ 9223372036854775807 < Q.size + R.size := by omega
  have c3 : ¬ 9223372036854775807 < Q.size + R'.size := by omega
  have hw : IntKind.i64.wrap ((p : Int) + (M.size : Int)) = (p : Int) + (M.size : Int) := by rw [IntKind.wrap_i64]; omega
  have HRL := Lib.hid hRL
  clear zQ zR zR'
  go_region_law (fail)
  go_wp2_with (fail)
  simp only [Act.put, List.getElem_toArray, List.getElem_cons_succ, List.getElem_cons_zero, List.setIfInBounds_toArray, List.set_cons_zero, List.set_cons_succ]
  obtain ⟨W, hW⟩ : ∃ W, (wc.alloc (.cells #[.string s, .string S, .string X2, .string X3, .string P] 9)).drew = W := ⟨_, rfl⟩
  have HB := Lib.hid (hW ▸ (Bk.new wc 9 #[.string s, .string S, .string X2, .string X3, .string P]).drew)
  have HRW := Lib.hid (hW ▸ (HRL.out.alloc (.cells #[.string s, .string S, .string X2, .string X3, .string P] 9)).drew)
  have HWS := Lib.hid HRW.out.self
  have HSZ := Lib.hid (show s.size ≤ 140737488352032 ∧ S.size ≤ 140737488352032 ∧ X2.size ≤ 140737488352032 ∧ X3.size ≤ 140737488352032 ∧ P.size ≤ 140737488352032 by omega)
  rw [hW]
  obtain ⟨gw, hgw⟩ : ∃ g, wc.heap.size = g := ⟨_, rfl⟩
  rw [hgw] at HB ⊢
  clear hW hgw E1 E2 E3 E4 E5 E6 c1 c2 c3 hw hm hm1 hk1 hmS zX2 zX3 zP zS hpS HRL hRL HSL
  go_loopw [89] (fun q wr => ∃ j : Nat, j ≤ 5 ∧ q = .int .i64 j ∧ Rel W wr) (fun q _ => 5 - (intOf q).toNat)
  case atStart => exact ⟨0, by omega, rfl, HWS.out⟩
  case round =>
    obtain ⟨j, hj, rfl, hR2⟩ := hrel
    by_cases hlt : j < 5
    · obtain ⟨X, hX, zX⟩ := five_cell (HB.out.rel hR2) _ HSZ.out j hlt
      go_upto_region 12 with (go_at_call 12; (with_reducible refine (lex_post H.out X (by omega) _ _ hR2.self).mono ?_); rintro e w3 ⟨ts, A1, c1, err, place, rfl, h3, hT, hO⟩)
      have HO := Lib.hid hO
      have HT := Lib.hid hT
      have hfew := hO.few
      clear hO hT
      go_wp2_with (first
        | (go_at_call 13; (with_reducible refine (rlex_is X _ _ _ HO (by omega) _ _ h3.self).mono ?_); rintro e w4 ⟨A2, c2, rfl, h4, hT2⟩; have HT2 := Lib.hid hT2; have HT1 := Lib.hid (HT.out.rel h4))
        | (go_at_call 14; (with_reducible refine (same_any _ _ _ _ ts (by omega) _ _ h4.self HT1 HT2).mono ?_); rintro e w5 ⟨rfl, h5⟩))
      go_roundw
      case rel => exact ⟨j + 1, by omega, by go_num, ((hR2.trans h3).trans h4).trans h5⟩
      case measure => simp [intOf]; omega
    · obtain rfl : j = 5 := by omega
      have e48 : ¬ 9223372036854775807 < 1 + M.size := by omega
      have e49 : ¬ 9223372036854775807 < s.size + 1 := by omega
      obtain ⟨Y1, hY1⟩ : ∃ Y, s ++ (⟨#[49]⟩ : ByteArray) = Y := ⟨_, rfl⟩
      obtain ⟨Y2, hY2⟩ : ∃ Y, (⟨#[48]⟩ : ByteArray) ++ M = Y := ⟨_, rfl⟩
      have zY1 : Y1.size ≤ 140737488352032 := by
        have e : (⟨#[49]⟩ : ByteArray).size = 1 := rfl
        rw [← hY1, ByteArray.size_append, e]; omega
      have zY2 : Y2.size ≤ 140737488352032 := by
        have e : (⟨#[48]⟩ : ByteArray).size = 1 := rfl
        rw [← hY2, ByteArray.size_append, e]; omega
      go_upto_block 4 with (fail)
      obtain ⟨W2, hW2⟩ : ∃ W2, wr.alloc (.cells #[.string s, .string M, .string Y1, .string Y2] 9) = W2 := ⟨_, rfl⟩
      have HB2 := Lib.hid (hW2 ▸ Bk.new wr 9 #[.string s, .string M, .string Y1, .string Y2])
      have HRW2 := Lib.hid (hW2 ▸ (HRW.out.trans hR2).alloc (.cells #[.string s, .string M, .string Y1, .string Y2] 9))
      have HWS2 := Lib.hid HRW2.out.self
      have HSZ2 := Lib.hid (show s.size ≤ 140737488352032 ∧ M.size ≤ 140737488352032 ∧ Y1.size ≤ 140737488352032 ∧ Y2.size ≤ 140737488352032 by omega)
      try rw [hW2]
      obtain ⟨gv, hgv⟩ : ∃ g, wr.heap.size = g := ⟨_, rfl⟩
      rw [hgv] at HB2
      try rw [hgv]
      clear hW2 hgv hY1 hY2 e48 e49 zY1 zY2
      go_wp2_with (fail)
      go_loopw [128] (fun q wr => ∃ j : Nat, j ≤ 4 ∧ q = .int .i64 j ∧ Rel W2 wr) (fun q _ => 4 - (intOf q).toNat)
      case atStart => exact ⟨0, by omega, rfl, HWS2.out⟩
      case round =>
        obtain ⟨j, hj, rfl, hR3⟩ := hrel
        by_cases hlt : j < 4
        · obtain ⟨X, hX, zX⟩ := four_cell (HB2.out.rel hR3) _ HSZ2.out j hlt
          obtain ⟨nm, hnm⟩ : ∃ b, isName X.data.toList = b := ⟨_, rfl⟩
          obtain ⟨wd, hwd⟩ : ∃ b, isWord X.data.toList = b := ⟨_, rfl⟩
          have HNm := Lib.hid hnm
          have HWd := Lib.hid hwd
          clear hnm hwd
          cases nm <;> cases wd
          all_goals
            go_wp2_with (first
              | (go_at_call 15; (with_reducible refine (name_is H.out X _ HNm (by omega) _ _ hR3.self).mono ?_); rintro e w3 ⟨rfl, h3⟩)
              | (go_at_call 16; (with_reducible refine (bool_at _ (rname_any X (by omega) _ _ h3.self) HNm).mono ?_); rintro e w4 ⟨rfl, h4⟩)
              | (go_at_call 17; (with_reducible refine (word_is H.out X _ HWd (by omega) _ _ h4.self).mono ?_); rintro e w5 ⟨rfl, h5⟩)
              | (go_at_call 18; (with_reducible refine (bool_at _ (rword_any X _ _ h5.self) HWd).mono ?_); rintro e w6 ⟨rfl, h6⟩))
            have hRn := (((hR3.trans h3).trans h4).trans h5).trans h6
            refine ⟨⟨_, _, (.int .i64 ((j : Int) + 1)), _, _, _, _, _, _, _, _, _, _, _, _, _, _, _, _, ⟨j + 1, by omega, by go_num, hRn⟩, rfl⟩, ?_⟩
            simp [intOf]; omega
        · obtain rfl : j = 4 := by omega
          go_wp2_with (fail)
          go_ret
          exact ⟨rfl, (HRW2.out.trans hR3).2⟩
end Go.Proofs.Ytodeelbgonkdfaa
