/- The law's raw pieces. -/
import Derived.Test.YtodeelbgonkdfaaLexScan
namespace Go.Proofs.Ytodeelbgonkdfaa
open Go.RowKit Go.Lib
set_option linter.unusedVariables false
set_option linter.unusedSimpArgs false

theorem pick_as (c n y : Int) (h : Hid (pk c n = y)) (hc : -9223372036854775808 ≤ c) (hc' : c ≤ 9223372036854775807) (hn : 0 < n) (hn' : n ≤ 9223372036854775807) (w : World) :
    Calls Try.prog 11 #[.int .i64 c, .int .i64 n] w fun e w' => e = .returned (.int .i64 y) ∧ w = w' := by
  rw [← h.out]; exact pick_any c n hc hc' hn hn' w
theorem decimal_as (n : Int) (S : ByteArray) (h : Hid (B (decDigits n.toNat) = S)) (h0 : 0 ≤ n) (h1 : n ≤ 9223372036854775807) (w0 w : World) (hr : Rel w0 w) :
    Calls Try.prog 20 #[.int .i64 n] w fun e w' => e = .returned (.string S) ∧ Rel w0 w' := by
  rw [← h.out]; exact decimal_any n h0 h1 w0 w hr
def strCells (ls : List (List UInt8)) : Array Value := (ls.map fun l => Value.string (B l)).toArray
theorem str_cell {w : World} {g : Nat} {ls : List (List UInt8)} (h : Bk w g 9 (strCells ls)) (j : Nat) (hj : j < ls.length) : w.cell? ⟨g, j, none⟩ = some (.string (B (ls.getD j []))) := by
  rw [h.cell]
  unfold strCells
  rw [List.getElem?_toArray, List.getElem?_map, List.getElem?_eq_getElem hj, List.getD_eq_getElem?_getD, List.getElem?_eq_getElem hj]
  rfl
theorem sig_cell (w : World) (j : Nat) (hj : j < 3) : (w.alloc (.cells #[.string ⟨#[40]⟩, .string ⟨#[41]⟩, .string ⟨#[44]⟩] 9)).cell? ⟨w.heap.size, j, none⟩ = some (.string (B (theSigns.getD j []))) :=
  str_cell (ls := theSigns) (Bk.new w 9 (strCells theSigns)) j hj
theorem nam_cell (w : World) (j : Nat) (hj : j < 6) : (w.alloc (.cells #[.string ⟨#[97]⟩, .string ⟨#[98, 111, 98]⟩, .string ⟨#[108, 111, 119, 101, 115]⟩, .string ⟨#[97, 99, 109, 101, 57]⟩, .string ⟨#[120, 49]⟩, .string ⟨#[101, 108, 115, 101, 101]⟩] 9)).cell? ⟨w.heap.size, j, none⟩ = some (.string (B (theNames.getD j []))) :=
  str_cell (ls := theNames) (Bk.new w 9 (strCells theNames)) j hj
theorem nam_after {w w' : World} (hr : Rel (w.alloc (.cells #[.string ⟨#[97]⟩, .string ⟨#[98, 111, 98]⟩, .string ⟨#[108, 111, 119, 101, 115]⟩, .string ⟨#[97, 99, 109, 101, 57]⟩, .string ⟨#[120, 49]⟩, .string ⟨#[101, 108, 115, 101, 101]⟩] 9)).drew w') (j : Nat) (hj : j < 6) (X : ByteArray) (hX : B (theNames.getD j []) = X) : w'.cell? ⟨w.heap.size, j, none⟩ = some (.string X) := by
  rw [← hX]
  exact str_cell (ls := theNames) (Bk.rel (w := (w.alloc (.cells (strCells theNames) 9)).drew) (Bk.new w 9 (strCells theNames)) hr) j hj
theorem wrd_cell (w : World) (j : Nat) (hj : j < 11) : (w.alloc (.cells #[.string ⟨#[108,111,119,101,115,116]⟩, .string ⟨#[115,101,99,111,110,100]⟩, .string ⟨#[102,114,111,109]⟩, .string ⟨#[108,101,115,115]⟩, .string ⟨#[99,117,116]⟩, .string ⟨#[109,105,110]⟩, .string ⟨#[109,97,120]⟩, .string ⟨#[101,108,115,101]⟩, .string ⟨#[105,102]⟩, .string ⟨#[109,111,114,101]⟩, .string ⟨#[97,98,111,118,101]⟩] 9)).cell? ⟨w.heap.size, j, none⟩ = some (.string (B (theWords.getD j []))) :=
  str_cell (ls := theWords) (Bk.new w 9 (strCells theWords)) j hj
set_option maxHeartbeats 1000000 in
theorem seller_any (n : Int) (h0 : -9223372036854775808 ≤ n) (h1 : n ≤ 9223372036854775807) (w0 w : World) (hr : Rel w0 w) :
    Calls Try.prog 19 #[.int .i64 n] w fun e w' => e = .returned (.string (B (sellerL (pk n 60)))) ∧ Rel w0 w' := by
  have hb := pk_bd n 60 (by omega)
  obtain ⟨u, hu⟩ : ∃ u, pk n 60 = u := ⟨_, rfl⟩
  rw [hu] at hb ⊢
  have HU := Lib.hid hu
  obtain ⟨u0, u1⟩ := hb
  have t6 := tdt u 6 (by omega)
  obtain ⟨a, ha⟩ : ∃ a : Nat, u.tmod 6 = (a : Int) := ⟨(u.tmod 6).toNat, by omega⟩
  obtain ⟨b, hq'⟩ : ∃ b : Nat, u.tdiv 6 = (b : Int) := ⟨(u.tdiv 6).toNat, by omega⟩
  have hq : IntKind.i64.wrap (u.tdiv 6) = (b : Int) := by rw [hq']; exact IntWalk.i64_in _ (by omega)
  have a6 : a < 6 := by omega
  have a6' : (a : Int) < 6 := by omega
  have b9 : (b : Int) ≤ 10 := by omega
  obtain ⟨X, hX⟩ : ∃ X, B (theNames.getD a []) = X := ⟨_, rfl⟩
  have hc := fun w => nam_cell w a a6
  obtain ⟨D, hD⟩ : ∃ D, B (decDigits ((b : Int)).toNat) = D := ⟨_, rfl⟩
  have HD := Lib.hid hD
  have z1 : X.size ≤ 5 := by rw [← hX, B_size]; exact names_len ⟨a, a6⟩
  have z2 : D.size ≤ 19 := by rw [← hD]; exact dd_size _ (by omega)
  have z3 : ¬ 9223372036854775807 < X.size + D.size := by omega
  have HF := Lib.hid (show X ++ D = B (sellerL u) by
    unfold sellerL
    rw [← hX, ← hD, B_append, show u % 6 = (a : Int) by omega, show u / 6 = (b : Int) by omega]; rfl)
  have HX := Lib.hid hX
  rw [hX] at hc
  have HR := Lib.hid hr
  clear hu hX hD t6 hq'
  go_enter Try.func19, Try.ntmps19
  go_wp2_with (go_at_call 11; (with_reducible refine (pick_as n 60 u HU h0 h1 (by omega) (by omega) _).mono ?_); rintro e w' ⟨rfl, rfl⟩)
  have HS := Lib.hid hr.self
  go_region_law (rw [if_pos (by rfl)]; go_simp; go_at_call 20; (with_reducible refine (decimal_as (b : Int) D HD (by omega) (by omega) _ _ (by first | exact HS.out.drew.self | exact (HS.out.drew.alloc _).self | exact ((HS.out.alloc _).drew).self)).mono ?_); rintro e w' ⟨rfl, hr'⟩; try (have cx := nam_after hr' a a6 X HX.out))
  all_goals
    go_wp2_with (fail)
    go_ret
    refine ⟨ret_str HF.out, ?_⟩
    first
      | exact (HR.out.alloc _).drew.trans hr'
      | exact (HR.out.drew.trans hr').alloc _
theorem sig_like (w : World) (j : Nat) (hj : j < 3) (X : ByteArray) (hX : B (theSigns.getD j []) = X) : (w.alloc (.cells #[.string ⟨#[40]⟩, .string ⟨#[41]⟩, .string ⟨#[44]⟩] 9)).cell? ⟨w.heap.size, j, none⟩ = some (.string X) := by rw [← hX]; exact sig_cell w j hj
theorem wrd_like (w : World) (j : Nat) (hj : j < 11) (X : ByteArray) (hX : B (theWords.getD j []) = X) : (w.alloc (.cells #[.string ⟨#[108,111,119,101,115,116]⟩, .string ⟨#[115,101,99,111,110,100]⟩, .string ⟨#[102,114,111,109]⟩, .string ⟨#[108,101,115,115]⟩, .string ⟨#[99,117,116]⟩, .string ⟨#[109,105,110]⟩, .string ⟨#[109,97,120]⟩, .string ⟨#[101,108,115,101]⟩, .string ⟨#[105,102]⟩, .string ⟨#[109,111,114,101]⟩, .string ⟨#[97,98,111,118,101]⟩] 9)).cell? ⟨w.heap.size, j, none⟩ = some (.string X) := by rw [← hX]; exact wrd_cell w j hj
/-- The text of a raw piece. -/
def pcL (kind n : Int) : List UInt8 := pieceL (pk kind 5) (pk n (pieceM (pk kind 5)))
theorem pieceM_pos (j : Int) : 0 < pieceM j := by unfold pieceM; split <;> (try split) <;> (try split) <;> (try split) <;> omega
theorem pieceM_le (j : Int) : pieceM j ≤ 1000000 := by unfold pieceM; split <;> (try split) <;> (try split) <;> (try split) <;> omega
theorem pc_good (kind n : Int) : Good (pcL kind n) (pieceK (pk kind 5)) (pieceN (pk kind 5) (pk n (pieceM (pk kind 5)))) :=
  piece_good _ _ (pk_bd n _ (pieceM_pos _)).1 (pk_bd n _ (pieceM_pos _)).2
theorem pc_len (kind n : Int) : (pcL kind n).length ≤ 9 := piece_len _ _ (pk_bd n _ (pieceM_pos _)).1 (pk_bd n _ (pieceM_pos _)).2
theorem pos_parts (u : Int) (h : 0 ≤ u) : B (decDigits (u / 100).toNat) ++ ⟨#[46]⟩ ++ B (decDigits (u / 10 % 10).toNat) ++ B (decDigits (u % 10).toNat) = B (pos u.toNat) := by
  have e : (⟨#[46]⟩ : ByteArray) = B [46] := rfl
  rw [e, B_append, B_append, B_append]
  unfold pos
  rw [show (u / 100).toNat = u.toNat / 100 by omega, show (u / 10 % 10).toNat = u.toNat / 10 % 10 by omega, show (u % 10).toNat = u.toNat % 10 by omega]
  simp
set_option maxHeartbeats 2000000 in
theorem piece_any (k n : Int) (k0 : -9223372036854775808 ≤ k) (k1 : k ≤ 9223372036854775807) (h0 : -9223372036854775808 ≤ n) (h1 : n ≤ 9223372036854775807) (w0 w : World) (hr : Rel w0 w) :
    Calls Try.prog 10 #[.int .i64 k, .int .i64 n] w fun e w' => e = .returned (.string (B (pcL k n))) ∧ Rel w0 w' := by
  have hb := pk_bd k 5 (by omega)
  obtain ⟨j, hj⟩ : ∃ j, pk k 5 = j := ⟨_, rfl⟩
  have HU := Lib.hid hj
  have HR := Lib.hid hr
  have HP := Lib.hid (show pcL k n = pieceL j (pk n (pieceM j)) by unfold pcL; rw [hj])
  rw [hj] at hb
  obtain ⟨b0, b1⟩ := hb
  clear hj
  obtain ⟨m0, m1, m2, m3, m4⟩ := pieceM_at j
  by_cases c0 : j = 0
  · have hM := m0 c0
    subst c0
    obtain ⟨u, hu⟩ : ∃ u : Nat, pk n 11 = (u : Int) := ⟨(pk n 11).toNat, by have := pk_bd n 11 (by omega); omega⟩
    have u11 : u < 11 := by have := pk_bd n 11 (by omega); omega
    have u11' : (u : Int) < 11 := by omega
    obtain ⟨X, hX⟩ : ∃ X, B (theWords.getD u []) = X := ⟨_, rfl⟩
    have hc := fun w => wrd_like w u u11 X hX
    have HV := Lib.hid hu
    have HF := Lib.hid (show X = B (pcL k n) by rw [HP.out, hM, hu, (piece0 _).1, ← hX]; rfl)
    clear hu hX m0 m1 m2 m3 m4 hM
    go_enter Try.func10, Try.ntmps10
    go_wp2_with (first
      | (go_at_call 11; (with_reducible refine (pick_as k 5 0 HU k0 k1 (by omega) (by omega) _).mono ?_); rintro e w' ⟨rfl, rfl⟩)
      | (go_at_call 11; (with_reducible refine (pick_as n 11 (u : Int) HV h0 h1 (by omega) (by omega) _).mono ?_); rintro e w' ⟨rfl, rfl⟩))
    go_ret
    exact ⟨ret_str HF.out, HR.out.alloc _⟩
  · by_cases c1 : j = 1
    · have hM := m1 c1
      subst c1
      obtain ⟨u, hu⟩ : ∃ u : Nat, pk n 3 = (u : Int) := ⟨(pk n 3).toNat, by have := pk_bd n 3 (by omega); omega⟩
      have u11 : u < 3 := by have := pk_bd n 3 (by omega); omega
      have u11' : (u : Int) < 3 := by omega
      obtain ⟨X, hX⟩ : ∃ X, B (theSigns.getD u []) = X := ⟨_, rfl⟩
      have hc := fun w => sig_like w u u11 X hX
      have HV := Lib.hid hu
      have HF := Lib.hid (show X = B (pcL k n) by rw [HP.out, hM, hu, (piece1 _).1, ← hX]; rfl)
      clear hu hX m0 m1 m2 m3 m4 hM
      go_enter Try.func10, Try.ntmps10
      go_wp2_with (first
        | (go_at_call 11; (with_reducible refine (pick_as k 5 1 HU k0 k1 (by omega) (by omega) _).mono ?_); rintro e w' ⟨rfl, rfl⟩)
        | (go_at_call 11; (with_reducible refine (pick_as n 3 (u : Int) HV h0 h1 (by omega) (by omega) _).mono ?_); rintro e w' ⟨rfl, rfl⟩))
      go_ret
      exact ⟨ret_str HF.out, HR.out.alloc _⟩
    · by_cases c2 : j = 2
      · have hM := m2 c2
        subst c2
        obtain ⟨u, hu⟩ : ∃ u : Int, pk n 100001 = u := ⟨_, rfl⟩
        have ub := pk_bd n 100001 (by omega)
        rw [hu] at ub
        obtain ⟨u0, u1⟩ := ub
        have HV := Lib.hid hu
        have HF := Lib.hid (show B (decDigits u.toNat) = B (pcL k n) by rw [HP.out, hM, hu, (piece2 _).1])
        clear hu m0 m1 m2 m3 m4 hM
        go_enter Try.func10, Try.ntmps10
        go_wp2_with (first
          | (go_at_call 11; (with_reducible refine (pick_as k 5 2 HU k0 k1 (by omega) (by omega) _).mono ?_); rintro e w' ⟨rfl, rfl⟩)
          | (go_at_call 11; (with_reducible refine (pick_as n 100001 u HV h0 h1 (by omega) (by omega) _).mono ?_); rintro e w' ⟨rfl, rfl⟩)
          | (go_at_call 20; (with_reducible refine (decimal_any u u0 (by omega) _ _ HR.out).mono ?_); rintro e w1 ⟨rfl, h2⟩))
        go_ret
        exact ⟨ret_str HF.out, h2⟩
      · by_cases c3 : j = 3
        · have hM := m3 c3
          subst c3
          obtain ⟨u, hu⟩ : ∃ u : Int, pk n 1000000 = u := ⟨_, rfl⟩
          have ub := pk_bd n 1000000 (by omega)
          rw [hu] at ub
          obtain ⟨u0, u1⟩ := ub
          have HV := Lib.hid hu
          have HF := Lib.hid (show B (pos u.toNat) = B (pcL k n) by rw [HP.out, hM, hu, (piece3 _).1])
          have HQ := Lib.hid (pos_parts u u0)
          have z1 := dd_size (u / 100) (by omega)
          have z2 := dd_size (u / 10 % 10) (by omega)
          have z3 := dd_size (u % 10) (by omega)
          clear hu m0 m1 m2 m3 m4 hM
          go_enter Try.func10, Try.ntmps10
          go_wp2_with (first
            | (go_at_call 11; (with_reducible refine (pick_as k 5 3 HU k0 k1 (by omega) (by omega) _).mono ?_); rintro e w' ⟨rfl, rfl⟩)
            | (go_at_call 11; (with_reducible refine (pick_as n 1000000 u HV h0 h1 (by omega) (by omega) _).mono ?_); rintro e w' ⟨rfl, rfl⟩)
            | (go_at_call 20; (with_reducible refine (decimal_any _ (by omega) (by omega) _ _ (by assumption)).mono ?_); rintro e w1 ⟨rfl, h2⟩))
          go_ret
          exact ⟨ret_str (by rw [← HF.out, ← HQ.out]), by assumption⟩
        · have hM := m4 c0 c1 c2 c3
          have HF := Lib.hid (show B (sellerL (pk n 60)) = B (pcL k n) by rw [HP.out, hM, (piece4 _ c0 c1 c2 c3).1])
          have d0 : (j == 0) = false := by simpa using c0
          have d1 : (j == 1) = false := by simpa using c1
          have d2 : (j == 2) = false := by simpa using c2
          have d3 : (j == 3) = false := by simpa using c3
          clear m0 m1 m2 m3 m4 hM c0 c1 c2 c3
          go_enter Try.func10, Try.ntmps10
          go_wp2_with (first
            | (go_at_call 11; (with_reducible refine (pick_as k 5 j HU k0 k1 (by omega) (by omega) _).mono ?_); rintro e w' ⟨rfl, rfl⟩)
            | (go_at_call 19; (with_reducible refine (seller_any n h0 h1 _ _ HR.out).mono ?_); rintro e w1 ⟨rfl, h2⟩))
          go_ret
          exact ⟨ret_str HF.out, h2⟩
end Go.Proofs.Ytodeelbgonkdfaa
