/- Pieces as the law of layer 6 makes them; ParseDeep: what its walks lean on; Reading the document's own parse: the state; what is wrong, a token, a kind. -/
import Derived.Test.YtoajbbcjmalngaaZ03
import Derived.Test.YtoajbbcjmalngaaZ12
import Derived.Test.YtoajbbcjmalngaaZ29
import Derived.Test.YtoajbbcjmalngaaZ09
import Derived.Test.YtoajbbcjmalngaaZ21
namespace Go.Proofs.Ytoajbbcjmalngaa
open Go.RowKit Go.Lib
set_option linter.unusedVariables false
set_option linter.unusedSimpArgs false

theorem sig_cell (w : World) (j : Nat) (hj : j < 3) : (w.alloc (.cells #[.string ⟨#[40]⟩, .string ⟨#[41]⟩, .string ⟨#[44]⟩] 9)).cell? ⟨w.heap.size, j, none⟩ = some (.string (B (theSigns.getD j []))) :=
  str_cell (ls := theSigns) (Bk.new w 9 (strCells theSigns)) j hj
theorem wrd_cell (w : World) (j : Nat) (hj : j < 11) : (w.alloc (.cells #[.string ⟨#[108,111,119,101,115,116]⟩, .string ⟨#[115,101,99,111,110,100]⟩, .string ⟨#[102,114,111,109]⟩, .string ⟨#[108,101,115,115]⟩, .string ⟨#[99,117,116]⟩, .string ⟨#[109,105,110]⟩, .string ⟨#[109,97,120]⟩, .string ⟨#[101,108,115,101]⟩, .string ⟨#[105,102]⟩, .string ⟨#[109,111,114,101]⟩, .string ⟨#[97,98,111,118,101]⟩] 9)).cell? ⟨w.heap.size, j, none⟩ = some (.string (B (theWords.getD j []))) :=
  str_cell (ls := theWords) (Bk.new w 9 (strCells theWords)) j hj
theorem sig_like (w : World) (j : Nat) (hj : j < 3) (X : ByteArray) (hX : B (theSigns.getD j []) = X) : (w.alloc (.cells #[.string ⟨#[40]⟩, .string ⟨#[41]⟩, .string ⟨#[44]⟩] 9)).cell? ⟨w.heap.size, j, none⟩ = some (.string X) := by rw [← hX]; exact sig_cell w j hj
theorem wrd_like (w : World) (j : Nat) (hj : j < 11) (X : ByteArray) (hX : B (theWords.getD j []) = X) : (w.alloc (.cells #[.string ⟨#[108,111,119,101,115,116]⟩, .string ⟨#[115,101,99,111,110,100]⟩, .string ⟨#[102,114,111,109]⟩, .string ⟨#[108,101,115,115]⟩, .string ⟨#[99,117,116]⟩, .string ⟨#[109,105,110]⟩, .string ⟨#[109,97,120]⟩, .string ⟨#[101,108,115,101]⟩, .string ⟨#[105,102]⟩, .string ⟨#[109,111,114,101]⟩, .string ⟨#[97,98,111,118,101]⟩] 9)).cell? ⟨w.heap.size, j, none⟩ = some (.string X) := by rw [← hX]; exact wrd_cell w j hj
/-- The text of a raw piece. -/
def pcL (kind n : Int) : List UInt8 := pieceL (pk kind 5) (pk n (pieceM (pk kind 5)))
theorem pieceM_pos (j : Int) : 0 < pieceM j := by unfold pieceM; split <;> (try split) <;> (try split) <;> (try split) <;> omega
theorem pieceM_le (j : Int) : pieceM j ≤ 1000000 := by unfold pieceM; split <;> (try split) <;> (try split) <;> (try split) <;> omega
theorem pc_good (kind n : Int) : Good (pcL kind n) (pieceK (pk kind 5)) (pieceN (pk kind 5) (pk n (pieceM (pk kind 5)))) :=
  piece_good _ _ (pk_bd n _ (pieceM_pos _)).1 (pk_bd n _ (pieceM_pos _)).2
theorem pc_len (kind n : Int) : (pcL kind n).length ≤ 9 := piece_len _ _ (pk_bd n _ (pieceM_pos _)).1 (pk_bd n _ (pieceM_pos _)).2
theorem pos_parts (u : Int) (h : 0 ≤ u) : B (decDigits (u / 100).toNat) ++ ⟨#[46]⟩ ++ B (decDigits (u / 10 % 10).toNat) ++ B (decDigits (u % 10).toNat) = B (pos u.toNat) := by
  have e : (⟨#[46]⟩ : ByteArray) = B [46] := rfl
  rw [e, B_append, B_append, B_append]
  unfold pos
  rw [show (u / 100).toNat = u.toNat / 100 by omega, show (u / 10 % 10).toNat = u.toNat / 10 % 10 by omega, show (u % 10).toNat = u.toNat % 10 by omega]
  simp
set_option maxHeartbeats 2000000 in
theorem piece8_any (k n : Int) (k0 : -9223372036854775808 ≤ k) (k1 : k ≤ 9223372036854775807) (h0 : -9223372036854775808 ≤ n) (h1 : n ≤ 9223372036854775807) (w0 w : World) (hr : Rel w0 w) :
    Calls Try.prog 9 #[.int .i64 k, .int .i64 n] w fun e w' => e = .returned (.string (B (pcL k n))) ∧ Rel w0 w' := by
  have hb := pk_bd k 5 (by omega)
  obtain ⟨j, hj⟩ : ∃ j, pk k 5 = j := ⟨_, rfl⟩
  have HU := Lib.hid hj
  have HR := Lib.hid hr
  have HP := Lib.hid (show pcL k n = pieceL j (pk n (pieceM j)) by unfold pcL; rw [hj])
  rw [hj] at hb
  obtain ⟨b0, b1⟩ := hb
  clear hj
  obtain ⟨m0, m1, m2, m3, m4⟩ := pieceM_at j
  by_cases c0 : j = 0
  · have hM := m0 c0
    subst c0
    obtain ⟨u, hu⟩ : ∃ u : Nat, pk n 11 = (u : Int) := ⟨(pk n 11).toNat, by have := pk_bd n 11 (by omega); omega⟩
    have u11 : u < 11 := by have := pk_bd n 11 (by omega); omega
    have u11' : (u : Int) < 11 := by omega
    obtain ⟨X, hX⟩ : ∃ X, B (theWords.getD u []) = X := ⟨_, rfl⟩
    have hc := fun w => wrd_like w u u11 X hX
    have HV := Lib.hid hu
    have HF := Lib.hid (show X = B (pcL k n) by rw [HP.out, hM, hu, (piece0 _).1, ← hX]; rfl)
    clear hu hX m0 m1 m2 m3 m4 hM
    go_enter Try.func9, Try.ntmps9
    go_wp2_with (first
      | (go_at_call 16; (with_reducible refine (pick_as k 5 0 HU k0 k1 (by omega) (by omega) _).mono ?_); rintro e w' ⟨rfl, rfl⟩)
      | (go_at_call 16; (with_reducible refine (pick_as n 11 (u : Int) HV h0 h1 (by omega) (by omega) _).mono ?_); rintro e w' ⟨rfl, rfl⟩))
    go_ret
    exact ⟨ret_str HF.out, HR.out.alloc _⟩
  · by_cases c1 : j = 1
    · have hM := m1 c1
      subst c1
      obtain ⟨u, hu⟩ : ∃ u : Nat, pk n 3 = (u : Int) := ⟨(pk n 3).toNat, by have := pk_bd n 3 (by omega); omega⟩
      have u11 : u < 3 := by have := pk_bd n 3 (by omega); omega
      have u11' : (u : Int) < 3 := by omega
      obtain ⟨X, hX⟩ : ∃ X, B (theSigns.getD u []) = X := ⟨_, rfl⟩
      have hc := fun w => sig_like w u u11 X hX
      have HV := Lib.hid hu
      have HF := Lib.hid (show X = B (pcL k n) by rw [HP.out, hM, hu, (piece1 _).1, ← hX]; rfl)
      clear hu hX m0 m1 m2 m3 m4 hM
      go_enter Try.func9, Try.ntmps9
      go_wp2_with (first
        | (go_at_call 16; (with_reducible refine (pick_as k 5 1 HU k0 k1 (by omega) (by omega) _).mono ?_); rintro e w' ⟨rfl, rfl⟩)
        | (go_at_call 16; (with_reducible refine (pick_as n 3 (u : Int) HV h0 h1 (by omega) (by omega) _).mono ?_); rintro e w' ⟨rfl, rfl⟩))
      go_ret
      exact ⟨ret_str HF.out, HR.out.alloc _⟩
    · by_cases c2 : j = 2
      · have hM := m2 c2
        subst c2
        obtain ⟨u, hu⟩ : ∃ u : Int, pk n 100001 = u := ⟨_, rfl⟩
        have ub := pk_bd n 100001 (by omega)
        rw [hu] at ub
        obtain ⟨u0, u1⟩ := ub
        have HV := Lib.hid hu
        have HF := Lib.hid (show B (decDigits u.toNat) = B (pcL k n) by rw [HP.out, hM, hu, (piece2 _).1])
        clear hu m0 m1 m2 m3 m4 hM
        go_enter Try.func9, Try.ntmps9
        go_wp2_with (first
          | (go_at_call 16; (with_reducible refine (pick_as k 5 2 HU k0 k1 (by omega) (by omega) _).mono ?_); rintro e w' ⟨rfl, rfl⟩)
          | (go_at_call 16; (with_reducible refine (pick_as n 100001 u HV h0 h1 (by omega) (by omega) _).mono ?_); rintro e w' ⟨rfl, rfl⟩)
          | (go_at_call 17; (with_reducible refine (decimal_any u u0 (by omega) _ _ HR.out).mono ?_); rintro e w1 ⟨rfl, h2⟩))
        go_ret
        exact ⟨ret_str HF.out, h2⟩
      · by_cases c3 : j = 3
        · have hM := m3 c3
          subst c3
          obtain ⟨u, hu⟩ : ∃ u : Int, pk n 1000000 = u := ⟨_, rfl⟩
          have ub := pk_bd n 1000000 (by omega)
          rw [hu] at ub
          obtain ⟨u0, u1⟩ := ub
          have HV := Lib.hid hu
          have HF := Lib.hid (show B (pos u.toNat) = B (pcL k n) by rw [HP.out, hM, hu, (piece3 _).1])
          have HQ := Lib.hid (pos_parts u u0)
          have z1 := dd_size (u / 100) (by omega)
          have z2 := dd_size (u / 10 % 10) (by omega)
          have z3 := dd_size (u % 10) (by omega)
          clear hu m0 m1 m2 m3 m4 hM
          go_enter Try.func9, Try.ntmps9
          go_wp2_with (first
            | (go_at_call 16; (with_reducible refine (pick_as k 5 3 HU k0 k1 (by omega) (by omega) _).mono ?_); rintro e w' ⟨rfl, rfl⟩)
            | (go_at_call 16; (with_reducible refine (pick_as n 1000000 u HV h0 h1 (by omega) (by omega) _).mono ?_); rintro e w' ⟨rfl, rfl⟩)
            | (go_at_call 17; (with_reducible refine (decimal_any _ (by omega) (by omega) _ _ (by assumption)).mono ?_); rintro e w1 ⟨rfl, h2⟩))
          go_ret
          exact ⟨ret_str (by rw [← HF.out, ← HQ.out]), by assumption⟩
        · have hM := m4 c0 c1 c2 c3
          have HF := Lib.hid (show B (sellerL (pk n 60)) = B (pcL k n) by rw [HP.out, hM, (piece4 _ c0 c1 c2 c3).1])
          have d0 : (j == 0) = false := by simpa using c0
          have d1 : (j == 1) = false := by simpa using c1
          have d2 : (j == 2) = false := by simpa using c2
          have d3 : (j == 3) = false := by simpa using c3
          clear m0 m1 m2 m3 m4 hM c0 c1 c2 c3
          go_enter Try.func9, Try.ntmps9
          go_wp2_with (first
            | (go_at_call 16; (with_reducible refine (pick_as k 5 j HU k0 k1 (by omega) (by omega) _).mono ?_); rintro e w' ⟨rfl, rfl⟩)
            | (go_at_call 18; (with_reducible refine (seller_any n h0 h1 _ _ HR.out).mono ?_); rintro e w1 ⟨rfl, h2⟩))
          go_ret
          exact ⟨ret_str HF.out, h2⟩
end Go.Proofs.Ytoajbbcjmalngaa

namespace Go.Proofs.Ytoajbbcjmalngaa
open Go.RowKit Go.Lib
set_option linter.unusedVariables false
set_option linter.unusedSimpArgs false

theorem pk8_as (c n y : Int) (h : Hid (pk c n = y)) (hc : -9223372036854775808 ≤ c) (hc' : c ≤ 9223372036854775807) (hn : 0 < n) (hn' : n ≤ 9223372036854775807) (w : World) :
    Calls Try.prog 8 #[.int .i64 c, .int .i64 n] w fun e w' => e = .returned (.int .i64 y) ∧ w = w' := by
  rw [← h.out]
  by_cases h : c < 0
  all_goals
    go_enter Try.func8, Try.ntmps8
    go_wp2
    all_goals
      go_ret
      exact ⟨ret_int (by unfold pk; split <;> first | rfl | omega), rfl⟩
def theOps : List (List UInt8) := [opL 0, opL 1, opL 2]
def theShs : List (List UInt8) := [shL 0, shL 1, shL 2]
theorem op_cell (w : World) (j : Nat) (hj : j < 3) (X : ByteArray) (hX : B (opL j) = X) : (w.alloc (.cells #[.string ⟨#[108, 101, 115, 115, 40]⟩, .string ⟨#[109, 105, 110, 40, 49, 46, 48, 48, 44, 32]⟩, .string ⟨#[105, 102, 40, 97, 98, 111, 118, 101, 40, 115, 101, 99, 111, 110, 100, 44, 32, 108, 111, 119, 101, 115, 116, 41, 44, 32, 50, 46, 48, 48, 44, 32]⟩] 9)).cell? ⟨w.heap.size, j, none⟩ = some (.string X) := by
  have h := str_cell (ls := theOps) (Bk.new w 9 (strCells theOps)) j hj
  have e : theOps.getD j [] = opL j := by
    have : j = 0 ∨ j = 1 ∨ j = 2 := by omega
    rcases this with rfl | rfl | rfl <;> rfl
  rw [e, hX] at h
  exact h
theorem sh_cell (w : World) (j : Nat) (hj : j < 3) (X : ByteArray) (hX : B (shL j) = X) : (w.alloc (.cells #[.string ⟨#[44, 32, 49, 46, 48, 48, 41]⟩, .string ⟨#[41]⟩, .string ⟨#[41]⟩] 9)).cell? ⟨w.heap.size, j, none⟩ = some (.string X) := by
  have h := str_cell (ls := theShs) (Bk.new w 9 (strCells theShs)) j hj
  have e : theShs.getD j [] = shL j := by
    have : j = 0 ∨ j = 1 ∨ j = 2 := by omega
    rcases this with rfl | rfl | rfl <;> rfl
  rw [e, hX] at h
  exact h
theorem nest_size (j n : Nat) : (text (nest j n)).length = n * (opL j).length + (6 + n * (shL j).length) := by
  rw [nest_text, List.length_append, List.length_append, rep_len, rep_len]; rfl
theorem nest_bytes (j n : Nat) : (B (rep n (opL j)) ++ ⟨#[108, 111, 119, 101, 115, 116]⟩) ++ B (rep n (shL j)) = B (text (nest j n)) := by
  rw [nest_text, show (⟨#[108, 111, 119, 101, 115, 116]⟩ : ByteArray) = B lowL from rfl, B_append, B_append, List.append_assoc]
/-- What a cut one is. -/
theorem deep_short {j n q : Nat} (h : 29 ≤ n) (hn : n + 1 ≤ 32) (h2 : 2 ≤ j → n + 2 ≤ 32) (h1 : 1 ≤ q) (h5 : q ≤ 5) {X : ByteArray} (hX : X = B (text (nest j n))) :
    ∃ (cd pl : Int), (cd = 80 ∨ cd = 61) ∧ parseS (X.extract 0 (X.size - q)).data.toList = .error (cd, pl) ∧ pl ≤ ((X.size - q : Nat) : Int) := by
  subst hX
  have hr := nest_right j n hn h2
  have hf : fine 32 (nest j n) = true := by simp only [rightX, Bool.and_eq_true] at hr; exact hr.1.1.1
  obtain ⟨c, p, hc, hp⟩ := deep_cut j n q h (by omega) hf h1 h5
  refine ⟨c, p, hc, ?_, ?_⟩
  · rw [B_cut, B_list, B_list, B_size]; simpa using hp
  · have := ((parse_spec _).2 c p hp).2.2
    rw [List.length_take] at this
    rw [B_size]; omega
end Go.Proofs.Ytoajbbcjmalngaa

namespace Go.Proofs.Ytoajbbcjmalngaa
open Go.RowKit Go.Lib
set_option linter.unusedVariables false
set_option linter.unusedSimpArgs false

def TokFine (all : List Tok) : Prop := (∀ t ∈ all, i64 t.1 ∧ i64 t.2.2.1 ∧ t.2.1.length ≤ 100 ∧ (t.1 = 1 → t.2.1 ≠ [])) ∧ all.length ≤ 100000 ∧ ∃ (us : List Tok) (p : Int), all = us ++ [(5, [], 0, p)]
/-- In this world the state at g has these tokens left, and this is wrong. -/
def StR (V : World) (A : Option Addr) (c : Nat) (all : List Tok) (w : World) (g : Nat) (s : PS) : Prop :=
  ∃ j : Nat, Rel V w ∧ V.heap.size ≤ g ∧ ToksAt V A all ∧ TokFine all ∧ Bk w g 54 #[.slice A all.length c, .int .i64 j, .int .i64 s.2] ∧ s.1 = all.drop j ∧ j < all.length
theorem StR.lt {V : World} {A : Option Addr} {c : Nat} {all : List Tok} {w : World} {g : Nat} {s : PS} (h : StR V A c all w g s) : g < w.heap.size := by
  obtain ⟨j, h1, h2, h3, h4, h5, h6, h7⟩ := h; exact h5.lt
theorem StR.rel {V : World} {A : Option Addr} {c : Nat} {all : List Tok} {w w' : World} {g : Nat} {s : PS} (h : StR V A c all w g s) (hr : Rel w w') : StR V A c all w' g s := by
  obtain ⟨j, h1, h2, h3, h4, h5, h6, h7⟩ := h
  exact ⟨j, h1.trans hr, h2, h3, h4, h5.rel hr, h6, h7⟩
theorem StR.grown {V : World} {A : Option Addr} {c : Nat} {all : List Tok} {w w' : World} {g : Nat} {s : PS} (h : StR V A c all w g s) {b : Option Nat} (hg : w.grownBy w' b) (hb : some g ≠ b) (hV : ∀ k, b = some k → V.heap.size ≤ k) : StR V A c all w' g s := by
  obtain ⟨j, h1, h2, h3, h4, h5, h6, h7⟩ := h
  exact ⟨j, h1.grown hg hV, h2, h3, h4, h5.grown hg hb, h6, h7⟩
theorem Bk.three {w : World} {g : Nat} {t : TypeId} {x y z : Value} (h : Bk w g t #[x, y, z]) :
    (w.cell? ⟨g, 0, none⟩ = some x ∧ w.cell? ⟨g, 1, none⟩ = some y ∧ w.cell? ⟨g, 2, none⟩ = some z) ∧ (w.frozen? ⟨g, 0, none⟩ = false ∧ w.frozen? ⟨g, 1, none⟩ = false ∧ w.frozen? ⟨g, 2, none⟩ = false) :=
  ⟨⟨h.cell 0, h.cell 1, h.cell 2⟩, ⟨h.frozen 0, h.frozen 1, h.frozen 2⟩⟩
theorem hd_drop {all : List Tok} {j : Nat} (h : j < all.length) : hdT (all.drop j) = all[j] := by
  unfold hdT
  rw [List.drop_eq_getElem_cons h]
  rfl
theorem last_five {all : List Tok} (h : TokFine all) {j : Nat} (hj : j < all.length) (h5 : all[j].1 ≠ 5) : j + 1 < all.length := by
  obtain ⟨_, _, us, p, rfl⟩ := h
  simp only [List.length_append, List.length_cons, List.length_nil] at hj ⊢
  rcases Nat.lt_or_ge j us.length with h | h
  · omega
  · obtain rfl : j = us.length := by omega
    rw [List.getElem_append_right (Nat.le_refl _)] at h5
    exact absurd (by simp) h5
theorem rwrong_any (V : World) (A : Option Addr) (c : Nat) (all : List Tok) (g : Nat) (s : PS) (cd : Int) (w : World) (h : StR V A c all w g s) :
    Calls Try.prog 39 #[.pointer (some ⟨g, 0, none⟩), .int .i64 cd] w fun e w' => e = .returned (.tuple #[]) ∧ StR V A c all w' g (wrongR cd s) ∧ w.grownBy w' (some g) ∧ w'.heap.size = w.heap.size := by
  obtain ⟨j, h1, h2, h3, h4, h5, h6, h7⟩ := h
  obtain ⟨⟨c0, c1, c2⟩, f0, f1, f2⟩ := h5.three
  have HG : Hid (w.grownBy w (some g)) := Lib.hid ⟨rfl, rfl, rfl, Nat.le_refl _, fun _ _ _ => rfl⟩
  obtain ⟨ts, e⟩ := s
  by_cases he : e = 0
  · have he' : (e == 0) = true := by simpa using he
    have HP := Lib.hid (show ∀ W, w.setCell ⟨g, 2, none⟩ (.int .i64 cd) = W → StR V A c all W g (wrongR cd (ts, e)) ∧ w.grownBy W (some g) ∧ W.heap.size = w.heap.size from fun W hW => by
      subst hW
      refine ⟨⟨j, h1.setCell h2 _, h2, h3, h4, ?_, ?_, h7⟩, set_grown w g 2 _, World.size_setCell ..⟩
      · unfold wrongR; rw [if_pos he]; exact h5.set_ 2 _
      · unfold wrongR; rw [if_pos he]; exact h6)
    clear h1 h3 h4 h5 h6 h7 he
    go_enter Try.func39, Try.ntmps39
    go_wp2_with (fail)
    go_end0
    exact ⟨rfl, HP.out _ rfl⟩
  · have he' : (e == 0) = false := by simpa using he
    have HP := Lib.hid (show StR V A c all w g (wrongR cd (ts, e)) from by unfold wrongR; rw [if_neg he]; exact ⟨j, h1, h2, h3, h4, h5, h6, h7⟩)
    clear h1 h3 h4 h5 h6 h7 he
    go_enter Try.func39, Try.ntmps39
    go_wp2_with (fail)
    go_end0
    exact ⟨rfl, HP.out, HG.out, rfl⟩
theorem wrongR_80 (ts : List Tok) (e : Int) : ∃ e3, wrongR 80 (ts, e) = (ts, e3) ∧ (e3 == 0) = false := by
  unfold wrongR
  by_cases h : e = 0
  · exact ⟨80, by rw [if_pos h], rfl⟩
  · exact ⟨e, by rw [if_neg h], by simpa using h⟩
theorem takeR_wrong {k e e3 : Int} {x : List UInt8} {ts : List Tok} (hm : ¬ ((hdT ts).1 = k ∧ (x = [] ∨ (hdT ts).2.1 = x))) (h : wrongR 80 (ts, e) = (ts, e3)) : takeR k x (ts, e) = (zT, (ts, e3)) := by
  unfold takeR
  unfold wrongR at h
  by_cases he : e = 0
  · rw [if_pos he] at h ⊢; rw [if_neg hm]; cases h; rfl
  · rw [if_neg he] at h ⊢; cases h; rfl
theorem toList_nil {x : List UInt8} {X : ByteArray} (h : X = B x) : (X.toList == []) = true ↔ x = [] := by subst h; rw [B_toList]; simp
theorem toList_eq {x y : List UInt8} {X : ByteArray} (h : X = B x) : ((B y).toList == X.toList) = true ↔ y = x := by subst h; rw [B_toList, B_toList]; simp
set_option maxRecDepth 100000 in
set_option maxHeartbeats 4000000 in
theorem rtake_any (V : World) (A : Option Addr) (c : Nat) (all : List Tok) (g : Nat) (s : PS) (k : Int) (x : List UInt8) (X : ByteArray) (hX : Hid (X = B x)) (w : World) (h : StR V A c all w g s) :
    Calls Try.prog 23 #[.pointer (some ⟨g, 0, none⟩), .int .i64 k, .string X] w fun e w' => e = .returned (TK (takeR k x s).1) ∧ StR V A c all w' g (takeR k x s).2 ∧ w.grownBy w' (some g) := by
  have HS := Lib.hid h
  obtain ⟨j, h1, h2, h3, h4, h5, h6, h7⟩ := h
  obtain ⟨ts, e⟩ := s
  have hgl := h5.lt
  have hA := h1.self.alloc (.cells #[.int .i64 0, .string ⟨#[]⟩, .int .i64 0, .int .i64 0] 56)
  have HN1 := Lib.hid (Bk.new w 56 #[.int .i64 0, .string ⟨#[]⟩, .int .i64 0, .int .i64 0])
  have HZ1 := Lib.hid (World.size_alloc w (.cells #[.int .i64 0, .string ⟨#[]⟩, .int .i64 0, .int .i64 0] 56))
  have HW1 := Lib.hid hA.self
  have HA := Lib.hid hA
  have HB := Lib.hid (h5.rel hA)
  obtain ⟨gT, off, rfl, hb, _⟩ := h3 j h7
  have HD := Lib.hid (hd_drop h7)
  obtain ⟨t, ht⟩ : ∃ t, all[j] = t := ⟨_, rfl⟩
  have HTt := Lib.hid ht
  have HT := Lib.hid (show ∀ w', Rel (w.alloc (.cells #[.int .i64 0, .string ⟨#[]⟩, .int .i64 0, .int .i64 0] 56)) w' → w'.cell? ⟨gT, off + j * 4, none⟩ = some (.int .i64 t.1) ∧ w'.cell? ⟨gT, off + j * 4 + 1, none⟩ = some (.string (B t.2.1)) ∧ w'.cell? ⟨gT, off + j * 4 + 2, none⟩ = some (.int .i64 t.2.2.1) ∧ w'.cell? ⟨gT, off + j * 4 + 3, none⟩ = some (.int .i64 t.2.2.2) from fun w' hr => by
    obtain ⟨g', off', e', _, a0, a1, a2, a3⟩ := (h3.rel ((h1.trans hA).trans hr)) j h7
    cases e'
    rw [ht] at a0 a1 a2 a3
    exact ⟨a0, a1, a2, a3⟩)
  have H6 := Lib.hid h6
  obtain ⟨W1, hW1⟩ : ∃ W, w.alloc (.cells #[.int .i64 0, .string ⟨#[]⟩, .int .i64 0, .int .i64 0] 56) = W := ⟨_, rfl⟩
  rw [hW1] at HW1 HA HB HT HN1 HZ1
  have HWe := Lib.hid hW1
  clear h1 h3 h4 h5 h6 hA ht hW1
  go_enter Try.func23, Try.ntmps23
  go_wp2_with (fail)
  rw [HWe.out]
  refine wp_region_held_drew (S := (fun w' => Rel W1 w')) (by kernel_rfl) HW1.out.drew (fun hHeld => ?_)
  refine held_take (i := 0) (v := ?_) (some 8) rfl rfl (by kernel_rfl) (by kernel_rfl) (by kernel_rfl) (fun _ _ _ h => h) (Or.inl ⟨by rfl, ?_⟩) hHeld ?_
  rotate_left 1
  · intro w' (h : Rel W1 w'); obtain ⟨⟨x0, x1, x2⟩, _⟩ := (HB.out.rel h).three; obtain ⟨y0, y1, y2, y3⟩ := HT.out w' h; go_simp; try with_reducible rfl
  try simp only [Act.put, List.setIfInBounds_toArray, List.set_cons_zero, List.set_cons_succ]
  refine held_take (i := 1) (v := ?_) (some 9) rfl rfl (by kernel_rfl) (by kernel_rfl) (by kernel_rfl) (fun _ _ _ h => h) (Or.inl ⟨by rfl, ?_⟩) hHeld ?_
  rotate_left 1
  · intro w' (h : Rel W1 w'); obtain ⟨⟨x0, x1, x2⟩, _⟩ := (HB.out.rel h).three; obtain ⟨y0, y1, y2, y3⟩ := HT.out w' h; go_simp; try with_reducible rfl
  try simp only [Act.put, List.setIfInBounds_toArray, List.set_cons_zero, List.set_cons_succ]
  refine held_take (i := 2) (v := ?_) (some 10) rfl rfl (by kernel_rfl) (by kernel_rfl) (by kernel_rfl) (fun _ _ _ h => h) (Or.inl ⟨by rfl, ?_⟩) hHeld ?_
  rotate_left 1
  · intro w' (h : Rel W1 w'); obtain ⟨⟨x0, x1, x2⟩, _⟩ := (HB.out.rel h).three; obtain ⟨y0, y1, y2, y3⟩ := HT.out w' h; go_simp; try with_reducible rfl
  try simp only [Act.put, List.setIfInBounds_toArray, List.set_cons_zero, List.set_cons_succ]
  refine held_take (i := 3) (v := ?_) (some 11) rfl rfl (by kernel_rfl) (by kernel_rfl) (by kernel_rfl) (fun _ _ _ h => h) (Or.inl ⟨by rfl, ?_⟩) hHeld ?_
  rotate_left 1
  · intro w' (h : Rel W1 w'); obtain ⟨⟨x0, x1, x2⟩, _⟩ := (HB.out.rel h).three; obtain ⟨y0, y1, y2, y3⟩ := HT.out w' h; go_simp; try with_reducible rfl
  try simp only [Act.put, List.setIfInBounds_toArray, List.set_cons_zero, List.set_cons_succ]
  refine held_take (i := 4) (v := ?_) (some 12) rfl rfl (by kernel_rfl) (by kernel_rfl) (by kernel_rfl) (fun _ _ _ h => h) (Or.inl ⟨by rfl, ?_⟩) hHeld ?_
  rotate_left 1
  · intro w' (h : Rel W1 w'); obtain ⟨⟨x0, x1, x2⟩, _⟩ := (HB.out.rel h).three; obtain ⟨y0, y1, y2, y3⟩ := HT.out w' h; go_simp; try with_reducible rfl
  try simp only [Act.put, List.setIfInBounds_toArray, List.set_cons_zero, List.set_cons_succ]
  refine held_take (i := 5) (v := ?_) (some 13) rfl rfl (by kernel_rfl) (by kernel_rfl) (by kernel_rfl) (fun _ _ _ h => h) (Or.inl ⟨by rfl, ?_⟩) hHeld ?_
  rotate_left 1
  · intro w' (h : Rel W1 w'); obtain ⟨⟨x0, x1, x2⟩, _⟩ := (HB.out.rel h).three; obtain ⟨y0, y1, y2, y3⟩ := HT.out w' h; go_simp; try with_reducible rfl
  try simp only [Act.put, List.setIfInBounds_toArray, List.set_cons_zero, List.set_cons_succ]
  refine held_take (i := 6) (v := ?_) (some 14) rfl rfl (by kernel_rfl) (by kernel_rfl) (by kernel_rfl) (fun _ _ _ h => h) (Or.inl ⟨by rfl, ?_⟩) hHeld ?_
  rotate_left 1
  · intro w' (h : Rel W1 w'); obtain ⟨⟨x0, x1, x2⟩, _⟩ := (HB.out.rel h).three; obtain ⟨y0, y1, y2, y3⟩ := HT.out w' h; go_simp; try with_reducible rfl
  try simp only [Act.put, List.setIfInBounds_toArray, List.set_cons_zero, List.set_cons_succ]
  refine held_take (i := 7) (v := ?_) (some 15) rfl rfl (by kernel_rfl) (by kernel_rfl) (by kernel_rfl) (fun _ _ _ h => h) (Or.inl ⟨by rfl, ?_⟩) hHeld ?_
  rotate_left 1
  · intro w' (h : Rel W1 w'); obtain ⟨⟨x0, x1, x2⟩, _⟩ := (HB.out.rel h).three; obtain ⟨y0, y1, y2, y3⟩ := HT.out w' h; go_simp; try with_reducible rfl
  try simp only [Act.put, List.setIfInBounds_toArray, List.set_cons_zero, List.set_cons_succ]
  refine held_take (i := 8) (v := ?_) (some 16) rfl rfl (by kernel_rfl) (by kernel_rfl) (by kernel_rfl) (fun _ _ _ h => h) (Or.inl ⟨by rfl, ?_⟩) hHeld ?_
  rotate_left 1
  · intro w' (h : Rel W1 w'); obtain ⟨⟨x0, x1, x2⟩, _⟩ := (HB.out.rel h).three; obtain ⟨y0, y1, y2, y3⟩ := HT.out w' h; go_simp; try with_reducible rfl
  try simp only [Act.put, List.setIfInBounds_toArray, List.set_cons_zero, List.set_cons_succ]
  refine held_take (i := 9) (v := ?_) (some 17) rfl rfl (by kernel_rfl) (by kernel_rfl) (by kernel_rfl) (fun _ _ _ h => h) (Or.inl ⟨by rfl, ?_⟩) hHeld ?_
  rotate_left 1
  · intro w' (h : Rel W1 w'); obtain ⟨⟨x0, x1, x2⟩, _⟩ := (HB.out.rel h).three; obtain ⟨y0, y1, y2, y3⟩ := HT.out w' h; go_simp; try with_reducible rfl
  try simp only [Act.put, List.setIfInBounds_toArray, List.set_cons_zero, List.set_cons_succ]
  refine held_one (j := 10) (by kernel_rfl) rfl (fun K hK => ?_)
  try simp only [List.getElem_toArray, List.getElem_cons_succ, List.getElem_cons_zero]
  rw [if_pos (by rfl)]
  go_simp
  refine hK.out _ _ (hHeld.alloc _) (fun hHeld => ?_)
  clear hK K
  try simp only [Act.put, List.setIfInBounds_toArray, List.set_cons_zero, List.set_cons_succ]
  refine held_one (j := 11) (by kernel_rfl) rfl (fun K hK => ?_)
  try simp only [List.getElem_toArray, List.getElem_cons_succ, List.getElem_cons_zero]
  rw [if_pos (by rfl)]
  go_simp
  refine hK.out _ _ (HW1.out.alloc _).drew (fun hHeld => ?_)
  clear hK K
  try simp only [Act.put, List.setIfInBounds_toArray, List.set_cons_zero, List.set_cons_succ]
  refine wpAnyH_done (by kernel_rfl) ?_ _
  have HW2 := Lib.hid (HW1.out.alloc (.cells #[.int .i64 t.1, .string (B t.2.1), .int .i64 t.2.2.1, .int .i64 t.2.2.2] 56)).drew
  have HN2 := Lib.hid (Bk.new W1 56 #[.int .i64 t.1, .string (B t.2.1), .int .i64 t.2.2.1, .int .i64 t.2.2.2])
  obtain ⟨W2, hW2⟩ : ∃ W, (W1.alloc (.cells #[.int .i64 t.1, .string (B t.2.1), .int .i64 t.2.2.1, .int .i64 t.2.2.2] 56)).drew = W := ⟨_, rfl⟩
  rw [hW2] at HW2
  obtain ⟨⟨b0, b1, b2, b3⟩, _⟩ := (show Bk W2 W1.heap.size 56 #[.int .i64 t.1, .string (B t.2.1), .int .i64 t.2.2.1, .int .i64 t.2.2.2] from by rw [← hW2]; exact HN2.out).four
  obtain ⟨⟨c0, c1, c2⟩, f0, f1, f2⟩ := (HB.out.rel HW2.out).three
  rw [hW2]
  clear hW2
  obtain ⟨⟨r0, r1, r2, r3⟩, q0, q1, q2, q3⟩ := (HN1.out.rel HW2.out).four
  have HNW := Lib.hid (HN1.out.rel HW2.out)
  have HS2 := Lib.hid (HS.out.rel (HA.out.trans HW2.out))
  have HG2 := Lib.hid (grown_rel (some g) (HA.out.trans HW2.out))
  have hVw : V.heap.size ≤ w.heap.size := by obtain ⟨_, a, _⟩ := HS.out; exact a.size
  have hhd : hdT ts = t := by have := H6.out; rw [this, HD.out, HTt.out]
  have HHD := Lib.hid hhd
  have hz1 := HZ1.out
  have hne1 : ¬ g = w.heap.size := by omega
  have hne2 : ¬ w.heap.size = g := by omega
  have hne3 : ¬ g = W1.heap.size := by omega
  have hne4 : ¬ W1.heap.size = g := by omega
  clear hz1
  clear hhd
  cases hkb : (t.1 == k)
  · obtain ⟨e3, hw3, he3⟩ := wrongR_80 ts e
    have HW3 := Lib.hid hw3
    have HF := Lib.hid (takeR_wrong (x := x) (show ¬ ((hdT ts).1 = k ∧ (x = [] ∨ (hdT ts).2.1 = x)) from fun hh => by rw [HHD.out] at hh; simp [hh.1] at hkb) hw3)
    clear hw3
    go_wp2_with (go_at_call 39; (with_reducible refine (rwrong_any V (some ⟨gT, off, none⟩) c all g (ts, e) 80 _ HS2.out).mono ?_); rintro e w3 ⟨rfl, s3, g3, z3⟩; rw [HW3.out] at s3; have HS3 := Lib.hid s3; obtain ⟨_, _, _, _, _, hb3, _, _⟩ := s3; obtain ⟨⟨d0, d1, d2⟩, _⟩ := hb3.three; clear hb3; obtain ⟨⟨p0, p1, p2, p3⟩, v0, v1, v2, v3⟩ := (HNW.out.grown g3 (fun e => by injection e; omega)).four; have HG3 := Lib.hid g3)
    obtain ⟨⟨y0, y1, y2, y3⟩, _⟩ := ((HNW.out.grown HG3.out (fun e => by injection e; omega)).put4 (.int .i64 0) (.string ⟨#[]⟩) (.int .i64 0) (.int .i64 0)).four
    have gp := put4_grown w3 w.heap.size (.int .i64 0) (.string ⟨#[]⟩) (.int .i64 0) (.int .i64 0)
    refine bodyPost_ret (v := TK zT) (by simp [results, Try.results23, go_sem, y0, y1, y2, y3, zT]; rfl) rfl ⟨?_, ?_, ?_⟩
    · rw [HF.out]
    · rw [HF.out]; exact HS3.out.grown gp (fun e => by injection e; omega) (fun k e => by cases e; exact hVw)
    · exact grown_of (grown_trans HG2.out HG3.out) gp (fun k e => by cases e; exact Nat.le_refl _)
  · have hk : t.1 = k := by simpa using hkb
    have HK := Lib.hid hk
    clear hk
    have ways : (X.toList == []) = true ∨ ((X.toList == []) = false ∧ ((B t.2.1).toList == X.toList) = true) ∨ ((X.toList == []) = false ∧ ((B t.2.1).toList == X.toList) = false) := by
      cases (X.toList == []) <;> cases ((B t.2.1).toList == X.toList) <;> simp
    rcases ways with hx0 | ⟨hx0, hxt⟩ | ⟨hx0, hxt⟩
    · have HM := Lib.hid (show (hdT ts).1 = k ∧ (x = [] ∨ (hdT ts).2.1 = x) from ⟨by rw [HHD.out]; exact HK.out, .inl ((toList_nil hX.out).1 hx0)⟩)
      by_cases he : e = 0
      · subst he
        have HT0 := Lib.hid (show takeR k x (ts, 0) = ((k, t.2.1, t.2.2.1, t.2.2.2), (if k = 5 then ts else ts.tail, 0)) by unfold takeR; rw [if_pos rfl, if_pos HM.out, HHD.out, ← HK.out])
        by_cases h5 : k = 5
        · have h5' : (k == 5) = true := by simpa using h5
          have HF := Lib.hid (show takeR k x (ts, 0) = ((k, t.2.1, t.2.2.1, t.2.2.2), (ts, 0)) by rw [HT0.out, if_pos h5])
          clear h5
          go_wp2_with (fail)
          obtain ⟨⟨y0, y1, y2, y3⟩, _⟩ := (HNW.out.put4 (.int .i64 k) (.string (B t.2.1)) (.int .i64 t.2.2.1) (.int .i64 t.2.2.2)).four
          have gp := put4_grown W2 w.heap.size (.int .i64 k) (.string (B t.2.1)) (.int .i64 t.2.2.1) (.int .i64 t.2.2.2)
          refine bodyPost_ret (v := TK (k, t.2.1, t.2.2.1, t.2.2.2)) (by simp [results, Try.results23, go_sem, y0, y1, y2, y3]) rfl ⟨?_, ?_, ?_⟩
          · rw [HF.out]
          · rw [HF.out]; exact HS2.out.grown gp (fun e => by injection e; omega) (fun k e => by cases e; exact hVw)
          · exact grown_of HG2.out gp (fun k e => by cases e; exact Nat.le_refl _)
        · have h5' : (k == 5) = false := by simpa using h5
          have HF := Lib.hid (show takeR k x (ts, 0) = ((k, t.2.1, t.2.2.1, t.2.2.2), (ts.tail, 0)) by rw [HT0.out, if_neg h5])
          have hj1 : j + 1 < all.length := by
            obtain ⟨_, _, _, _, hf, _⟩ := HS.out
            exact last_five hf h7 (by rw [HTt.out, HK.out]; exact h5)
          have hjs : all.length ≤ 100000 := by obtain ⟨_, _, _, _, hf, _⟩ := HS.out; exact hf.2.1
          have hwj : IntKind.i64.wrap ((j : Int) + 1) = (j : Int) + 1 := by rw [IntKind.wrap_i64]; omega
          clear h5
          go_wp2_with (fail)
          have HSt := Lib.hid (show ∀ W, W2.setCell ⟨g, 1, none⟩ (.int .i64 ((j : Int) + 1)) = W → StR V (some ⟨gT, off, none⟩) c all W g (ts.tail, 0) ∧ W2.grownBy W (some g) ∧ Bk W w.heap.size 56 #[.int .i64 0, .string ⟨#[]⟩, .int .i64 0, .int .i64 0] from fun W hW => by
            subst hW
            obtain ⟨j', s1, s2, s3, s4, s5, s6, s7⟩ := HS2.out
            refine ⟨⟨j + 1, s1.setCell s2 _, s2, s3, s4, (HB.out.rel HW2.out).set_ 1 _, ?_, hj1⟩, set_grown W2 g 1 _, HNW.out.far (by simp only; omega) _⟩
            show ts.tail = _
            rw [H6.out, List.tail_drop])
          obtain ⟨W3, hW3⟩ : ∃ W, W2.setCell ⟨g, 1, none⟩ (.int .i64 ((j : Int) + 1)) = W := ⟨_, rfl⟩
          obtain ⟨z1, z2, z3⟩ := HSt.out W3 hW3
          rw [hW3]
          obtain ⟨⟨y0, y1, y2, y3⟩, _⟩ := (z3.put4 (.int .i64 k) (.string (B t.2.1)) (.int .i64 t.2.2.1) (.int .i64 t.2.2.2)).four
          have gp := put4_grown W3 w.heap.size (.int .i64 k) (.string (B t.2.1)) (.int .i64 t.2.2.1) (.int .i64 t.2.2.2)
          refine bodyPost_ret (v := TK (k, t.2.1, t.2.2.1, t.2.2.2)) (by simp [results, Try.results23, go_sem, y0, y1, y2, y3]) rfl ⟨?_, ?_, ?_⟩
          · rw [HF.out]
          · rw [HF.out]; exact z1.grown gp (fun e => by injection e; omega) (fun k e => by cases e; exact hVw)
          · exact grown_of (grown_trans HG2.out z2) gp (fun k e => by cases e; exact Nat.le_refl _)
      · have he' : (e == 0) = false := by simpa using he
        have HF := Lib.hid (takeR_bad (k := k) (x := x) (s := (ts, e)) he)
        clear he
        go_wp2_with (fail)
        obtain ⟨⟨y0, y1, y2, y3⟩, _⟩ := (HNW.out.put4 (.int .i64 0) (.string ⟨#[]⟩) (.int .i64 0) (.int .i64 0)).four
        have gp := put4_grown W2 w.heap.size (.int .i64 0) (.string ⟨#[]⟩) (.int .i64 0) (.int .i64 0)
        refine bodyPost_ret (v := TK zT) (by simp [results, Try.results23, go_sem, y0, y1, y2, y3, zT]; rfl) rfl ⟨?_, ?_, ?_⟩
        · rw [HF.out]
        · rw [HF.out]; exact HS2.out.grown gp (fun e => by injection e; omega) (fun k e => by cases e; exact hVw)
        · exact grown_of HG2.out gp (fun k e => by cases e; exact Nat.le_refl _)
    · have HM := Lib.hid (show (hdT ts).1 = k ∧ (x = [] ∨ (hdT ts).2.1 = x) from ⟨by rw [HHD.out]; exact HK.out, .inr (by rw [HHD.out]; exact (toList_eq hX.out).1 hxt)⟩)
      by_cases he : e = 0
      · subst he
        have HT0 := Lib.hid (show takeR k x (ts, 0) = ((k, t.2.1, t.2.2.1, t.2.2.2), (if k = 5 then ts else ts.tail, 0)) by unfold takeR; rw [if_pos rfl, if_pos HM.out, HHD.out, ← HK.out])
        by_cases h5 : k = 5
        · have h5' : (k == 5) = true := by simpa using h5
          have HF := Lib.hid (show takeR k x (ts, 0) = ((k, t.2.1, t.2.2.1, t.2.2.2), (ts, 0)) by rw [HT0.out, if_pos h5])
          clear h5
          go_wp2_with (fail)
          obtain ⟨⟨y0, y1, y2, y3⟩, _⟩ := (HNW.out.put4 (.int .i64 k) (.string (B t.2.1)) (.int .i64 t.2.2.1) (.int .i64 t.2.2.2)).four
          have gp := put4_grown W2 w.heap.size (.int .i64 k) (.string (B t.2.1)) (.int .i64 t.2.2.1) (.int .i64 t.2.2.2)
          refine bodyPost_ret (v := TK (k, t.2.1, t.2.2.1, t.2.2.2)) (by simp [results, Try.results23, go_sem, y0, y1, y2, y3]) rfl ⟨?_, ?_, ?_⟩
          · rw [HF.out]
          · rw [HF.out]; exact HS2.out.grown gp (fun e => by injection e; omega) (fun k e => by cases e; exact hVw)
          · exact grown_of HG2.out gp (fun k e => by cases e; exact Nat.le_refl _)
        · have h5' : (k == 5) = false := by simpa using h5
          have HF := Lib.hid (show takeR k x (ts, 0) = ((k, t.2.1, t.2.2.1, t.2.2.2), (ts.tail, 0)) by rw [HT0.out, if_neg h5])
          have hj1 : j + 1 < all.length := by
            obtain ⟨_, _, _, _, hf, _⟩ := HS.out
            exact last_five hf h7 (by rw [HTt.out, HK.out]; exact h5)
          have hjs : all.length ≤ 100000 := by obtain ⟨_, _, _, _, hf, _⟩ := HS.out; exact hf.2.1
          have hwj : IntKind.i64.wrap ((j : Int) + 1) = (j : Int) + 1 := by rw [IntKind.wrap_i64]; omega
          clear h5
          go_wp2_with (fail)
          have HSt := Lib.hid (show ∀ W, W2.setCell ⟨g, 1, none⟩ (.int .i64 ((j : Int) + 1)) = W → StR V (some ⟨gT, off, none⟩) c all W g (ts.tail, 0) ∧ W2.grownBy W (some g) ∧ Bk W w.heap.size 56 #[.int .i64 0, .string ⟨#[]⟩, .int .i64 0, .int .i64 0] from fun W hW => by
            subst hW
            obtain ⟨j', s1, s2, s3, s4, s5, s6, s7⟩ := HS2.out
            refine ⟨⟨j + 1, s1.setCell s2 _, s2, s3, s4, (HB.out.rel HW2.out).set_ 1 _, ?_, hj1⟩, set_grown W2 g 1 _, HNW.out.far (by simp only; omega) _⟩
            show ts.tail = _
            rw [H6.out, List.tail_drop])
          obtain ⟨W3, hW3⟩ : ∃ W, W2.setCell ⟨g, 1, none⟩ (.int .i64 ((j : Int) + 1)) = W := ⟨_, rfl⟩
          obtain ⟨z1, z2, z3⟩ := HSt.out W3 hW3
          rw [hW3]
          obtain ⟨⟨y0, y1, y2, y3⟩, _⟩ := (z3.put4 (.int .i64 k) (.string (B t.2.1)) (.int .i64 t.2.2.1) (.int .i64 t.2.2.2)).four
          have gp := put4_grown W3 w.heap.size (.int .i64 k) (.string (B t.2.1)) (.int .i64 t.2.2.1) (.int .i64 t.2.2.2)
          refine bodyPost_ret (v := TK (k, t.2.1, t.2.2.1, t.2.2.2)) (by simp [results, Try.results23, go_sem, y0, y1, y2, y3]) rfl ⟨?_, ?_, ?_⟩
          · rw [HF.out]
          · rw [HF.out]; exact z1.grown gp (fun e => by injection e; omega) (fun k e => by cases e; exact hVw)
          · exact grown_of (grown_trans HG2.out z2) gp (fun k e => by cases e; exact Nat.le_refl _)
      · have he' : (e == 0) = false := by simpa using he
        have HF := Lib.hid (takeR_bad (k := k) (x := x) (s := (ts, e)) he)
        clear he
        go_wp2_with (fail)
        obtain ⟨⟨y0, y1, y2, y3⟩, _⟩ := (HNW.out.put4 (.int .i64 0) (.string ⟨#[]⟩) (.int .i64 0) (.int .i64 0)).four
        have gp := put4_grown W2 w.heap.size (.int .i64 0) (.string ⟨#[]⟩) (.int .i64 0) (.int .i64 0)
        refine bodyPost_ret (v := TK zT) (by simp [results, Try.results23, go_sem, y0, y1, y2, y3, zT]; rfl) rfl ⟨?_, ?_, ?_⟩
        · rw [HF.out]
        · rw [HF.out]; exact HS2.out.grown gp (fun e => by injection e; omega) (fun k e => by cases e; exact hVw)
        · exact grown_of HG2.out gp (fun k e => by cases e; exact Nat.le_refl _)
    · obtain ⟨e3, hw3, he3⟩ := wrongR_80 ts e
      have HW3 := Lib.hid hw3
      have HF := Lib.hid (takeR_wrong (x := x) (show ¬ ((hdT ts).1 = k ∧ (x = [] ∨ (hdT ts).2.1 = x)) from fun hh => by
        rcases hh.2 with h | h
        · rw [(toList_nil hX.out).2 h] at hx0; cases hx0
        · rw [HHD.out] at h; rw [(toList_eq hX.out).2 h] at hxt; cases hxt) hw3)
      clear hw3
      go_wp2_with (go_at_call 39; (with_reducible refine (rwrong_any V (some ⟨gT, off, none⟩) c all g (ts, e) 80 _ HS2.out).mono ?_); rintro e w3 ⟨rfl, s3, g3, z3⟩; rw [HW3.out] at s3; have HS3 := Lib.hid s3; obtain ⟨_, _, _, _, _, hb3, _, _⟩ := s3; obtain ⟨⟨d0, d1, d2⟩, _⟩ := hb3.three; clear hb3; obtain ⟨⟨p0, p1, p2, p3⟩, v0, v1, v2, v3⟩ := (HNW.out.grown g3 (fun e => by injection e; omega)).four; have HG3 := Lib.hid g3)
      obtain ⟨⟨y0, y1, y2, y3⟩, _⟩ := ((HNW.out.grown HG3.out (fun e => by injection e; omega)).put4 (.int .i64 0) (.string ⟨#[]⟩) (.int .i64 0) (.int .i64 0)).four
      have gp := put4_grown w3 w.heap.size (.int .i64 0) (.string ⟨#[]⟩) (.int .i64 0) (.int .i64 0)
      refine bodyPost_ret (v := TK zT) (by simp [results, Try.results23, go_sem, y0, y1, y2, y3, zT]; rfl) rfl ⟨?_, ?_, ?_⟩
      · rw [HF.out]
      · rw [HF.out]; exact HS3.out.grown gp (fun e => by injection e; omega) (fun k e => by cases e; exact hVw)
      · exact grown_of (grown_trans HG2.out HG3.out) gp (fun k e => by cases e; exact Nat.le_refl _)
end Go.Proofs.Ytoajbbcjmalngaa
