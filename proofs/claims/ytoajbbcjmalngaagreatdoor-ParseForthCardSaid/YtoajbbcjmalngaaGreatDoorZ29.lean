/- What the landed Print and Right tell: all that the laws ask of the program; Pieces as the law of layer 6 makes them; Plain mathematics of layer 8, thirteenth part: one token more; how large what is parsed is. No program in this text; ParseMore, over what the program is asked; ParseCuts, over what the program is asked. -/
import Derived.Test.YtoajbbcjmalngaaGreatDoorZ28
import Derived.Test.YtoajbbcjmalngaaGreatDoorZ25
import Derived.Test.YtoajbbcjmalngaaGreatDoorZ03
import Derived.Test.YtoajbbcjmalngaaGreatDoorZ09
import Derived.Test.YtoajbbcjmalngaaGreatDoorZ07
namespace Go.Proofs.YtoajbbcjmalngaaGreatDoor
open Go.RowKit Go.Lib
set_option linter.unusedVariables false
set_option linter.unusedSimpArgs false

theorem pr_new (w : World) (o : Obj) : Pr w.heap.size (w.heap.size + 1) [] 0 ((w.alloc o).alloc (.cells #[.pointer none, .slice none 0 0, .int .i64 0] 58)) := by
  have hb := Bk.new (w.alloc o) 58 #[.pointer none, .slice none 0 0, .int .i64 0]
  rw [World.size_alloc] at hb
  exact .inl ⟨by omega, _, hb, World.ownsRowF_of (World.ownsRow_nil _ _ _ _), by simp [Value.ownBlock]⟩
theorem right_of {x : Ex} (hc : isCond x.k = false) : rightX x = true ↔ fine (32 - 0) x = true ∧ ([] : List UInt8).length + (text x).length ≤ 2000 := by
  simp only [rightX, hc, Bool.and_eq_true, decide_eq_true_eq, List.length_nil, Nat.sub_zero, Nat.zero_add, Bool.not_false, and_true]
  constructor
  · rintro ⟨⟨a, _⟩, b⟩; exact ⟨a, b⟩
  · rintro ⟨a, b⟩; exact ⟨⟨a, by have := text_more x 32 a; omega⟩, b⟩
set_option maxRecDepth 100000 in
set_option maxHeartbeats 4000000 in
theorem tprint_any : PrintOk := fun x S e w0 w hr h hz => by
  have HR := Lib.hid hr
  obtain ⟨k, n, nm, A, m, c⟩ := e
  have hke : x.k = k := h.kind
  have HB := Lib.hid ((Bk.new w 26 #[.int .i64 k, .int .i64 n, .string (B nm), .slice A m c]).alloc (.cells #[.pointer none, .slice none 0 0, .int .i64 0] 58))
  have HA := Lib.hid ((hr.self.alloc (.cells #[.int .i64 k, .int .i64 n, .string (B nm), .slice A m c] 26)).alloc (.cells #[.pointer none, .slice none 0 0, .int .i64 0] 58))
  have HP := Lib.hid (pr_new w (.cells #[.int .i64 k, .int .i64 n, .string (B nm), .slice A m c] 26))
  obtain ⟨⟨c0, c1, c2, c3⟩, _⟩ := HB.out.four
  obtain ⟨bc, hbc⟩ : ∃ b, isCond k = b := ⟨_, rfl⟩
  have HBc := Lib.hid hbc
  cases bc with
  | true =>
    have HX := Lib.hid (show prT x = [] ∧ prE x = 1 by
      have : rightX x = false := by unfold rightX; rw [hke, hbc]; simp
      unfold prT prE; rw [this]; exact ⟨rfl, rfl⟩)
    clear h hbc
    go_enter Tryz.func10, Tryz.ntmps10
    go_wp2_with (go_at_call 21; (with_reducible refine (tcond_as k n (B nm) A m c true HBc _ _ HA.out.self).mono ?_); rintro e w2 ⟨rfl, h2⟩; obtain ⟨⟨d0, d1, d2, d3⟩, _⟩ := (HB.out.rel h2).four)
    go_ret2
    exact ⟨by rw [HX.out.1, HX.out.2]; rfl, (HR.out.trans HA.out).trans h2⟩
  | false =>
    obtain ⟨t, ht⟩ : ∃ t, rightX x = t := ⟨_, rfl⟩
    have hti : t = true ↔ fine (32 - 0) x = true ∧ ([] : List UInt8).length + (text x).length ≤ 2000 := by rw [← ht]; exact right_of (by rw [hke]; exact hbc)
    have HC := Lib.hid (fun (w2 : World) (h2 : Rel w w2) (hp : Pr w.heap.size (w.heap.size + 1) [] 0 w2) => pexpr_any x S (k, n, nm, A, m, c) (w.heap.size + 1) [] 0 t w w2 h2 h hp (by omega) (by simp) hz (Lib.hid hti))
    have HX := Lib.hid (show prT x = (if t then text x else []) ∧ prE x = (if t then 0 else 1) by unfold prT prE; rw [ht]; exact ⟨rfl, rfl⟩)
    have HNe := Lib.hid (show t = true → [] ++ text x ≠ [] from fun e => by
      have h1 := text_more x 32 (hti.1 e).1
      have h2 := size_pos x
      intro h
      rw [List.nil_append] at h
      rw [h, List.length_nil] at h1
      omega)
    clear h hbc hti ht
    cases t with
    | false =>
      go_enter Tryz.func10, Tryz.ntmps10
      go_wp2_with (first
        | (go_at_call 21; (with_reducible refine (tcond_as k n (B nm) A m c false HBc _ _ HA.out.self).mono ?_); rintro e w2 ⟨rfl, h2⟩; obtain ⟨⟨d0, d1, d2, d3⟩, _⟩ := (HB.out.rel h2).four)
        | (go_at_call 22; (with_reducible refine (HC.out _ (HA.out.trans h2) (HP.out.rel h2)).mono ?_); rintro e w3 ⟨rfl, p3, r3, k3⟩))
      go_ret2
      exact ⟨by rw [HX.out.1, HX.out.2]; rfl, HR.out.trans r3⟩
    | true =>
      go_enter Tryz.func10, Tryz.ntmps10
      go_wp2_with (first
        | (go_at_call 21; (with_reducible refine (tcond_as k n (B nm) A m c false HBc _ _ HA.out.self).mono ?_); rintro e w2 ⟨rfl, h2⟩; obtain ⟨⟨d0, d1, d2, d3⟩, _⟩ := (HB.out.rel h2).four)
        | (go_at_call 22; (with_reducible refine (HC.out _ (HA.out.trans h2) (HP.out.rel h2)).mono ?_); rintro e w3 ⟨rfl, p3, r3, k3⟩)
        | (go_at_call 23; (with_reducible refine (string_any (w.heap.size + 1) ([] ++ text x) 0 w _ r3 (by first | exact p3 rfl | exact p3 trivial) (by first | exact HNe.out rfl | exact HNe.out trivial)).mono ?_); rintro e w4 ⟨rfl, r4⟩))
      go_ret2
      exact ⟨by rw [HX.out.1, HX.out.2]; rfl, HR.out.trans r4⟩
set_option maxRecDepth 100000 in
set_option maxHeartbeats 2000000 in
theorem tright_any : RightOk := fun x S e w0 w hr h hz => by
  have HR := Lib.hid hr
  obtain ⟨k, n, nm, A, m, c⟩ := e
  have HA := Lib.hid (hr.self.alloc (.cells #[.int .i64 k, .int .i64 n, .string (B nm), .slice A m c] 26))
  have HP := Lib.hid (fun (w' : World) (h' : Rel w w') => tprint_any x S (k, n, nm, A, m, c) w' w' (hr.trans h').self (h.rel h') hz)
  obtain ⟨T, hT⟩ : ∃ T, B (prT x) = T := ⟨_, rfl⟩
  rw [hT] at HP
  clear hT
  cases hx : rightX x
  · have he : prE x = 1 := by unfold prE; rw [hx]; rfl
    rw [he] at HP
    clear h he hx
    go_enter Tryz.func11, Tryz.ntmps11
    go_wp2_with (go_at_call 10; (with_reducible refine (HP.out _ HA.out).mono ?_); rintro e w2 ⟨rfl, h2⟩)
    go_ret
    exact ⟨rfl, (HR.out.trans HA.out).trans h2⟩
  · have he : prE x = 0 := by unfold prE; rw [hx]; rfl
    rw [he] at HP
    clear h he hx
    go_enter Tryz.func11, Tryz.ntmps11
    go_wp2_with (go_at_call 10; (with_reducible refine (HP.out _ HA.out).mono ?_); rintro e w2 ⟨rfl, h2⟩)
    go_ret
    exact ⟨rfl, (HR.out.trans HA.out).trans h2⟩
theorem treeOk : TreeOk := ⟨tprint_any, tright_any, fun x S e w0 w hr h hz => tdeep_any x S e w0 w hr h (by omega), fun x y S S' e e' b w0 w hr h h' hz hz' hb => tsame_any x y S S' e e' b w0 w hr h h' (by omega) (by omega) hb⟩
end Go.Proofs.YtoajbbcjmalngaaGreatDoor

namespace Go.Proofs.YtoajbbcjmalngaaGreatDoor
open Go.RowKit Go.Lib
set_option linter.unusedVariables false
set_option linter.unusedSimpArgs false

theorem sig_cell (w : World) (j : Nat) (hj : j < 3) : (w.alloc (.cells #[.string ⟨#[40]⟩, .string ⟨#[41]⟩, .string ⟨#[44]⟩] 9)).cell? ⟨w.heap.size, j, none⟩ = some (.string (B (theSigns.getD j []))) :=
  str_cell (ls := theSigns) (Bk.new w 9 (strCells theSigns)) j hj
theorem wrd_cell (w : World) (j : Nat) (hj : j < 11) : (w.alloc (.cells #[.string ⟨#[108,111,119,101,115,116]⟩, .string ⟨#[115,101,99,111,110,100]⟩, .string ⟨#[102,114,111,109]⟩, .string ⟨#[108,101,115,115]⟩, .string ⟨#[99,117,116]⟩, .string ⟨#[109,105,110]⟩, .string ⟨#[109,97,120]⟩, .string ⟨#[101,108,115,101]⟩, .string ⟨#[105,102]⟩, .string ⟨#[109,111,114,101]⟩, .string ⟨#[97,98,111,118,101]⟩] 9)).cell? ⟨w.heap.size, j, none⟩ = some (.string (B (theWords.getD j []))) :=
  str_cell (ls := theWords) (Bk.new w 9 (strCells theWords)) j hj
theorem sig_like (w : World) (j : Nat) (hj : j < 3) (X : ByteArray) (hX : B (theSigns.getD j []) = X) : (w.alloc (.cells #[.string ⟨#[40]⟩, .string ⟨#[41]⟩, .string ⟨#[44]⟩] 9)).cell? ⟨w.heap.size, j, none⟩ = some (.string X) := by rw [← hX]; exact sig_cell w j hj
theorem wrd_like (w : World) (j : Nat) (hj : j < 11) (X : ByteArray) (hX : B (theWords.getD j []) = X) : (w.alloc (.cells #[.string ⟨#[108,111,119,101,115,116]⟩, .string ⟨#[115,101,99,111,110,100]⟩, .string ⟨#[102,114,111,109]⟩, .string ⟨#[108,101,115,115]⟩, .string ⟨#[99,117,116]⟩, .string ⟨#[109,105,110]⟩, .string ⟨#[109,97,120]⟩, .string ⟨#[101,108,115,101]⟩, .string ⟨#[105,102]⟩, .string ⟨#[109,111,114,101]⟩, .string ⟨#[97,98,111,118,101]⟩] 9)).cell? ⟨w.heap.size, j, none⟩ = some (.string X) := by rw [← hX]; exact wrd_cell w j hj
/-- The text of a raw piece. -/
def pcL (kind n : Int) : List UInt8 := pieceL (pk kind 5) (pk n (pieceM (pk kind 5)))
theorem pieceM_pos (j : Int) : 0 < pieceM j := by unfold pieceM; split <;> (try split) <;> (try split) <;> (try split) <;> omega
theorem pieceM_le (j : Int) : pieceM j ≤ 1000000 := by unfold pieceM; split <;> (try split) <;> (try split) <;> (try split) <;> omega
theorem pc_good (kind n : Int) : Good (pcL kind n) (pieceK (pk kind 5)) (pieceN (pk kind 5) (pk n (pieceM (pk kind 5)))) :=
  piece_good _ _ (pk_bd n _ (pieceM_pos _)).1 (pk_bd n _ (pieceM_pos _)).2
theorem pc_len (kind n : Int) : (pcL kind n).length ≤ 9 := piece_len _ _ (pk_bd n _ (pieceM_pos _)).1 (pk_bd n _ (pieceM_pos _)).2
theorem pos_parts (u : Int) (h : 0 ≤ u) : B (decDigits (u / 100).toNat) ++ ⟨#[46]⟩ ++ B (decDigits (u / 10 % 10).toNat) ++ B (decDigits (u % 10).toNat) = B (pos u.toNat) := by
  have e : (⟨#[46]⟩ : ByteArray) = B [46] := rfl
  rw [e, B_append, B_append, B_append]
  unfold pos
  rw [show (u / 100).toNat = u.toNat / 100 by omega, show (u / 10 % 10).toNat = u.toNat / 10 % 10 by omega, show (u % 10).toNat = u.toNat % 10 by omega]
  simp
set_option maxHeartbeats 2000000 in
theorem piece8_any (k n : Int) (k0 : -9223372036854775808 ≤ k) (k1 : k ≤ 9223372036854775807) (h0 : -9223372036854775808 ≤ n) (h1 : n ≤ 9223372036854775807) (w0 w : World) (hr : Rel w0 w) :
    Calls Tryz.prog 19 #[.int .i64 k, .int .i64 n] w fun e w' => e = .returned (.string (B (pcL k n))) ∧ Rel w0 w' := by
  have hb := pk_bd k 5 (by omega)
  obtain ⟨j, hj⟩ : ∃ j, pk k 5 = j := ⟨_, rfl⟩
  have HU := Lib.hid hj
  have HR := Lib.hid hr
  have HP := Lib.hid (show pcL k n = pieceL j (pk n (pieceM j)) by unfold pcL; rw [hj])
  rw [hj] at hb
  obtain ⟨b0, b1⟩ := hb
  clear hj
  obtain ⟨m0, m1, m2, m3, m4⟩ := pieceM_at j
  by_cases c0 : j = 0
  · have hM := m0 c0
    subst c0
    obtain ⟨u, hu⟩ : ∃ u : Nat, pk n 11 = (u : Int) := ⟨(pk n 11).toNat, by have := pk_bd n 11 (by omega); omega⟩
    have u11 : u < 11 := by have := pk_bd n 11 (by omega); omega
    have u11' : (u : Int) < 11 := by omega
    obtain ⟨X, hX⟩ : ∃ X, B (theWords.getD u []) = X := ⟨_, rfl⟩
    have hc := fun w => wrd_like w u u11 X hX
    have HV := Lib.hid hu
    have HF := Lib.hid (show X = B (pcL k n) by rw [HP.out, hM, hu, (piece0 _).1, ← hX]; rfl)
    clear hu hX m0 m1 m2 m3 m4 hM
    go_enter Tryz.func19, Tryz.ntmps19
    go_wp2_with (first
      | (go_at_call 32; (with_reducible refine (pick_as k 5 0 HU k0 k1 (by omega) (by omega) _).mono ?_); rintro e w' ⟨rfl, rfl⟩)
      | (go_at_call 32; (with_reducible refine (pick_as n 11 (u : Int) HV h0 h1 (by omega) (by omega) _).mono ?_); rintro e w' ⟨rfl, rfl⟩))
    go_ret
    exact ⟨ret_str HF.out, HR.out.alloc _⟩
  · by_cases c1 : j = 1
    · have hM := m1 c1
      subst c1
      obtain ⟨u, hu⟩ : ∃ u : Nat, pk n 3 = (u : Int) := ⟨(pk n 3).toNat, by have := pk_bd n 3 (by omega); omega⟩
      have u11 : u < 3 := by have := pk_bd n 3 (by omega); omega
      have u11' : (u : Int) < 3 := by omega
      obtain ⟨X, hX⟩ : ∃ X, B (theSigns.getD u []) = X := ⟨_, rfl⟩
      have hc := fun w => sig_like w u u11 X hX
      have HV := Lib.hid hu
      have HF := Lib.hid (show X = B (pcL k n) by rw [HP.out, hM, hu, (piece1 _).1, ← hX]; rfl)
      clear hu hX m0 m1 m2 m3 m4 hM
      go_enter Tryz.func19, Tryz.ntmps19
      go_wp2_with (first
        | (go_at_call 32; (with_reducible refine (pick_as k 5 1 HU k0 k1 (by omega) (by omega) _).mono ?_); rintro e w' ⟨rfl, rfl⟩)
        | (go_at_call 32; (with_reducible refine (pick_as n 3 (u : Int) HV h0 h1 (by omega) (by omega) _).mono ?_); rintro e w' ⟨rfl, rfl⟩))
      go_ret
      exact ⟨ret_str HF.out, HR.out.alloc _⟩
    · by_cases c2 : j = 2
      · have hM := m2 c2
        subst c2
        obtain ⟨u, hu⟩ : ∃ u : Int, pk n 100001 = u := ⟨_, rfl⟩
        have ub := pk_bd n 100001 (by omega)
        rw [hu] at ub
        obtain ⟨u0, u1⟩ := ub
        have HV := Lib.hid hu
        have HF := Lib.hid (show B (decDigits u.toNat) = B (pcL k n) by rw [HP.out, hM, hu, (piece2 _).1])
        clear hu m0 m1 m2 m3 m4 hM
        go_enter Tryz.func19, Tryz.ntmps19
        go_wp2_with (first
          | (go_at_call 32; (with_reducible refine (pick_as k 5 2 HU k0 k1 (by omega) (by omega) _).mono ?_); rintro e w' ⟨rfl, rfl⟩)
          | (go_at_call 32; (with_reducible refine (pick_as n 100001 u HV h0 h1 (by omega) (by omega) _).mono ?_); rintro e w' ⟨rfl, rfl⟩)
          | (go_at_call 33; (with_reducible refine (decimal_any u u0 (by omega) _ _ HR.out).mono ?_); rintro e w1 ⟨rfl, h2⟩))
        go_ret
        exact ⟨ret_str HF.out, h2⟩
      · by_cases c3 : j = 3
        · have hM := m3 c3
          subst c3
          obtain ⟨u, hu⟩ : ∃ u : Int, pk n 1000000 = u := ⟨_, rfl⟩
          have ub := pk_bd n 1000000 (by omega)
          rw [hu] at ub
          obtain ⟨u0, u1⟩ := ub
          have HV := Lib.hid hu
          have HF := Lib.hid (show B (pos u.toNat) = B (pcL k n) by rw [HP.out, hM, hu, (piece3 _).1])
          have HQ := Lib.hid (pos_parts u u0)
          have z1 := dd_size (u / 100) (by omega)
          have z2 := dd_size (u / 10 % 10) (by omega)
          have z3 := dd_size (u % 10) (by omega)
          clear hu m0 m1 m2 m3 m4 hM
          go_enter Tryz.func19, Tryz.ntmps19
          go_wp2_with (first
            | (go_at_call 32; (with_reducible refine (pick_as k 5 3 HU k0 k1 (by omega) (by omega) _).mono ?_); rintro e w' ⟨rfl, rfl⟩)
            | (go_at_call 32; (with_reducible refine (pick_as n 1000000 u HV h0 h1 (by omega) (by omega) _).mono ?_); rintro e w' ⟨rfl, rfl⟩)
            | (go_at_call 33; (with_reducible refine (decimal_any _ (by omega) (by omega) _ _ (by assumption)).mono ?_); rintro e w1 ⟨rfl, h2⟩))
          go_ret
          exact ⟨ret_str (by rw [← HF.out, ← HQ.out]), by assumption⟩
        · have hM := m4 c0 c1 c2 c3
          have HF := Lib.hid (show B (sellerL (pk n 60)) = B (pcL k n) by rw [HP.out, hM, (piece4 _ c0 c1 c2 c3).1])
          have d0 : (j == 0) = false := by simpa using c0
          have d1 : (j == 1) = false := by simpa using c1
          have d2 : (j == 2) = false := by simpa using c2
          have d3 : (j == 3) = false := by simpa using c3
          clear m0 m1 m2 m3 m4 hM c0 c1 c2 c3
          go_enter Tryz.func19, Tryz.ntmps19
          go_wp2_with (first
            | (go_at_call 32; (with_reducible refine (pick_as k 5 j HU k0 k1 (by omega) (by omega) _).mono ?_); rintro e w' ⟨rfl, rfl⟩)
            | (go_at_call 34; (with_reducible refine (seller_any n h0 h1 _ _ HR.out).mono ?_); rintro e w1 ⟨rfl, h2⟩))
          go_ret
          exact ⟨ret_str HF.out, h2⟩
end Go.Proofs.YtoajbbcjmalngaaGreatDoor

namespace Go.Proofs.YtoajbbcjmalngaaGreatDoor
open Go.Lib
set_option linter.unusedVariables false
set_option linter.unusedSimpArgs false

/-- A strategy's text, a blank and one token more: it is told there. -/
theorem more_parse {x : Ex} (h : rightX x = true) {pc : List UInt8} {k n : Int} (hg : Good pc k n) (hk : k ≠ 5) (hl : (text x ++ 32 :: pc).length ≤ 2000) : parseS (text x ++ 32 :: pc) = .error (80, (((text x).length + 1 : Nat) : Int)) := by
  have hf : fine 32 x = true := by simp only [rightX, Bool.and_eq_true] at h; exact h.1.1.1
  obtain ⟨us, e1, e2⟩ := text_toks x 32 hf 0 (32 :: pc) rfl
  have e3 : lx (0 + (text x).length) (32 :: pc) = .ok [(k, pc, n, ((0 + (text x).length + 1 : Nat) : Int)), (5, [], 0, ((0 + (text x).length + 1 + pc.length : Nat) : Int))] := by
    rw [lx_blank _ _ _ rfl]
    have := lx_good hg (0 + (text x).length + 1) [] rfl
    rw [List.append_nil] at this
    rw [this, lx_nil]
    rfl
  have e4 : lx 0 (text x ++ 32 :: pc) = .ok (us ++ [(k, pc, n, ((0 + (text x).length + 1 : Nat) : Int)), (5, [], 0, ((0 + (text x).length + 1 + pc.length : Nat) : Int))]) := by rw [e1, e3]; rfl
  unfold parseS
  rw [if_neg (by omega), e4]
  have := parse_more h (k, pc, n, ((0 + (text x).length + 1 : Nat) : Int)) [(5, [], 0, ((0 + (text x).length + 1 + pc.length : Nat) : Int))] hk us e2
  simp only [Nat.zero_add] at this ⊢
  exact this
/-- Each expression has a token of its own. -/
def Sized (ts : List Tok) (m : Told Ex) : Prop := match m with
  | .ok (x, r) => size x + r.length ≤ ts.length
  | .error _ => True
theorem take_len {k : Int} {x : List UInt8} {ts r : List Tok} {t : Tok} (h : takeT k x ts = .ok (t, r)) : r.length ≤ ts.length := by
  unfold takeT at h
  split at h
  · injection h with h
    injection h with _ h
    split at h <;> subst h
    · exact Nat.le_refl _
    · rw [List.length_tail]; omega
  · cases h
theorem args_sized (f : Bool → List Tok → Told Ex) (k : Int) (hf : ∀ c ts, Sized ts (f c ts)) : ∀ (m i : Nat) (ts : List Tok), (match argsT f k i m ts with | .ok (l, r) => sizes l + r.length ≤ ts.length | .error _ => True) := by
  intro m
  induction m with
  | zero => intro i ts; unfold argsT; simp only [sizes_nil]; omega
  | succ m ih =>
    intro i ts
    unfold argsT
    have hb : ∀ t1 ts1, (if i = 0 then (.ok ((5, [], 0, 0), ts) : Told Tok) else takeT 4 [44] ts) = .ok (t1, ts1) → ts1.length ≤ ts.length := by
      intro t1 ts1 h
      split at h
      · injection h with h; injection h with _ h; subst h; exact Nat.le_refl _
      · exact take_len h
    cases h1 : (if i = 0 then (.ok ((5, [], 0, 0), ts) : Told Tok) else takeT 4 [44] ts) with
    | error e => trivial
    | ok p =>
      obtain ⟨t1, ts1⟩ := p
      have := hb t1 ts1 h1
      simp only
      have h2 := hf (decide (k = 10) && decide (i = 0)) ts1
      cases h3 : f (decide (k = 10) && decide (i = 0)) ts1 with
      | error e => trivial
      | ok q =>
        obtain ⟨x, ts2⟩ := q
        rw [h3] at h2
        have h2 : size x + ts2.length ≤ ts1.length := h2
        simp only
        have h4 := ih (i + 1) ts2
        cases h5 : argsT f k (i + 1) m ts2 with
        | error e => trivial
        | ok u =>
          obtain ⟨l, ts3⟩ := u
          rw [h5] at h4
          simp only [sizes_cons] at h4 ⊢
          omega
theorem rest_len {k : Int} {ts r : List Tok} {q : Int × List UInt8} (h : restT k ts = .ok (q, r)) : r.length ≤ ts.length := by
  have two : ∀ (K : Int) (ts r : List Tok) (g : Tok → Int × List UInt8), (match takeT K [] ts with | .error e => (.error e : Told (Int × List UInt8)) | .ok (t, ts) => .ok (g t, ts)) = .ok (q, r) → r.length ≤ ts.length := by
    intro K ts r g h
    cases h1 : takeT K [] ts with
    | error e => rw [h1] at h; cases h
    | ok p =>
      obtain ⟨t, ts1⟩ := p
      rw [h1] at h
      injection h with h
      injection h with _ h
      subst h
      exact take_len h1
  have comma : ∀ (K : Int) (g : Tok → Int × List UInt8), (match takeT 4 [44] ts with | .error e => (.error e : Told (Int × List UInt8)) | .ok (_, ts) => (match takeT K [] ts with | .error e => .error e | .ok (t, ts) => .ok (g t, ts))) = .ok (q, r) → r.length ≤ ts.length := by
    intro K g h
    cases h1 : takeT 4 [44] ts with
    | error e => rw [h1] at h; cases h
    | ok p =>
      obtain ⟨t, ts1⟩ := p
      rw [h1] at h
      exact Nat.le_trans (two K ts1 r g h) (take_len h1)
  unfold restT at h
  split at h
  · split at h
    · exact two 1 ts r _ h
    · cases h
  · split at h
    · exact comma 3 _ h
    · split at h
      · exact comma 2 _ h
      · split at h
        · split at h
          · exact two 2 ts r _ h
          · cases h
        · injection h with h
          injection h with _ h
          subst h
          exact Nat.le_refl _
theorem kind_ne {c : Bool} {ts : List Tok} (h : kindT c (hdT ts) ≠ 0) : ts ≠ [] := by
  rintro rfl
  exact h rfl
theorem expr_sized : ∀ (d : Nat) (c : Bool) (ts : List Tok), Sized ts (exprT d c ts) := by
  intro d
  induction d with
  | zero => intro c ts; rw [exprT_deep]; trivial
  | succ d ih =>
    intro c ts
    by_cases h0 : kindT c (hdT ts) = 0
    · rw [exprT_none h0]; trivial
    · have hne := kind_ne h0
      have hl : ts.tail.length + 1 = ts.length := by
        cases ts with
        | nil => exact absurd rfl hne
        | cons t r => rfl
      by_cases h4 : kindT c (hdT ts) = 4
      · rw [exprT_money h4]; show size (.mk 4 _ [] []) + ts.tail.length ≤ ts.length; rw [size_mk, sizes_nil]; omega
      · by_cases h1 : kindT c (hdT ts) = 1 ∨ kindT c (hdT ts) = 2
        · rw [exprT_leaf rfl h1]; show size (.mk _ 0 [] []) + ts.tail.length ≤ ts.length; rw [size_mk, sizes_nil]; omega
        · rw [exprT_call rfl h0 h4 h1]
          unfold callT
          cases h2 : takeT 4 [40] ts.tail with
          | error e => trivial
          | ok p =>
            obtain ⟨t, ts1⟩ := p
            have l1 := take_len h2
            simp only
            have h3 := args_sized (exprT d) (kindT c (hdT ts)) ih (argsN (kindT c (hdT ts))).toNat 0 ts1
            cases h5 : argsT (exprT d) (kindT c (hdT ts)) 0 (argsN (kindT c (hdT ts))).toNat ts1 with
            | error e => trivial
            | ok q =>
              obtain ⟨l, ts2⟩ := q
              rw [h5] at h3
              simp only at h3 ⊢
              cases h6 : restT (kindT c (hdT ts)) ts2 with
              | error e => trivial
              | ok u =>
                obtain ⟨⟨n, nm⟩, ts3⟩ := u
                have l3 := rest_len h6
                simp only
                cases h7 : takeT 4 [41] ts3 with
                | error e => trivial
                | ok v =>
                  obtain ⟨t4, ts4⟩ := v
                  have l4 := take_len h7
                  show size (.mk _ n nm l) + ts4.length ≤ ts.length
                  rw [size_mk]
                  omega
theorem parse_size {s : List UInt8} {x : Ex} (h : parseS s = .ok x) : size x ≤ 2001 := by
  unfold parseS at h
  split at h
  · cases h
  · rename_i hl
    cases hx : lx 0 s with
    | error k => rw [hx] at h; cases h
    | ok ts =>
      rw [hx] at h
      obtain ⟨us, hu, _, _, hlen⟩ := lx_out _ s (Nat.le_refl _) 0 ts hx
      have hs := expr_sized 32 false ts
      have h : stratT ts = .ok x := h
      unfold stratT at h
      cases h1 : exprT 32 false ts with
      | error e => rw [h1] at h; cases h
      | ok p =>
        obtain ⟨y, r⟩ := p
        rw [h1] at h hs
        simp only at h
        have hs : size y + r.length ≤ ts.length := hs
        have : y = x := by
          cases h2 : takeT 5 [] r with
          | error e => rw [h2] at h; cases h
          | ok q => rw [h2] at h; injection h
        subst this
        rw [hu, List.length_append] at hs
        simp at hs
        omega
end Go.Proofs.YtoajbbcjmalngaaGreatDoor

namespace Go.Proofs.YtoajbbcjmalngaaGreatDoor
open Go.RowKit Go.Lib
set_option linter.unusedVariables false
set_option linter.unusedSimpArgs false

theorem more_bytes {x : Ex} {T : ByteArray} (hT : B (text x) = T) (h : rightX x = true) (hl : T.size ≤ 1900) (kind n : Int) : parseS ((T ++ ⟨#[32]⟩) ++ B (pcL kind n)).data.toList = .error (80, (T.size : Int) + 1) := by
  subst hT
  have e : (B (text x) ++ ⟨#[32]⟩) ++ B (pcL kind n) = B (text x ++ 32 :: pcL kind n) := by
    rw [show (⟨#[32]⟩ : ByteArray) = B [32] from rfl, B_append, B_append, List.append_assoc]; rfl
  rw [e, B_list]
  have hg := pc_good kind n
  have hp := pc_len kind n
  rw [B_size] at hl ⊢
  have hk : pieceK (pk kind 5) ≠ 5 := by unfold pieceK; split <;> (try split) <;> (try split) <;> decide
  rw [more_parse h hg hk (by rw [List.length_append, List.length_cons]; omega)]
  rfl
set_option maxRecDepth 100000 in
set_option maxHeartbeats 4000000 in
theorem ParseMore_at (H : TreeOk) (HP : ParseOk) (A : Option Addr) (c : Nat) (L : List Int) (kind n : Int) (k0 : -9223372036854775808 ≤ kind) (k1 : kind ≤ 9223372036854775807) (n0 : -9223372036854775808 ≤ n) (n1 : n ≤ 9223372036854775807) (w : World) (hr : Rel w w) (hi : IntsIn w A c L) :
    Calls Tryz.prog 7 #[.slice A L.length c, .int .i64 kind, .int .i64 n] w fun e w' => e = .returned (.bool true) ∧ Rel w w' := by
  have H := Lib.hid H
  have HP := Lib.hid HP
  have HR := Lib.hid hr
  have HI := Lib.hid hi
  obtain ⟨x, hx⟩ : ∃ x, strat L = x := ⟨_, rfl⟩
  have HSx := Lib.hid (fun (w0 w1 : World) (hr : Rel w0 w1) (h : IntsIn w1 A c L) => strat_any A c L w0 w1 hr h)
  have zx : size x ≤ 100000 := by have := strat_size L; rw [hx] at this; omega
  rw [hx] at HSx
  clear hx hi
  obtain ⟨bx, hbx⟩ : ∃ b, rightX x = b := ⟨_, rfl⟩
  have px := pr_of hbx
  obtain ⟨T, hT⟩ : ∃ T, B (prT x) = T := ⟨_, rfl⟩
  have P1 := Lib.hid (And.intro hT px.2)
  cases bx with
  | false =>
    clear hT px hbx
    go_enter Tryz.func7, Tryz.ntmps7
    go_wp2_with (first
      | (go_at_call 8; (with_reducible refine (awake8_any HP.out _ _ HR.out).mono ?_); rintro e w1 ⟨rfl, h1⟩)
      | (go_at_call 9; (with_reducible refine (HSx.out _ _ h1.self (HI.out.rel h1)).mono ?_); rintro e w2 ⟨vx, rfl, ex, h2⟩; have R2 := h1.trans h2)
      | (go_at_call 10; (with_reducible refine (print_as H.out x T _ P1 _ vx _ _ h2.self ex zx).mono ?_); rintro e w3 ⟨rfl, h3⟩))
    go_ret
    exact ⟨rfl, R2.trans h3⟩
  | true =>
    have hl := right_len hbx
    have hTx : B (text x) = T := by have := px.1; simp only [if_true] at this; rw [← hT, this]
    have zT : T.size ≤ 2000 := by rw [← hTx, B_size]; omega
    by_cases hsm : T.size ≤ 1900
    · have hb : decide ((1900 : Int) < (T.size : Int)) = false := by simp; omega
      have PT : Hid (parseS ((T ++ ⟨#[32]⟩) ++ B (pcL kind n)).data.toList = .error (80, (T.size : Int) + 1)) := Lib.hid (more_bytes hTx hbx hsm kind n)
      have hpl : (B (pcL kind n)).size ≤ 9 := by rw [B_size]; exact pc_len kind n
      have zS : ((T ++ ⟨#[32]⟩) ++ B (pcL kind n)).size ≤ 9223372036854775807 := by rw [ByteArray.size_append, ByteArray.size_append]; have : (⟨#[32]⟩ : ByteArray).size = 1 := rfl; omega
      have s1 : ¬ (9223372036854775807 < T.size + (⟨#[32]⟩ : ByteArray).size) := by have : (⟨#[32]⟩ : ByteArray).size = 1 := rfl; omega
      have s2 : ¬ (9223372036854775807 < (T ++ ⟨#[32]⟩).size + (B (pcL kind n)).size) := by rw [ByteArray.size_append]; have : (⟨#[32]⟩ : ByteArray).size = 1 := rfl; omega
      have hw1 : IntKind.i64.wrap ((T.size : Int) + 1) = (T.size : Int) + 1 := IntWalk.i64_in _ (by omega)
      clear hT px hbx hTx hl hsm
      go_enter Tryz.func7, Tryz.ntmps7
      go_wp2_with (first
        | (go_at_call 8; (with_reducible refine (awake8_any HP.out _ _ HR.out).mono ?_); rintro e w1 ⟨rfl, h1⟩)
        | (go_at_call 9; (with_reducible refine (HSx.out _ _ h1.self (HI.out.rel h1)).mono ?_); rintro e w2 ⟨vx, rfl, ex, h2⟩; have R2 := h1.trans h2)
        | (go_at_call 10; (with_reducible refine (print_as H.out x T _ P1 _ vx _ _ h2.self ex zx).mono ?_); rintro e w3 ⟨rfl, h3⟩)
        | (go_at_call 19; (with_reducible refine (piece8_any kind n k0 k1 n0 n1 _ _ h3.self).mono ?_); rintro e w4 ⟨rfl, h4⟩)
        | (go_at_call 12; (with_reducible refine (pparse_no HP.out _ 80 ((T.size : Int) + 1) PT zS _ _ h4.self).mono ?_); rintro e w5 ⟨rfl, h5⟩; have A5 := h5.self.alloc (.cells #[.int .i64 0, .int .i64 0, .string ⟨#[]⟩, .slice none 0 0] 26)))
      go_ret
      exact ⟨rfl, (((R2.trans h3).trans h4).trans h5).trans A5⟩
    · have hb : decide ((1900 : Int) < (T.size : Int)) = true := by simp; omega
      clear hT px hbx hTx hl hsm
      go_enter Tryz.func7, Tryz.ntmps7
      go_wp2_with (first
        | (go_at_call 8; (with_reducible refine (awake8_any HP.out _ _ HR.out).mono ?_); rintro e w1 ⟨rfl, h1⟩)
        | (go_at_call 9; (with_reducible refine (HSx.out _ _ h1.self (HI.out.rel h1)).mono ?_); rintro e w2 ⟨vx, rfl, ex, h2⟩; have R2 := h1.trans h2)
        | (go_at_call 10; (with_reducible refine (print_as H.out x T _ P1 _ vx _ _ h2.self ex zx).mono ?_); rintro e w3 ⟨rfl, h3⟩))
      go_ret
      exact ⟨rfl, R2.trans h3⟩
end Go.Proofs.YtoajbbcjmalngaaGreatDoor

namespace Go.Proofs.YtoajbbcjmalngaaGreatDoor
open Go.RowKit Go.Lib
set_option linter.unusedVariables false
set_option linter.unusedSimpArgs false

theorem pk8_as (c n y : Int) (h : Hid (pk c n = y)) (hc : -9223372036854775808 ≤ c) (hc' : c ≤ 9223372036854775807) (hn : 0 < n) (hn' : n ≤ 9223372036854775807) (w : World) :
    Calls Tryz.prog 16 #[.int .i64 c, .int .i64 n] w fun e w' => e = .returned (.int .i64 y) ∧ w = w' := by
  rw [← h.out]
  by_cases h : c < 0
  all_goals
    go_enter Tryz.func16, Tryz.ntmps16
    go_wp2
    all_goals
      go_ret
      exact ⟨ret_int (by unfold pk; split <;> first | rfl | omega), rfl⟩
theorem rlex8_yes {s : ByteArray} (hs : s.size ≤ 2000) (ts : List Tok) (h : Hid (lx 0 s.data.toList = .ok ts)) (w0 w : World) (hr : Rel w0 w) :
    Calls Tryz.prog 18 #[.string s] w fun e w' => ∃ (A : Option Addr) (c : Nat), e = .returned (.tuple #[.slice A ts.length c, .int .i64 0, .int .i64 0]) ∧ Rel w0 w' ∧ ToksAt w' A ts := by
  refine (rlex_any s (by omega) w0 w hr).mono ?_
  rintro e w' ⟨ts', A, c, err, place, rfl, h1, h3, ho⟩
  have el : s.data.toList.length = s.size := by simp
  obtain ⟨rfl, rfl, rfl⟩ := ho.det (.inr (.inl ⟨by omega, h.out, rfl, rfl⟩))
  exact ⟨A, c, rfl, h1, h3⟩
theorem cut_bytes {x : Ex} {T : ByteArray} (hT : B (text x) = T) (h : rightX x = true) (us : List Tok) (p : Int) (hl : lx 0 (text x) = .ok (us ++ [(5, [], 0, p)])) (k : Nat) (hk : k + 1 < us.length) :
    ∃ (c : Nat) (Y : ByteArray), us[k].2.2.2 + ((B us[k].2.1).size : Int) = (c : Int) ∧ c ≤ T.size ∧ T.extract 0 c = Y ∧ Y.size = c ∧ parseS Y.data.toList = .error (80, (c : Int)) := by
  subst hT
  obtain ⟨_, hp, _⟩ := lx_okT hl
  have h0 := (hp us[k] (List.mem_append_left _ (List.getElem_mem (by omega)))).1
  obtain ⟨c, hc⟩ : ∃ c : Nat, us[k].2.2.2 + ((B us[k].2.1).size : Int) = (c : Int) := ⟨(us[k].2.2.2 + ((B us[k].2.1).size : Int)).toNat, by omega⟩
  have hc' : (c : Int) = us[k].2.2.2 + (us[k].2.1.length : Int) := by rw [B_size] at hc; omega
  obtain ⟨h1, h2⟩ := parse_cut h us _ hl k hk c hc'
  refine ⟨c, _, hc, by rw [B_size]; exact h1, rfl, ?_, ?_⟩
  · rw [ByteArray.size_extract, B_size]; omega
  · rw [B_cut, B_list, B_list]; simpa using h2
set_option maxRecDepth 100000 in
set_option maxHeartbeats 4000000 in
theorem ParseCuts_at (H : TreeOk) (HP : ParseOk) (A : Option Addr) (c : Nat) (L : List Int) (at_ : Int) (k0 : -9223372036854775808 ≤ at_) (k1 : at_ ≤ 9223372036854775807) (w : World) (hr : Rel w w) (hi : IntsIn w A c L) :
    Calls Tryz.prog 6 #[.slice A L.length c, .int .i64 at_] w fun e w' => e = .returned (.bool true) ∧ Rel w w' := by
  have H := Lib.hid H
  have HP := Lib.hid HP
  have HR := Lib.hid hr
  have HI := Lib.hid hi
  obtain ⟨x, hx⟩ : ∃ x, strat L = x := ⟨_, rfl⟩
  have HSx := Lib.hid (fun (w0 w1 : World) (hr : Rel w0 w1) (h : IntsIn w1 A c L) => strat_any A c L w0 w1 hr h)
  have zx : size x ≤ 100000 := by have := strat_size L; rw [hx] at this; omega
  rw [hx] at HSx
  clear hx hi
  obtain ⟨bx, hbx⟩ : ∃ b, rightX x = b := ⟨_, rfl⟩
  have px := pr_of hbx
  obtain ⟨T, hT⟩ : ∃ T, B (prT x) = T := ⟨_, rfl⟩
  have P1 := Lib.hid (And.intro hT px.2)
  cases bx with
  | false =>
    have hTx : B [] = T := by have := px.1; simp only [Bool.false_eq_true, if_false] at this; rw [← hT, this]
    have zT : T.size ≤ 2000 := by rw [← hTx]; decide
    have HLx : Hid (lx 0 T.data.toList = .ok [(5, [], 0, 0)]) := Lib.hid (by rw [← hTx, B_list, lx_nil]; rfl)
    clear hT px hbx hTx
    go_enter Tryz.func6, Tryz.ntmps6
    go_wp2_with (first
      | (go_at_call 8; (with_reducible refine (awake8_any HP.out _ _ HR.out).mono ?_); rintro e w1 ⟨rfl, h1⟩)
      | (go_at_call 9; (with_reducible refine (HSx.out _ _ h1.self (HI.out.rel h1)).mono ?_); rintro e w2 ⟨vx, rfl, ex, h2⟩; have R2 := h1.trans h2)
      | (go_at_call 10; (with_reducible refine (print_as H.out x T _ P1 _ vx _ _ h2.self ex zx).mono ?_); rintro e w3 ⟨rfl, h3⟩)
      | (go_at_call 18; (with_reducible refine (rlex8_yes zT _ HLx _ _ h3.self).mono ?_); rintro e w4 ⟨A4, c4, rfl, h4, t4⟩))
    go_ret
    exact ⟨rfl, (R2.trans h3).trans h4⟩
  | true =>
    have hl := right_len hbx
    have hTx : B (text x) = T := by have := px.1; simp only [if_true] at this; rw [← hT, this]
    have zT : T.size ≤ 2000 := by rw [← hTx, B_size]; omega
    have hf : fine 32 x = true := by simp only [rightX, Bool.and_eq_true] at hbx; exact hbx.1.1.1
    obtain ⟨us, hlx, _⟩ := fine_lex hf
    have HLx : Hid (lx 0 T.data.toList = .ok (us ++ [(5, [], 0, ((text x).length : Int))])) := Lib.hid (by rw [← hTx, B_list]; exact hlx)
    have hul : us.length ≤ 2000 := by
      obtain ⟨vs, hv, _, _, hlen⟩ := lx_out _ (text x) (Nat.le_refl _) 0 _ hlx
      have := congrArg List.length hv
      simp at this
      omega
    obtain ⟨m, hm⟩ : ∃ m, (us ++ [(5, [], 0, ((text x).length : Int))]).length = m := ⟨_, rfl⟩
    have hmu : m = us.length + 1 := by rw [← hm, List.length_append]; rfl
    have HLc : Hid (∀ (w0 w : World), Rel w0 w → Calls Tryz.prog 18 #[.string T] w fun e w' => ∃ (A : Option Addr) (c : Nat), e = .returned (.tuple #[.slice A m c, .int .i64 0, .int .i64 0]) ∧ Rel w0 w' ∧ ToksAt w' A (us ++ [(5, [], 0, ((text x).length : Int))])) := Lib.hid (fun w0 w hr => by rw [← hm]; exact rlex8_yes zT _ HLx w0 w hr)
    by_cases hm3 : m < 3
    · have hb : decide ((m : Int) < 3) = true := by simp; omega
      clear hT px hbx hTx hl hf hlx hul hm hmu
      go_enter Tryz.func6, Tryz.ntmps6
      go_wp2_with (first
        | (go_at_call 8; (with_reducible refine (awake8_any HP.out _ _ HR.out).mono ?_); rintro e w1 ⟨rfl, h1⟩)
        | (go_at_call 9; (with_reducible refine (HSx.out _ _ h1.self (HI.out.rel h1)).mono ?_); rintro e w2 ⟨vx, rfl, ex, h2⟩; have R2 := h1.trans h2)
        | (go_at_call 10; (with_reducible refine (print_as H.out x T _ P1 _ vx _ _ h2.self ex zx).mono ?_); rintro e w3 ⟨rfl, h3⟩)
        | (go_at_call 18; (with_reducible refine (HLc.out _ _ h3.self).mono ?_); rintro e w4 ⟨A4, c4, rfl, h4, t4⟩))
      go_ret
      exact ⟨rfl, (R2.trans h3).trans h4⟩
    · have hb : decide ((m : Int) < 3) = false := by simp; omega
      obtain ⟨pb0, pb1⟩ := pk_bd at_ ((m : Int) - 2) (by omega)
      obtain ⟨k, hk⟩ : ∃ k : Nat, pk at_ ((m : Int) - 2) = (k : Int) := ⟨(pk at_ ((m : Int) - 2)).toNat, by omega⟩
      have hkm : k + 2 < m := by omega
      have hku : k + 1 < us.length := by omega
      obtain ⟨cc, Y, q1, q2, q3, q4, q5⟩ := cut_bytes hTx hbx us _ hlx k hku
      have PY : Hid (parseS Y.data.toList = .error (80, (cc : Int))) := Lib.hid q5
      have HK := Lib.hid hk
      have zY : Y.size ≤ 9223372036854775807 := by omega
      have HTk := Lib.hid (show (us ++ [(5, [], 0, ((text x).length : Int))])[k]? = some us[k] by rw [List.getElem?_append_left (by omega)]; exact List.getElem?_eq_getElem _)
      obtain ⟨⟨tk, tx, tn, tp⟩, ht⟩ : ∃ t, us[k] = t := ⟨_, rfl⟩
      rw [ht] at HTk q1
      have hsum : IntKind.i64.wrap (tp + ((B tx).size : Int)) = (cc : Int) := by rw [q1]; exact IntWalk.i64_in _ (by omega)
      have hsum2 : tp + ((B tx).size : Int) = (cc : Int) := q1
      have hcut : T.extract 0 (min (cc : Int) (T.size : Int)).toNat = Y := by rw [show (min (cc : Int) (T.size : Int)).toNat = cc by omega]; exact q3
      have heq : ((cc : Int) == (Y.size : Int)) = true := by simp [q4]
      have hsub : IntKind.i64.wrap ((m : Int) - 2) = (m : Int) - 2 := IntWalk.i64_in _ (by omega)
      have hm2 : (0 : Int) < (m : Int) - 2 := by omega
      have hm22 : (m : Int) - 2 ≤ 9223372036854775807 := by omega
      have HM := Lib.hid hm
      clear hT px hbx hTx hl hf hlx hul hm hmu pb0 pb1 hk q1 q3 q5 ht q4
      go_enter Tryz.func6, Tryz.ntmps6
      go_wp2_with (first
        | (go_at_call 8; (with_reducible refine (awake8_any HP.out _ _ HR.out).mono ?_); rintro e w1 ⟨rfl, h1⟩)
        | (go_at_call 9; (with_reducible refine (HSx.out _ _ h1.self (HI.out.rel h1)).mono ?_); rintro e w2 ⟨vx, rfl, ex, h2⟩; have R2 := h1.trans h2)
        | (go_at_call 10; (with_reducible refine (print_as H.out x T _ P1 _ vx _ _ h2.self ex zx).mono ?_); rintro e w3 ⟨rfl, h3⟩)
        | (go_at_call 18; (with_reducible refine (HLc.out _ _ h3.self).mono ?_); rintro e w4 ⟨A4, c4, rfl, h4, t4⟩; obtain ⟨gT, off, rfl, hgl, a0, a1, a2, a3⟩ := t4 k (by rw [HM.out]; omega); obtain ⟨hk1, hk2⟩ := List.getElem?_eq_some_iff.1 HTk.out; rw [hk2] at a0 a1 a2 a3; clear t4 hk1 hk2)
        | (go_at_call 16; (with_reducible refine (pk8_as at_ ((m : Int) - 2) _ HK k0 k1 hm2 hm22 _).mono ?_); rintro e w5 ⟨rfl, rfl⟩))
      go_quiet (fail)
      go_wp2_with (go_at_call 12; (with_reducible refine (pparse_no HP.out Y 80 (cc : Int) PY zY _ _ (h4.drewN nq).self).mono ?_); rintro e w5 ⟨rfl, h5⟩; have A5 := h5.self.alloc (.cells #[.int .i64 0, .int .i64 0, .string ⟨#[]⟩, .slice none 0 0] 26))
      go_ret
      exact ⟨rfl, (((R2.trans h3).trans (h4.drewN nq)).trans h5).trans A5⟩
end Go.Proofs.YtoajbbcjmalngaaGreatDoor
