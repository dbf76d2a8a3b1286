/- ParseBlanks, over what the program is asked. -/
import Derived.Test.YtoajbbcjmalngaaGreatDoorZ29
namespace Go.Proofs.YtoajbbcjmalngaaGreatDoor
open Go.RowKit Go.Lib
set_option linter.unusedVariables false
set_option linter.unusedSimpArgs false

def theBl : List (List UInt8) := [[32], [10], [32, 32, 10]]
def bAt (Z : List Int) (i : Nat) : List UInt8 := match Z[i]? with | some z => theBl.getD (pk z 3).toNat [] | none => [32]
def spreadF (f : Nat → List UInt8) : List Sh → Nat → List UInt8
  | [], _ => []
  | s :: S, i => s.2.1 ++ (f i ++ spreadF f S (i + 1))
theorem spreadF_snoc (f : Nat → List UInt8) : ∀ (S : List Sh) (s : Sh) (i : Nat), spreadF f (S ++ [s]) i = spreadF f S i ++ (s.2.1 ++ f (i + S.length)) := by
  intro S
  induction S with
  | nil => intro s i; simp [spreadF]
  | cons u S ih => intro s i; rw [List.cons_append, spreadF, ih, spreadF]; simp only [List.append_assoc, List.length_cons]; rw [show i + 1 + S.length = i + (S.length + 1) by omega]
theorem spreadF_take (f : Nat → List UInt8) (S : List Sh) (j : Nat) (h : j < S.length) : spreadF f (S.take (j + 1)) 0 = (spreadF f (S.take j) 0 ++ S[j].2.1) ++ f j := by
  rw [List.take_succ_eq_append_getElem h, spreadF_snoc, List.length_take, Nat.min_eq_left (by omega), Nat.zero_add, List.append_assoc]
theorem spread_range (f : Nat → List UInt8) : ∀ (S : List Sh) (i : Nat), spread S ((List.range' i S.length).map f) = spreadF f S i := by
  intro S
  induction S with
  | nil => intro i; rfl
  | cons s S ih =>
    intro i
    rw [List.length_cons, List.range'_succ, List.map_cons, spread, spreadF]
    simp only [List.headD_cons, List.tail_cons]
    rw [ih]
theorem bl_ok (k : Nat) (h : k < 3) : theBl.getD k [] ≠ [] ∧ (theBl.getD k []).all isBl = true ∧ (theBl.getD k []).length ≤ 3 := by
  have : k = 0 ∨ k = 1 ∨ k = 2 := by omega
  rcases this with rfl | rfl | rfl <;> decide
theorem bAt_ok (Z : List Int) (i : Nat) : bAt Z i ≠ [] ∧ (bAt Z i).all isBl = true ∧ (bAt Z i).length ≤ 3 := by
  unfold bAt
  cases Z[i]? with
  | none => decide
  | some z => exact bl_ok _ (by have := pk_bd z 3 (by omega); omega)
theorem spread_small (f : Nat → List UInt8) (hf : ∀ i, (f i).length ≤ 3) : ∀ (S : List Sh) (i : Nat), (∀ s ∈ S, s.2.1.length ≤ 100) → (spreadF f S i).length ≤ 103 * S.length := by
  intro S
  induction S with
  | nil => intro i _; simp [spreadF]
  | cons s S ih =>
    intro i h
    have h1 := ih (i + 1) (fun u hu => h u (List.mem_cons_of_mem _ hu))
    have h2 := h s (List.mem_cons_self ..)
    have h3 := hf i
    rw [spreadF, List.length_append, List.length_append, List.length_cons]
    omega
theorem blanks_parse {x : Ex} (h : rightX x = true) (us : List Tok) (hu : us.map sh = toks x) (Z : List Int) (hl : (spreadF (bAt Z) (us.map sh) 0).length ≤ 2000) : parseS (spreadF (bAt Z) (us.map sh) 0) = .ok x := by
  rw [hu, ← spread_range] at hl ⊢
  refine parse_spread h _ (fun b hb => ?_) hl
  obtain ⟨i, _, rfl⟩ := List.mem_map.1 hb
  exact ⟨(bAt_ok Z i).1, (bAt_ok Z i).2.1⟩
theorem bl_cell (w : World) (j : Nat) (hj : j < 3) (X : ByteArray) (hX : B (theBl.getD j []) = X) : (w.alloc (.cells #[.string ⟨#[32]⟩, .string ⟨#[10]⟩, .string ⟨#[32, 32, 10]⟩] 9)).cell? ⟨w.heap.size, j, none⟩ = some (.string X) := by
  rw [← hX]
  exact str_cell (ls := theBl) (Bk.new w 9 (strCells theBl)) j hj
set_option maxRecDepth 100000 in
set_option maxHeartbeats 4000000 in
theorem ParseBlanks_at (H : TreeOk) (HP : ParseOk) (A : Option Addr) (c : Nat) (L : List Int) (A' : Option Addr) (c' : Nat) (Z : List Int) (w : World) (hr : Rel w w) (hi : IntsIn w A c L) (hi' : IntsIn w A' c' Z) :
    Calls Tryz.prog 5 #[.slice A L.length c, .slice A' Z.length c'] w fun e w' => e = .returned (.bool true) ∧ Rel w w' := by
  have H := Lib.hid H
  have HP := Lib.hid HP
  have HR := Lib.hid hr
  have HI := Lib.hid hi
  have HI' := Lib.hid hi'
  obtain ⟨x, hx⟩ : ∃ x, strat L = x := ⟨_, rfl⟩
  have HSx := Lib.hid (fun (w0 w1 : World) (hr : Rel w0 w1) (h : IntsIn w1 A c L) => strat_any A c L w0 w1 hr h)
  have zx : size x ≤ 100000 := by have := strat_size L; rw [hx] at this; omega
  rw [hx] at HSx
  clear hx hi hi'
  obtain ⟨bx, hbx⟩ : ∃ b, rightX x = b := ⟨_, rfl⟩
  have px := pr_of hbx
  obtain ⟨T, hT⟩ : ∃ T, B (prT x) = T := ⟨_, rfl⟩
  obtain ⟨E, hE⟩ : ∃ E, prE x = E := ⟨_, rfl⟩
  have P1 := Lib.hid (And.intro hT hE)
  have HE := Lib.hid (show E = if bx then 0 else 1 by rw [← hE]; exact px.2)
  have hus : ∃ us : List Tok, ∃ p, lx 0 T.data.toList = .ok (us ++ [(5, [], 0, p)]) ∧ T.size ≤ 2000 ∧ (bx = true → us.map sh = toks x) := by
    cases bx with
    | false =>
      have hTx : B [] = T := by have := px.1; simp only [Bool.false_eq_true, if_false] at this; rw [← hT, this]
      exact ⟨[], 0, by rw [← hTx, B_list, lx_nil]; rfl, by rw [← hTx]; decide, fun e => by cases e⟩
    | true =>
      have hl := right_len hbx
      have hTx : B (text x) = T := by have := px.1; simp only [if_true] at this; rw [← hT, this]
      have hf : fine 32 x = true := by simp only [rightX, Bool.and_eq_true] at hbx; exact hbx.1.1.1
      obtain ⟨us, hlx, hm⟩ := fine_lex hf
      exact ⟨us, _, by rw [← hTx, B_list]; exact hlx, by rw [← hTx, B_size]; omega, fun _ => hm⟩
  obtain ⟨us, p, hlx, zT, hum⟩ := hus
  have HLx : Hid (lx 0 T.data.toList = .ok (us ++ [(5, [], 0, p)])) := Lib.hid hlx
  have hfp := lx_fineP hlx (by rw [show T.data.toList.length = T.size by simp]; exact zT)
  have HSh := Lib.hid (show ∀ s ∈ us.map sh, s.2.1.length ≤ 100 from fun s hs => by
    obtain ⟨t, ht, rfl⟩ := List.mem_map.1 hs
    exact (hfp.1 t (List.mem_append_left _ ht)).2.2.2.2)
  have hul : us.length ≤ 100000 := by have := hfp.2.1; rw [List.length_append] at this; simp at this; omega
  obtain ⟨m, hm⟩ : ∃ m, (us ++ [(5, [], 0, p)]).length = m := ⟨_, rfl⟩
  have hmu : m = us.length + 1 := by rw [← hm, List.length_append]; rfl
  have HLc : Hid (∀ (w0 w : World), Rel w0 w → Calls Tryz.prog 18 #[.string T] w fun e w' => ∃ (A : Option Addr) (c : Nat), e = .returned (.tuple #[.slice A m c, .int .i64 0, .int .i64 0]) ∧ Rel w0 w' ∧ ToksAt w' A (us ++ [(5, [], 0, p)])) := Lib.hid (fun w0 w hr => by rw [← hm]; exact rlex8_yes zT _ HLx w0 w hr)
  have HU := Lib.hid hum
  have HBx := Lib.hid hbx
  have HM := Lib.hid hmu
  have HmM := Lib.hid hm
  have hm9 : m ≤ 100001 := by omega
  clear hT hE px hbx hlx hum hfp hul hm hmu
  go_enter Tryz.func5, Tryz.ntmps5
  go_wp2_with (first
    | (go_at_call 8; (with_reducible refine (awake8_any HP.out _ _ HR.out).mono ?_); rintro e w1 ⟨rfl, h1⟩)
    | (go_at_call 9; (with_reducible refine (HSx.out _ _ h1.self (HI.out.rel h1)).mono ?_); rintro e w2 ⟨vx, rfl, ex, h2⟩; have AX := h2.self.alloc (.cells #[.int .i64 vx.1, .int .i64 vx.2.1, .string (B vx.2.2.1), .slice vx.2.2.2.1 vx.2.2.2.2.1 vx.2.2.2.2.2] 26); have R2 := Lib.hid ((h1.trans h2).trans AX); have BX := Lib.hid (Bk.new w2 26 #[.int .i64 vx.1, .int .i64 vx.2.1, .string (B vx.2.2.1), .slice vx.2.2.2.1 vx.2.2.2.2.1 vx.2.2.2.2.2]); have EX := Lib.hid (ex.rel AX); obtain ⟨⟨c0, c1, c2, c3⟩, _⟩ := BX.out.four)
    | (go_at_call 10; (with_reducible refine (print_as H.out x T E P1 _ vx _ _ AX.self EX.out zx).mono ?_); rintro e w3 ⟨rfl, h3⟩)
    | (go_at_call 18; (with_reducible refine (HLc.out _ _ h3.self).mono ?_); rintro e w4 ⟨A4, c4, rfl, h4, t4⟩; have HT4 := Lib.hid t4; have R4 := Lib.hid (h3.trans h4); have HI4 := Lib.hid (HI'.out.rel (R2.out.trans R4.out)); clear t4))
  go_loopw [12, 13] (fun tv iv wr => ∃ (j : Nat) (C : ByteArray), j + 1 ≤ m ∧ iv = .int .i64 (j : Int) ∧ tv = .string C ∧ Hid (C = B (spreadF (bAt Z) ((us.map sh).take j) 0)) ∧ Rel w4 wr) (fun _ iv _ => m - (RowKit.intOf iv).toNat)
  case atStart => exact ⟨0, ⟨#[]⟩, by have := HM.out; omega, rfl, rfl, Lib.hid rfl, h4.self⟩
  case round =>
    obtain ⟨j, C, hj, rfl, rfl, HC, hRw⟩ := hrel
    have HRw := Lib.hid hRw
    have hCs : C.size ≤ 103 * j := by
      rw [HC.out, B_size]
      have := spread_small (bAt Z) (fun i => (bAt_ok Z i).2.2) ((us.map sh).take j) 0 (fun s hs => HSh.out s (List.mem_of_mem_take hs))
      rw [List.length_take] at this
      omega
    have hw1 : IntKind.i64.wrap ((j : Int) + 1) = (j : Int) + 1 := IntWalk.i64_in _ (by omega)
    by_cases hlt : j + 1 < m
    · have hju : j < us.length := by have := HM.out; omega
      obtain ⟨gT, off, rfl, hgl, a0, a1, a2, a3⟩ := (HT4.out.rel hRw) j (by rw [HmM.out]; omega)
      obtain ⟨⟨tk, tx, tn, tp⟩, ht⟩ : ∃ t, us[j] = t := ⟨_, rfl⟩
      have ht' : (us ++ [(5, [], 0, p)])[j]'(by rw [HmM.out]; omega) = (tk, tx, tn, tp) := by rw [List.getElem_append_left hju, ht]
      rw [ht'] at a0 a1 a2 a3
      have htl : tx.length ≤ 100 := HSh.out (sh (tk, tx, tn, tp)) (List.mem_map.2 ⟨_, List.getElem_mem hju, by rw [ht]⟩)
      obtain ⟨b, hb⟩ : ∃ b : Nat, (b < 3 ∧ bAt Z j = theBl.getD b [] ∧ (∀ h : j < Z.length, pk Z[j] 3 = (b : Int)) ∧ (¬ j < Z.length → b = 0)) := by
        by_cases hz : j < Z.length
        · refine ⟨(pk Z[j] 3).toNat, ?_, ?_, fun _ => ?_, fun h => absurd hz h⟩
          · have := pk_bd Z[j] 3 (by omega); omega
          · unfold bAt; rw [List.getElem?_eq_getElem hz]
          · have := pk_bd Z[j] 3 (by omega); omega
        · exact ⟨0, by omega, by unfold bAt; rw [List.getElem?_eq_none (by omega)]; rfl, fun h => absurd h hz, fun _ => rfl⟩
      obtain ⟨hb3, hbl, hbz, hb0⟩ := hb
      obtain ⟨X, hX⟩ : ∃ X, B (theBl.getD b []) = X := ⟨_, rfl⟩
      have hXs : X.size ≤ 3 := by rw [← hX, B_size]; exact (bl_ok b hb3).2.2
      have hc := fun w => bl_cell w b hb3 X hX
      have hb3' : (b : Int) < 3 := by omega
      have HNx := Lib.hid (show (C ++ B tx) ++ X = B (spreadF (bAt Z) ((us.map sh).take (j + 1)) 0) by
        rw [spreadF_take _ _ _ (by rw [List.length_map]; exact hju), HC.out, ← hX, B_append, B_append, hbl]
        simp only [List.getElem_map, ht, sh])
      have s1 : ¬ (9223372036854775807 < C.size + (B tx).size) := by rw [B_size]; omega
      have s2 : ¬ (9223372036854775807 < C.size + (B tx).size + X.size) := by rw [B_size]; omega
      have hjm : j < m := by omega
      clear ht ht' htl hbl hX
      by_cases hz : j < Z.length
      · have HB := Lib.hid (hbz hz)
        obtain ⟨hi1, hi2, hi3, hi4⟩ := HI4.out.rel hRw
        obtain ⟨ab, hA', hab, hcb⟩ := hi4 j hz
        have hz64 := hi3 Z[j] (List.getElem_mem hz)
        have z0 := hz64.1
        have z1 := hz64.2
        obtain ⟨zz, hzz⟩ : ∃ zz, Z[j] = zz := ⟨_, rfl⟩
        rw [hzz] at HB hcb z0 z1
        have hzi : (j : Int) < (Z.length : Int) := by omega
        subst hA'
        clear hbz hb0 hi1 hi2 hi3 hi4 hzz hz64
        go_wp2_with (go_at_call 16; (with_reducible refine (pk8_as zz 3 (b : Int) HB z0 z1 (by decide) (by decide) _).mono ?_); rintro e w5 ⟨rfl, rfl⟩)
        go_region_law (fail)
        all_goals
          go_wp2_with (fail)
          go_roundw
          case rel => exact ⟨j + 1, _, by omega, by go_num, rfl, HNx, by first | exact (HRw.out.alloc _).drew | exact HRw.out.drew.alloc _⟩
          case measure => simp [RowKit.intOf]; omega
      · obtain rfl := hb0 hz
        have hzi : ¬ ((j : Int) < (Z.length : Int)) := by omega
        clear hbz hb0
        go_wp2_with (fail)
        go_region_law (fail)
        all_goals
          go_wp2_with (fail)
          go_roundw
          case rel => exact ⟨j + 1, _, by omega, by go_num, rfl, HNx, by first | exact (HRw.out.alloc _).drew | exact HRw.out.drew.alloc _⟩
          case measure => simp [RowKit.intOf]; omega
    · obtain rfl : j + 1 = m := by omega
      have hju : j = us.length := by have := HM.out; omega
      cases bx with
      | false =>
        obtain rfl : E = 1 := by simpa using HE.out
        go_wp2_with (fail)
        go_ret
        exact ⟨rfl, (R2.out.trans R4.out).trans HRw.out⟩
      | true =>
        obtain rfl : E = 0 := by simpa using HE.out
        by_cases hsm : C.size ≤ 2000
        · have hb : decide ((2000 : Int) < (C.size : Int)) = false := by simp; omega
          have PC : Hid (parseS C.data.toList = .ok x) := Lib.hid (by
            have e : (us.map sh).take j = us.map sh := List.take_of_length_le (by rw [List.length_map]; omega)
            have h := HC.out
            rw [e] at h
            have hs2 := hsm
            rw [h, B_size] at hs2
            rw [h, B_list]
            exact blanks_parse HBx.out us (HU.out rfl) Z hs2)
          have zC : C.size ≤ 9223372036854775807 := by omega
          go_wp2_with (first
            | (go_at_call 12; (with_reducible refine (pparse_yes HP.out C x PC zC _ _ HRw.out.self).mono ?_); rintro e w5 ⟨vy, rfl, ey, h5⟩; have AY := h5.self.alloc (.cells #[.int .i64 vy.1, .int .i64 vy.2.1, .string (B vy.2.2.1), .slice vy.2.2.2.1 vy.2.2.2.2.1 vy.2.2.2.2.2] 26); have R6 := ((R4.out.trans HRw.out).trans h5).trans AY; have BY := Bk.new w5 26 #[.int .i64 vy.1, .int .i64 vy.2.1, .string (B vy.2.2.1), .slice vy.2.2.2.1 vy.2.2.2.2.1 vy.2.2.2.2.2]; have EY := ey.rel AY; obtain ⟨⟨d0, d1, d2, d3⟩, _⟩ := BY.four; obtain ⟨⟨e0, e1, e2, e3⟩, _⟩ := (BX.out.rel R6).four)
            | (go_at_call 14; (with_reducible refine (same_yes H.out x _ _ vx vy _ _ AY.self (EX.out.rel R6) EY zx).mono ?_); rintro e w6 ⟨rfl, h6⟩))
          go_ret
          exact ⟨rfl, (R2.out.trans R6).trans h6⟩
        · have hb : decide ((2000 : Int) < (C.size : Int)) = true := by simp; omega
          go_wp2_with (fail)
          go_ret
          exact ⟨rfl, (R2.out.trans R4.out).trans HRw.out⟩
end Go.Proofs.YtoajbbcjmalngaaGreatDoor
