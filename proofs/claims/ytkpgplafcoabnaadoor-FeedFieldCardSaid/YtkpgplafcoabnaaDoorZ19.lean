/- Blocks that are known whole, rows of the call's own, and what is kept of them; The document's own readings of numbers and amounts (layer 2's), at this seat; The document's own Word, Name and token; The document's own answers of layer 12: number, price, may a line be; The document's own answers of layer 12: a line's fields. -/
import Derived.Test.YtkpgplafcoabnaaDoorZL
import Derived.Test.YtkpgplafcoabnaaDoorZ00
import Derived.Test.YtkpgplafcoabnaaDoorZ01
namespace Go.Proofs.YtkpgplafcoabnaaDoor
open Go.RowKit Go.Lib
set_option linter.unusedVariables false
set_option linter.unusedSimpArgs false
theorem Bk.grown {w w' : World} {g : Nat} {t : TypeId} {cs : Array Value} (h : Bk w g t cs) {row : Option Nat} (hb : w.grownBy w' row) (hg : some g ≠ row) : Bk w' g t cs := (hb.block g h.lt hg).trans h
theorem Rel.grown {w0 w w' : World} (h : Rel w0 w) {row : Option Nat} (hg : w.grownBy w' row) (hr : ∀ k, row = some k → w0.heap.size ≤ k) : Rel w0 w' := ⟨h.1, Below.grown h.2 hg h.2.size hr⟩
end Go.Proofs.YtkpgplafcoabnaaDoor

namespace Go.Proofs.YtkpgplafcoabnaaDoor
open Go.RowKit Go.Lib
set_option linter.unusedVariables false
set_option linter.unusedSimpArgs false
set_option maxHeartbeats 400000 in
theorem rdig_any (w0 : World) : ∀ (k : Nat) (n : Int), 0 ≤ n → n.toNat ≤ k → n ≤ 9223372036854775807 → ∀ w, Rel w0 w →
    Calls Tryd.prog 42 #[.int .i64 n] w fun e w' => e = .returned (.string (B (decDigits n.toNat))) ∧ Rel w0 w' := by
  intro k
  induction k with
  | zero =>
    intro n h0 hk h1 w hr
    obtain rfl : n = 0 := by omega
    have hconv : ∀ w : World, (convert 59 9 (.slice (some ⟨w.heap.size, 0, none⟩) 1 1)).run Tryd.prog (w.alloc (.cells #[.int .u8 48] 5)) = .ok (.string (B [dgt 0])) (w.alloc (.cells #[.int .u8 48] 5)) := fun w => byte_string w 0 (by omega) (by omega)
    go_enter Tryd.func42, Tryd.ntmps42
    go_wp2_with (fail)
    go_ret
    exact ⟨ret_str (by rw [dd_last (by omega) (by omega)]; rfl), hr.alloc _⟩
  | succ k ih =>
    intro n h0 hk h1 w hr
    have b1 : 0 ≤ n % 10 := by omega
    have b2 : n % 10 ≤ 9 := by omega
    have hconv := fun w : World => byte_string w (n % 10) b1 b2
    by_cases h : 10 ≤ n
    · have HS := Lib.hid (dd_step h0 h)
      have z1 := dd_size (n / 10) (by omega)
      have z2 : (B [dgt (n % 10)]).size ≤ 1 := Nat.le_refl _
      have z3 : ¬ 9223372036854775807 < (B (decDigits (n / 10).toNat)).size + (B [dgt (n % 10)]).size := by omega
      go_enter Tryd.func42, Tryd.ntmps42
      go_wp2_with ((go_at_call 42; (with_reducible refine (ih (n / 10) (by omega) (by omega) (by omega) _ (hr.alloc _)).mono ?_); rintro e w' ⟨rfl, hr'⟩))
      go_ret
      exact ⟨ret_str (by rw [HS.out, B_append]), hr'⟩
    · have HS := Lib.hid (dd_last h0 h)
      go_enter Tryd.func42, Tryd.ntmps42
      go_wp2_with (fail)
      go_ret
      exact ⟨ret_str (by rw [HS.out]), hr.alloc _⟩
theorem digits_any (n : Int) (h0 : 0 ≤ n) (h1 : n ≤ 9223372036854775807) (w0 w : World) (hr : Rel w0 w) :
    Calls Tryd.prog 42 #[.int .i64 n] w fun e w' => e = .returned (.string (B (decDigits n.toNat))) ∧ Rel w0 w' := rdig_any w0 _ n h0 (Nat.le_refl _) h1 w hr
theorem dash (x : List UInt8) : (⟨#[45]⟩ : ByteArray) ++ B x = B (45 :: x) := B_append [45] x
theorem tx_no {a : Int} (h : rt a = false) : (⟨#[]⟩ : ByteArray) = tx a := by unfold tx txt; rw [h]; rfl
theorem tx_neg (a : Int) (h : a < 0) (h' : -1000000000000 ≤ a) : (⟨#[45]⟩ : ByteArray) ++ tx (-a) = tx a := by
  unfold tx
  rw [dash]
  unfold txt
  rw [rt_yes (a := -a) (by omega) (by omega), rt_yes (a := a) h' (by omega), if_pos rfl, if_pos rfl, if_neg (by omega), if_pos h, show (-a).natAbs = a.natAbs by omega]
theorem tx_size (a : Int) : (tx a).size ≤ 43 := by
  unfold tx txt
  rw [B_size]
  split
  · rename_i h
    have hb := rt_iff.1 h
    have h1 : (pos a.natAbs).length ≤ 22 := by
      unfold pos
      have := nd_le 12 (a.natAbs / 100) (by have e : 10 ^ 12 = 1000000000000 := by decide
                                            omega) (by omega)
      rw [decDigits_one (show a.natAbs / 10 % 10 < 10 by omega), decDigits_one (show a.natAbs % 10 < 10 by omega)]
      simp; omega
    split <;> simp <;> omega
  · simp
set_option maxHeartbeats 400000 in
theorem rtext_pos (a : Int) (h0 : 0 ≤ a) (h1 : a ≤ 1000000000000) (w0 w : World) (hr : Rel w0 w) :
    Calls Tryd.prog 22 #[.int .i64 a] w fun e w' => e = .returned (.string (tx a)) ∧ Rel w0 w' := by
  have z1 := dd_size (a / 100) (by omega)
  have z2 := dd_size (a / 10 % 10) (by omega)
  have z3 := dd_size (a % 10) (by omega)
  have HS := Lib.hid (tx_parts a h0 h1)
  go_enter Tryd.func22, Tryd.ntmps22
  go_wp2_with ((go_at_call 42; (with_reducible refine (digits_any _ (by omega) (by omega) _ _ (by assumption)).mono ?_); rintro e w' ⟨rfl, hr'⟩))
  go_ret
  exact ⟨ret_str HS.out, by assumption⟩
set_option maxHeartbeats 400000 in
theorem rtext_any (a : Int) (h0 : -9223372036854775808 ≤ a) (h1 : a ≤ 9223372036854775807) (w0 w : World) (hr : Rel w0 w) :
    Calls Tryd.prog 22 #[.int .i64 a] w fun e w' => e = .returned (.string (tx a)) ∧ Rel w0 w' := by
  by_cases b1 : a < -1000000000000
  · have HS := Lib.hid (tx_no (a := a) (rt_no (.inl b1)))
    go_enter Tryd.func22, Tryd.ntmps22
    go_wp2_with (fail)
    go_ret
    exact ⟨ret_str HS.out, hr⟩
  · by_cases b2 : 1000000000000 < a
    · have HS := Lib.hid (tx_no (a := a) (rt_no (.inr b2)))
      go_enter Tryd.func22, Tryd.ntmps22
      go_wp2_with (fail)
      go_ret
      exact ⟨ret_str HS.out, hr⟩
    · by_cases hn : 0 ≤ a
      · exact rtext_pos a hn (by omega) w0 w hr
      · have HS := Lib.hid (tx_neg a (by omega) (by omega))
        have z1 := tx_size (-a)
        go_enter Tryd.func22, Tryd.ntmps22
        go_wp2_with ((go_at_call 22; (with_reducible refine (rtext_pos _ (by omega) (by omega) _ _ (by assumption)).mono ?_); rintro e w' ⟨rfl, hr'⟩))
        go_ret
        exact ⟨ret_str HS.out, by assumption⟩
end Go.Proofs.YtkpgplafcoabnaaDoor

namespace Go.Proofs.YtkpgplafcoabnaaDoor
open Go.RowKit Go.Lib
set_option linter.unusedVariables false
set_option linter.unusedSimpArgs false
theorem rletter_any (c : UInt8) (w : World) : Calls Tryd.prog 31 #[.int .u8 (c.toNat : Int)] w fun e w' => e = .returned (.bool (isL c)) ∧ w = w' := by
  by_cases h1 : 97 ≤ c.toNat <;> by_cases h2 : c.toNat ≤ 122
  all_goals
    go_enter Tryd.func31, Tryd.ntmps31
    go_wp2
    all_goals
      go_ret
      exact ⟨ret_bool (Bool.eq_iff_iff.2 (by simp [isL]; omega)), rfl⟩
theorem rdigit_any (c : UInt8) (w : World) : Calls Tryd.prog 33 #[.int .u8 (c.toNat : Int)] w fun e w' => e = .returned (.bool (isD c)) ∧ w = w' := by
  by_cases h1 : 48 ≤ c.toNat <;> by_cases h2 : c.toNat ≤ 57
  all_goals
    go_enter Tryd.func33, Tryd.ntmps33
    go_wp2
    all_goals
      go_ret
      exact ⟨ret_bool (Bool.eq_iff_iff.2 (by simp [isD]; omega)), rfl⟩
def wordCells : Array Value := (theWords.map fun l => Value.string (B l)).toArray
theorem word_cell {w : World} {g : Nat} (h : Bk w g 9 wordCells) (j : Nat) (hj : j < 11) : w.cell? ⟨g, j, none⟩ = some (.string (B (theWords.getD j []))) := by
  have hl : theWords.length = 11 := rfl
  rw [h.cell]
  unfold wordCells
  rw [List.getElem?_toArray, List.getElem?_map, List.getElem?_eq_getElem (by omega), List.getD_eq_getElem?_getD, List.getElem?_eq_getElem (by omega)]
  rfl
set_option maxHeartbeats 1000000 in
theorem rword_any (s : ByteArray) (w0 w : World) (hr : Rel w0 w) :
    Calls Tryd.prog 32 #[.string s] w fun e w' => e = .returned (.bool (isWord s.data.toList)) ∧ Rel w0 w' := by
  have HB := Lib.hid (show Bk (w.alloc (.cells wordCells 9)) w.heap.size 9 wordCells from Bk.new w _ _)
  have HR := Lib.hid (hr.alloc (.cells wordCells 9))
  go_enter Tryd.func32, Tryd.ntmps32
  go_wp2_with (fail)
  go_loopw [4] (fun i wr => ∃ j : Nat, j ≤ 11 ∧ i = .int .i64 j ∧ Hid (∀ k < j, B (theWords.getD k []) ≠ s) ∧ Hid (wr = w.alloc (.cells wordCells 9))) (fun i _ => 11 - (RowKit.intOf i).toNat)
  case atStart => exact ⟨0, by omega, rfl, Lib.hid (fun k hk => absurd hk (by omega)), Lib.hid rfl⟩
  case round =>
    obtain ⟨j, hj, rfl, HN, HW⟩ := hrel
    have hc := HB.out
    rw [← HW.out] at hc
    by_cases hlt : j < 11
    · have c := word_cell hc j hlt
      obtain ⟨X, hX⟩ : ∃ X, B (theWords.getD j []) = X := ⟨_, rfl⟩
      rw [hX] at c
      have HX := Lib.hid hX
      clear hX
      by_cases he : X = s
      · have HY := Lib.hid (word_yes hlt (HX.out.trans he))
        have k1 := list_of.2 he
        clear he hc
        go_wp2_with (fail)
        go_ret
        exact ⟨ret_bool HY.out.symm, by rw [HW.out]; exact HR.out⟩
      · have k1 := list_ne he
        have HN2 : Hid (∀ k < j + 1, B (theWords.getD k []) ≠ s) := Lib.hid (fun k hk => by
          rcases Nat.lt_or_ge k j with h | h
          · exact HN.out k h
          · obtain rfl : k = j := by omega
            rw [HX.out]; exact he)
        clear he hc
        go_wp2_with (fail)
        go_roundw
        case rel => exact ⟨j + 1, by omega, by go_num, HN2, HW⟩
        case measure => simp [RowKit.intOf]; omega
    · obtain rfl : j = 11 := by omega
      have HY := Lib.hid (word_no HN.out)
      clear hc
      go_wp2_with (fail)
      go_ret
      exact ⟨ret_bool HY.out.symm, by rw [HW.out]; exact HR.out⟩
set_option maxHeartbeats 1000000 in
theorem rname_list (l : List UInt8) (hl : l.length ≤ 9223372036854775807) (w0 w : World) (hr : Rel w0 w) :
    Calls Tryd.prog 18 #[.string (B l)] w fun e w' => e = .returned (.bool (isName l)) ∧ Rel w0 w' := by
  cases l with
  | nil =>
    have HT := B_toList []
    go_enter Tryd.func18, Tryd.ntmps18
    go_wp2_with (fail)
    go_ret
    exact ⟨ret_bool rfl, hr⟩
  | cons c t =>
    have HT := B_toList (c :: t)
    have HB := B_cons_size c t
    have H0 := B_zero c t
    by_cases h12 : t.length + 1 ≤ 12
    · have z : ¬ (12 : Int) < (t.length : Int) + 1 := by omega
      cases hc : isL c
      · have HF := Lib.hid (show isName (c :: t) = false by rw [name_eq, hc]; simp)
        clear hl h12
        go_enter Tryd.func18, Tryd.ntmps18
        go_wp2_with (go_at_call 31; (with_reducible refine (bool_at false (rletter_any c _) (Lib.hid hc)).mono ?_); rintro e w' ⟨rfl, rfl⟩)
        go_ret
        exact ⟨ret_bool HF.out.symm, hr⟩
      · cases hw : isWord (c :: t)
        · have HC := Lib.hid hc
          have HWd := Lib.hid (show isWord (B (c :: t)).data.toList = false by rw [B_list]; exact hw)
          have HW0 := Lib.hid hw
          have HR := Lib.hid hr
          clear hw hc
          go_enter Tryd.func18, Tryd.ntmps18
          go_wp2_with (first
            | (go_at_call 31; (with_reducible refine (bool_at true (rletter_any c _) HC).mono ?_); rintro e w' ⟨rfl, rfl⟩)
            | (go_at_call 32; (with_reducible refine (bool_at false (rword_any _ _ _ hr.self) HWd).mono ?_); rintro e w1 ⟨rfl, h1⟩))
          go_loopw [3] (fun i wr => ∃ j : Nat, j ≤ t.length + 1 ∧ i = .int .i64 j ∧ Hid (((c :: t).take j).all LD = true) ∧ wr = w1) (fun i _ => t.length + 1 - (RowKit.intOf i).toNat)
          case atStart => exact ⟨0, by omega, rfl, Lib.hid rfl, rfl⟩
          case round =>
            obtain ⟨j, hj, rfl, HA, rfl⟩ := hrel
            by_cases hlt : j < t.length + 1
            · have hlt' : j < (c :: t).length := by simpa using hlt
              obtain ⟨x, hx⟩ : ∃ x, x = (c :: t)[j] := ⟨_, rfl⟩
              have hg : ∀ h, (B (c :: t))[j]'h = x := fun h => by rw [hx]; rfl
              have HX := Lib.hid hx
              clear hx
              cases hL : isL x <;> cases hD : isD x
              · have HF := Lib.hid (show isName (c :: t) = false by rw [name_eq, all_bad j hlt' (by rw [← HX.out]; simp [LD, hL, hD])]; simp)
                have HL := Lib.hid hL
                have HD := Lib.hid hD
                clear hL hD
                go_wp2_with (first
                  | (go_at_call 31; (with_reducible refine (bool_at false (rletter_any x _) HL).mono ?_); rintro e w' ⟨rfl, rfl⟩)
                  | (go_at_call 33; (with_reducible refine (bool_at false (rdigit_any x _) HD).mono ?_); rintro e w' ⟨rfl, rfl⟩))
                go_ret
                exact ⟨ret_bool HF.out.symm, HR.out.trans h1⟩
              all_goals
                have HM := Lib.hid (all_more j hlt' HA.out (by rw [← HX.out]; simp [LD, hL, hD]))
                have HL := Lib.hid hL
                have HD := Lib.hid hD
                clear hL hD
                go_wp2_with (first
                  | (go_at_call 31; (with_reducible refine (bool_at _ (rletter_any x _) HL).mono ?_); rintro e w' ⟨rfl, rfl⟩)
                  | (go_at_call 33; (with_reducible refine (bool_at _ (rdigit_any x _) HD).mono ?_); rintro e w' ⟨rfl, rfl⟩))
                go_roundw
                case rel => exact ⟨j + 1, by omega, by go_num, HM, trivial⟩
                case measure => simp [RowKit.intOf]; omega
            · obtain rfl : j = t.length + 1 := by omega
              have HY := Lib.hid (show isName (c :: t) = true by
                have ha := HA.out
                rw [List.take_of_length_le (by simp)] at ha
                rw [name_eq, ha, HC.out, HW0.out, decide_eq_true h12]; rfl)
              go_wp2_with (fail)
              go_ret
              exact ⟨ret_bool HY.out.symm, HR.out.trans h1⟩
        · have HC := Lib.hid hc
          have HWd := Lib.hid (show isWord (B (c :: t)).data.toList = true by rw [B_list]; exact hw)
          have HF := Lib.hid (show isName (c :: t) = false by rw [name_eq, hw]; simp)
          clear hw hc
          go_enter Tryd.func18, Tryd.ntmps18
          go_wp2_with (first
            | (go_at_call 31; (with_reducible refine (bool_at true (rletter_any c _) HC).mono ?_); rintro e w' ⟨rfl, rfl⟩)
            | (go_at_call 32; (with_reducible refine (bool_at true (rword_any _ _ _ hr.self) HWd).mono ?_); rintro e w1 ⟨rfl, h1⟩))
          go_ret
          exact ⟨ret_bool HF.out.symm, hr.trans h1⟩
    · have HF := Lib.hid (show isName (c :: t) = false by rw [name_eq, decide_eq_false h12]; simp)
      have z : (12 : Int) < (t.length : Int) + 1 := by omega
      clear h12
      go_enter Tryd.func18, Tryd.ntmps18
      go_wp2_with (fail)
      go_ret
      exact ⟨ret_bool HF.out.symm, hr⟩
end Go.Proofs.YtkpgplafcoabnaaDoor

namespace Go.Proofs.YtkpgplafcoabnaaDoor
open Go.RowKit Go.Lib
set_option linter.unusedVariables false
set_option linter.unusedSimpArgs false
set_option maxRecDepth 100000 in
set_option maxHeartbeats 4000000 in
theorem rfr_0 (a c d : List UInt8) (n p : Int) (la : a.length ≤ 9223372036854775807) (lc : c.length ≤ 9223372036854775807) (ld : d.length ≤ 9223372036854775807) (c0 : isName a = false) (w0 w : World) (hr : Rel w0 w) :
    Calls Tryd.prog 14 #[.agg #[.string (B a), .int .i64 n, .string (B c), .string (B d), .int .i64 p]] w fun r w' => r = .returned (.bool false) ∧ Rel w0 w' := by
  have HR := Lib.hid hr
  have HA := Lib.hid (hr.alloc (.cells #[.string (B a), .int .i64 n, .string (B c), .string (B d), .int .i64 p] 23))
  have HX := Lib.hid (Bk.new w 23 #[.string (B a), .int .i64 n, .string (B c), .string (B d), .int .i64 p])
  obtain ⟨W, hW⟩ : ∃ W, w.alloc (.cells #[.string (B a), .int .i64 n, .string (B c), .string (B d), .int .i64 p] 23) = W := ⟨_, rfl⟩
  rw [hW] at HA HX
  have N0 := Lib.hid (show ∀ w1 : World, Rel W w1 → Calls Tryd.prog 18 #[.string (B a)] w1 fun e w' => e = .returned (.bool false) ∧ Rel W w' from fun w1 h1 => by rw [← c0]; exact rname_list a la W w1 h1)
  obtain ⟨⟨x0, x1, x2, x3, x4⟩, _⟩ := five_of HX.out
  clear hr c0
  go_enter Tryd.func14, Tryd.ntmps14
  go_wp2_with (first
    | (go_at_call 18; (with_reducible refine (N0.out _ HA.out.self).mono ?_); rintro e w2 ⟨rfl, h0⟩; have Q0 := Lib.hid h0; obtain ⟨⟨x0, x1, x2, x3, x4⟩, _⟩ := five_of (HX.out.rel h0); clear h0))
  go_ret
  exact ⟨rfl, HA.out.trans Q0.out⟩
set_option maxRecDepth 100000 in
set_option maxHeartbeats 4000000 in
theorem rfr_1 (a c d : List UInt8) (n p : Int) (la : a.length ≤ 9223372036854775807) (lc : c.length ≤ 9223372036854775807) (ld : d.length ≤ 9223372036854775807) (c0 : isName a = true) (c1 : isName c = false) (w0 w : World) (hr : Rel w0 w) :
    Calls Tryd.prog 14 #[.agg #[.string (B a), .int .i64 n, .string (B c), .string (B d), .int .i64 p]] w fun r w' => r = .returned (.bool false) ∧ Rel w0 w' := by
  have HR := Lib.hid hr
  have HA := Lib.hid (hr.alloc (.cells #[.string (B a), .int .i64 n, .string (B c), .string (B d), .int .i64 p] 23))
  have HX := Lib.hid (Bk.new w 23 #[.string (B a), .int .i64 n, .string (B c), .string (B d), .int .i64 p])
  obtain ⟨W, hW⟩ : ∃ W, w.alloc (.cells #[.string (B a), .int .i64 n, .string (B c), .string (B d), .int .i64 p] 23) = W := ⟨_, rfl⟩
  rw [hW] at HA HX
  have N0 := Lib.hid (show ∀ w1 : World, Rel W w1 → Calls Tryd.prog 18 #[.string (B a)] w1 fun e w' => e = .returned (.bool true) ∧ Rel W w' from fun w1 h1 => by rw [← c0]; exact rname_list a la W w1 h1)
  have N1 := Lib.hid (show ∀ w1 : World, Rel W w1 → Calls Tryd.prog 18 #[.string (B c)] w1 fun e w' => e = .returned (.bool false) ∧ Rel W w' from fun w1 h1 => by rw [← c1]; exact rname_list c lc W w1 h1)
  obtain ⟨⟨x0, x1, x2, x3, x4⟩, _⟩ := five_of HX.out
  clear hr c0 c1
  go_enter Tryd.func14, Tryd.ntmps14
  go_wp2_with (first
    | (go_at_call 18; (with_reducible refine (N0.out _ HA.out.self).mono ?_); rintro e w2 ⟨rfl, h0⟩; have Q0 := Lib.hid h0; obtain ⟨⟨x0, x1, x2, x3, x4⟩, _⟩ := five_of (HX.out.rel h0); clear h0)
    | (go_at_call 18; (with_reducible refine (N1.out _ Q0.out).mono ?_); rintro e w3 ⟨rfl, h1⟩; have Q1 := Lib.hid h1; obtain ⟨⟨x0, x1, x2, x3, x4⟩, _⟩ := five_of (HX.out.rel h1); clear h1))
  go_ret
  exact ⟨rfl, HA.out.trans Q1.out⟩
set_option maxRecDepth 100000 in
set_option maxHeartbeats 4000000 in
theorem rfr_2 (a c d : List UInt8) (n p : Int) (la : a.length ≤ 9223372036854775807) (lc : c.length ≤ 9223372036854775807) (ld : d.length ≤ 9223372036854775807) (c0 : isName a = true) (c1 : isName c = true) (c2 : isName d = false) (w0 w : World) (hr : Rel w0 w) :
    Calls Tryd.prog 14 #[.agg #[.string (B a), .int .i64 n, .string (B c), .string (B d), .int .i64 p]] w fun r w' => r = .returned (.bool false) ∧ Rel w0 w' := by
  have HR := Lib.hid hr
  have HA := Lib.hid (hr.alloc (.cells #[.string (B a), .int .i64 n, .string (B c), .string (B d), .int .i64 p] 23))
  have HX := Lib.hid (Bk.new w 23 #[.string (B a), .int .i64 n, .string (B c), .string (B d), .int .i64 p])
  obtain ⟨W, hW⟩ : ∃ W, w.alloc (.cells #[.string (B a), .int .i64 n, .string (B c), .string (B d), .int .i64 p] 23) = W := ⟨_, rfl⟩
  rw [hW] at HA HX
  have N0 := Lib.hid (show ∀ w1 : World, Rel W w1 → Calls Tryd.prog 18 #[.string (B a)] w1 fun e w' => e = .returned (.bool true) ∧ Rel W w' from fun w1 h1 => by rw [← c0]; exact rname_list a la W w1 h1)
  have N1 := Lib.hid (show ∀ w1 : World, Rel W w1 → Calls Tryd.prog 18 #[.string (B c)] w1 fun e w' => e = .returned (.bool true) ∧ Rel W w' from fun w1 h1 => by rw [← c1]; exact rname_list c lc W w1 h1)
  have N2 := Lib.hid (show ∀ w1 : World, Rel W w1 → Calls Tryd.prog 18 #[.string (B d)] w1 fun e w' => e = .returned (.bool false) ∧ Rel W w' from fun w1 h1 => by rw [← c2]; exact rname_list d ld W w1 h1)
  obtain ⟨⟨x0, x1, x2, x3, x4⟩, _⟩ := five_of HX.out
  clear hr c0 c1 c2
  go_enter Tryd.func14, Tryd.ntmps14
  go_wp2_with (first
    | (go_at_call 18; (with_reducible refine (N0.out _ HA.out.self).mono ?_); rintro e w2 ⟨rfl, h0⟩; have Q0 := Lib.hid h0; obtain ⟨⟨x0, x1, x2, x3, x4⟩, _⟩ := five_of (HX.out.rel h0); clear h0)
    | (go_at_call 18; (with_reducible refine (N1.out _ Q0.out).mono ?_); rintro e w3 ⟨rfl, h1⟩; have Q1 := Lib.hid h1; obtain ⟨⟨x0, x1, x2, x3, x4⟩, _⟩ := five_of (HX.out.rel h1); clear h1)
    | (go_at_call 18; (with_reducible refine (N2.out _ Q1.out).mono ?_); rintro e w4 ⟨rfl, h2⟩; have Q2 := Lib.hid h2; obtain ⟨⟨x0, x1, x2, x3, x4⟩, _⟩ := five_of (HX.out.rel h2); clear h2))
  go_ret
  exact ⟨rfl, HA.out.trans Q2.out⟩
set_option maxRecDepth 100000 in
set_option maxHeartbeats 4000000 in
theorem rfr_3 (a c d : List UInt8) (n p : Int) (la : a.length ≤ 9223372036854775807) (lc : c.length ≤ 9223372036854775807) (ld : d.length ≤ 9223372036854775807) (c0 : isName a = true) (c1 : isName c = true) (c2 : isName d = true) (c3 : ¬ 1 ≤ n) (w0 w : World) (hr : Rel w0 w) :
    Calls Tryd.prog 14 #[.agg #[.string (B a), .int .i64 n, .string (B c), .string (B d), .int .i64 p]] w fun r w' => r = .returned (.bool false) ∧ Rel w0 w' := by
  have HR := Lib.hid hr
  have HA := Lib.hid (hr.alloc (.cells #[.string (B a), .int .i64 n, .string (B c), .string (B d), .int .i64 p] 23))
  have HX := Lib.hid (Bk.new w 23 #[.string (B a), .int .i64 n, .string (B c), .string (B d), .int .i64 p])
  obtain ⟨W, hW⟩ : ∃ W, w.alloc (.cells #[.string (B a), .int .i64 n, .string (B c), .string (B d), .int .i64 p] 23) = W := ⟨_, rfl⟩
  rw [hW] at HA HX
  have N0 := Lib.hid (show ∀ w1 : World, Rel W w1 → Calls Tryd.prog 18 #[.string (B a)] w1 fun e w' => e = .returned (.bool true) ∧ Rel W w' from fun w1 h1 => by rw [← c0]; exact rname_list a la W w1 h1)
  have N1 := Lib.hid (show ∀ w1 : World, Rel W w1 → Calls Tryd.prog 18 #[.string (B c)] w1 fun e w' => e = .returned (.bool true) ∧ Rel W w' from fun w1 h1 => by rw [← c1]; exact rname_list c lc W w1 h1)
  have N2 := Lib.hid (show ∀ w1 : World, Rel W w1 → Calls Tryd.prog 18 #[.string (B d)] w1 fun e w' => e = .returned (.bool true) ∧ Rel W w' from fun w1 h1 => by rw [← c2]; exact rname_list d ld W w1 h1)
  have t3 : decide (1 ≤ n) = false := decide_eq_false c3
  have u3 : n < 1 := by omega
  obtain ⟨⟨x0, x1, x2, x3, x4⟩, _⟩ := five_of HX.out
  clear hr c0 c1 c2
  go_enter Tryd.func14, Tryd.ntmps14
  go_wp2_with (first
    | (go_at_call 18; (with_reducible refine (N0.out _ HA.out.self).mono ?_); rintro e w2 ⟨rfl, h0⟩; have Q0 := Lib.hid h0; obtain ⟨⟨x0, x1, x2, x3, x4⟩, _⟩ := five_of (HX.out.rel h0); clear h0)
    | (go_at_call 18; (with_reducible refine (N1.out _ Q0.out).mono ?_); rintro e w3 ⟨rfl, h1⟩; have Q1 := Lib.hid h1; obtain ⟨⟨x0, x1, x2, x3, x4⟩, _⟩ := five_of (HX.out.rel h1); clear h1)
    | (go_at_call 18; (with_reducible refine (N2.out _ Q1.out).mono ?_); rintro e w4 ⟨rfl, h2⟩; have Q2 := Lib.hid h2; obtain ⟨⟨x0, x1, x2, x3, x4⟩, _⟩ := five_of (HX.out.rel h2); clear h2))
  go_ret
  exact ⟨rfl, HA.out.trans Q2.out⟩
set_option maxRecDepth 100000 in
set_option maxHeartbeats 4000000 in
theorem rfr_4 (a c d : List UInt8) (n p : Int) (la : a.length ≤ 9223372036854775807) (lc : c.length ≤ 9223372036854775807) (ld : d.length ≤ 9223372036854775807) (c0 : isName a = true) (c1 : isName c = true) (c2 : isName d = true) (c3 : 1 ≤ n) (c4 : ¬ n ≤ 1000000000000) (w0 w : World) (hr : Rel w0 w) :
    Calls Tryd.prog 14 #[.agg #[.string (B a), .int .i64 n, .string (B c), .string (B d), .int .i64 p]] w fun r w' => r = .returned (.bool false) ∧ Rel w0 w' := by
  have HR := Lib.hid hr
  have HA := Lib.hid (hr.alloc (.cells #[.string (B a), .int .i64 n, .string (B c), .string (B d), .int .i64 p] 23))
  have HX := Lib.hid (Bk.new w 23 #[.string (B a), .int .i64 n, .string (B c), .string (B d), .int .i64 p])
  obtain ⟨W, hW⟩ : ∃ W, w.alloc (.cells #[.string (B a), .int .i64 n, .string (B c), .string (B d), .int .i64 p] 23) = W := ⟨_, rfl⟩
  rw [hW] at HA HX
  have N0 := Lib.hid (show ∀ w1 : World, Rel W w1 → Calls Tryd.prog 18 #[.string (B a)] w1 fun e w' => e = .returned (.bool true) ∧ Rel W w' from fun w1 h1 => by rw [← c0]; exact rname_list a la W w1 h1)
  have N1 := Lib.hid (show ∀ w1 : World, Rel W w1 → Calls Tryd.prog 18 #[.string (B c)] w1 fun e w' => e = .returned (.bool true) ∧ Rel W w' from fun w1 h1 => by rw [← c1]; exact rname_list c lc W w1 h1)
  have N2 := Lib.hid (show ∀ w1 : World, Rel W w1 → Calls Tryd.prog 18 #[.string (B d)] w1 fun e w' => e = .returned (.bool true) ∧ Rel W w' from fun w1 h1 => by rw [← c2]; exact rname_list d ld W w1 h1)
  have t3 : decide (1 ≤ n) = true := decide_eq_true c3
  have t4 : decide (n ≤ 1000000000000) = false := decide_eq_false c4
  have u4 : 1000000000000 < n := by omega
  obtain ⟨⟨x0, x1, x2, x3, x4⟩, _⟩ := five_of HX.out
  clear hr c0 c1 c2
  go_enter Tryd.func14, Tryd.ntmps14
  go_wp2_with (first
    | (go_at_call 18; (with_reducible refine (N0.out _ HA.out.self).mono ?_); rintro e w2 ⟨rfl, h0⟩; have Q0 := Lib.hid h0; obtain ⟨⟨x0, x1, x2, x3, x4⟩, _⟩ := five_of (HX.out.rel h0); clear h0)
    | (go_at_call 18; (with_reducible refine (N1.out _ Q0.out).mono ?_); rintro e w3 ⟨rfl, h1⟩; have Q1 := Lib.hid h1; obtain ⟨⟨x0, x1, x2, x3, x4⟩, _⟩ := five_of (HX.out.rel h1); clear h1)
    | (go_at_call 18; (with_reducible refine (N2.out _ Q1.out).mono ?_); rintro e w4 ⟨rfl, h2⟩; have Q2 := Lib.hid h2; obtain ⟨⟨x0, x1, x2, x3, x4⟩, _⟩ := five_of (HX.out.rel h2); clear h2))
  go_ret
  exact ⟨rfl, HA.out.trans Q2.out⟩
set_option maxRecDepth 100000 in
set_option maxHeartbeats 4000000 in
theorem rfr_5 (a c d : List UInt8) (n p : Int) (la : a.length ≤ 9223372036854775807) (lc : c.length ≤ 9223372036854775807) (ld : d.length ≤ 9223372036854775807) (c0 : isName a = true) (c1 : isName c = true) (c2 : isName d = true) (c3 : 1 ≤ n) (c4 : n ≤ 1000000000000) (c5 : ¬ 0 ≤ p) (w0 w : World) (hr : Rel w0 w) :
    Calls Tryd.prog 14 #[.agg #[.string (B a), .int .i64 n, .string (B c), .string (B d), .int .i64 p]] w fun r w' => r = .returned (.bool false) ∧ Rel w0 w' := by
  have HR := Lib.hid hr
  have HA := Lib.hid (hr.alloc (.cells #[.string (B a), .int .i64 n, .string (B c), .string (B d), .int .i64 p] 23))
  have HX := Lib.hid (Bk.new w 23 #[.string (B a), .int .i64 n, .string (B c), .string (B d), .int .i64 p])
  obtain ⟨W, hW⟩ : ∃ W, w.alloc (.cells #[.string (B a), .int .i64 n, .string (B c), .string (B d), .int .i64 p] 23) = W := ⟨_, rfl⟩
  rw [hW] at HA HX
  have N0 := Lib.hid (show ∀ w1 : World, Rel W w1 → Calls Tryd.prog 18 #[.string (B a)] w1 fun e w' => e = .returned (.bool true) ∧ Rel W w' from fun w1 h1 => by rw [← c0]; exact rname_list a la W w1 h1)
  have N1 := Lib.hid (show ∀ w1 : World, Rel W w1 → Calls Tryd.prog 18 #[.string (B c)] w1 fun e w' => e = .returned (.bool true) ∧ Rel W w' from fun w1 h1 => by rw [← c1]; exact rname_list c lc W w1 h1)
  have N2 := Lib.hid (show ∀ w1 : World, Rel W w1 → Calls Tryd.prog 18 #[.string (B d)] w1 fun e w' => e = .returned (.bool true) ∧ Rel W w' from fun w1 h1 => by rw [← c2]; exact rname_list d ld W w1 h1)
  have t3 : decide (1 ≤ n) = true := decide_eq_true c3
  have t4 : decide (n ≤ 1000000000000) = true := decide_eq_true c4
  have t5 : decide (0 ≤ p) = false := decide_eq_false c5
  have u5 : p < 0 := by omega
  obtain ⟨⟨x0, x1, x2, x3, x4⟩, _⟩ := five_of HX.out
  clear hr c0 c1 c2
  go_enter Tryd.func14, Tryd.ntmps14
  go_wp2_with (first
    | (go_at_call 18; (with_reducible refine (N0.out _ HA.out.self).mono ?_); rintro e w2 ⟨rfl, h0⟩; have Q0 := Lib.hid h0; obtain ⟨⟨x0, x1, x2, x3, x4⟩, _⟩ := five_of (HX.out.rel h0); clear h0)
    | (go_at_call 18; (with_reducible refine (N1.out _ Q0.out).mono ?_); rintro e w3 ⟨rfl, h1⟩; have Q1 := Lib.hid h1; obtain ⟨⟨x0, x1, x2, x3, x4⟩, _⟩ := five_of (HX.out.rel h1); clear h1)
    | (go_at_call 18; (with_reducible refine (N2.out _ Q1.out).mono ?_); rintro e w4 ⟨rfl, h2⟩; have Q2 := Lib.hid h2; obtain ⟨⟨x0, x1, x2, x3, x4⟩, _⟩ := five_of (HX.out.rel h2); clear h2))
  go_ret
  exact ⟨rfl, HA.out.trans Q2.out⟩
set_option maxRecDepth 100000 in
set_option maxHeartbeats 4000000 in
theorem rfr_6 (a c d : List UInt8) (n p : Int) (la : a.length ≤ 9223372036854775807) (lc : c.length ≤ 9223372036854775807) (ld : d.length ≤ 9223372036854775807) (c0 : isName a = true) (c1 : isName c = true) (c2 : isName d = true) (c3 : 1 ≤ n) (c4 : n ≤ 1000000000000) (c5 : 0 ≤ p) (c6 : ¬ p ≤ 1000000000000) (w0 w : World) (hr : Rel w0 w) :
    Calls Tryd.prog 14 #[.agg #[.string (B a), .int .i64 n, .string (B c), .string (B d), .int .i64 p]] w fun r w' => r = .returned (.bool false) ∧ Rel w0 w' := by
  have HR := Lib.hid hr
  have HA := Lib.hid (hr.alloc (.cells #[.string (B a), .int .i64 n, .string (B c), .string (B d), .int .i64 p] 23))
  have HX := Lib.hid (Bk.new w 23 #[.string (B a), .int .i64 n, .string (B c), .string (B d), .int .i64 p])
  obtain ⟨W, hW⟩ : ∃ W, w.alloc (.cells #[.string (B a), .int .i64 n, .string (B c), .string (B d), .int .i64 p] 23) = W := ⟨_, rfl⟩
  rw [hW] at HA HX
  have N0 := Lib.hid (show ∀ w1 : World, Rel W w1 → Calls Tryd.prog 18 #[.string (B a)] w1 fun e w' => e = .returned (.bool true) ∧ Rel W w' from fun w1 h1 => by rw [← c0]; exact rname_list a la W w1 h1)
  have N1 := Lib.hid (show ∀ w1 : World, Rel W w1 → Calls Tryd.prog 18 #[.string (B c)] w1 fun e w' => e = .returned (.bool true) ∧ Rel W w' from fun w1 h1 => by rw [← c1]; exact rname_list c lc W w1 h1)
  have N2 := Lib.hid (show ∀ w1 : World, Rel W w1 → Calls Tryd.prog 18 #[.string (B d)] w1 fun e w' => e = .returned (.bool true) ∧ Rel W w' from fun w1 h1 => by rw [← c2]; exact rname_list d ld W w1 h1)
  have t3 : decide (1 ≤ n) = true := decide_eq_true c3
  have t4 : decide (n ≤ 1000000000000) = true := decide_eq_true c4
  have t5 : decide (0 ≤ p) = true := decide_eq_true c5
  have t6 : decide (p ≤ 1000000000000) = false := decide_eq_false c6
  have u6 : 1000000000000 < p := by omega
  obtain ⟨⟨x0, x1, x2, x3, x4⟩, _⟩ := five_of HX.out
  clear hr c0 c1 c2
  go_enter Tryd.func14, Tryd.ntmps14
  go_wp2_with (first
    | (go_at_call 18; (with_reducible refine (N0.out _ HA.out.self).mono ?_); rintro e w2 ⟨rfl, h0⟩; have Q0 := Lib.hid h0; obtain ⟨⟨x0, x1, x2, x3, x4⟩, _⟩ := five_of (HX.out.rel h0); clear h0)
    | (go_at_call 18; (with_reducible refine (N1.out _ Q0.out).mono ?_); rintro e w3 ⟨rfl, h1⟩; have Q1 := Lib.hid h1; obtain ⟨⟨x0, x1, x2, x3, x4⟩, _⟩ := five_of (HX.out.rel h1); clear h1)
    | (go_at_call 18; (with_reducible refine (N2.out _ Q1.out).mono ?_); rintro e w4 ⟨rfl, h2⟩; have Q2 := Lib.hid h2; obtain ⟨⟨x0, x1, x2, x3, x4⟩, _⟩ := five_of (HX.out.rel h2); clear h2))
  go_ret
  exact ⟨rfl, HA.out.trans Q2.out⟩
set_option maxRecDepth 100000 in
set_option maxHeartbeats 4000000 in
theorem rfr_7 (a c d : List UInt8) (n p : Int) (la : a.length ≤ 9223372036854775807) (lc : c.length ≤ 9223372036854775807) (ld : d.length ≤ 9223372036854775807) (c0 : isName a = true) (c1 : isName c = true) (c2 : isName d = true) (c3 : 1 ≤ n) (c4 : n ≤ 1000000000000) (c5 : 0 ≤ p) (c6 : p ≤ 1000000000000) (w0 w : World) (hr : Rel w0 w) :
    Calls Tryd.prog 14 #[.agg #[.string (B a), .int .i64 n, .string (B c), .string (B d), .int .i64 p]] w fun r w' => r = .returned (.bool true) ∧ Rel w0 w' := by
  have HR := Lib.hid hr
  have HA := Lib.hid (hr.alloc (.cells #[.string (B a), .int .i64 n, .string (B c), .string (B d), .int .i64 p] 23))
  have HX := Lib.hid (Bk.new w 23 #[.string (B a), .int .i64 n, .string (B c), .string (B d), .int .i64 p])
  obtain ⟨W, hW⟩ : ∃ W, w.alloc (.cells #[.string (B a), .int .i64 n, .string (B c), .string (B d), .int .i64 p] 23) = W := ⟨_, rfl⟩
  rw [hW] at HA HX
  have N0 := Lib.hid (show ∀ w1 : World, Rel W w1 → Calls Tryd.prog 18 #[.string (B a)] w1 fun e w' => e = .returned (.bool true) ∧ Rel W w' from fun w1 h1 => by rw [← c0]; exact rname_list a la W w1 h1)
  have N1 := Lib.hid (show ∀ w1 : World, Rel W w1 → Calls Tryd.prog 18 #[.string (B c)] w1 fun e w' => e = .returned (.bool true) ∧ Rel W w' from fun w1 h1 => by rw [← c1]; exact rname_list c lc W w1 h1)
  have N2 := Lib.hid (show ∀ w1 : World, Rel W w1 → Calls Tryd.prog 18 #[.string (B d)] w1 fun e w' => e = .returned (.bool true) ∧ Rel W w' from fun w1 h1 => by rw [← c2]; exact rname_list d ld W w1 h1)
  have t3 : decide (1 ≤ n) = true := decide_eq_true c3
  have t4 : decide (n ≤ 1000000000000) = true := decide_eq_true c4
  have t5 : decide (0 ≤ p) = true := decide_eq_true c5
  have t6 : decide (p ≤ 1000000000000) = true := decide_eq_true c6
  obtain ⟨⟨x0, x1, x2, x3, x4⟩, _⟩ := five_of HX.out
  clear hr c0 c1 c2
  go_enter Tryd.func14, Tryd.ntmps14
  go_wp2_with (first
    | (go_at_call 18; (with_reducible refine (N0.out _ HA.out.self).mono ?_); rintro e w2 ⟨rfl, h0⟩; have Q0 := Lib.hid h0; obtain ⟨⟨x0, x1, x2, x3, x4⟩, _⟩ := five_of (HX.out.rel h0); clear h0)
    | (go_at_call 18; (with_reducible refine (N1.out _ Q0.out).mono ?_); rintro e w3 ⟨rfl, h1⟩; have Q1 := Lib.hid h1; obtain ⟨⟨x0, x1, x2, x3, x4⟩, _⟩ := five_of (HX.out.rel h1); clear h1)
    | (go_at_call 18; (with_reducible refine (N2.out _ Q1.out).mono ?_); rintro e w4 ⟨rfl, h2⟩; have Q2 := Lib.hid h2; obtain ⟨⟨x0, x1, x2, x3, x4⟩, _⟩ := five_of (HX.out.rel h2); clear h2))
  go_ret
  exact ⟨rfl, HA.out.trans Q2.out⟩
theorem rfright_any (f : Fd) (hf : FdFit f) (w0 w : World) (hr : Rel w0 w) :
    Calls Tryd.prog 14 #[FV f] w fun r w' => r = .returned (.bool (rightF f)) ∧ Rel w0 w' := by
  obtain ⟨a, n, c, d, p⟩ := f
  obtain ⟨la, ln, lc, ld, lp⟩ := hf
  have no : ∀ {x : Fd}, ¬ (rightF x = true) → rightF x = false := fun h => by simpa using h
  cases c0 : isName a with
  | false => rw [no (fun h => by rw [(rightF_iff.1 h).1] at c0; cases c0)]; exact rfr_0 a c d n p la lc ld c0 w0 w hr
  | true =>
  cases c1 : isName c with
  | false => rw [no (fun h => by rw [(rightF_iff.1 h).2.1] at c1; cases c1)]; exact rfr_1 a c d n p la lc ld c0 c1 w0 w hr
  | true =>
  cases c2 : isName d with
  | false => rw [no (fun h => by rw [(rightF_iff.1 h).2.2.1] at c2; cases c2)]; exact rfr_2 a c d n p la lc ld c0 c1 c2 w0 w hr
  | true =>
  by_cases c3 : 1 ≤ n
  · by_cases c4 : n ≤ 1000000000000
    · by_cases c5 : 0 ≤ p
      · by_cases c6 : p ≤ 1000000000000
        · rw [rightF_iff.2 ⟨c0, c1, c2, ⟨c3, c4⟩, c5, c6⟩]; exact rfr_7 a c d n p la lc ld c0 c1 c2 c3 c4 c5 c6 w0 w hr
        · rw [no (fun h => c6 (rightF_iff.1 h).2.2.2.2.2)]; exact rfr_6 a c d n p la lc ld c0 c1 c2 c3 c4 c5 c6 w0 w hr
      · rw [no (fun h => c5 (rightF_iff.1 h).2.2.2.2.1)]; exact rfr_5 a c d n p la lc ld c0 c1 c2 c3 c4 c5 w0 w hr
    · rw [no (fun h => c4 (rightF_iff.1 h).2.2.2.1.2)]; exact rfr_4 a c d n p la lc ld c0 c1 c2 c3 c4 w0 w hr
  · rw [no (fun h => c3 (rightF_iff.1 h).2.2.2.1.1)]; exact rfr_3 a c d n p la lc ld c0 c1 c2 c3 w0 w hr
end Go.Proofs.YtkpgplafcoabnaaDoor

namespace Go.Proofs.YtkpgplafcoabnaaDoor
open Go.RowKit Go.Lib
set_option linter.unusedVariables false
set_option linter.unusedSimpArgs false
theorem str_info : (Tryd.prog.info? 9).map (fun i => (i.zero, i.size, i.bytes)) = some (some (.string ⟨#[]⟩), 1, 16) := by kernel_rfl
end Go.Proofs.YtkpgplafcoabnaaDoor
