/- The document's own readings of numbers and amounts (layer 2's), at this seat; The document's own Word, Name and token; The document's own readings of an expression: how many, how deep, which are the same. -/
import Derived.Test.YtldopbkjchgcnaaDoorZ00
import Derived.Laws.RangeAny
import Derived.IntWalk
import Derived.Test.YtldopbkjchgcnaaDoorZ01
import Derived.Test.YtldopbkjchgcnaaDoorZ03
namespace Go.Proofs.YtldopbkjchgcnaaDoor
open Go.RowKit Go.Lib
set_option linter.unusedVariables false
set_option linter.unusedSimpArgs false

def num (n : Int) : ByteArray := B (itoa n)
set_option maxHeartbeats 400000 in
theorem rdig_any (w0 : World) : ∀ (k : Nat) (n : Int), 0 ≤ n → n.toNat ≤ k → n ≤ 9223372036854775807 → ∀ w, Rel w0 w →
    Calls Tryd.prog 51 #[.int .i64 n] w fun e w' => e = .returned (.string (B (decDigits n.toNat))) ∧ Rel w0 w' := by
  intro k
  induction k with
  | zero =>
    intro n h0 hk h1 w hr
    obtain rfl : n = 0 := by omega
    have hconv : ∀ w : World, (convert 62 9 (.slice (some ⟨w.heap.size, 0, none⟩) 1 1)).run Tryd.prog (w.alloc (.cells #[.int .u8 48] 5)) = .ok (.string (B [dgt 0])) (w.alloc (.cells #[.int .u8 48] 5)) := fun w => byte_string w 0 (by omega) (by omega)
    go_enter Tryd.func51, Tryd.ntmps51
    go_wp2_with (fail)
    go_ret
    exact ⟨ret_str (by rw [dd_last (by omega) (by omega)]; rfl), hr.alloc _⟩
  | succ k ih =>
    intro n h0 hk h1 w hr
    have b1 : 0 ≤ n % 10 := by omega
    have b2 : n % 10 ≤ 9 := by omega
    have hconv := fun w : World => byte_string w (n % 10) b1 b2
    by_cases h : 10 ≤ n
    · have HS := Lib.hid (dd_step h0 h)
      have z1 := dd_size (n / 10) (by omega)
      have z2 : (B [dgt (n % 10)]).size ≤ 1 := Nat.le_refl _
      have z3 : ¬ 9223372036854775807 < (B (decDigits (n / 10).toNat)).size + (B [dgt (n % 10)]).size := by omega
      go_enter Tryd.func51, Tryd.ntmps51
      go_wp2_with ((go_at_call 51; (with_reducible refine (ih (n / 10) (by omega) (by omega) (by omega) _ (hr.alloc _)).mono ?_); rintro e w' ⟨rfl, hr'⟩))
      go_ret
      exact ⟨ret_str (by rw [HS.out, B_append]), hr'⟩
    · have HS := Lib.hid (dd_last h0 h)
      go_enter Tryd.func51, Tryd.ntmps51
      go_wp2_with (fail)
      go_ret
      exact ⟨ret_str (by rw [HS.out]), hr.alloc _⟩
theorem digits_any (n : Int) (h0 : 0 ≤ n) (h1 : n ≤ 9223372036854775807) (w0 w : World) (hr : Rel w0 w) :
    Calls Tryd.prog 51 #[.int .i64 n] w fun e w' => e = .returned (.string (B (decDigits n.toNat))) ∧ Rel w0 w' := rdig_any w0 _ n h0 (Nat.le_refl _) h1 w hr
theorem dash (x : List UInt8) : (⟨#[45]⟩ : ByteArray) ++ B x = B (45 :: x) := B_append [45] x
theorem num_neg (n : Int) (h : n < 0) : (⟨#[45]⟩ : ByteArray) ++ B (decDigits (-n).toNat) = num n := by
  unfold num itoa; rw [if_pos h, dash]; congr 3; omega
def tx (a : Int) : ByteArray := B (txt a)
theorem num_pos (n : Int) (h : 0 ≤ n) : num n = B (decDigits n.toNat) := by unfold num itoa; rw [if_neg (by omega)]
theorem num_size (n : Int) (h : 0 ≤ n) (h' : n ≤ 9223372036854775807) : (num n).size ≤ 19 := by rw [num_pos n h]; exact dd_size n h'
theorem tx_no {a : Int} (h : rt a = false) : (⟨#[]⟩ : ByteArray) = tx a := by unfold tx txt; rw [h]; rfl
theorem tx_parts (a : Int) (h : 0 ≤ a) (h' : a ≤ 1000000000000) : B (decDigits (a / 100).toNat) ++ (⟨#[46]⟩ : ByteArray) ++ B (decDigits (a / 10 % 10).toNat) ++ B (decDigits (a % 10).toNat) = tx a := by
  have e : (⟨#[46]⟩ : ByteArray) = B [46] := rfl
  rw [e, B_append, B_append, B_append]
  unfold tx txt
  rw [rt_yes (by omega) h', if_pos rfl, if_neg (by omega)]
  unfold pos
  rw [show (a / 100).toNat = a.natAbs / 100 by omega, show (a / 10 % 10).toNat = a.natAbs / 10 % 10 by omega, show (a % 10).toNat = a.natAbs % 10 by omega]
  simp
theorem tx_neg (a : Int) (h : a < 0) (h' : -1000000000000 ≤ a) : (⟨#[45]⟩ : ByteArray) ++ tx (-a) = tx a := by
  unfold tx
  rw [dash]
  unfold txt
  rw [rt_yes (a := -a) (by omega) (by omega), rt_yes (a := a) h' (by omega), if_pos rfl, if_pos rfl, if_neg (by omega), if_pos h, show (-a).natAbs = a.natAbs by omega]
theorem tx_size (a : Int) : (tx a).size ≤ 43 := by
  unfold tx txt
  rw [B_size]
  split
  · rename_i h
    have hb := rt_iff.1 h
    have h1 : (pos a.natAbs).length ≤ 22 := by
      unfold pos
      have := nd_le 12 (a.natAbs / 100) (by have e : 10 ^ 12 = 1000000000000 := by decide
                                            omega) (by omega)
      rw [decDigits_one (show a.natAbs / 10 % 10 < 10 by omega), decDigits_one (show a.natAbs % 10 < 10 by omega)]
      simp; omega
    split <;> simp <;> omega
  · simp
set_option maxHeartbeats 400000 in
theorem rtext_pos (a : Int) (h0 : 0 ≤ a) (h1 : a ≤ 1000000000000) (w0 w : World) (hr : Rel w0 w) :
    Calls Tryd.prog 64 #[.int .i64 a] w fun e w' => e = .returned (.string (tx a)) ∧ Rel w0 w' := by
  have z1 := dd_size (a / 100) (by omega)
  have z2 := dd_size (a / 10 % 10) (by omega)
  have z3 := dd_size (a % 10) (by omega)
  have HS := Lib.hid (tx_parts a h0 h1)
  go_enter Tryd.func64, Tryd.ntmps64
  go_wp2_with ((go_at_call 51; (with_reducible refine (digits_any _ (by omega) (by omega) _ _ (by assumption)).mono ?_); rintro e w' ⟨rfl, hr'⟩))
  go_ret
  exact ⟨ret_str HS.out, by assumption⟩
set_option maxHeartbeats 400000 in
theorem rtext_any (a : Int) (h0 : -9223372036854775808 ≤ a) (h1 : a ≤ 9223372036854775807) (w0 w : World) (hr : Rel w0 w) :
    Calls Tryd.prog 64 #[.int .i64 a] w fun e w' => e = .returned (.string (tx a)) ∧ Rel w0 w' := by
  by_cases b1 : a < -1000000000000
  · have HS := Lib.hid (tx_no (a := a) (rt_no (.inl b1)))
    go_enter Tryd.func64, Tryd.ntmps64
    go_wp2_with (fail)
    go_ret
    exact ⟨ret_str HS.out, hr⟩
  · by_cases b2 : 1000000000000 < a
    · have HS := Lib.hid (tx_no (a := a) (rt_no (.inr b2)))
      go_enter Tryd.func64, Tryd.ntmps64
      go_wp2_with (fail)
      go_ret
      exact ⟨ret_str HS.out, hr⟩
    · by_cases hn : 0 ≤ a
      · exact rtext_pos a hn (by omega) w0 w hr
      · have HS := Lib.hid (tx_neg a (by omega) (by omega))
        have z1 := tx_size (-a)
        go_enter Tryd.func64, Tryd.ntmps64
        go_wp2_with ((go_at_call 64; (with_reducible refine (rtext_pos _ (by omega) (by omega) _ _ (by assumption)).mono ?_); rintro e w' ⟨rfl, hr'⟩))
        go_ret
        exact ⟨ret_str HS.out, by assumption⟩
theorem width_pos (s : ByteArray) (pos : Nat) (h : pos < s.size) : 1 ≤ (Utf8.decode s pos).2 := by
  by_cases ha : (s[pos]'h).toNat < 128
  · rw [decode_ascii s pos h ha]
    exact Nat.le_refl _
  · exact (decode_high s pos h (by omega)).2
theorem drop_step (s : ByteArray) (pos : Nat) (h : pos < s.size) : s.data.toList.drop pos = (s[pos]'h) :: s.data.toList.drop (pos + 1) := by
  rw [List.drop_eq_getElem_cons (by simpa using h)]
  rfl
theorem drop_end (s : ByteArray) (pos : Nat) (h : ¬ pos < s.size) : s.data.toList.drop pos = [] := by
  apply List.drop_eq_nil_of_le
  have : s.data.toList.length = s.size := by simp
  omega
theorem B_zero (c : UInt8) (t : List UInt8) (h : 0 < (B (c :: t)).size) : (B (c :: t))[0]'h = c := rfl
theorem take_snoc (l : List UInt8) (k : Nat) (h : k < l.length) : l.take (k + 1) = l.take k ++ [l[k]] := by
  rw [List.take_succ_eq_append_getElem h]
theorem val_snoc (t : List UInt8) (c : UInt8) : val (t ++ [c]) 0 = val t 0 * 10 + ((c.toNat : Int) - 48) := by rw [val_append]; rfl
theorem allD_snoc (t : List UInt8) (c : UInt8) : allD (t ++ [c]) = (allD t && isD c) := by rw [allD_append]; simp [allD]
theorem allD_take {l : List UInt8} (k : Nat) (h : allD (l.take k) = false) : allD l = false := by
  cases e : allD l
  · rfl
  · unfold allD at e h
    rw [List.all_eq_true] at e
    rw [← Bool.not_eq_true, List.all_eq_true] at h
    exact absurd (fun x hx => e x (List.mem_of_mem_take hx)) h
theorem B_extract (l : List UInt8) (j : Nat) : (B l).extract 0 j = B (l.take j) := by
  apply ByteArray.ext
  simp [B]
theorem B_tail (c : UInt8) (r : List UInt8) : (B (c :: r)).extract 1 (r.length + 1) = B r := by
  apply ByteArray.ext
  simp [B]
theorem rtext_at (x A : Int) (h : x = A) (h0 : -9223372036854775808 ≤ x) (h1 : x ≤ 9223372036854775807) (w0 w : World) (hr : Rel w0 w) :
    Calls Tryd.prog 64 #[.int .i64 x] w fun e w' => e = .returned (.string (tx A)) ∧ Rel w0 w' := by subst h; exact rtext_any x h0 h1 w0 w hr
theorem tx_toList (a : Int) : (tx a).toList = txt a := B_toList _
theorem none1 {l : List UInt8} (h : prs l = none) : 0 = prs1 l := by unfold prs1; rw [h]; rfl
theorem none2 {l : List UInt8} (h : prs l = none) : 20 = prs2 l := by unfold prs2; rw [h]; rfl
theorem some1 {l : List UInt8} {a : Int} (h : prs l = some a) : a = prs1 l := by unfold prs1; rw [h]; rfl
theorem some2 {l : List UInt8} {a : Int} (h : prs l = some a) : 0 = prs2 l := by unfold prs2; rw [h]; rfl
theorem parts_at {t : List UInt8} {m : Nat} (h : t.length = m + 4) (hd : t[m + 1]? = some 46) : ∃ c d, t = t.take (m + 1) ++ [46, c, d] ∧ t[m + 2]? = some c ∧ t[m + 3]? = some d := by
  have := ref_parts (t := t) (by omega) (by rw [h]; exact hd)
  rw [h] at this
  exact this
theorem B_at {t : List UInt8} {k : Nat} {c : UInt8} (h : t[k]? = some c) (hh : k < (B t).size) : (B t)[k]'hh = c := by
  have e : (B t)[k]'hh = t[k]'(by rw [B_size] at hh; exact hh) := rfl
  rw [e]
  rw [List.getElem?_eq_getElem (by rw [B_size] at hh; exact hh)] at h
  exact Option.some.inj h
end Go.Proofs.YtldopbkjchgcnaaDoor

namespace Go.Proofs.YtldopbkjchgcnaaDoor
open Go.RowKit Go.Lib
set_option linter.unusedVariables false
set_option linter.unusedSimpArgs false

theorem isL_yes {c : UInt8} (h : 97 ≤ c.toNat) (h' : c.toNat ≤ 122) : isL c = true := by simp [isL, h, h']
theorem isL_no {c : UInt8} (h : c.toNat < 97 ∨ 122 < c.toNat) : isL c = false := by simp [isL]; omega
theorem isD_yes {c : UInt8} (h : 48 ≤ c.toNat) (h' : c.toNat ≤ 57) : isD c = true := by simp [isD, h, h']
theorem isD_no {c : UInt8} (h : c.toNat < 48 ∨ 57 < c.toNat) : isD c = false := by simp [isD]; omega
theorem rletter_any (c : UInt8) (w : World) : Calls Tryd.prog 53 #[.int .u8 (c.toNat : Int)] w fun e w' => e = .returned (.bool (isL c)) ∧ w = w' := by
  by_cases h1 : 97 ≤ c.toNat <;> by_cases h2 : c.toNat ≤ 122
  all_goals
    go_enter Tryd.func53, Tryd.ntmps53
    go_wp2
    all_goals
      go_ret
      exact ⟨ret_bool (Bool.eq_iff_iff.2 (by simp [isL]; omega)), rfl⟩
theorem rdigit_any (c : UInt8) (w : World) : Calls Tryd.prog 55 #[.int .u8 (c.toNat : Int)] w fun e w' => e = .returned (.bool (isD c)) ∧ w = w' := by
  by_cases h1 : 48 ≤ c.toNat <;> by_cases h2 : c.toNat ≤ 57
  all_goals
    go_enter Tryd.func55, Tryd.ntmps55
    go_wp2
    all_goals
      go_ret
      exact ⟨ret_bool (Bool.eq_iff_iff.2 (by simp [isD]; omega)), rfl⟩
theorem list_of {a b : ByteArray} : (a.toList == b.toList) = true ↔ a = b := by
  rw [beq_iff_eq]
  have e1 := B_toList a.data.toList
  have e2 := B_toList b.data.toList
  rw [B_of] at e1 e2
  rw [e1, e2]
  constructor
  · intro h; rw [← B_of a, h, B_of]
  · intro h; rw [h]
theorem list_ne {a b : ByteArray} (h : a ≠ b) : (a.toList == b.toList) = false := by
  cases e : (a.toList == b.toList)
  · rfl
  · exact absurd (list_of.1 e) h
theorem word_yes {s : ByteArray} {j : Nat} (hj : j < 11) (h : B (theWords.getD j []) = s) : isWord s.data.toList = true := by
  unfold isWord
  rw [List.any_eq_true]
  have hl : theWords.length = 11 := rfl
  refine ⟨theWords.getD j [], ?_, ?_⟩
  · rw [List.getD_eq_getElem?_getD, List.getElem?_eq_getElem (by omega)]; exact List.getElem_mem _
  · rw [← h, B_list]; simp
theorem word_no {s : ByteArray} (h : ∀ j < 11, B (theWords.getD j []) ≠ s) : isWord s.data.toList = false := by
  unfold isWord
  rw [List.any_eq_false]
  intro x hx
  obtain ⟨j, hj, rfl⟩ := List.getElem_of_mem hx
  have hl : theWords.length = 11 := rfl
  intro he
  refine h j (by omega) ?_
  rw [List.getD_eq_getElem?_getD, List.getElem?_eq_getElem hj]
  have he' : theWords[j] = s.data.toList := by simpa using he
  show B theWords[j] = s
  rw [he', B_of]
def wordCells : Array Value := (theWords.map fun l => Value.string (B l)).toArray
theorem word_cell {w : World} {g : Nat} (h : Bk w g 9 wordCells) (j : Nat) (hj : j < 11) : w.cell? ⟨g, j, none⟩ = some (.string (B (theWords.getD j []))) := by
  have hl : theWords.length = 11 := rfl
  rw [h.cell]
  unfold wordCells
  rw [List.getElem?_toArray, List.getElem?_map, List.getElem?_eq_getElem (by omega), List.getD_eq_getElem?_getD, List.getElem?_eq_getElem (by omega)]
  rfl
set_option maxHeartbeats 1000000 in
theorem rword_any (s : ByteArray) (w0 w : World) (hr : Rel w0 w) :
    Calls Tryd.prog 54 #[.string s] w fun e w' => e = .returned (.bool (isWord s.data.toList)) ∧ Rel w0 w' := by
  have HB := Lib.hid (show Bk (w.alloc (.cells wordCells 9)) w.heap.size 9 wordCells from Bk.new w _ _)
  have HR := Lib.hid (hr.alloc (.cells wordCells 9))
  go_enter Tryd.func54, Tryd.ntmps54
  go_wp2_with (fail)
  go_loopw [4] (fun i wr => ∃ j : Nat, j ≤ 11 ∧ i = .int .i64 j ∧ Hid (∀ k < j, B (theWords.getD k []) ≠ s) ∧ Hid (wr = w.alloc (.cells wordCells 9))) (fun i _ => 11 - (intOf i).toNat)
  case atStart => exact ⟨0, by omega, rfl, Lib.hid (fun k hk => absurd hk (by omega)), Lib.hid rfl⟩
  case round =>
    obtain ⟨j, hj, rfl, HN, HW⟩ := hrel
    have hc := HB.out
    rw [← HW.out] at hc
    by_cases hlt : j < 11
    · have c := word_cell hc j hlt
      obtain ⟨X, hX⟩ : ∃ X, B (theWords.getD j []) = X := ⟨_, rfl⟩
      rw [hX] at c
      have HX := Lib.hid hX
      clear hX
      by_cases he : X = s
      · have HY := Lib.hid (word_yes hlt (HX.out.trans he))
        have k1 := list_of.2 he
        clear he hc
        go_wp2_with (fail)
        go_ret
        exact ⟨ret_bool HY.out.symm, by rw [HW.out]; exact HR.out⟩
      · have k1 := list_ne he
        have HN2 : Hid (∀ k < j + 1, B (theWords.getD k []) ≠ s) := Lib.hid (fun k hk => by
          rcases Nat.lt_or_ge k j with h | h
          · exact HN.out k h
          · obtain rfl : k = j := by omega
            rw [HX.out]; exact he)
        clear he hc
        go_wp2_with (fail)
        go_roundw
        case rel => exact ⟨j + 1, by omega, by go_num, HN2, HW⟩
        case measure => simp [intOf]; omega
    · obtain rfl : j = 11 := by omega
      have HY := Lib.hid (word_no HN.out)
      clear hc
      go_wp2_with (fail)
      go_ret
      exact ⟨ret_bool HY.out.symm, by rw [HW.out]; exact HR.out⟩
theorem B_cons_size (c : UInt8) (t : List UInt8) : (B (c :: t)).size = t.length + 1 := by rw [B_size]; rfl
def LD (c : UInt8) : Bool := isL c || isD c
theorem name_eq (c : UInt8) (t : List UInt8) : isName (c :: t) = (decide (t.length + 1 ≤ 12) && isL c && !isWord (c :: t) && (c :: t).all LD) := by
  unfold isName LD; simp
theorem all_bad {l : List UInt8} (j : Nat) (h : j < l.length) (hx : LD l[j] = false) : l.all LD = false := by
  rw [List.all_eq_false]
  exact ⟨l[j], List.getElem_mem h, by simp [hx]⟩
theorem all_more {l : List UInt8} (j : Nat) (h : j < l.length) (ha : (l.take j).all LD = true) (hx : LD l[j] = true) : (l.take (j + 1)).all LD = true := by
  rw [List.take_succ_eq_append_getElem h, List.all_append, ha]; simp [hx]
set_option maxHeartbeats 1000000 in
theorem rname_list (l : List UInt8) (hl : l.length ≤ 9223372036854775807) (w0 w : World) (hr : Rel w0 w) :
    Calls Tryd.prog 37 #[.string (B l)] w fun e w' => e = .returned (.bool (isName l)) ∧ Rel w0 w' := by
  cases l with
  | nil =>
    have HT := B_toList []
    go_enter Tryd.func37, Tryd.ntmps37
    go_wp2_with (fail)
    go_ret
    exact ⟨ret_bool rfl, hr⟩
  | cons c t =>
    have HT := B_toList (c :: t)
    have HB := B_cons_size c t
    have H0 := B_zero c t
    by_cases h12 : t.length + 1 ≤ 12
    · have z : ¬ (12 : Int) < (t.length : Int) + 1 := by omega
      cases hc : isL c
      · have HF := Lib.hid (show isName (c :: t) = false by rw [name_eq, hc]; simp)
        clear hl h12
        go_enter Tryd.func37, Tryd.ntmps37
        go_wp2_with (go_at_call 53; (with_reducible refine (bool_at false (rletter_any c _) (Lib.hid hc)).mono ?_); rintro e w' ⟨rfl, rfl⟩)
        go_ret
        exact ⟨ret_bool HF.out.symm, hr⟩
      · cases hw : isWord (c :: t)
        · have HC := Lib.hid hc
          have HWd := Lib.hid (show isWord (B (c :: t)).data.toList = false by rw [B_list]; exact hw)
          have HW0 := Lib.hid hw
          have HR := Lib.hid hr
          clear hw hc
          go_enter Tryd.func37, Tryd.ntmps37
          go_wp2_with (first
            | (go_at_call 53; (with_reducible refine (bool_at true (rletter_any c _) HC).mono ?_); rintro e w' ⟨rfl, rfl⟩)
            | (go_at_call 54; (with_reducible refine (bool_at false (rword_any _ _ _ hr.self) HWd).mono ?_); rintro e w1 ⟨rfl, h1⟩))
          go_loopw [3] (fun i wr => ∃ j : Nat, j ≤ t.length + 1 ∧ i = .int .i64 j ∧ Hid (((c :: t).take j).all LD = true) ∧ wr = w1) (fun i _ => t.length + 1 - (intOf i).toNat)
          case atStart => exact ⟨0, by omega, rfl, Lib.hid rfl, rfl⟩
          case round =>
            obtain ⟨j, hj, rfl, HA, rfl⟩ := hrel
            by_cases hlt : j < t.length + 1
            · have hlt' : j < (c :: t).length := by simpa using hlt
              obtain ⟨x, hx⟩ : ∃ x, x = (c :: t)[j] := ⟨_, rfl⟩
              have hg : ∀ h, (B (c :: t))[j]'h = x := fun h => by rw [hx]; rfl
              have HX := Lib.hid hx
              clear hx
              cases hL : isL x <;> cases hD : isD x
              · have HF := Lib.hid (show isName (c :: t) = false by rw [name_eq, all_bad j hlt' (by rw [← HX.out]; simp [LD, hL, hD])]; simp)
                have HL := Lib.hid hL
                have HD := Lib.hid hD
                clear hL hD
                go_wp2_with (first
                  | (go_at_call 53; (with_reducible refine (bool_at false (rletter_any x _) HL).mono ?_); rintro e w' ⟨rfl, rfl⟩)
                  | (go_at_call 55; (with_reducible refine (bool_at false (rdigit_any x _) HD).mono ?_); rintro e w' ⟨rfl, rfl⟩))
                go_ret
                exact ⟨ret_bool HF.out.symm, HR.out.trans h1⟩
              all_goals
                have HM := Lib.hid (all_more j hlt' HA.out (by rw [← HX.out]; simp [LD, hL, hD]))
                have HL := Lib.hid hL
                have HD := Lib.hid hD
                clear hL hD
                go_wp2_with (first
                  | (go_at_call 53; (with_reducible refine (bool_at _ (rletter_any x _) HL).mono ?_); rintro e w' ⟨rfl, rfl⟩)
                  | (go_at_call 55; (with_reducible refine (bool_at _ (rdigit_any x _) HD).mono ?_); rintro e w' ⟨rfl, rfl⟩))
                go_roundw
                case rel => exact ⟨j + 1, by omega, by go_num, HM, trivial⟩
                case measure => simp [intOf]; omega
            · obtain rfl : j = t.length + 1 := by omega
              have HY := Lib.hid (show isName (c :: t) = true by
                have ha := HA.out
                rw [List.take_of_length_le (by simp)] at ha
                rw [name_eq, ha, HC.out, HW0.out, decide_eq_true h12]; rfl)
              go_wp2_with (fail)
              go_ret
              exact ⟨ret_bool HY.out.symm, HR.out.trans h1⟩
        · have HC := Lib.hid hc
          have HWd := Lib.hid (show isWord (B (c :: t)).data.toList = true by rw [B_list]; exact hw)
          have HF := Lib.hid (show isName (c :: t) = false by rw [name_eq, hw]; simp)
          clear hw hc
          go_enter Tryd.func37, Tryd.ntmps37
          go_wp2_with (first
            | (go_at_call 53; (with_reducible refine (bool_at true (rletter_any c _) HC).mono ?_); rintro e w' ⟨rfl, rfl⟩)
            | (go_at_call 54; (with_reducible refine (bool_at true (rword_any _ _ _ hr.self) HWd).mono ?_); rintro e w1 ⟨rfl, h1⟩))
          go_ret
          exact ⟨ret_bool HF.out.symm, hr.trans h1⟩
    · have HF := Lib.hid (show isName (c :: t) = false by rw [name_eq, decide_eq_false h12]; simp)
      have z : (12 : Int) < (t.length : Int) + 1 := by omega
      clear h12
      go_enter Tryd.func37, Tryd.ntmps37
      go_wp2_with (fail)
      go_ret
      exact ⟨ret_bool HF.out.symm, hr⟩
theorem rname_any (s : ByteArray) (hs : s.size ≤ 9223372036854775807) (w0 w : World) (hr : Rel w0 w) :
    Calls Tryd.prog 37 #[.string s] w fun e w' => e = .returned (.bool (isName s.data.toList)) ∧ Rel w0 w' := by
  have := rname_list s.data.toList (by simpa using hs) w0 w hr
  rwa [B_of] at this
/-- What a run of parts is told as, at p. -/
def TokPost (l : List UInt8) (p : Int) (e : Ending) : Prop :=
  (∃ k n, tokOf l = some (k, n) ∧ e = .returned (.tuple #[TK (k, l, n, p), .bool true])) ∨ (tokOf l = none ∧ ∃ t, e = .returned (.tuple #[TK t, .bool false]))
theorem tok_word {l : List UInt8} (h : isWord l = true ∨ isName l = true) : tokOf l = some (1, 0) := by
  unfold tokOf; rw [if_pos]; rcases h with h | h <;> simp [h]
theorem tok_count {l : List UInt8} (h : isWord l = false) (h' : isName l = false) (hc : 0 ≤ cnt l 100000) : tokOf l = some (2, cnt l 100000) := by
  unfold tokOf; rw [if_neg (by simp [h, h']), if_pos hc]
theorem tok_money {l : List UInt8} (h : isWord l = false) (h' : isName l = false) (hc : ¬ 0 ≤ cnt l 100000) : tokOf l = (prs l).map fun a => (3, a) := by
  unfold tokOf; rw [if_neg (by simp [h, h']), if_neg hc]; cases prs l <;> rfl
end Go.Proofs.YtldopbkjchgcnaaDoor

namespace Go.Proofs.YtldopbkjchgcnaaDoor
open Go.RowKit Go.Lib
set_option linter.unusedVariables false
set_option linter.unusedSimpArgs false

theorem rcond_any (k : Int) (w : World) : Calls Tryd.prog 45 #[.int .i64 k] w fun e w' => e = .returned (.bool (isCond k)) ∧ w = w' := by
  cases h1 : (k == 11) <;> cases h2 : (k == 12)
  all_goals
    have HF := Lib.hid (show isCond k = (_ || _) from rfl)
    rw [h1, h2] at HF
    go_enter Tryd.func45, Tryd.ntmps45
    go_wp2_with (fail)
    go_ret
    exact ⟨ret_bool HF.out.symm, rfl⟩
theorem rmost_any (k : Int) (w : World) : Calls Tryd.prog 62 #[.int .i64 k] w fun e w' => e = .returned (.int .i64 (mostN k)) ∧ w = w' := by
  rcases kinds k with h | ⟨k1, k2, k3, k4, k5, k6, k7, k8, k9, k10, k11, k12, _, ha, _⟩
  · rcases h with rfl | rfl | rfl | rfl | rfl | rfl | rfl | rfl | rfl | rfl | rfl | rfl
    all_goals
      go_enter Tryd.func62, Tryd.ntmps62
      go_wp2_with (fail)
      go_ret
      exact ⟨rfl, rfl⟩
  · have HA := Lib.hid ha
    clear ha
    go_enter Tryd.func62, Tryd.ntmps62
    go_wp2_with (fail)
    go_ret
    exact ⟨ret_int HA.out.symm, rfl⟩
theorem sizes_take (l : List Ex) (j : Nat) (h : j < l.length) : sizes (l.take (j + 1)) = sizes (l.take j) + size l[j] := by
  rw [List.take_succ_eq_append_getElem h, sizes_append, sizes_cons, sizes_nil]; omega
theorem deeps_take (l : List Ex) (j : Nat) (h : j < l.length) : deeps (l.take (j + 1)) = max (deeps (l.take j)) (deep l[j]) := by
  rw [List.take_succ_eq_append_getElem h, deeps_append, deeps_cons, deeps_nil]; omega
/-- An argument, in the world of a round. -/
theorem ExAt.arg {S : Nat → Prop} {w wr : World} {A : Option Addr} {es : List El} {l : List Ex} (hrow : RowE S w A es) (hsub : ∀ i (h : i < es.length) (h' : i < l.length), ExAt S w es[i] l[i]) (hl : es.length = l.length) (hr : Rel w wr) (j : Nat) (hj : j < l.length) :
    ∃ (g off : Nat) (k n : Int) (nm : List UInt8) (A' : Option Addr) (m c : Nat), A = some ⟨g, off, none⟩ ∧ wr.cell? ⟨g, off + j * 4, none⟩ = some (.int .i64 k) ∧ wr.cell? ⟨g, off + j * 4 + 1, none⟩ = some (.int .i64 n) ∧ wr.cell? ⟨g, off + j * 4 + 2, none⟩ = some (.string (B nm)) ∧ wr.cell? ⟨g, off + j * 4 + 3, none⟩ = some (.slice A' m c) ∧ ExAt S wr (k, n, nm, A', m, c) l[j] := by
  obtain ⟨g, off, e, hl2, _, h0, h1, h2, h3⟩ := hrow j (by omega)
  have hs := (hsub j (by omega) hj).rel hr
  generalize es[j] = e0 at *
  obtain ⟨k, n, nm, A', m, c⟩ := e0
  have hk : ∀ i, wr.cell? ⟨g, i, none⟩ = w.cell? ⟨g, i, none⟩ := fun i => hr.2.cell (p := ⟨g, i, none⟩) hl2
  exact ⟨g, off, k, n, nm, A', m, c, e, by rw [hk]; exact h0, by rw [hk]; exact h1, by rw [hk]; exact h2, by rw [hk]; exact h3, hs⟩
theorem fine_arg {l : List Ex} {P : Ex → Prop} (h : ∀ x ∈ l, P x) (j : Nat) (hj : j < l.length) : P l[j] := h _ (List.getElem_mem hj)
set_option maxRecDepth 100000 in
set_option maxHeartbeats 2000000 in
theorem rsize_any : ∀ (x : Ex) (S : Nat → Prop) (e : El) (w0 w : World), Rel w0 w → ExAt S w e x → size x ≤ 1000000 →
    Calls Tryd.prog 46 #[EV e] w fun r w' => r = .returned (.int .i64 (size x : Int)) ∧ Rel w0 w' := ex_ind fun k n nm l ih S e w0 w hr h hz => by
  obtain ⟨A, c, es, rfl, hk, hn, hm, hl, hrow, hsub⟩ := h.open
  have HRow := Lib.hid hrow
  have HSub := Lib.hid hsub
  have HIH := Lib.hid (fun j hj => ih _ (List.getElem_mem (l := l) (n := j) hj))
  have HR := Lib.hid hr
  rw [size_mk] at hz
  have HZ := Lib.hid (size_mk k n nm l)
  have hll : l.length ≤ 1000000 := by
    have : ∀ l : List Ex, l.length ≤ sizes l := fun l => by
      induction l with
      | nil => simp
      | cons x t ih => rw [sizes_cons, List.length_cons]; have := size_pos x; omega
    have := this l; omega
  have HB := Lib.hid (Bk.new w 27 #[.int .i64 k, .int .i64 n, .string (B nm), .slice A l.length c])
  have HA := Lib.hid (hr.self.alloc (.cells #[.int .i64 k, .int .i64 n, .string (B nm), .slice A l.length c] 27))
  obtain ⟨W, hW⟩ : ∃ W, w.alloc (.cells #[.int .i64 k, .int .i64 n, .string (B nm), .slice A l.length c] 27) = W := ⟨_, rfl⟩
  rw [hW] at HB HA
  have HW := Lib.hid hW
  clear hrow hsub ih h hW
  go_enter Tryd.func46, Tryd.ntmps46
  go_wp2_with (fail)
  rw [HW.out]
  go_loopw [3, 4] (fun n i wr => ∃ j : Nat, j ≤ l.length ∧ i = .int .i64 (j : Int) ∧ Hid (n = .int .i64 ((1 + sizes (l.take j) : Nat) : Int)) ∧ Rel W wr) (fun _ i _ => l.length - (RowKit.intOf i).toNat)
  case atStart => exact ⟨0, by omega, rfl, Lib.hid (by simp [sizes_nil]), (HR.out.trans HA.out).self⟩
  case round =>
    obtain ⟨j, hj, rfl, HN, hRw⟩ := hrel
    have hb := HB.out.rel hRw
    obtain ⟨⟨c0, c1, c2, c3⟩, _⟩ := hb.four
    obtain ⟨q, hq⟩ : ∃ q : Nat, 1 + sizes (l.take j) = q := ⟨_, rfl⟩
    have hn' := HN.out
    rw [hq] at hn'
    subst hn'
    have HQ := Lib.hid hq
    have HRw := Lib.hid hRw
    clear hb hq
    by_cases hlt : j < l.length
    · obtain ⟨g, off, k', n', nm', A', m', c', hA, a0, a1, a2, a3, ha⟩ := ExAt.arg HRow.out HSub.out hl (HA.out.trans hRw) j hlt
      subst hA
      have hsz : size l[j] + q ≤ 1000000 := by
        have e1 := sizes_take l j hlt
        have e2 : sizes (l.take (j + 1)) ≤ sizes l := by
          have : sizes l = sizes (l.take (j + 1)) + sizes (l.drop (j + 1)) := by rw [← sizes_append, List.take_append_drop]
          omega
        have := HQ.out; omega
      obtain ⟨sj, hsj⟩ : ∃ s, size l[j] = s := ⟨_, rfl⟩
      have HNx := Lib.hid (show 1 + sizes (l.take (j + 1)) = q + sj by rw [sizes_take l j hlt, hsj]; have := HQ.out; omega)
      rw [hsj] at hsz
      have HC := Lib.hid (HIH.out j hlt S (k', n', nm', A', m', c') wr wr ((HR.out.trans HA.out).trans hRw).self ha (by rw [hsj]; omega))
      rw [hsj] at HC
      clear ha hsj
      go_wp2_with (go_at_call 46; (with_reducible refine HC.out.mono ?_); rintro e w2 ⟨rfl, h2⟩)
      go_roundw
      case rel => exact ⟨j + 1, by omega, by go_num, Lib.hid (by rw [HNx.out]; go_num), HRw.out.trans h2⟩
      case measure => simp [RowKit.intOf]; omega
    · obtain rfl : j = l.length := by omega
      have HF := Lib.hid (show size (.mk k n nm l) = q by have := HQ.out; rw [List.take_length] at this; rw [size_mk, this])
      go_wp2_with (fail)
      go_ret
      exact ⟨ret_int (by rw [HF.out]), (HR.out.trans HA.out).trans HRw.out⟩
end Go.Proofs.YtldopbkjchgcnaaDoor
