/- A number of a record's text: the document's own reading. -/
import Derived.Test.YtjbbfcomgglhiaaDoorRecBody
namespace Go.Proofs.YtjbbfcomgglhiaaDoor
open Go.RowKit Go.Lib
set_option linter.unusedVariables false
set_option linter.unusedSimpArgs false

/-- A numeral without its sign. -/
def dropN : List UInt8 → List UInt8
  | [] => []
  | c :: t => if c = 45 then t else c :: t
theorem dropN_cons (c : UInt8) (t : List UInt8) : dropN (c :: t) = if c = 45 then t else c :: t := rfl
theorem dropN_no {l : List UInt8} (h : l.head? ≠ some 45) : dropN l = l := by
  cases l with
  | nil => rfl
  | cons c t => exact if_neg (fun e => h (by rw [e]; rfl))
def isNeg (l : List UInt8) : Bool := l.head? == some 45
def nuN (l : List UInt8) : Int := if isNeg l then -val (dropN l) 0 else val (dropN l) 0
theorem itoa_drop (m : Int) : allD (dropN (itoa m)) = true ∧ nuN (itoa m) = m := by
  have hd : ∀ u : Nat, (decDigits u).head? ≠ some 45 := by
    intro u h
    cases e : decDigits u with
    | nil => rw [e] at h; cases h
    | cons c t =>
      rw [e] at h
      have hc : c = 45 := by simpa using h
      exact dd_no45 u t (by rw [e, hc])
  unfold itoa nuN isNeg
  by_cases h : m < 0
  · rw [if_pos h]
    have := dd_all m.natAbs
    rw [dropN_cons, if_pos rfl]
    simp only [List.head?_cons, beq_self_eq_true, if_true]
    exact ⟨this.1, by omega⟩
  · rw [if_neg h]
    have := dd_all m.toNat
    have h45 := hd m.toNat
    rw [dropN_no h45, if_neg (by simpa using h45)]
    exact ⟨this.1, by omega⟩
/-- What the document's number tells of a text: is it one, and which. -/
def nuB (l : List UInt8) : Bool := decide (l.length < 18) && (allD (dropN l) && (itoa (nuN l) == l))
def nuV (l : List UInt8) : Int := if decide (l.length < 18) && allD (dropN l) then nuN l else 0
theorem nuB_yes {l : List UInt8} (h : nuB l = true) : itoa (nuV l) = l ∧ l.length < 18 := by
  unfold nuB at h
  simp only [Bool.and_eq_true, decide_eq_true_eq, beq_iff_eq] at h
  unfold nuV
  rw [decide_eq_true h.1, h.2.1]
  exact ⟨h.2.2, h.1⟩
theorem nuB_itoa {m : Int} (h : (itoa m).length < 18) : nuB (itoa m) = true ∧ nuV (itoa m) = m := by
  obtain ⟨h1, h2⟩ := itoa_drop m
  unfold nuB nuV
  rw [decide_eq_true h, h1, h2]
  simp
theorem nuB_no {l : List UInt8} (h : nuB l = false) (m : Int) (hm : (itoa m).length < 18) : itoa m ≠ l := by
  intro e
  rw [← e, (nuB_itoa hm).1] at h
  cases h
theorem dropN_snoc {l : List UInt8} {j : Nat} (h : j < l.length) (h' : ¬ (j = 0 ∧ l[j] = 45)) : dropN (l.take (j + 1)) = dropN (l.take j) ++ [l[j]] := by
  rw [List.take_succ_eq_append_getElem h]
  cases j with
  | zero =>
    have : l[0] ≠ 45 := fun e => h' ⟨rfl, e⟩
    simp [dropN, this]
  | succ j =>
    cases l with
    | nil => simp at h
    | cons c t =>
      have e1 : (c :: t)[j + 1] = t[j]'(by simpa using h) := rfl
      rw [e1, List.take_succ_cons, List.cons_append, dropN_cons, dropN_cons]
      split <;> rfl
theorem dropN_sign {l : List UInt8} (h : 0 < l.length) (h' : l[0] = 45) : dropN (l.take 1) = [] ∧ dropN (l.take 0) = [] := by
  cases l with
  | nil => simp at h
  | cons c t =>
    have : c = 45 := h'
    subst this
    simp [dropN]
theorem val_snoc (l : List UInt8) (c : UInt8) : val (l ++ [c]) 0 = val l 0 * 10 + ((c.toNat : Int) - 48) := by
  rw [val_append]; rfl
theorem dropN_len (l : List UInt8) : (dropN l).length ≤ l.length := by
  cases l with
  | nil => exact Nat.le_refl _
  | cons c t =>
    show (if c = 45 then t else c :: t).length ≤ _
    split
    · simp
    · exact Nat.le_refl _
theorem val_small {l : List UInt8} (h : allD l = true) (hl : l.length ≤ 17) : 0 ≤ val l 0 ∧ val l 0 ≤ 100000000000000000 := by
  have h1 := val_ge h (n := 0) (by omega)
  have h2 := val_lt h (n := 0) (by omega)
  have h3 : (10 : Int) ^ l.length ≤ 10 ^ 17 := by
    have := Nat.pow_le_pow_right (n := 10) (by omega) hl
    exact_mod_cast this
  have h4 : (10 : Int) ^ 17 = 100000000000000000 := by decide
  omega
theorem allD_part {l : List UInt8} {j : Nat} (h : j < l.length) (h' : ¬ (j = 0 ∧ l[j] = 45)) (hd : isD l[j] = false) : allD (dropN l) = false := by
  have hm : l[j] ∈ dropN l := by
    cases l with
    | nil => simp at h
    | cons c t =>
      show _ ∈ (if c = 45 then t else c :: t)
      split
      · rename_i h45
        cases j with
        | zero => exact absurd ⟨rfl, h45⟩ h'
        | succ j => exact List.getElem_mem (l := t) (by simpa using h)
      · exact List.getElem_mem h
  unfold allD
  rw [List.all_eq_false]
  exact ⟨_, hm, by simp [hd]⟩
/-- A number and a bool together. -/
def IntBool (e : Ending) (n : Int) (b : Bool) : Prop := e = .returned (.tuple #[.int .i64 n, .bool b])
theorem nu_long {s : ByteArray} (h : 18 ≤ s.size) : nuV s.data.toList = 0 ∧ nuB s.data.toList = false := by
  have e : s.data.toList.length = s.size := by simp
  unfold nuV nuB
  rw [decide_eq_false (by omega)]
  exact ⟨rfl, rfl⟩
theorem num_zero : (num 0).size ≤ 17 := by
  unfold num
  rw [B_size, show itoa 0 = decDigits 0 from itoa_nonneg 0, decDigits_one (by omega)]
  simp
theorem num_not {s : ByteArray} (h : 18 ≤ s.size) (n : Int) (hn : (num n).size ≤ 17) : ((num n).toList == s.toList) = false := by
  rw [beq_eq_false_iff_ne]
  intro e
  have := congrArg List.length e
  have h1 : (num n).toList.length = (num n).size := by rw [show (num n).toList = itoa n from B_toList _, num, B_size]
  have h2 : s.toList.length = s.size := by have := B_toList s.data.toList; rw [B_of] at this; rw [this]; simp
  omega
theorem u8_45 {x : UInt8} (h : (x.toNat : Int) = 45) : x = 45 := u8_inj (by rw [show (45 : UInt8).toNat = 45 from rfl]; omega)
theorem list_no {s : ByteArray} (h : ¬ 0 < s.size) : (!s.toList.isEmpty) = false ∧ (s.toList == []) = true := by
  have e := B_toList s.data.toList
  rw [B_of] at e
  rw [e]
  have h' : s.data.toList = [] := List.eq_nil_of_length_eq_zero (by have : s.data.toList.length = s.size := by simp
                                                                    omega)
  rw [h']
  exact ⟨rfl, rfl⟩
theorem list_ne {s : ByteArray} (h : 0 < s.size) : (!s.toList.isEmpty) = true ∧ (s.toList == []) = false := by
  have e := B_toList s.data.toList
  rw [B_of] at e
  rw [e]
  cases h' : s.data.toList with
  | nil =>
    have : s.data.toList.length = s.size := by simp
    rw [h'] at this; simp at this; omega
  | cons => exact ⟨rfl, rfl⟩
set_option maxHeartbeats 1000000 in
theorem rnumber_long (s : ByteArray) (h : 18 ≤ s.size) (hs : s.size ≤ 9223372036854775807) (w0 w : World) (hr : Rel w0 w) :
    Calls Tryd.prog 36 #[.string s] w fun e w' => IntBool e (nuV s.data.toList) (nuB s.data.toList) ∧ Rel w0 w' := by
  have f1 := num_not h 0 num_zero
  have HN := Lib.hid (nu_long h)
  have l0 : 0 < s.size := by omega
  obtain ⟨ne, ne'⟩ := list_ne l0
  have HR := Lib.hid hr
  cases h45 : ((s[0].toNat : Int) == 45)
  all_goals
    go_enter Tryd.func36, Tryd.ntmps36
    go_wp2
    go_loop [4, 5] (fun n i => n = .int .i64 0 ∧ i = .int .i64 0) (fun _ _ => 0)
    case atStart => exact ⟨rfl, rfl⟩
    case round =>
      obtain ⟨rfl, rfl⟩ := hrel
      go_wp2_with (go_at_call 33; (with_reducible refine (rnum_any 0 (by omega) (by omega) _ _ hr).mono ?_); rintro e wn ⟨rfl, hn⟩)
      go_ret2
      exact ⟨by rw [HN.out.1, HN.out.2]; rfl, hn⟩
theorem nu_bad {s : ByteArray} (h : allD (dropN s.data.toList) = false) : nuV s.data.toList = 0 ∧ nuB s.data.toList = false := by
  unfold nuV nuB
  rw [h]
  simp
theorem nu_good {s : ByteArray} (h : s.size < 18) (hd : allD (dropN s.data.toList) = true) : nuV s.data.toList = nuN s.data.toList ∧ nuB s.data.toList = ((num (nuN s.data.toList)).toList == s.toList) := by
  have e : s.data.toList.length = s.size := by simp
  have e2 := B_toList s.data.toList
  rw [B_of] at e2
  unfold nuV nuB num
  rw [decide_eq_true (show s.data.toList.length < 18 by omega), hd, B_toList, e2]
  exact ⟨rfl, rfl⟩
theorem nu_sign (l : List UInt8) (h : 0 < l.length) (h45 : l[0] = 45) : nuN l = -val (dropN l) 0 := by
  cases l with
  | nil => simp at h
  | cons c t =>
    have : c = 45 := h45
    subst this
    rfl
theorem nu_plain (l : List UInt8) (h : ∀ h : 0 < l.length, l[0] ≠ 45) : nuN l = val (dropN l) 0 := by
  unfold nuN isNeg
  cases l with
  | nil => rfl
  | cons c t =>
    have : c ≠ 45 := h (by simp)
    rw [if_neg (by simpa using this)]
set_option maxHeartbeats 2000000 in
theorem rnumber_short (s : ByteArray) (h : s.size < 18) (w0 w : World) (hr : Rel w0 w) :
    Calls Tryd.prog 36 #[.string s] w fun e w' => IntBool e (nuV s.data.toList) (nuB s.data.toList) ∧ Rel w0 w' := by
  have el : s.data.toList.length = s.size := by simp
  have EL := Lib.hid el
  clear el
  go_enter Tryd.func36, Tryd.ntmps36
  go_wp2
  go_loop [4, 5] (fun n i => ∃ (j : Nat) (N : Int), j ≤ s.size ∧ i = .int .i64 j ∧ n = .int .i64 N ∧ 0 ≤ N ∧ N ≤ 100000000000000000 ∧ Hid (N = val (dropN (s.data.toList.take j)) 0 ∧ allD (dropN (s.data.toList.take j)) = true)) (fun _ i => s.size - (intOf i).toNat)
  case atStart => exact ⟨0, 0, by omega, rfl, rfl, by omega, by omega, Lib.hid ⟨rfl, rfl⟩⟩
  case round =>
    obtain ⟨j, N, hj, rfl, rfl, hN0, hN1, HN⟩ := hrel
    by_cases hlt : j < s.size
    · obtain ⟨x, hx⟩ : ∃ x, x = s[j]'hlt := ⟨_, rfl⟩
      have hg : ∀ h, s[j]'h = x := fun h => hx.symm
      have hlt' : j < s.data.toList.length := by rw [EL.out]; exact hlt
      have HX := Lib.hid (show s.data.toList[j] = x from hx.symm)
      clear hx
      by_cases hsg : j = 0 ∧ x = 45
      · obtain ⟨h0, h45⟩ := hsg
        have e1 : ((j : Int) == 0) = true := by rw [beq_iff_eq]; omega
        have e2 : ((x.toNat : Int) == 45) = true := by rw [h45]; rfl
        have HS := Lib.hid (show N = val (dropN (s.data.toList.take (j + 1))) 0 ∧ allD (dropN (s.data.toList.take (j + 1))) = true by
          subst h0
          obtain ⟨d1, d2⟩ := dropN_sign hlt' (HX.out.trans h45)
          rw [HN.out.1, d1, d2]
          exact ⟨rfl, rfl⟩)
        clear h0 h45
        go_wp2_with (fail)
        go_round
        case rel => exact ⟨j + 1, N, by omega, by go_num, rfl, by omega, by omega, HS⟩
        case measure => simp [intOf]; omega
      · have hsg' : ¬ (j = 0 ∧ s.data.toList[j] = 45) := by rw [HX.out]; exact hsg
        have HP := Lib.hid (dropN_snoc hlt' hsg')
        have e45 : j = 0 → ((x.toNat : Int) == 45) = false := by
          intro h0
          rw [beq_eq_false_iff_ne]
          exact fun e => hsg ⟨h0, u8_45 e⟩
        have E45 := Lib.hid e45
        have HBAD := Lib.hid (fun h : isD x = false => nu_bad (allD_part hlt' hsg' (by rw [HX.out]; exact h)))
        clear hsg hsg' e45
        cases e0 : ((j : Int) == 0)
        all_goals
          have e46 : ((j : Int) == 0) = true → ((x.toNat : Int) == 45) = false := fun h => E45.out (by rw [beq_iff_eq] at h; omega)
          first | (have e47 := e46 e0; clear e46) | clear e46
          by_cases b1 : 48 ≤ x.toNat
          · by_cases b2 : x.toNat ≤ 57
            · have hv := Lib.hid (show val (dropN (s.data.toList.take (j + 1))) 0 = 10 * N + ((x.toNat : Int) - 48) by rw [HP.out, val_snoc, HX.out, ← HN.out.1]; omega)
              have hd := Lib.hid (show allD (dropN (s.data.toList.take (j + 1))) = true by
                rw [HP.out, allD_append, HN.out.2, HX.out]
                simp [allD, isD, b1, b2])
              have hz := val_small hd.out (by have := dropN_len (s.data.toList.take (j + 1)); rw [List.length_take] at this; omega)
              rw [hv.out] at hz
              obtain ⟨z0, z1⟩ := hz
              go_wp2_with (fail)
              go_round
              case rel => exact ⟨j + 1, 10 * N + ((x.toNat : Int) - 48), by omega, by go_num, rfl, by omega, by omega, Lib.hid ⟨hv.out.symm, hd.out⟩⟩
              case measure => simp [intOf]; omega
            · have HB := Lib.hid (HBAD.out (by simp [isD]; omega))
              go_wp2_with (fail)
              go_ret2
              exact ⟨by rw [HB.out.1, HB.out.2]; rfl, hr⟩
          · have HB := Lib.hid (HBAD.out (by simp [isD]; omega))
            go_wp2_with (fail)
            go_ret2
            exact ⟨by rw [HB.out.1, HB.out.2]; rfl, hr⟩
    · obtain rfl : j = s.size := by omega
      have ht : s.data.toList.take s.size = s.data.toList := by rw [← EL.out, List.take_length]
      have hn := HN.out
      rw [ht] at hn
      obtain ⟨hn1, hn2⟩ := hn
      have G := Lib.hid (nu_good h hn2)
      have HV := Lib.hid hn1
      clear hn1 hn2 ht HN
      by_cases hz : 0 < s.size
      · obtain ⟨ne, ne'⟩ := list_ne hz
        obtain ⟨x, hx⟩ : ∃ x, x = s[0]'hz := ⟨_, rfl⟩
        have hg : ∀ h, s[0]'h = x := fun h => hx.symm
        have hlt' : 0 < s.data.toList.length := by rw [EL.out]; exact hz
        have HX := Lib.hid (show s.data.toList[0] = x from hx.symm)
        clear hx
        by_cases h45 : x = 45
        · have e2 : ((x.toNat : Int) == 45) = true := by rw [h45]; rfl
          have HS := Lib.hid (show nuN s.data.toList = -N by rw [nu_sign _ hlt' (HX.out.trans h45), ← HV.out])
          clear h45
          go_wp2_with (go_at_call 33; (with_reducible refine (rnum_any (-N) (by omega) (by omega) _ _ hr).mono ?_); rintro e wn ⟨rfl, hn⟩)
          go_ret2
          exact ⟨by rw [G.out.1, G.out.2, HS.out]; rfl, hn⟩
        · have e2 : ((x.toNat : Int) == 45) = false := by
            rw [beq_eq_false_iff_ne]
            exact fun e => h45 (u8_45 e)
          have HS := Lib.hid (show nuN s.data.toList = N by rw [nu_plain _ (fun h => by rw [HX.out]; exact h45), ← HV.out])
          clear h45
          go_wp2_with (go_at_call 33; (with_reducible refine (rnum_any N (by omega) (by omega) _ _ hr).mono ?_); rintro e wn ⟨rfl, hn⟩)
          go_ret2
          exact ⟨by rw [G.out.1, G.out.2, HS.out]; rfl, hn⟩
      · have hs0 := list_no hz
        obtain ⟨ne, ne'⟩ := hs0
        have HS := Lib.hid (show nuN s.data.toList = N by rw [nu_plain _ (fun h => by rw [EL.out] at h; omega), ← HV.out])
        go_wp2_with (go_at_call 33; (with_reducible refine (rnum_any N (by omega) (by omega) _ _ hr).mono ?_); rintro e wn ⟨rfl, hn⟩)
        go_ret2
        exact ⟨by rw [G.out.1, G.out.2, HS.out]; rfl, hn⟩
theorem rnumber_any (s : ByteArray) (hs : s.size ≤ 9223372036854775807) (w0 w : World) (hr : Rel w0 w) :
    Calls Tryd.prog 36 #[.string s] w fun e w' => IntBool e (nuV s.data.toList) (nuB s.data.toList) ∧ Rel w0 w' := by
  by_cases h : 18 ≤ s.size
  · exact rnumber_long s h hs w0 w hr
  · exact rnumber_short s (by omega) w0 w hr
end Go.Proofs.YtjbbfcomgglhiaaDoor
