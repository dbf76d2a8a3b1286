/- Plain mathematics of layer 2, second part: amounts' texts, and what of a text is an amount. No program in this text; Plain mathematics of layer 7: expressions, their texts, sizes and depths. No program in this text; Plain mathematics of layer 9: offers, and prices in rising order. No program in this text; Plain mathematics of layer 9: what strategies tell. No program in this text; What Eval, and Cond, tell, as values; The document's own readings of numbers and amounts (layer 2's), at this seat; The document's own Word, Name and token; The document's own answers of layer 9: the price at a place (rank); which offers may be (Right); The document's own readings of an expression: how many, how deep, which are the same; The document's own Word. -/
import Derived.Test.YtcckemhelockaaaGreatDoorZL
import Derived.Test.YtcckemhelockaaaGreatDoorZ00
import Derived.Test.YtcckemhelockaaaGreatDoorZ01
import Derived.Test.YtcckemhelockaaaGreatDoorZ02
import Derived.Test.YtcckemhelockaaaGreatDoorZ03
import Derived.Test.YtcckemhelockaaaGreatDoorZ36
namespace Go.Proofs.YtcckemhelockaaaGreatDoor
open Go.Lib
set_option linter.unusedVariables false
set_option linter.unusedSimpArgs false
theorem rt_no {a : Int} (h : a < -1000000000000 ∨ 1000000000000 < a) : rt a = false := by simp [rt]; omega
end Go.Proofs.YtcckemhelockaaaGreatDoor

namespace Go.Proofs.YtcckemhelockaaaGreatDoor
open Go.Lib
set_option linter.unusedVariables false
set_option linter.unusedSimpArgs false
theorem sizes_append (a b : List Ex) : sizes (a ++ b) = sizes a + sizes b := by
  induction a with
  | nil => simp [sizes_nil]
  | cons x t ih => rw [List.cons_append, sizes_cons, sizes_cons, ih]; omega
end Go.Proofs.YtcckemhelockaaaGreatDoor

namespace Go.Proofs.YtcckemhelockaaaGreatDoor
open Go.Lib
set_option linter.unusedVariables false
set_option linter.unusedSimpArgs false
theorem mem_ins {a x : Int} {l : List Int} : x ∈ ins a l ↔ x = a ∨ x ∈ l := by
  induction l with
  | nil => simp [ins]
  | cons b t ih =>
    unfold ins
    split
    · simp
    · simp [ih]
      constructor
      · rintro (h | h | h) <;> simp [h]
      · rintro (h | h | h) <;> simp [h]
theorem ins_up {a : Int} {l : List Int} (h : Up l) : Up (ins a l) := by
  induction l with
  | nil => exact ⟨fun b hb => (by cases hb), trivial⟩
  | cons b t ih =>
    unfold ins
    split
    · rename_i hab
      refine ⟨fun c hc => ?_, h⟩
      rcases List.mem_cons.1 hc with rfl | hc
      · exact hab
      · have := h.1 c hc; omega
    · rename_i hab
      refine ⟨fun c hc => ?_, ih h.2⟩
      rcases mem_ins.1 hc with rfl | hc
      · omega
      · exact h.1 c hc
theorem srt_up (l : List Int) : Up (srt l) := by
  induction l with
  | nil => trivial
  | cons a t ih => exact ins_up ih
theorem le_ins (u a : Int) (l : List Int) : le u (ins a l) = (if a ≤ u then 1 else 0) + le u l := by
  induction l with
  | nil => rfl
  | cons b t ih =>
    unfold ins
    split
    · rfl
    · simp only [le, ih]; omega
theorem le_srt (u : Int) (l : List Int) : le u (srt l) = le u l := by
  induction l with
  | nil => rfl
  | cons a t ih => rw [srt, le_ins, ih]; rfl
theorem le_none {u : Int} {l : List Int} (h : ∀ b ∈ l, u < b) : le u l = 0 := by
  induction l with
  | nil => rfl
  | cons a t ih =>
    have := h a (List.mem_cons_self ..)
    rw [le, if_neg (by omega), ih fun b hb => h b (List.mem_cons_of_mem _ hb)]
theorem up_get : ∀ {s : List Int}, Up s → ∀ (n : Nat) (v : Int), s[n]? = some v → ∀ u, v ≤ u ↔ n < le u s := by
  intro s
  induction s with
  | nil => intro _ n v h; simp at h
  | cons a t ih =>
    intro hs n v h u
    cases n with
    | zero =>
      obtain rfl : a = v := by simpa using h
      rw [le]
      by_cases hu : a ≤ u
      · rw [if_pos hu]; omega
      · rw [if_neg hu, le_none fun b hb => by have := hs.1 b hb; omega]; omega
    | succ n =>
      have h' : t[n]? = some v := by simpa using h
      have hv : a ≤ v := hs.1 v (List.mem_of_getElem? h')
      rw [le]
      by_cases hu : a ≤ u
      · rw [if_pos hu]
        have := ih hs.2 n v h' u
        omega
      · rw [if_neg hu, le_none fun b hb => by have := hs.1 b hb; omega]; omega
/-- What stands at place n in rising order: v, just if at most n are below v, and more than n are at most v. -/
theorem srt_at {l : List Int} {n : Nat} {v : Int} (h : (srt l)[n]? = some v) (u : Int) : v ≤ u ↔ n < le u l := by
  rw [up_get (srt_up l) n v h u, le_srt]
theorem srt_is {l : List Int} {n : Nat} {v : Int} (h1 : n < le v l) (h2 : le (v - 1) l ≤ n) (h3 : n < l.length) : (srt l)[n]? = some v := by
  have hl : n < (srt l).length := by rw [srt_len]; exact h3
  have h := List.getElem?_eq_getElem hl
  rw [h]
  have a := (srt_at h v).2 h1
  have b := (srt_at h (v - 1))
  congr 1; omega
theorem le_append (u : Int) (a b : List Int) : le u (a ++ b) = le u a + le u b := by
  induction a with
  | nil => simp [le]
  | cons x t ih => rw [List.cons_append, le, le, ih]; omega
theorem le_len (u : Int) (a : List Int) : le u a ≤ a.length := by
  induction a with
  | nil => simp [le]
  | cons x t ih => rw [le, List.length_cons]; split <;> omega
/-- How many of the first j stand ahead of the one at i: they are lower, or as low and ahead of it. -/
def ah (l : List Int) (v : Int) (i : Nat) : Nat → Nat
  | 0 => 0
  | j + 1 => ah l v i j + (match l[j]? with | some p => if p < v ∨ p = v ∧ j < i then 1 else 0 | none => 0)
theorem le_mono {u v : Int} (h : u ≤ v) (l : List Int) : le u l ≤ le v l := by
  induction l with
  | nil => simp [le]
  | cons a t ih =>
    rw [le, le]
    by_cases h1 : a ≤ u
    · rw [if_pos h1, if_pos (by omega)]; omega
    · rw [if_neg h1]; omega
theorem le_take {l : List Int} {j : Nat} (h : j < l.length) (u : Int) : le u (l.take (j + 1)) = le u (l.take j) + (if l[j] ≤ u then 1 else 0) := by
  rw [List.take_succ_eq_append_getElem h, le_append]; rfl
theorem ah_is (l : List Int) (v : Int) (i : Nat) (hi : i ≤ l.length) : ∀ j, j ≤ l.length → ah l v i j = le (v - 1) (l.take j) + (le v (l.take (min j i)) - le (v - 1) (l.take (min j i))) := by
  intro j
  induction j with
  | zero => intro _; simp [ah, le]
  | succ j ih =>
    intro hj
    have hj' : j < l.length := by omega
    rw [ah, ih (by omega), List.getElem?_eq_getElem hj', le_take hj']
    simp only
    by_cases hji : j < i
    · rw [show min (j + 1) i = j + 1 by omega, show min j i = j by omega, le_take hj', le_take hj']
      have := le_mono (show v - 1 ≤ v by omega) (l.take j)
      by_cases h1 : l[j] < v
      · rw [if_pos (.inl h1), if_pos (by omega), if_pos (by omega)]; omega
      · by_cases h2 : l[j] = v
        · rw [if_pos (.inr ⟨h2, hji⟩), if_neg (by omega), if_pos (by omega)]; omega
        · rw [if_neg (by omega), if_neg (by omega), if_neg (by omega)]; omega
    · rw [show min (j + 1) i = min j i by omega]
      by_cases h1 : l[j] < v
      · rw [if_pos (.inl h1), if_pos (by omega)]; omega
      · rw [if_neg (by omega), if_neg (by omega)]; omega
theorem ah_full {l : List Int} {i : Nat} (hi : i < l.length) : ah l l[i] i l.length = le (l[i] - 1) l + (le l[i] (l.take i) - le (l[i] - 1) (l.take i)) := by
  rw [ah_is l _ i (by omega) _ (Nat.le_refl _), List.take_length, show min l.length i = i by omega]
theorem le_split (l : List Int) (i : Nat) (u : Int) : le u l = le u (l.take i) + le u (l.drop i) := by
  rw [← le_append, List.take_append_drop]
/-- Who has n ahead of him is the one at place n. -/
theorem ah_hit {l : List Int} {i n : Nat} (hi : i < l.length) (h : ah l l[i] i l.length = n) : (srt l)[n]? = some l[i] := by
  rw [ah_full hi] at h
  have m1 := le_mono (show l[i] - 1 ≤ l[i] by omega) (l.take i)
  have m2 := le_mono (show l[i] - 1 ≤ l[i] by omega) (l.drop i)
  have s1 := le_split l i l[i]
  have s2 := le_split l i (l[i] - 1)
  have hd : le l[i] (l.drop i) = 1 + le l[i] (l.drop (i + 1)) ∧ le (l[i] - 1) (l.drop i) = le (l[i] - 1) (l.drop (i + 1)) := by
    rw [List.drop_eq_getElem_cons hi, le, le, if_pos (by omega), if_neg (by omega)]; omega
  have m3 := le_mono (show l[i] - 1 ≤ l[i] by omega) (l.drop (i + 1))
  have hn : n < le l[i] l := by omega
  refine srt_is hn (by omega) (Nat.lt_of_lt_of_le hn (le_len _ _))
theorem eq_at : ∀ (l : List Int) (v : Int) (j : Nat), le (v - 1) l + j < le v l → ∃ i, ∃ h : i < l.length, l[i] = v ∧ le v (l.take i) = le (v - 1) (l.take i) + j := by
  intro l
  induction l with
  | nil => intro v j h; simp [le] at h
  | cons a t ih =>
    intro v j h
    simp only [le] at h
    by_cases h1 : a ≤ v - 1
    · rw [if_pos h1, if_pos (by omega)] at h
      obtain ⟨i, hi, e, hh⟩ := ih v j (by omega)
      exact ⟨i + 1, by simpa using hi, by simpa using e, by simp only [List.take_succ_cons, le]; rw [if_pos (by omega), if_pos (by omega)]; omega⟩
    · by_cases h2 : a = v
      · subst h2
        rw [if_neg h1, if_pos (by omega)] at h
        cases j with
        | zero => exact ⟨0, by simp, rfl, by simp [le]⟩
        | succ j =>
          obtain ⟨i, hi, e, hh⟩ := ih a j (by omega)
          exact ⟨i + 1, by simpa using hi, by simpa using e, by simp only [List.take_succ_cons, le]; rw [if_neg h1, if_pos (by omega)]; omega⟩
      · rw [if_neg h1, if_neg (by omega)] at h
        obtain ⟨i, hi, e, hh⟩ := ih v j (by omega)
        exact ⟨i + 1, by simpa using hi, by simpa using e, by simp only [List.take_succ_cons, le]; rw [if_neg h1, if_neg (by omega)]; omega⟩
/-- If nobody has n ahead of him, there are no more than n. -/
theorem ah_miss {l : List Int} {n : Nat} (h : ∀ i (hi : i < l.length), ah l l[i] i l.length ≠ n) : (srt l)[n]? = none := by
  rw [List.getElem?_eq_none_iff, srt_len]
  refine Decidable.byContradiction fun hc => ?_
  have hn : n < (srt l).length := by rw [srt_len]; omega
  have hv := List.getElem?_eq_getElem hn
  obtain ⟨v, e⟩ : ∃ v, (srt l)[n] = v := ⟨_, rfl⟩
  rw [e] at hv
  have a := (srt_at hv v).1 (by omega)
  have b : le (v - 1) l ≤ n := by have := srt_at hv (v - 1); omega
  obtain ⟨i, hi, e2, hh⟩ := eq_at l v (n - le (v - 1) l) (by omega)
  have := ah_full hi
  rw [e2, hh] at this
  exact h i hi (by rw [e2]; omega)
end Go.Proofs.YtcckemhelockaaaGreatDoor

namespace Go.Proofs.YtcckemhelockaaaGreatDoor
open Go.Lib
set_option linter.unusedVariables false
set_option linter.unusedSimpArgs false
def cdB : Except Int Bool → Bool
  | .ok b => b
  | _ => false
def cdE : Except Int Bool → Int
  | .error e => e
  | _ => 0
theorem cond_err (l : List Of) (d : Nat) (x : Ex) (e : Int) (h : condN l d x = .error e) : e = 10 := by
  unfold condN condF at h
  split at h
  · cases h
  · split at h
    · rename_i e' he; injection h with h; subst h; exact told_err _ _ _ _ he
    · split at h
      · rename_i e' he; injection h with h; subst h; exact told_err _ _ _ _ he
      · cases h
end Go.Proofs.YtcckemhelockaaaGreatDoor

namespace Go.Proofs.YtcckemhelockaaaGreatDoor
open Go.RowKit Go.Lib
set_option linter.unusedVariables false
set_option linter.unusedSimpArgs false
abbrev CV (r : Except Int Bool) : Value := .tuple #[.bool (cdB r), .int .i64 (cdE r)]
end Go.Proofs.YtcckemhelockaaaGreatDoor

namespace Go.Proofs.YtcckemhelockaaaGreatDoor
open Go.RowKit Go.Lib
set_option linter.unusedVariables false
set_option linter.unusedSimpArgs false
set_option maxHeartbeats 400000 in
theorem rdig_any (w0 : World) : ∀ (k : Nat) (n : Int), 0 ≤ n → n.toNat ≤ k → n ≤ 9223372036854775807 → ∀ w, Rel w0 w →
    Calls Tryz.prog 133 #[.int .i64 n] w fun e w' => e = .returned (.string (B (decDigits n.toNat))) ∧ Rel w0 w' := by
  intro k
  induction k with
  | zero =>
    intro n h0 hk h1 w hr
    obtain rfl : n = 0 := by omega
    have hconv : ∀ w : World, (convert 119 9 (.slice (some ⟨w.heap.size, 0, none⟩) 1 1)).run Tryz.prog (w.alloc (.cells #[.int .u8 48] 5)) = .ok (.string (B [dgt 0])) (w.alloc (.cells #[.int .u8 48] 5)) := fun w => byte_string w 0 (by omega) (by omega)
    go_enter Tryz.func133, Tryz.ntmps133
    go_wp2_with (fail)
    go_ret
    exact ⟨ret_str (by rw [dd_last (by omega) (by omega)]; rfl), hr.alloc _⟩
  | succ k ih =>
    intro n h0 hk h1 w hr
    have b1 : 0 ≤ n % 10 := by omega
    have b2 : n % 10 ≤ 9 := by omega
    have hconv := fun w : World => byte_string w (n % 10) b1 b2
    by_cases h : 10 ≤ n
    · have HS := Lib.hid (dd_step h0 h)
      have z1 := dd_size (n / 10) (by omega)
      have z2 : (B [dgt (n % 10)]).size ≤ 1 := Nat.le_refl _
      have z3 : ¬ 9223372036854775807 < (B (decDigits (n / 10).toNat)).size + (B [dgt (n % 10)]).size := by omega
      go_enter Tryz.func133, Tryz.ntmps133
      go_wp2_with ((go_at_call 133; (with_reducible refine (ih (n / 10) (by omega) (by omega) (by omega) _ (hr.alloc _)).mono ?_); rintro e w' ⟨rfl, hr'⟩))
      go_ret
      exact ⟨ret_str (by rw [HS.out, B_append]), hr'⟩
    · have HS := Lib.hid (dd_last h0 h)
      go_enter Tryz.func133, Tryz.ntmps133
      go_wp2_with (fail)
      go_ret
      exact ⟨ret_str (by rw [HS.out]), hr.alloc _⟩
theorem digits_any (n : Int) (h0 : 0 ≤ n) (h1 : n ≤ 9223372036854775807) (w0 w : World) (hr : Rel w0 w) :
    Calls Tryz.prog 133 #[.int .i64 n] w fun e w' => e = .returned (.string (B (decDigits n.toNat))) ∧ Rel w0 w' := rdig_any w0 _ n h0 (Nat.le_refl _) h1 w hr
theorem dash (x : List UInt8) : (⟨#[45]⟩ : ByteArray) ++ B x = B (45 :: x) := B_append [45] x
theorem tx_no {a : Int} (h : rt a = false) : (⟨#[]⟩ : ByteArray) = tx a := by unfold tx txt; rw [h]; rfl
theorem tx_neg (a : Int) (h : a < 0) (h' : -1000000000000 ≤ a) : (⟨#[45]⟩ : ByteArray) ++ tx (-a) = tx a := by
  unfold tx
  rw [dash]
  unfold txt
  rw [rt_yes (a := -a) (by omega) (by omega), rt_yes (a := a) h' (by omega), if_pos rfl, if_pos rfl, if_neg (by omega), if_pos h, show (-a).natAbs = a.natAbs by omega]
theorem tx_size (a : Int) : (tx a).size ≤ 43 := by
  unfold tx txt
  rw [B_size]
  split
  · rename_i h
    have hb := rt_iff.1 h
    have h1 : (pos a.natAbs).length ≤ 22 := by
      unfold pos
      have := nd_le 12 (a.natAbs / 100) (by have e : 10 ^ 12 = 1000000000000 := by decide
                                            omega) (by omega)
      rw [decDigits_one (show a.natAbs / 10 % 10 < 10 by omega), decDigits_one (show a.natAbs % 10 < 10 by omega)]
      simp; omega
    split <;> simp <;> omega
  · simp
set_option maxHeartbeats 400000 in
theorem rtext_pos (a : Int) (h0 : 0 ≤ a) (h1 : a ≤ 1000000000000) (w0 w : World) (hr : Rel w0 w) :
    Calls Tryz.prog 106 #[.int .i64 a] w fun e w' => e = .returned (.string (tx a)) ∧ Rel w0 w' := by
  have z1 := dd_size (a / 100) (by omega)
  have z2 := dd_size (a / 10 % 10) (by omega)
  have z3 := dd_size (a % 10) (by omega)
  have HS := Lib.hid (tx_parts a h0 h1)
  go_enter Tryz.func106, Tryz.ntmps106
  go_wp2_with ((go_at_call 133; (with_reducible refine (digits_any _ (by omega) (by omega) _ _ (by assumption)).mono ?_); rintro e w' ⟨rfl, hr'⟩))
  go_ret
  exact ⟨ret_str HS.out, by assumption⟩
set_option maxHeartbeats 400000 in
theorem rtext_any (a : Int) (h0 : -9223372036854775808 ≤ a) (h1 : a ≤ 9223372036854775807) (w0 w : World) (hr : Rel w0 w) :
    Calls Tryz.prog 106 #[.int .i64 a] w fun e w' => e = .returned (.string (tx a)) ∧ Rel w0 w' := by
  by_cases b1 : a < -1000000000000
  · have HS := Lib.hid (tx_no (a := a) (rt_no (.inl b1)))
    go_enter Tryz.func106, Tryz.ntmps106
    go_wp2_with (fail)
    go_ret
    exact ⟨ret_str HS.out, hr⟩
  · by_cases b2 : 1000000000000 < a
    · have HS := Lib.hid (tx_no (a := a) (rt_no (.inr b2)))
      go_enter Tryz.func106, Tryz.ntmps106
      go_wp2_with (fail)
      go_ret
      exact ⟨ret_str HS.out, hr⟩
    · by_cases hn : 0 ≤ a
      · exact rtext_pos a hn (by omega) w0 w hr
      · have HS := Lib.hid (tx_neg a (by omega) (by omega))
        have z1 := tx_size (-a)
        go_enter Tryz.func106, Tryz.ntmps106
        go_wp2_with ((go_at_call 106; (with_reducible refine (rtext_pos _ (by omega) (by omega) _ _ (by assumption)).mono ?_); rintro e w' ⟨rfl, hr'⟩))
        go_ret
        exact ⟨ret_str HS.out, by assumption⟩
end Go.Proofs.YtcckemhelockaaaGreatDoor

namespace Go.Proofs.YtcckemhelockaaaGreatDoor
open Go.RowKit Go.Lib
set_option linter.unusedVariables false
set_option linter.unusedSimpArgs false
theorem rname_any (s : ByteArray) (hs : s.size ≤ 9223372036854775807) (w0 w : World) (hr : Rel w0 w) :
    Calls Tryz.prog 38 #[.string s] w fun e w' => e = .returned (.bool (isName s.data.toList)) ∧ Rel w0 w' := by
  have := rname_list s.data.toList (by simpa using hs) w0 w hr
  rwa [B_of] at this
end Go.Proofs.YtcckemhelockaaaGreatDoor

namespace Go.Proofs.YtcckemhelockaaaGreatDoor
open Go.RowKit Go.Lib
set_option linter.unusedVariables false
set_option linter.unusedSimpArgs false
theorem price_at (os : List Of) (j : Nat) (hj : j < os.length) : (prices os)[j]? = some os[j].2 := by
  unfold prices; rw [List.getElem?_map, List.getElem?_eq_getElem hj]; rfl
theorem ah_step {os : List Of} {v : Int} {i j : Nat} (hj : j < os.length) {p : Int} (hp : os[j].2 = p) (b : Nat) (h : Hid ((if p < v ∨ p = v ∧ j < i then 1 else 0) = b)) : ah (prices os) v i (j + 1) = ah (prices os) v i j + b := by
  rw [ah, price_at os j hj, hp]
  simp only
  rw [h.out]
theorem ret_ib {a a' : Int} {b b' : Bool} (h : a = a') (h' : b = b') : Ending.returned (.tuple #[.int .i64 a, .bool b]) = .returned (.tuple #[.int .i64 a', .bool b']) := by rw [h, h']
set_option maxRecDepth 100000 in
set_option maxHeartbeats 4000000 in
theorem rrank_any (A : Option Addr) (c : Nat) (os : List Of) (n : Nat) (hn : n ≤ 100) (w0 w : World) (hr : Rel w0 w) (h : OffArg w A c os) :
    Calls Tryz.prog 64 #[.slice A os.length c, .int .i64 (n : Int)] w fun e w' => e = .returned (.tuple #[.int .i64 ((rk os n).getD 0), .bool (rk os n).isSome]) ∧ Rel w0 w' := by
  have HR := Lib.hid hr
  have HS := Lib.hid hr.self
  have HA := Lib.hid h.2.2.2
  have hl : os.length ≤ 9223372036854775807 := by have := h.1; have := h.2.1; unfold maxLen at this; omega
  clear h hr
  go_enter Tryz.func64, Tryz.ntmps64
  go_wp2_with (fail)
  go_loopw [6] (fun i wr => ∃ j : Nat, j ≤ os.length ∧ i = .int .i64 (j : Int) ∧ Hid (∀ k (hk : k < os.length), k < j → ah (prices os) os[k].2 k os.length ≠ n) ∧ Rel w wr) (fun i _ => os.length - (RowKit.intOf i).toNat)
  case atStart => exact ⟨0, by omega, rfl, Lib.hid (fun k _ hk => absurd hk (by omega)), HS.out⟩
  case round =>
    obtain ⟨i, hi, rfl, HN, hRw⟩ := hrel
    have HRw := Lib.hid hRw
    by_cases hlt : i < os.length
    · obtain ⟨g, off, s, v, rfl, c0, c1, ho⟩ := offs_at HA.out hRw i hlt
      have HO := Lib.hid ho
      have HP := Lib.hid (show os[i].2 = v by rw [ho])
      obtain ⟨wo, hwo⟩ : ∃ wo, wo = wr := ⟨_, rfl⟩
      subst hwo
      clear ho c0
      go_wp2_with (fail)
      go_loopw [7, 8] (fun a k wr => ∃ (j m : Nat), j ≤ os.length ∧ m ≤ j ∧ k = .int .i64 (j : Int) ∧ a = .int .i64 (m : Int) ∧ Hid (ah (prices os) v i j = m) ∧ Rel wo wr) (fun _ k _ => os.length - (RowKit.intOf k).toNat)
      case atStart => exact ⟨0, 0, by omega, by omega, rfl, rfl, Lib.hid rfl, HRw.out.self⟩
      case round =>
        obtain ⟨j, m, hj, hm, rfl, rfl, HM, hRi⟩ := hrel
        have HRi := Lib.hid hRi
        by_cases hlt2 : j < os.length
        · obtain ⟨g', off', s', p, e, d0, d1, ho2⟩ := offs_at HA.out (HRw.out.trans hRi) j hlt2
          injection e with e
          injection e with e1 e2
          subst e1
          subst e2
          have c1' := (hRi.2.cell (p := ⟨g, off + i * 2 + 1, none⟩) (blk_of_cell c1)).trans c1
          have HP2 := Lib.hid (show os[j].2 = p by rw [ho2])
          clear ho2 d0 hRi
          have q : p < v ∨ (p = v ∧ j < i) ∨ (p = v ∧ ¬ j < i) ∨ v < p := by omega
          rcases q with q | q | q | q
          · have t1 : decide (p < v) = true := decide_eq_true q
            have HX := Lib.hid (ah_step (v := v) (i := i) hlt2 HP2.out 1 (Lib.hid (if_pos (.inl q))))
            clear q
            go_wp2_with (fail)
            go_quiet (fail)
            go_wp2_with (fail)
            go_roundw
            case rel => exact ⟨j + 1, m + 1, by omega, by omega, by go_num, by go_num, Lib.hid (by rw [HX.out, HM.out]), HRi.out.drewN _⟩
            case measure => simp [RowKit.intOf]; omega
          · have t1 : decide (p < v) = false := decide_eq_false (by omega)
            have t2 : (p == v) = true := by simpa using q.1
            have t3 : decide ((j : Int) < (i : Int)) = true := decide_eq_true (by omega)
            have t4 : j < i := q.2
            have HX := Lib.hid (ah_step (v := v) (i := i) hlt2 HP2.out 1 (Lib.hid (if_pos (.inr q))))
            clear q
            go_wp2_with (fail)
            go_quiet (fail)
            go_wp2_with (fail)
            go_roundw
            case rel => exact ⟨j + 1, m + 1, by omega, by omega, by go_num, by go_num, Lib.hid (by rw [HX.out, HM.out]), HRi.out.drewN _⟩
            case measure => simp [RowKit.intOf]; omega
          · have t1 : decide (p < v) = false := decide_eq_false (by omega)
            have t2 : (p == v) = true := by simpa using q.1
            have t3 : decide ((j : Int) < (i : Int)) = false := decide_eq_false (by omega)
            have t4 : ¬ j < i := q.2
            have HX := Lib.hid (ah_step (v := v) (i := i) hlt2 HP2.out 0 (Lib.hid (if_neg (by omega))))
            clear q
            go_wp2_with (fail)
            go_quiet (fail)
            go_wp2_with (fail)
            go_roundw
            case rel => exact ⟨j + 1, m, by omega, by omega, by go_num, rfl, Lib.hid (by rw [HX.out, HM.out, Nat.add_zero]), HRi.out.drewN _⟩
            case measure => simp [RowKit.intOf]; omega
          · have t1 : decide (p < v) = false := decide_eq_false (by omega)
            have t2 : (p == v) = false := by simp; omega
            have HX := Lib.hid (ah_step (v := v) (i := i) hlt2 HP2.out 0 (Lib.hid (if_neg (by omega))))
            clear q
            go_wp2_with (fail)
            go_quiet (fail)
            go_wp2_with (fail)
            go_roundw
            case rel => exact ⟨j + 1, m, by omega, by omega, by go_num, rfl, Lib.hid (by rw [HX.out, HM.out, Nat.add_zero]), HRi.out.drewN _⟩
            case measure => simp [RowKit.intOf]; omega
        · obtain rfl : j = os.length := by omega
          have c1' := (hRi.2.cell (p := ⟨g, off + i * 2 + 1, none⟩) (blk_of_cell c1)).trans c1
          have hml : (m : Int) ≤ 9223372036854775807 := by omega
          by_cases he : m = n
          · have t1 : ((m : Int) == (n : Int)) = true := by simp [he]
            have HF := Lib.hid (show rk os n = some v by
              have := ah_hit (l := prices os) (i := i) (n := n) (by rw [prices_len]; exact hlt) (by
                have e : (prices os)[i]'(by rw [prices_len]; exact hlt) = v := by unfold prices; rw [List.getElem_map]; exact HP.out
                rw [e, prices_len, HM.out, he])
              have e : (prices os)[i]'(by rw [prices_len]; exact hlt) = v := by unfold prices; rw [List.getElem_map]; exact HP.out
              rw [e] at this; exact this)
            clear he
            go_wp2_with (fail)
            go_ret2
            exact ⟨ret_ib (by rw [HF.out]; rfl) (by rw [HF.out]; rfl), (HR.out.trans HRw.out).trans HRi.out⟩
          · have t1 : ((m : Int) == (n : Int)) = false := by simp; omega
            have HN2 : Hid (∀ k (hk : k < os.length), k < i + 1 → ah (prices os) os[k].2 k os.length ≠ n) := Lib.hid (fun k hk hki => by
              by_cases e : k = i
              · subst e; rw [HP.out, HM.out]; exact he
              · exact HN.out k hk (by omega))
            clear he
            go_wp2_with (fail)
            go_roundw
            case rel => exact ⟨i + 1, by omega, by go_num, HN2, HRw.out.trans HRi.out⟩
            case measure => simp [RowKit.intOf]; omega
    · obtain rfl : i = os.length := by omega
      have HF := Lib.hid (show rk os n = none from ah_miss (fun k hk => by
        have hk' : k < os.length := by rw [prices_len] at hk; exact hk
        have := HN.out k hk' hk'
        have e : (prices os)[k] = os[k].2 := List.getElem_map ..
        rw [e, prices_len]; exact this))
      go_wp2_with (fail)
      go_ret2
      exact ⟨ret_ib (by rw [HF.out]; rfl) (by rw [HF.out]; rfl), HR.out.trans HRw.out⟩
end Go.Proofs.YtcckemhelockaaaGreatDoor

namespace Go.Proofs.YtcckemhelockaaaGreatDoor
open Go.RowKit Go.Lib
set_option linter.unusedVariables false
set_option linter.unusedSimpArgs false
theorem rcond_any (k : Int) (w : World) : Calls Tryz.prog 61 #[.int .i64 k] w fun e w' => e = .returned (.bool (isCond k)) ∧ w = w' := by
  cases h1 : (k == 11) <;> cases h2 : (k == 12)
  all_goals
    have HF := Lib.hid (show isCond k = (_ || _) from rfl)
    rw [h1, h2] at HF
    go_enter Tryz.func61, Tryz.ntmps61
    go_wp2_with (fail)
    go_ret
    exact ⟨ret_bool HF.out.symm, rfl⟩
theorem rmost_any (k : Int) (w : World) : Calls Tryz.prog 104 #[.int .i64 k] w fun e w' => e = .returned (.int .i64 (mostN k)) ∧ w = w' := by
  rcases kinds k with h | ⟨k1, k2, k3, k4, k5, k6, k7, k8, k9, k10, k11, k12, _, ha, _⟩
  · rcases h with rfl | rfl | rfl | rfl | rfl | rfl | rfl | rfl | rfl | rfl | rfl | rfl
    all_goals
      go_enter Tryz.func104, Tryz.ntmps104
      go_wp2_with (fail)
      go_ret
      exact ⟨rfl, rfl⟩
  · have HA := Lib.hid ha
    clear ha
    go_enter Tryz.func104, Tryz.ntmps104
    go_wp2_with (fail)
    go_ret
    exact ⟨ret_int HA.out.symm, rfl⟩
theorem sizes_take (l : List Ex) (j : Nat) (h : j < l.length) : sizes (l.take (j + 1)) = sizes (l.take j) + size l[j] := by
  rw [List.take_succ_eq_append_getElem h, sizes_append, sizes_cons, sizes_nil]; omega
set_option maxRecDepth 100000 in
set_option maxHeartbeats 2000000 in
theorem rsize_any : ∀ (x : Ex) (S : Nat → Prop) (e : El) (w0 w : World), Rel w0 w → ExAt S w e x → size x ≤ 1000000 →
    Calls Tryz.prog 62 #[EV e] w fun r w' => r = .returned (.int .i64 (size x : Int)) ∧ Rel w0 w' := ex_ind fun k n nm l ih S e w0 w hr h hz => by
  obtain ⟨A, c, es, rfl, hk, hn, hm, hl, hrow, hsub⟩ := h.open
  have HRow := Lib.hid hrow
  have HSub := Lib.hid hsub
  have HIH := Lib.hid (fun j hj => ih _ (List.getElem_mem (l := l) (n := j) hj))
  have HR := Lib.hid hr
  rw [size_mk] at hz
  have HZ := Lib.hid (size_mk k n nm l)
  have hll : l.length ≤ 1000000 := by
    have : ∀ l : List Ex, l.length ≤ sizes l := fun l => by
      induction l with
      | nil => simp
      | cons x t ih => rw [sizes_cons, List.length_cons]; have := size_pos x; omega
    have := this l; omega
  have HB := Lib.hid (Bk.new w 38 #[.int .i64 k, .int .i64 n, .string (B nm), .slice A l.length c])
  have HA := Lib.hid (hr.self.alloc (.cells #[.int .i64 k, .int .i64 n, .string (B nm), .slice A l.length c] 38))
  obtain ⟨W, hW⟩ : ∃ W, w.alloc (.cells #[.int .i64 k, .int .i64 n, .string (B nm), .slice A l.length c] 38) = W := ⟨_, rfl⟩
  rw [hW] at HB HA
  have HW := Lib.hid hW
  clear hrow hsub ih h hW
  go_enter Tryz.func62, Tryz.ntmps62
  go_wp2_with (fail)
  rw [HW.out]
  go_loopw [3, 4] (fun n i wr => ∃ j : Nat, j ≤ l.length ∧ i = .int .i64 (j : Int) ∧ Hid (n = .int .i64 ((1 + sizes (l.take j) : Nat) : Int)) ∧ Rel W wr) (fun _ i _ => l.length - (RowKit.intOf i).toNat)
  case atStart => exact ⟨0, by omega, rfl, Lib.hid (by simp [sizes_nil]), (HR.out.trans HA.out).self⟩
  case round =>
    obtain ⟨j, hj, rfl, HN, hRw⟩ := hrel
    have hb := HB.out.rel hRw
    obtain ⟨⟨c0, c1, c2, c3⟩, _⟩ := hb.four
    obtain ⟨q, hq⟩ : ∃ q : Nat, 1 + sizes (l.take j) = q := ⟨_, rfl⟩
    have hn' := HN.out
    rw [hq] at hn'
    subst hn'
    have HQ := Lib.hid hq
    have HRw := Lib.hid hRw
    clear hb hq
    by_cases hlt : j < l.length
    · obtain ⟨g, off, k', n', nm', A', m', c', hA, a0, a1, a2, a3, ha⟩ := ExAt.arg HRow.out HSub.out hl (HA.out.trans hRw) j hlt
      subst hA
      have hsz : size l[j] + q ≤ 1000000 := by
        have e1 := sizes_take l j hlt
        have e2 : sizes (l.take (j + 1)) ≤ sizes l := by
          have : sizes l = sizes (l.take (j + 1)) + sizes (l.drop (j + 1)) := by rw [← sizes_append, List.take_append_drop]
          omega
        have := HQ.out; omega
      obtain ⟨sj, hsj⟩ : ∃ s, size l[j] = s := ⟨_, rfl⟩
      have HNx := Lib.hid (show 1 + sizes (l.take (j + 1)) = q + sj by rw [sizes_take l j hlt, hsj]; have := HQ.out; omega)
      rw [hsj] at hsz
      have HC := Lib.hid (HIH.out j hlt S (k', n', nm', A', m', c') wr wr ((HR.out.trans HA.out).trans hRw).self ha (by rw [hsj]; omega))
      rw [hsj] at HC
      clear ha hsj
      go_wp2_with (go_at_call 62; (with_reducible refine HC.out.mono ?_); rintro e w2 ⟨rfl, h2⟩)
      go_roundw
      case rel => exact ⟨j + 1, by omega, by go_num, Lib.hid (by rw [HNx.out]; go_num), HRw.out.trans h2⟩
      case measure => simp [RowKit.intOf]; omega
    · obtain rfl : j = l.length := by omega
      have HF := Lib.hid (show size (.mk k n nm l) = q by have := HQ.out; rw [List.take_length] at this; rw [size_mk, this])
      go_wp2_with (fail)
      go_ret
      exact ⟨ret_int (by rw [HF.out]), (HR.out.trans HA.out).trans HRw.out⟩
end Go.Proofs.YtcckemhelockaaaGreatDoor

namespace Go.Proofs.YtcckemhelockaaaGreatDoor
open Go.RowKit Go.Lib
set_option linter.unusedVariables false
set_option linter.unusedSimpArgs false
def wordCells7 : Array Value := #[.string ⟨#[]⟩, .string ⟨#[108,111,119,101,115,116]⟩, .string ⟨#[115,101,99,111,110,100]⟩, .string ⟨#[102,114,111,109]⟩, .string ⟨#[]⟩, .string ⟨#[108,101,115,115]⟩, .string ⟨#[99,117,116]⟩, .string ⟨#[109,105,110]⟩, .string ⟨#[109,97,120]⟩, .string ⟨#[101,108,115,101]⟩, .string ⟨#[105,102]⟩, .string ⟨#[109,111,114,101]⟩, .string ⟨#[97,98,111,118,101]⟩]
set_option maxHeartbeats 1000000 in
theorem rword7_any (k : Int) (hk : i64 k) (w0 w : World) (hr : Rel w0 w) :
    Calls Tryz.prog 105 #[.int .i64 k] w fun e w' => e = .returned (.string (B (wordK k))) ∧ Rel w0 w' := by
  have k0 := hk.1
  have k9 := hk.2
  rcases kinds k with h | ⟨k1, k2, k3, k4, k5, k6, k7, k8, k9, k10, k11, k12, _⟩
  · rcases h with rfl | rfl | rfl | rfl | rfl | rfl | rfl | rfl | rfl | rfl | rfl | rfl
    all_goals
      have HR := Lib.hid (hr.alloc (.cells wordCells7 9))
      go_enter Tryz.func105, Tryz.ntmps105
      go_wp2_with (fail)
      go_ret
      exact ⟨rfl, HR.out⟩
  · have HE := Lib.hid (wordK_other ⟨k1, k2, k3, k5, k6, k7, k8, k9, k10, k11, k12⟩)
    have HR := Lib.hid (hr.alloc (.cells wordCells7 9))
    have hw : k < 0 ∨ (¬ k < 0 ∧ 13 ≤ k) ∨ k = 0 := by simp only [beq_eq_false_iff_ne] at *; omega
    clear k1 k2 k3 k4 k5 k6 k7 k8 k9 k10 k11 k12
    rcases hw with h | ⟨h, h2⟩ | rfl
    all_goals
      go_enter Tryz.func105, Tryz.ntmps105
      go_wp2_with (fail)
      go_ret
      exact ⟨ret_str (by rw [HE.out]; rfl), HR.out⟩
end Go.Proofs.YtcckemhelockaaaGreatDoor
