/- The contracts of numbers' and amounts' texts: the program's, and the document's own. -/
import Derived.Test.YtfpcpmkkeigcmaaDoorDecLeaf
import Derived.Laws.IdiomStrings
namespace Go.Proofs.YtfpcpmkkeigcmaaDoor
open Go.RowKit Go.Lib
set_option linter.unusedVariables false
set_option linter.unusedSimpArgs false

def dgt (d : Int) : UInt8 := UInt8.ofNat (48 + d.toNat)
theorem dd_step {n : Int} (h : 0 ≤ n) (h' : 10 ≤ n) : decDigits n.toNat = decDigits (n / 10).toNat ++ [dgt (n % 10)] := by
  unfold dgt
  rw [decDigits, dif_neg (by omega)]
  congr 2
  · omega
  · congr 2; omega
theorem dd_last {n : Int} (h : 0 ≤ n) (h' : ¬ 10 ≤ n) : decDigits n.toNat = [dgt (n % 10)] := by
  unfold dgt
  rw [decDigits, dif_pos (by omega)]
  congr 2; omega
theorem nd_le (k u : Nat) (h : u < 10 ^ k) (hk : 1 ≤ k) : (decDigits u).length ≤ k := by
  induction k generalizing u with
  | zero => omega
  | succ k ih =>
    rw [decDigits]
    split
    · simp
    · rename_i h10
      have hk' : 1 ≤ k := by
        rcases k with _ | k
        · simp at h; omega
        · omega
      have := ih (u / 10) (by rw [Nat.pow_succ] at h; omega) hk'
      simp
      omega
theorem dd_size (n : Int) (h : n ≤ 9223372036854775807) : (B (decDigits n.toNat)).size ≤ 19 := by
  rw [B_size]
  exact nd_le 19 n.toNat (by have e : 10 ^ 19 = 10000000000000000000 := by decide
                             omega) (by omega)
theorem byte_string (w : World) (d : Int) (h0 : 0 ≤ d) (h1 : d ≤ 9) : (convert 42 9 (.slice (some ⟨w.heap.size, 0, none⟩) 1 1)).run Tryd.prog (w.alloc (.cells #[.int .u8 (48 + d)] 5)) =
    .ok (.string (B [dgt d])) (w.alloc (.cells #[.int .u8 (48 + d)] 5)) := by
  have e : (48 + d : Int) = ((UInt8.ofNat (48 + d.toNat)).toNat : Int) := by rw [of48 (by omega)]; omega
  rw [e]
  exact run_convert_bytes_back (P := Tryd.prog) _ 42 9 5 ⟨w.heap.size, 0, none⟩ 1 [UInt8.ofNat (48 + d.toNat)] Tryd.underlying42 Tryd.underlying5 Tryd.underlying9 (fun j hj => by
    obtain rfl : j = 0 := by simpa using hj
    simp [Addr.add, go_sem])
set_option maxHeartbeats 400000 in
theorem rdig_any (w0 : World) : ∀ (k : Nat) (n : Int), 0 ≤ n → n.toNat ≤ k → n ≤ 9223372036854775807 → ∀ w, Rel w0 w →
    Calls Tryd.prog 22 #[.int .i64 n] w fun e w' => e = .returned (.string (B (decDigits n.toNat))) ∧ Rel w0 w' := by
  intro k
  induction k with
  | zero =>
    intro n h0 hk h1 w hr
    obtain rfl : n = 0 := by omega
    have hconv : ∀ w : World, (convert 42 9 (.slice (some ⟨w.heap.size, 0, none⟩) 1 1)).run Tryd.prog (w.alloc (.cells #[.int .u8 48] 5)) = .ok (.string (B [dgt 0])) (w.alloc (.cells #[.int .u8 48] 5)) := fun w => byte_string w 0 (by omega) (by omega)
    go_enter Tryd.func22, Tryd.ntmps22
    go_wp2_with (fail)
    go_ret
    exact ⟨ret_str (by rw [dd_last (by omega) (by omega)]; rfl), hr.alloc _⟩
  | succ k ih =>
    intro n h0 hk h1 w hr
    have b1 : 0 ≤ n % 10 := by omega
    have b2 : n % 10 ≤ 9 := by omega
    have hconv := fun w : World => byte_string w (n % 10) b1 b2
    by_cases h : 10 ≤ n
    · have HS := Lib.hid (dd_step h0 h)
      have z1 := dd_size (n / 10) (by omega)
      have z2 : (B [dgt (n % 10)]).size ≤ 1 := Nat.le_refl _
      have z3 : ¬ 9223372036854775807 < (B (decDigits (n / 10).toNat)).size + (B [dgt (n % 10)]).size := by omega
      go_enter Tryd.func22, Tryd.ntmps22
      go_wp2_with ((go_at_call 22; (with_reducible refine (ih (n / 10) (by omega) (by omega) (by omega) _ (hr.alloc _)).mono ?_); rintro e w' ⟨rfl, hr'⟩))
      go_ret
      exact ⟨ret_str (by rw [HS.out, B_append]), hr'⟩
    · have HS := Lib.hid (dd_last h0 h)
      go_enter Tryd.func22, Tryd.ntmps22
      go_wp2_with (fail)
      go_ret
      exact ⟨ret_str (by rw [HS.out]), hr.alloc _⟩
theorem digits_any (n : Int) (h0 : 0 ≤ n) (h1 : n ≤ 9223372036854775807) (w0 w : World) (hr : Rel w0 w) :
    Calls Tryd.prog 22 #[.int .i64 n] w fun e w' => e = .returned (.string (B (decDigits n.toNat))) ∧ Rel w0 w' := rdig_any w0 _ n h0 (Nat.le_refl _) h1 w hr

theorem dash (x : List UInt8) : (⟨#[45]⟩ : ByteArray) ++ B x = B (45 :: x) := B_append [45] x
theorem num_neg (n : Int) (h : n < 0) : (⟨#[45]⟩ : ByteArray) ++ B (decDigits (-n).toNat) = num n := by
  unfold num itoa; rw [if_pos h, dash]; congr 3; omega
theorem num_low (n q r : Int) (h : n < -1000000000000000000) (hq : 0 ≤ q) (hr : 0 ≤ r) (hr' : r < 10) (e : n = -(10 * q + r)) : (⟨#[45]⟩ : ByteArray) ++ B (decDigits q.toNat) ++ B (decDigits r.toNat) = num n := by
  rw [dash, B_append, List.cons_append, ← num_neg n (by omega), dash]
  congr 2
  rw [dd_last hr (by omega), dd_step (n := -n) (by omega) (by omega), show r % 10 = -n % 10 by omega, show q = -n / 10 by omega]
set_option maxHeartbeats 400000 in
theorem rnum_any (n : Int) (h0 : -9223372036854775808 ≤ n) (h1 : n ≤ 9223372036854775807) (w0 w : World) (hr : Rel w0 w) :
    Calls Tryd.prog 15 #[.int .i64 n] w fun e w' => e = .returned (.string (num n)) ∧ Rel w0 w' := by
  by_cases hn : 0 ≤ n
  · have HS := Lib.hid (show B (decDigits n.toNat) = num n by unfold num itoa; rw [if_neg (by omega)])
    go_enter Tryd.func15, Tryd.ntmps15
    go_wp2_with ((go_at_call 22; (with_reducible refine (str_at _ (digits_any _ hn h1 _ _ hr) HS).mono ?_); rintro e w' ⟨rfl, hr'⟩))
    go_ret
    exact ⟨rfl, hr'⟩
  · by_cases hb : n < -1000000000000000000
    · have hq := tdt n 10 (by omega)
      have q1 : n.tdiv 10 ≤ 0 := by omega
      have q2 : -922337203685477580 ≤ n.tdiv 10 := by omega
      have q3 : n.tmod 10 ≤ 0 := by omega
      have q4 : -9 ≤ n.tmod 10 := by omega
      have z1 := dd_size (-(n.tdiv 10)) (by omega)
      have z2 := dd_size (-(n.tmod 10)) (by omega)
      have HS := Lib.hid (num_low n (-(n.tdiv 10)) (-(n.tmod 10)) (by omega) (by omega) (by omega) (by omega) (by omega))
      clear hq
      go_enter Tryd.func15, Tryd.ntmps15
      go_wp2_with ((go_at_call 22; (with_reducible refine (digits_any _ (by omega) (by omega) _ _ (by assumption)).mono ?_); rintro e w' ⟨rfl, hr'⟩))
      go_ret
      exact ⟨ret_str HS.out, by assumption⟩
    · have z1 := dd_size (-n) (by omega)
      have HS := Lib.hid (num_neg n (by omega))
      go_enter Tryd.func15, Tryd.ntmps15
      go_wp2_with ((go_at_call 22; (with_reducible refine (digits_any _ (by omega) (by omega) _ _ (by assumption)).mono ?_); rintro e w' ⟨rfl, hr'⟩))
      go_ret
      exact ⟨ret_str HS.out, by assumption⟩

def tx (a : Int) : ByteArray := B (txt a)
theorem num_pos (n : Int) (h : 0 ≤ n) : num n = B (decDigits n.toNat) := by unfold num itoa; rw [if_neg (by omega)]
theorem num_size (n : Int) (h : 0 ≤ n) (h' : n ≤ 9223372036854775807) : (num n).size ≤ 19 := by rw [num_pos n h]; exact dd_size n h'
theorem tx_no {a : Int} (h : rt a = false) : (⟨#[]⟩ : ByteArray) = tx a := by unfold tx txt; rw [h]; rfl
theorem tx_parts (a : Int) (h : 0 ≤ a) (h' : a ≤ 1000000000000) : B (decDigits (a / 100).toNat) ++ (⟨#[46]⟩ : ByteArray) ++ B (decDigits (a / 10 % 10).toNat) ++ B (decDigits (a % 10).toNat) = tx a := by
  have e : (⟨#[46]⟩ : ByteArray) = B [46] := rfl
  rw [e, B_append, B_append, B_append]
  unfold tx txt
  rw [rt_yes (by omega) h', if_pos rfl, if_neg (by omega)]
  unfold pos
  rw [show (a / 100).toNat = a.natAbs / 100 by omega, show (a / 10 % 10).toNat = a.natAbs / 10 % 10 by omega, show (a % 10).toNat = a.natAbs % 10 by omega]
  simp
theorem tx_neg (a : Int) (h : a < 0) (h' : -1000000000000 ≤ a) : (⟨#[45]⟩ : ByteArray) ++ tx (-a) = tx a := by
  unfold tx
  rw [dash]
  unfold txt
  rw [rt_yes (a := -a) (by omega) (by omega), rt_yes (a := a) h' (by omega), if_pos rfl, if_pos rfl, if_neg (by omega), if_pos h, show (-a).natAbs = a.natAbs by omega]
theorem tx_size (a : Int) : (tx a).size ≤ 43 := by
  unfold tx txt
  rw [B_size]
  split
  · rename_i h
    have hb := rt_iff.1 h
    have h1 : (pos a.natAbs).length ≤ 22 := by
      unfold pos
      have := nd_le 12 (a.natAbs / 100) (by have e : 10 ^ 12 = 1000000000000 := by decide
                                            omega) (by omega)
      rw [decDigits_one (show a.natAbs / 10 % 10 < 10 by omega), decDigits_one (show a.natAbs % 10 < 10 by omega)]
      simp; omega
    split <;> simp <;> omega
  · simp
theorem tx_of_num (a : Int) (h : 0 ≤ a) (h' : a ≤ 1000000000000) : (⟨#[]⟩ : ByteArray) ++ num (a / 100) ++ (⟨#[46]⟩ : ByteArray) ++ num (a % 100 / 10) ++ num (a % 10) = tx a := by
  have e : (⟨#[]⟩ : ByteArray) ++ num (a / 100) = num (a / 100) := B_append [] (itoa (a / 100))
  rw [e, num_pos _ (by omega), num_pos _ (by omega), num_pos _ (by omega), ← tx_parts a h h', show a % 100 / 10 = a / 10 % 10 by omega]
theorem tx_of_num' (a : Int) (h : 0 < a) (h' : a ≤ 1000000000000) : (⟨#[45]⟩ : ByteArray) ++ num (a / 100) ++ (⟨#[46]⟩ : ByteArray) ++ num (a % 100 / 10) ++ num (a % 10) = tx (-a) := by
  rw [← tx_neg (-a) (by omega) (by omega), Int.neg_neg, ← tx_of_num a (by omega) h']
  have e : (⟨#[]⟩ : ByteArray) ++ num (a / 100) = num (a / 100) := B_append [] (itoa (a / 100))
  rw [e]
  have f1 : (⟨#[45]⟩ : ByteArray) = B [45] := rfl
  have f2 : (⟨#[46]⟩ : ByteArray) = B [46] := rfl
  rw [f1, f2]
  unfold num
  rw [B_append, B_append, B_append, B_append, B_append, B_append, B_append, B_append]
  simp
set_option maxHeartbeats 400000 in
theorem text_any (a : Int) (h0 : -9223372036854775808 ≤ a) (h1 : a ≤ 9223372036854775807) (w0 w : World) (hr : Rel w0 w) :
    Calls Tryd.prog 12 #[.int .i64 a] w fun e w' => e = .returned (.string (tx a)) ∧ Rel w0 w' := by
  cases ha : rt a
  · have HS := Lib.hid (tx_no ha)
    go_enter Tryd.func12, Tryd.ntmps12
    go_wp2_with ((go_at_call 21; (with_reducible refine (right_any _ _).mono ?_); rintro e w' ⟨rfl, rfl⟩))
    go_ret
    exact ⟨ret_str HS.out, hr⟩
  · obtain ⟨b1, b2⟩ := rt_iff.1 ha
    by_cases hn : a < 0
    · obtain ⟨m, rfl⟩ : ∃ m, a = -m := ⟨-a, by omega⟩
      have m1 : 0 < m := by omega
      have m2 : m ≤ 1000000000000 := by omega
      have z1 := num_size (m / 100) (by omega) (by omega)
      have z2 := num_size (m % 100 / 10) (by omega) (by omega)
      have z3 := num_size (m % 10) (by omega) (by omega)
      have HS := Lib.hid (tx_of_num' m m1 m2)
      go_enter Tryd.func12, Tryd.ntmps12
      go_wp2_with (first | (go_at_call 21; (with_reducible refine (right_any _ _).mono ?_); rintro e w' ⟨rfl, rfl⟩) | (go_at_call 14; (with_reducible refine (num_any _ (by omega) (by omega) _ _ (by assumption)).mono ?_); rintro e w' ⟨rfl, hr'⟩))
      go_ret
      exact ⟨ret_str HS.out, by assumption⟩
    · have z1 := num_size (a / 100) (by omega) (by omega)
      have z2 := num_size (a % 100 / 10) (by omega) (by omega)
      have z3 := num_size (a % 10) (by omega) (by omega)
      have HS := Lib.hid (tx_of_num a (by omega) b2)
      go_enter Tryd.func12, Tryd.ntmps12
      go_wp2_with (first | (go_at_call 21; (with_reducible refine (right_any _ _).mono ?_); rintro e w' ⟨rfl, rfl⟩) | (go_at_call 14; (with_reducible refine (num_any _ (by omega) (by omega) _ _ (by assumption)).mono ?_); rintro e w' ⟨rfl, hr'⟩))
      go_ret
      exact ⟨ret_str HS.out, by assumption⟩
set_option maxHeartbeats 400000 in
theorem rtext_pos (a : Int) (h0 : 0 ≤ a) (h1 : a ≤ 1000000000000) (w0 w : World) (hr : Rel w0 w) :
    Calls Tryd.prog 13 #[.int .i64 a] w fun e w' => e = .returned (.string (tx a)) ∧ Rel w0 w' := by
  have z1 := dd_size (a / 100) (by omega)
  have z2 := dd_size (a / 10 % 10) (by omega)
  have z3 := dd_size (a % 10) (by omega)
  have HS := Lib.hid (tx_parts a h0 h1)
  go_enter Tryd.func13, Tryd.ntmps13
  go_wp2_with ((go_at_call 22; (with_reducible refine (digits_any _ (by omega) (by omega) _ _ (by assumption)).mono ?_); rintro e w' ⟨rfl, hr'⟩))
  go_ret
  exact ⟨ret_str HS.out, by assumption⟩
set_option maxHeartbeats 400000 in
theorem rtext_any (a : Int) (h0 : -9223372036854775808 ≤ a) (h1 : a ≤ 9223372036854775807) (w0 w : World) (hr : Rel w0 w) :
    Calls Tryd.prog 13 #[.int .i64 a] w fun e w' => e = .returned (.string (tx a)) ∧ Rel w0 w' := by
  by_cases b1 : a < -1000000000000
  · have HS := Lib.hid (tx_no (a := a) (rt_no (.inl b1)))
    go_enter Tryd.func13, Tryd.ntmps13
    go_wp2_with (fail)
    go_ret
    exact ⟨ret_str HS.out, hr⟩
  · by_cases b2 : 1000000000000 < a
    · have HS := Lib.hid (tx_no (a := a) (rt_no (.inr b2)))
      go_enter Tryd.func13, Tryd.ntmps13
      go_wp2_with (fail)
      go_ret
      exact ⟨ret_str HS.out, hr⟩
    · by_cases hn : 0 ≤ a
      · exact rtext_pos a hn (by omega) w0 w hr
      · have HS := Lib.hid (tx_neg a (by omega) (by omega))
        have z1 := tx_size (-a)
        go_enter Tryd.func13, Tryd.ntmps13
        go_wp2_with ((go_at_call 13; (with_reducible refine (rtext_pos _ (by omega) (by omega) _ _ (by assumption)).mono ?_); rintro e w' ⟨rfl, hr'⟩))
        go_ret
        exact ⟨ret_str HS.out, by assumption⟩
end Go.Proofs.YtfpcpmkkeigcmaaDoor
