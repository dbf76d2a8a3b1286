/- The landed package feed: a line's fields as texts. -/
import Derived.Test.YtkpgplafcoabnaaDoorZL
import Derived.Test.YtkpgplafcoabnaaDoorZ00
import Derived.Test.YtkpgplafcoabnaaDoorZ01
import Derived.Test.YtkpgplafcoabnaaDoorZ02
import Derived.Test.YtkpgplafcoabnaaDoorZ03
import Derived.Test.YtkpgplafcoabnaaDoorZ04
import Derived.Test.YtkpgplafcoabnaaDoorZ05
namespace Go.Proofs.YtkpgplafcoabnaaDoor
open Go.RowKit Go.Lib
set_option linter.unusedVariables false
set_option linter.unusedSimpArgs false
theorem lnum_any (n : Int) (h0 : -9223372036854775808 ≤ n) (h1 : n ≤ 9223372036854775807) (w0 w : World) (hr : Rel w0 w) :
    Calls Tryd.prog 51 #[.int .i64 n] w fun e w' => e = .returned (.string (num n)) ∧ Rel w0 w' := by
  have hT : Lib.TabIs Tryd.prog w "internal/strconv.uint64pow10" .u64 Lib.pow10Tab := hr.tab
  go_enter Tryd.func51, Tryd.ntmps51
  go_wp2_with (go_at_call 65; refine (Tryd.strconv_Itoa n h0 h1 w hT).mono ?_; rintro e w' ⟨rfl, k, os, rfl⟩)
  go_ret
  exact ⟨rfl, (hr.drewN k).grow os⟩
theorem ltx_of_num (a : Int) (h : 0 ≤ a) (h' : a ≤ 1000000000000) : (⟨#[]⟩ : ByteArray) ++ num (a / 100) ++ (⟨#[46]⟩ : ByteArray) ++ num (a % 100 / 10) ++ num (a % 10) = tx a := by
  have e : (⟨#[]⟩ : ByteArray) ++ num (a / 100) = num (a / 100) := B_append [] (itoa (a / 100))
  rw [e, num_pos _ (by omega), num_pos _ (by omega), num_pos _ (by omega), ← tx_parts a h h', show a % 100 / 10 = a / 10 % 10 by omega]
set_option maxHeartbeats 400000 in
theorem ltext_as (a : Int) (S : ByteArray) (hS : Hid (B (txt a) = S)) (h0 : 0 ≤ a) (h1 : a ≤ 1000000000000) (w0 w : World) (hr : Rel w0 w) :
    Calls Tryd.prog 52 #[.int .i64 a] w fun e w' => e = .returned (.string S) ∧ Rel w0 w' := by
  have ha : rt a = true := rt_iff.2 ⟨by omega, by omega⟩
  have z1 := num_size (a / 100) (by omega) (by omega)
  have z2 := num_size (a % 100 / 10) (by omega) (by omega)
  have z3 := num_size (a % 10) (by omega) (by omega)
  have hn : ¬ a < 0 := by omega
  have HS := Lib.hid ((ltx_of_num a h0 h1).trans hS.out)
  go_enter Tryd.func52, Tryd.ntmps52
  go_wp2_with (first | (go_at_call 59; (with_reducible refine (right_any _ _).mono ?_); rintro e w' ⟨rfl, rfl⟩) | (go_at_call 51; (with_reducible refine (lnum_any _ (by omega) (by omega) _ _ (by assumption)).mono ?_); rintro e w' ⟨rfl, hr'⟩))
  go_ret
  exact ⟨ret_str HS.out, by assumption⟩
theorem fname_any (l : List UInt8) (hl : l.length ≤ 9223372036854775807) (w0 w : World) (hr : Rel w0 w) :
    Calls Tryd.prog 36 #[.string (B l)] w fun r w' => r = .returned (.string (B (nmT l))) ∧ Rel w0 w' := by
  have HN := Lib.hid (lname_list l hl w0 w hr)
  unfold nmT
  cases hn : isName l with
  | true =>
    rw [hn] at HN
    clear hn hr
    go_enter Tryd.func36, Tryd.ntmps36
    go_wp2_with (go_at_call 50; (with_reducible refine HN.out.mono ?_); rintro e w1 ⟨rfl, h1⟩)
    go_ret
    exact ⟨rfl, h1⟩
  | false =>
    rw [hn] at HN
    clear hn hr
    go_enter Tryd.func36, Tryd.ntmps36
    go_wp2_with (go_at_call 50; (with_reducible refine HN.out.mono ?_); rintro e w1 ⟨rfl, h1⟩)
    go_ret
    exact ⟨rfl, h1⟩
set_option maxRecDepth 100000 in
set_option maxHeartbeats 4000000 in
theorem fseq_any (n : Int) (h0 : -9223372036854775808 ≤ n) (h1 : n ≤ 9223372036854775807) (w0 w : World) (hr : Rel w0 w) :
    Calls Tryd.prog 37 #[.int .i64 n] w fun r w' => r = .returned (.string (B (sqT n))) ∧ Rel w0 w' := by
  have HN := Lib.hid (lnum_any n h0 h1 w0 w hr)
  have HR := Lib.hid hr
  unfold sqT
  clear hr
  by_cases h : 1 ≤ n
  · by_cases h' : n ≤ 1000000000000
    · rw [if_pos ⟨h, h'⟩]
      go_enter Tryd.func37, Tryd.ntmps37
      go_wp2_with (go_at_call 51; (with_reducible refine HN.out.mono ?_); rintro e w1 ⟨rfl, h1⟩)
      go_ret
      exact ⟨rfl, by assumption⟩
    · rw [if_neg (fun e => h' e.2)]
      have h2 : 1000000000000 < n := by omega
      have h3 : decide (1000000000000 < n) = true := decide_eq_true h2
      go_enter Tryd.func37, Tryd.ntmps37
      go_wp2_with (fail)
      go_ret
      exact ⟨rfl, HR.out⟩
  · rw [if_neg (fun e => h e.1)]
    have h2 : n < 1 := by omega
    have h3 : decide (n < 1) = true := decide_eq_true h2
    go_enter Tryd.func37, Tryd.ntmps37
    go_wp2_with (fail)
    go_ret
    exact ⟨rfl, HR.out⟩
set_option maxRecDepth 100000 in
set_option maxHeartbeats 4000000 in
theorem fprice_any (n : Int) (w0 w : World) (hr : Rel w0 w) :
    Calls Tryd.prog 38 #[.int .i64 n] w fun r w' => r = .returned (.string (B (prT n))) ∧ Rel w0 w' := by
  have HR := Lib.hid hr
  unfold prT
  by_cases h : 0 ≤ n
  · by_cases h' : n ≤ 1000000000000
    · rw [if_pos ⟨h, h'⟩]
      unfold priceT
      by_cases hp : 0 < n
      · rw [if_pos hp]
        obtain ⟨S, hS⟩ : ∃ S, B (txt n) = S := ⟨_, rfl⟩
        have HT := Lib.hid (ltext_as n S (Lib.hid hS) h h' w0 w hr)
        have HS := Lib.hid hS
        have hb : (n == 0) = false := by simp; omega
        clear hr hS
        go_enter Tryd.func38, Tryd.ntmps38
        go_wp2_with (go_at_call 52; (with_reducible refine HT.out.mono ?_); rintro e w1 ⟨rfl, h1⟩)
        go_ret
        exact ⟨ret_str HS.out.symm, by assumption⟩
      · rw [if_neg hp]
        obtain rfl : n = 0 := by omega
        clear hr
        go_enter Tryd.func38, Tryd.ntmps38
        go_wp2_with (fail)
        go_ret
        exact ⟨rfl, HR.out⟩
    · rw [if_neg (fun e => h' e.2)]
      have h2 : 1000000000000 < n := by omega
      have h3 : decide (1000000000000 < n) = true := decide_eq_true h2
      clear hr
      go_enter Tryd.func38, Tryd.ntmps38
      go_wp2_with (fail)
      go_ret
      exact ⟨rfl, HR.out⟩
  · rw [if_neg (fun e => h e.1)]
    have h2 : n < 0 := by omega
    have h3 : decide (n < 0) = true := decide_eq_true h2
    clear hr
    go_enter Tryd.func38, Tryd.ntmps38
    go_wp2_with (fail)
    go_ret
    exact ⟨rfl, HR.out⟩
/-- Behind a call's boxes: its argument's, and five cells of what it tells. -/
def SF (w w' : World) (t1 : TypeId) (xs : Array Value) (t2 : TypeId) : Prop := Rel w w' ∧ Bk w' w.heap.size t1 xs ∧ ∃ a b c d e, Bk w' (w.heap.size + 1) t2 #[a, b, c, d, e]
theorem SF.rel {w w' w2 : World} {t1 t2 : TypeId} {xs : Array Value} (h : SF w w' t1 xs t2) (hr : Rel w' w2) : SF w w2 t1 xs t2 := by
  obtain ⟨h1, h2, a, b, c, d, e, h3⟩ := h
  exact ⟨h1.trans hr, h2.rel hr, a, b, c, d, e, h3.rel hr⟩
theorem SF.self {w w' : World} {t1 t2 : TypeId} {xs : Array Value} (h : SF w w' t1 xs t2) : Rel w' w' := h.1.self
theorem SF.drew {w w' : World} {t1 t2 : TypeId} {xs : Array Value} (h : SF w w' t1 xs t2) : SF w w'.drew t1 xs t2 := h.rel h.self.drew
theorem SF.new {w : World} (hr : Rel w w) (t1 t2 : TypeId) (xs : Array Value) (a b c d e : Value) : SF w ((w.alloc (.cells xs t1)).alloc (.cells #[a, b, c, d, e] t2)) t1 xs t2 :=
  ⟨(hr.alloc _).alloc _, (Bk.new w t1 xs).alloc _, a, b, c, d, e, by have := Bk.new (w.alloc (.cells xs t1)) t2 #[a, b, c, d, e]; rw [World.size_alloc] at this; exact this⟩
theorem SF.put {w w' : World} {t1 t2 : TypeId} {xs : Array Value} (h : SF w w' t1 xs t2) (a b c d e : Value) : SF w (((((w'.setCell ⟨w.heap.size + 1, 0, none⟩ a).setCell ⟨w.heap.size + 1, 1, none⟩ b).setCell ⟨w.heap.size + 1, 2, none⟩ c).setCell ⟨w.heap.size + 1, 3, none⟩ d).setCell ⟨w.heap.size + 1, 4, none⟩ e) t1 xs t2 := by
  obtain ⟨h1, h2, x0, x1, x2, x3, x4, h3⟩ := h
  have ne : w.heap.size ≠ w.heap.size + 1 := by omega
  exact ⟨h1.put5 (Nat.le_succ _) a b c d e, ((((h2.far (p := ⟨w.heap.size + 1, 0, none⟩) ne a).far (p := ⟨w.heap.size + 1, 1, none⟩) ne b).far (p := ⟨w.heap.size + 1, 2, none⟩) ne c).far (p := ⟨w.heap.size + 1, 3, none⟩) ne d).far (p := ⟨w.heap.size + 1, 4, none⟩) ne e, a, b, c, d, e, h3.put5 a b c d e⟩
abbrev WV (f : Fd) : Value := .agg #[.string (B (nmT f.1)), .string (B (sqT f.2.1)), .string (B (nmT f.2.2.1)), .string (B (nmT f.2.2.2.1)), .string (B (prT f.2.2.2.2))]
set_option maxRecDepth 100000 in
set_option maxHeartbeats 4000000 in
theorem fwritten_any (f : Fd) (hf : FdFit f) (w0 w : World) (hr : Rel w0 w) :
    Calls Tryd.prog 20 #[FV f] w fun r w' => r = .returned (WV f) ∧ Rel w0 w' := by
  obtain ⟨a, n, c, d, p⟩ := f
  obtain ⟨la, ln, lc, ld, lp⟩ := hf
  obtain ⟨x0, hx0⟩ : ∃ x, B (nmT a) = x := ⟨_, rfl⟩
  obtain ⟨x1, hx1⟩ : ∃ x, B (sqT n) = x := ⟨_, rfl⟩
  obtain ⟨x2, hx2⟩ : ∃ x, B (nmT c) = x := ⟨_, rfl⟩
  obtain ⟨x3, hx3⟩ : ∃ x, B (nmT d) = x := ⟨_, rfl⟩
  obtain ⟨x4, hx4⟩ : ∃ x, B (prT p) = x := ⟨_, rfl⟩
  have HN0 := Lib.hid (show ∀ w1 : World, Rel w1 w1 → Calls Tryd.prog 36 #[.string (B a)] w1 fun r w' => r = .returned (.string x0) ∧ Rel w1 w' from fun w1 h => by rw [← hx0]; exact fname_any a la w1 w1 h)
  have HN1 := Lib.hid (show ∀ w1 : World, Rel w1 w1 → Calls Tryd.prog 37 #[.int .i64 n] w1 fun r w' => r = .returned (.string x1) ∧ Rel w1 w' from fun w1 h => by rw [← hx1]; exact fseq_any n ln.1 ln.2 w1 w1 h)
  have HN2 := Lib.hid (show ∀ w1 : World, Rel w1 w1 → Calls Tryd.prog 36 #[.string (B c)] w1 fun r w' => r = .returned (.string x2) ∧ Rel w1 w' from fun w1 h => by rw [← hx2]; exact fname_any c lc w1 w1 h)
  have HN3 := Lib.hid (show ∀ w1 : World, Rel w1 w1 → Calls Tryd.prog 36 #[.string (B d)] w1 fun r w' => r = .returned (.string x3) ∧ Rel w1 w' from fun w1 h => by rw [← hx3]; exact fname_any d ld w1 w1 h)
  have HN4 := Lib.hid (show ∀ w1 : World, Rel w1 w1 → Calls Tryd.prog 38 #[.int .i64 p] w1 fun r w' => r = .returned (.string x4) ∧ Rel w1 w' from fun w1 h => by rw [← hx4]; exact fprice_any p w1 w1 h)
  have X0 := Lib.hid hx0
  have X1 := Lib.hid hx1
  have X2 := Lib.hid hx2
  have X3 := Lib.hid hx3
  have X4 := Lib.hid hx4
  have HR := Lib.hid hr
  have HS := Lib.hid (SF.new hr.self 23 45 #[.string (B a), .int .i64 n, .string (B c), .string (B d), .int .i64 p] (.string ⟨#[]⟩) (.string ⟨#[]⟩) (.string ⟨#[]⟩) (.string ⟨#[]⟩) (.string ⟨#[]⟩))
  clear hr hx0 hx1 hx2 hx3 hx4 la ln lc ld lp
  go_enter Tryd.func20, Tryd.ntmps20
  go_upto_region 1 with (fail)
  refine wp_region_held_drew (S := (fun w' => SF w w' 23 #[.string (B a), .int .i64 n, .string (B c), .string (B d), .int .i64 p] 45)) (by kernel_rfl) HS.out.drew (fun hHeld => ?_)
  refine held_take (i := 0) (v := ?_) (some 3) rfl rfl (by kernel_rfl) (by kernel_rfl) (by kernel_rfl) (fun _ _ _ h => h) (Or.inl ⟨by rfl, ?_⟩) hHeld ?_
  rotate_left 1
  · intro w' (h : SF w w' 23 #[.string (B a), .int .i64 n, .string (B c), .string (B d), .int .i64 p] 45); obtain ⟨⟨c0, c1, c2, c3, c4⟩, _⟩ := five_of h.2.1; go_simp; try with_reducible rfl
  try simp only [Act.put, List.setIfInBounds_toArray, List.set_cons_zero, List.set_cons_succ]
  refine held_take (i := 1) (v := ?_) (some 4) rfl rfl (by kernel_rfl) (by kernel_rfl) (by kernel_rfl) (fun _ _ _ h => h) (Or.inl ⟨by rfl, ?_⟩) hHeld ?_
  rotate_left 1
  · intro w' (h : SF w w' 23 #[.string (B a), .int .i64 n, .string (B c), .string (B d), .int .i64 p] 45); obtain ⟨⟨c0, c1, c2, c3, c4⟩, _⟩ := five_of h.2.1; go_simp; try with_reducible rfl
  try simp only [Act.put, List.setIfInBounds_toArray, List.set_cons_zero, List.set_cons_succ]
  refine held_take (i := 3) (v := ?_) (some 6) rfl rfl (by kernel_rfl) (by kernel_rfl) (by kernel_rfl) (fun _ _ _ h => h) (Or.inl ⟨by rfl, ?_⟩) hHeld ?_
  rotate_left 1
  · intro w' (h : SF w w' 23 #[.string (B a), .int .i64 n, .string (B c), .string (B d), .int .i64 p] 45); obtain ⟨⟨c0, c1, c2, c3, c4⟩, _⟩ := five_of h.2.1; go_simp; try with_reducible rfl
  try simp only [Act.put, List.setIfInBounds_toArray, List.set_cons_zero, List.set_cons_succ]
  refine held_take (i := 4) (v := ?_) (some 7) rfl rfl (by kernel_rfl) (by kernel_rfl) (by kernel_rfl) (fun _ _ _ h => h) (Or.inl ⟨by rfl, ?_⟩) hHeld ?_
  rotate_left 1
  · intro w' (h : SF w w' 23 #[.string (B a), .int .i64 n, .string (B c), .string (B d), .int .i64 p] 45); obtain ⟨⟨c0, c1, c2, c3, c4⟩, _⟩ := five_of h.2.1; go_simp; try with_reducible rfl
  try simp only [Act.put, List.setIfInBounds_toArray, List.set_cons_zero, List.set_cons_succ]
  refine held_take (i := 6) (v := ?_) (some 9) rfl rfl (by kernel_rfl) (by kernel_rfl) (by kernel_rfl) (fun _ _ _ h => h) (Or.inl ⟨by rfl, ?_⟩) hHeld ?_
  rotate_left 1
  · intro w' (h : SF w w' 23 #[.string (B a), .int .i64 n, .string (B c), .string (B d), .int .i64 p] 45); obtain ⟨⟨c0, c1, c2, c3, c4⟩, _⟩ := five_of h.2.1; go_simp; try with_reducible rfl
  try simp only [Act.put, List.setIfInBounds_toArray, List.set_cons_zero, List.set_cons_succ]
  refine held_take (i := 7) (v := ?_) (some 10) rfl rfl (by kernel_rfl) (by kernel_rfl) (by kernel_rfl) (fun _ _ _ h => h) (Or.inl ⟨by rfl, ?_⟩) hHeld ?_
  rotate_left 1
  · intro w' (h : SF w w' 23 #[.string (B a), .int .i64 n, .string (B c), .string (B d), .int .i64 p] 45); obtain ⟨⟨c0, c1, c2, c3, c4⟩, _⟩ := five_of h.2.1; go_simp; try with_reducible rfl
  try simp only [Act.put, List.setIfInBounds_toArray, List.set_cons_zero, List.set_cons_succ]
  refine held_take (i := 9) (v := ?_) (some 12) rfl rfl (by kernel_rfl) (by kernel_rfl) (by kernel_rfl) (fun _ _ _ h => h) (Or.inl ⟨by rfl, ?_⟩) hHeld ?_
  rotate_left 1
  · intro w' (h : SF w w' 23 #[.string (B a), .int .i64 n, .string (B c), .string (B d), .int .i64 p] 45); obtain ⟨⟨c0, c1, c2, c3, c4⟩, _⟩ := five_of h.2.1; go_simp; try with_reducible rfl
  try simp only [Act.put, List.setIfInBounds_toArray, List.set_cons_zero, List.set_cons_succ]
  refine held_take (i := 10) (v := ?_) (some 13) rfl rfl (by kernel_rfl) (by kernel_rfl) (by kernel_rfl) (fun _ _ _ h => h) (Or.inl ⟨by rfl, ?_⟩) hHeld ?_
  rotate_left 1
  · intro w' (h : SF w w' 23 #[.string (B a), .int .i64 n, .string (B c), .string (B d), .int .i64 p] 45); obtain ⟨⟨c0, c1, c2, c3, c4⟩, _⟩ := five_of h.2.1; go_simp; try with_reducible rfl
  try simp only [Act.put, List.setIfInBounds_toArray, List.set_cons_zero, List.set_cons_succ]
  refine held_take (i := 12) (v := ?_) (some 15) rfl rfl (by kernel_rfl) (by kernel_rfl) (by kernel_rfl) (fun _ _ _ h => h) (Or.inl ⟨by rfl, ?_⟩) hHeld ?_
  rotate_left 1
  · intro w' (h : SF w w' 23 #[.string (B a), .int .i64 n, .string (B c), .string (B d), .int .i64 p] 45); obtain ⟨⟨c0, c1, c2, c3, c4⟩, _⟩ := five_of h.2.1; go_simp; try with_reducible rfl
  try simp only [Act.put, List.setIfInBounds_toArray, List.set_cons_zero, List.set_cons_succ]
  refine held_take (i := 13) (v := ?_) (some 16) rfl rfl (by kernel_rfl) (by kernel_rfl) (by kernel_rfl) (fun _ _ _ h => h) (Or.inl ⟨by rfl, ?_⟩) hHeld ?_
  rotate_left 1
  · intro w' (h : SF w w' 23 #[.string (B a), .int .i64 n, .string (B c), .string (B d), .int .i64 p] 45); obtain ⟨⟨c0, c1, c2, c3, c4⟩, _⟩ := five_of h.2.1; go_simp; try with_reducible rfl
  try simp only [Act.put, List.setIfInBounds_toArray, List.set_cons_zero, List.set_cons_succ]
  refine held_one (j := 2) (by kernel_rfl) rfl (fun K hK => ?_)
  try simp only [List.getElem_toArray, List.getElem_cons_succ, List.getElem_cons_zero]
  rw [if_pos (by rfl)]
  go_simp
  go_at_call 36
  (with_reducible refine (HN0.out _ hHeld.self).mono ?_)
  rintro e0 w0 ⟨rfl, h0⟩
  refine hK.out _ _ (hHeld.rel h0) (fun hHeld => ?_)
  clear hK K
  try simp only [Act.put, List.setIfInBounds_toArray, List.set_cons_zero, List.set_cons_succ]
  refine held_one (j := 5) (by kernel_rfl) rfl (fun K hK => ?_)
  try simp only [List.getElem_toArray, List.getElem_cons_succ, List.getElem_cons_zero]
  rw [if_pos (by rfl)]
  go_simp
  go_at_call 37
  (with_reducible refine (HN1.out _ hHeld.self).mono ?_)
  rintro e1 w1 ⟨rfl, h1⟩
  refine hK.out _ _ (hHeld.rel h1) (fun hHeld => ?_)
  clear hK K
  try simp only [Act.put, List.setIfInBounds_toArray, List.set_cons_zero, List.set_cons_succ]
  refine held_one (j := 8) (by kernel_rfl) rfl (fun K hK => ?_)
  try simp only [List.getElem_toArray, List.getElem_cons_succ, List.getElem_cons_zero]
  rw [if_pos (by rfl)]
  go_simp
  go_at_call 36
  (with_reducible refine (HN2.out _ hHeld.self).mono ?_)
  rintro e2 w2 ⟨rfl, h2⟩
  refine hK.out _ _ (hHeld.rel h2) (fun hHeld => ?_)
  clear hK K
  try simp only [Act.put, List.setIfInBounds_toArray, List.set_cons_zero, List.set_cons_succ]
  refine held_one (j := 11) (by kernel_rfl) rfl (fun K hK => ?_)
  try simp only [List.getElem_toArray, List.getElem_cons_succ, List.getElem_cons_zero]
  rw [if_pos (by rfl)]
  go_simp
  go_at_call 36
  (with_reducible refine (HN3.out _ hHeld.self).mono ?_)
  rintro e3 w3 ⟨rfl, h3⟩
  refine hK.out _ _ (hHeld.rel h3) (fun hHeld => ?_)
  clear hK K
  try simp only [Act.put, List.setIfInBounds_toArray, List.set_cons_zero, List.set_cons_succ]
  refine held_one (j := 14) (by kernel_rfl) rfl (fun K hK => ?_)
  try simp only [List.getElem_toArray, List.getElem_cons_succ, List.getElem_cons_zero]
  rw [if_pos (by rfl)]
  go_simp
  go_at_call 38
  (with_reducible refine (HN4.out _ hHeld.self).mono ?_)
  rintro e4 w4 ⟨rfl, h4⟩
  refine hK.out _ _ (hHeld.rel h4) (fun hHeld => ?_)
  clear hK K
  try simp only [Act.put, List.setIfInBounds_toArray, List.set_cons_zero, List.set_cons_succ]
  refine held_take (i := 15) (v := ?_) (some 18) rfl rfl (by kernel_rfl) (by kernel_rfl) (by kernel_rfl) (fun _ _ _ h => h) (Or.inl ⟨by rfl, ?_⟩) hHeld ?_
  rotate_left 1
  · intro w' (h : SF w w' 23 #[.string (B a), .int .i64 n, .string (B c), .string (B d), .int .i64 p] 45); obtain ⟨⟨c0, c1, c2, c3, c4⟩, _⟩ := five_of h.2.1; go_simp; try with_reducible rfl
  try simp only [Act.put, List.setIfInBounds_toArray, List.set_cons_zero, List.set_cons_succ]
  refine held_one (j := 16) (by kernel_rfl) rfl (fun K hK => ?_)
  try simp only [List.getElem_toArray, List.getElem_cons_succ, List.getElem_cons_zero]
  rw [if_pos (by rfl)]
  obtain ⟨z0, z1, z2, z3, z4, hb⟩ := hHeld.2.2
  have HQ := Lib.hid (hb.put5 (.string x0) (.string x1) (.string x2) (.string x3) (.string x4))
  obtain ⟨⟨y0, y1, y2, y3, y4⟩, y5, y6, y7, y8, y9⟩ := five_of hb
  clear hb
  go_simp
  refine hK.out _ _ (hHeld.put _ _ _ _ _) (fun hHeld => ?_)
  clear hK K
  try simp only [Act.put, List.setIfInBounds_toArray, List.set_cons_zero, List.set_cons_succ]
  refine wpAnyH_done (by kernel_rfl) ?_ _
  go_wp2_with (fail)
  obtain ⟨⟨q0, q1, q2, q3, q4⟩, _⟩ := five_of HQ.out
  exact bodyPost_ret (v := .agg #[.string x0, .string x1, .string x2, .string x3, .string x4]) (by simp [results, Tryd.results20, go_sem, q0, q1, q2, q3, q4]) rfl ⟨by rw [← X0.out, ← X1.out, ← X2.out, ← X3.out, ← X4.out], HR.out.trans hHeld.1⟩
end Go.Proofs.YtkpgplafcoabnaaDoor
