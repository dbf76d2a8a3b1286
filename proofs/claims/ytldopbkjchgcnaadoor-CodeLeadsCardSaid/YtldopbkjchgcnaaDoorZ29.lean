/- What the landed Print and Right tell: all that the laws ask of the program; What the landed Compile tells; The landed operation's fits, by what an operation has; What the landed Right tells; The landed operation's line, by what an operation has. -/
import Derived.Test.YtldopbkjchgcnaaDoorZ28
import Derived.Test.YtldopbkjchgcnaaDoorZ19
import Derived.Test.YtldopbkjchgcnaaDoorZ22
import Derived.Test.YtldopbkjchgcnaaDoorZ07
import Derived.Test.YtldopbkjchgcnaaDoorZ20
import Derived.Test.YtldopbkjchgcnaaDoorZ25
import Derived.WalkArith
namespace Go.Proofs.YtldopbkjchgcnaaDoor
open Go.RowKit Go.Lib
set_option linter.unusedVariables false
set_option linter.unusedSimpArgs false

theorem pr_new (w : World) (o : Obj) : Pr w.heap.size (w.heap.size + 1) [] 0 ((w.alloc o).alloc (.cells #[.pointer none, .slice none 0 0, .int .i64 0] 90)) := by
  have hb := Bk.new (w.alloc o) 90 #[.pointer none, .slice none 0 0, .int .i64 0]
  rw [World.size_alloc] at hb
  exact .inl ⟨by omega, _, hb, World.ownsRowF_of (World.ownsRow_nil _ _ _ _), by simp [Value.ownBlock]⟩
theorem right_of {x : Ex} (hc : isCond x.k = false) : rightX x = true ↔ fine (32 - 0) x = true ∧ ([] : List UInt8).length + (text x).length ≤ 2000 := by
  simp only [rightX, hc, Bool.and_eq_true, decide_eq_true_eq, List.length_nil, Nat.sub_zero, Nat.zero_add, Bool.not_false, and_true]
  constructor
  · rintro ⟨⟨a, _⟩, b⟩; exact ⟨a, b⟩
  · rintro ⟨a, b⟩; exact ⟨⟨a, by have := text_more x 32 a; omega⟩, b⟩
set_option maxRecDepth 100000 in
set_option maxHeartbeats 4000000 in
theorem tprint_any : PrintOk := fun x S e w0 w hr h hz => by
  have HR := Lib.hid hr
  obtain ⟨k, n, nm, A, m, c⟩ := e
  have hke : x.k = k := h.kind
  have HB := Lib.hid ((Bk.new w 27 #[.int .i64 k, .int .i64 n, .string (B nm), .slice A m c]).alloc (.cells #[.pointer none, .slice none 0 0, .int .i64 0] 90))
  have HA := Lib.hid ((hr.self.alloc (.cells #[.int .i64 k, .int .i64 n, .string (B nm), .slice A m c] 27)).alloc (.cells #[.pointer none, .slice none 0 0, .int .i64 0] 90))
  have HP := Lib.hid (pr_new w (.cells #[.int .i64 k, .int .i64 n, .string (B nm), .slice A m c] 27))
  obtain ⟨⟨c0, c1, c2, c3⟩, _⟩ := HB.out.four
  obtain ⟨bc, hbc⟩ : ∃ b, isCond k = b := ⟨_, rfl⟩
  have HBc := Lib.hid hbc
  cases bc with
  | true =>
    have HX := Lib.hid (show prT x = [] ∧ prE x = 1 by
      have : rightX x = false := by unfold rightX; rw [hke, hbc]; simp
      unfold prT prE; rw [this]; exact ⟨rfl, rfl⟩)
    clear h hbc
    go_enter Tryd.func38, Tryd.ntmps38
    go_wp2_with (go_at_call 56; (with_reducible refine (tcond_as k n (B nm) A m c true HBc _ _ HA.out.self).mono ?_); rintro e w2 ⟨rfl, h2⟩; obtain ⟨⟨d0, d1, d2, d3⟩, _⟩ := (HB.out.rel h2).four)
    go_ret2
    exact ⟨by rw [HX.out.1, HX.out.2]; rfl, (HR.out.trans HA.out).trans h2⟩
  | false =>
    obtain ⟨t, ht⟩ : ∃ t, rightX x = t := ⟨_, rfl⟩
    have hti : t = true ↔ fine (32 - 0) x = true ∧ ([] : List UInt8).length + (text x).length ≤ 2000 := by rw [← ht]; exact right_of (by rw [hke]; exact hbc)
    have HC := Lib.hid (fun (w2 : World) (h2 : Rel w w2) (hp : Pr w.heap.size (w.heap.size + 1) [] 0 w2) => pexpr_any x S (k, n, nm, A, m, c) (w.heap.size + 1) [] 0 t w w2 h2 h hp (by omega) (by simp) hz (Lib.hid hti))
    have HX := Lib.hid (show prT x = (if t then text x else []) ∧ prE x = (if t then 0 else 1) by unfold prT prE; rw [ht]; exact ⟨rfl, rfl⟩)
    have HNe := Lib.hid (show t = true → [] ++ text x ≠ [] from fun e => by
      have h1 := text_more x 32 (hti.1 e).1
      have h2 := size_pos x
      intro h
      rw [List.nil_append] at h
      rw [h, List.length_nil] at h1
      omega)
    clear h hbc hti ht
    cases t with
    | false =>
      go_enter Tryd.func38, Tryd.ntmps38
      go_wp2_with (first
        | (go_at_call 56; (with_reducible refine (tcond_as k n (B nm) A m c false HBc _ _ HA.out.self).mono ?_); rintro e w2 ⟨rfl, h2⟩; obtain ⟨⟨d0, d1, d2, d3⟩, _⟩ := (HB.out.rel h2).four)
        | (go_at_call 57; (with_reducible refine (HC.out _ (HA.out.trans h2) (HP.out.rel h2)).mono ?_); rintro e w3 ⟨rfl, p3, r3, k3⟩))
      go_ret2
      exact ⟨by rw [HX.out.1, HX.out.2]; rfl, HR.out.trans r3⟩
    | true =>
      go_enter Tryd.func38, Tryd.ntmps38
      go_wp2_with (first
        | (go_at_call 56; (with_reducible refine (tcond_as k n (B nm) A m c false HBc _ _ HA.out.self).mono ?_); rintro e w2 ⟨rfl, h2⟩; obtain ⟨⟨d0, d1, d2, d3⟩, _⟩ := (HB.out.rel h2).four)
        | (go_at_call 57; (with_reducible refine (HC.out _ (HA.out.trans h2) (HP.out.rel h2)).mono ?_); rintro e w3 ⟨rfl, p3, r3, k3⟩)
        | (go_at_call 34; (with_reducible refine (string_any (w.heap.size + 1) ([] ++ text x) 0 w _ r3 (by first | exact p3 rfl | exact p3 trivial) (by first | exact HNe.out rfl | exact HNe.out trivial)).mono ?_); rintro e w4 ⟨rfl, r4⟩))
      go_ret2
      exact ⟨by rw [HX.out.1, HX.out.2]; rfl, HR.out.trans r4⟩
set_option maxRecDepth 100000 in
set_option maxHeartbeats 2000000 in
theorem tright_any : RightOk := fun x S e w0 w hr h hz => by
  have HR := Lib.hid hr
  obtain ⟨k, n, nm, A, m, c⟩ := e
  have HA := Lib.hid (hr.self.alloc (.cells #[.int .i64 k, .int .i64 n, .string (B nm), .slice A m c] 27))
  have HP := Lib.hid (fun (w' : World) (h' : Rel w w') => tprint_any x S (k, n, nm, A, m, c) w' w' (hr.trans h').self (h.rel h') hz)
  obtain ⟨T, hT⟩ : ∃ T, B (prT x) = T := ⟨_, rfl⟩
  rw [hT] at HP
  clear hT
  cases hx : rightX x
  · have he : prE x = 1 := by unfold prE; rw [hx]; rfl
    rw [he] at HP
    clear h he hx
    go_enter Tryd.func18, Tryd.ntmps18
    go_wp2_with (go_at_call 38; (with_reducible refine (HP.out _ HA.out).mono ?_); rintro e w2 ⟨rfl, h2⟩)
    go_ret
    exact ⟨rfl, (HR.out.trans HA.out).trans h2⟩
  · have he : prE x = 0 := by unfold prE; rw [hx]; rfl
    rw [he] at HP
    clear h he hx
    go_enter Tryd.func18, Tryd.ntmps18
    go_wp2_with (go_at_call 38; (with_reducible refine (HP.out _ HA.out).mono ?_); rintro e w2 ⟨rfl, h2⟩)
    go_ret
    exact ⟨rfl, (HR.out.trans HA.out).trans h2⟩
end Go.Proofs.YtldopbkjchgcnaaDoor

namespace Go.Proofs.YtldopbkjchgcnaaDoor
open Go.RowKit Go.Lib
set_option linter.unusedVariables false
set_option linter.unusedSimpArgs false

theorem Cm.new {w0 w : World} {m : Nat} (hr : Rel w0 w) (hm : MapIs w m kindsL) : Cm (w.alloc (.cells #[.map (some m), .slice none 0 0] 56)) w0.heap.size w.heap.size m [] :=
  ⟨hr.size, none, 0, Bk.new w _ _, InsOwn.nil _ _, hm.alloc _⟩
theorem Cm.done {w : World} {C b m : Nat} {l : List In} (h : Cm w C b m l) : ∃ A c, w.cell? ⟨b, 1, none⟩ = some (.slice A l.length c) ∧ InsOwn w C (.slice A l.length c) l := by
  obtain ⟨hC, A, c, h1, h2, h3⟩ := h
  exact ⟨A, c, by rw [h1.cell]; rfl, h2⟩
set_option maxRecDepth 100000 in
set_option maxHeartbeats 4000000 in
theorem compile_any : CompileOk := fun x S e w0 w hr h hz => by
  have HR := Lib.hid hr
  have HE := Lib.hid h
  obtain ⟨k, n, nm, A', m, c'⟩ := e
  have HB := Lib.hid (Bk.new w 27 #[.int .i64 k, .int .i64 n, .string (B nm), .slice A' m c'])
  have HA := Lib.hid (hr.self.alloc (.cells #[.int .i64 k, .int .i64 n, .string (B nm), .slice A' m c'] 27))
  obtain ⟨W, hW⟩ : ∃ W, w.alloc (.cells #[.int .i64 k, .int .i64 n, .string (B nm), .slice A' m c'] 27) = W := ⟨_, rfl⟩
  rw [hW] at HA HB
  have hws : w.heap.size < W.heap.size := HB.out.lt
  have hC := tright_any x S (k, n, nm, A', m, c') W W HA.out.self (h.rel HA.out) (by omega)
  obtain ⟨⟨b0, b1, b2, b3⟩, _⟩ := HB.out.four
  cases hx : rightX x with
  | false =>
    obtain ⟨e1, e2⟩ := codX_no hx
    rw [e1, e2]
    rw [hx] at hC
    have HC := Lib.hid hC
    clear hC hx e1 e2 h hr
    go_enter Tryd.func11, Tryd.ntmps11
    go_wp2_with (go_at_call 18; (with_reducible refine HC.out.mono ?_); rintro e w1 ⟨rfl, h1⟩)
    go_ret2
    exact ⟨none, 0, rfl, InsOwn.nil _ _, HR.out.trans (HA.out.trans h1)⟩
  | true =>
    obtain ⟨e1, e2⟩ := codX_yes hx
    obtain ⟨_, hl, h4⟩ := right_code hx
    have hf : fine 32 x = true := by unfold rightX at hx; simp only [Bool.and_eq_true] at hx; exact hx.1.1.1
    have hcl : clen x ≤ 90000 := by have := cod_len 32 x hf 0; omega
    rw [e1, e2]
    rw [hx] at hC
    have HC := Lib.hid hC
    have HX := Lib.hid (fun (b m2 : Nat) (w2 : World) (hr2 : Rel w w2) (hc2 : Cm w2 w.heap.size b m2 []) => cexpr_all 32 x hf S (k, n, nm, A', m, c') b m2 [] w w2 hr2 HE.out hc2 (by simpa using hcl))
    simp only [List.nil_append, List.length_nil] at HX
    generalize cod x 0 = l at *
    clear hC hx e1 e2 h hr hl h4 hcl
    go_enter Tryd.func11, Tryd.ntmps11
    go_wp2_with (first
      | (go_at_call 18; (with_reducible refine HC.out.mono ?_); rintro e w1 ⟨rfl, h1⟩; have R1 := Lib.hid (HA.out.trans h1))
      | (go_at_call 26; (with_reducible refine (kinds_any w _ R1.out).mono ?_); rintro e w2 ⟨q, rfl, hq, m2, h2, r2⟩; have C2 := Lib.hid (Cm.new r2 m2); have R2 := Lib.hid (r2.alloc (.cells #[.map (some q), .slice none 0 0] 56)); have HB2 := Lib.hid (((HB.out.rel h1).rel h2).alloc (.cells #[.map (some q), .slice none 0 0] 56)); obtain ⟨⟨d0, d1, d2, d3⟩, _⟩ := HB2.out.four)
      | (go_at_call 27; (with_reducible refine (HX.out w2.heap.size q _ R2.out C2.out).mono ?_); rintro e w3 ⟨rfl, c3, r3, k3⟩; obtain ⟨A3, c5, y1, own3⟩ := c3.done))
    go_ret2
    exact ⟨A3, c5, rfl, own3, HR.out.trans r3⟩
end Go.Proofs.YtldopbkjchgcnaaDoor

namespace Go.Proofs.YtldopbkjchgcnaaDoor
open Go.RowKit Go.Lib
set_option linter.unusedVariables false
set_option linter.unusedSimpArgs false

theorem b_three {a b c : Bool} {A B' C : Prop} [Decidable A] [Decidable B'] [Decidable C] (ha : decide A = a) (hb : decide B' = b) (hc : decide C = c) : (decide A && decide B' && decide C) = (a && b && c) := by rw [ha, hb, hc]
set_option maxRecDepth 100000 in
set_option maxHeartbeats 4000000 in
theorem fits_name (Wd : ByteArray) (M o n a z : Int) (nm : List UInt8) (hz : nm.length ≤ 9223372036854775807) (w0 w : World) (hr : Rel w0 w) :
    Calls Tryd.prog 36 #[.agg #[.string Wd, .int .i64 3, .int .i64 M], .agg #[.int .i64 o, .int .i64 n, .string (B nm)], .int .i64 a, .int .i64 z] w fun r w' => r = .returned (.bool (decide (n = 0) && isName nm)) ∧ Rel w0 w' := by
  have hA := Lib.hid ((hr.alloc (.cells #[.string Wd, .int .i64 3, .int .i64 M] 70)).alloc (.cells #[.int .i64 o, .int .i64 n, .string (B nm)] 44))
  have HT := B_toList nm
  by_cases h : n = 0
  · subst h
    go_enter Tryd.func36, Tryd.ntmps36
    go_wp2_with (go_at_call 52; (with_reducible refine (lname_list nm hz w0 _ hA.out).mono ?_); rintro e w1 ⟨rfl, h1⟩)
    go_ret
    exact ⟨ret_bool (by simp), h1⟩
  · have k1 : (n == 0) = false := by simpa using h
    go_enter Tryd.func36, Tryd.ntmps36
    go_wp2_with (fail)
    go_ret
    exact ⟨ret_bool (by simp [h]), hA.out⟩
set_option maxRecDepth 100000 in
set_option maxHeartbeats 4000000 in
theorem fits_place (Wd : ByteArray) (M o n a z : Int) (nm : List UInt8) (hz : nm.length ≤ 9223372036854775807) (w0 w : World) (hr : Rel w0 w) :
    Calls Tryd.prog 36 #[.agg #[.string Wd, .int .i64 2, .int .i64 M], .agg #[.int .i64 o, .int .i64 n, .string (B nm)], .int .i64 a, .int .i64 z] w fun r w' => r = .returned (.bool (decide (a < n) && decide (n ≤ z) && decide (nm = []))) ∧ Rel w0 w' := by
  have hA := Lib.hid ((hr.alloc (.cells #[.string Wd, .int .i64 2, .int .i64 M] 70)).alloc (.cells #[.int .i64 o, .int .i64 n, .string (B nm)] 44))
  have HT := B_toList nm
  by_cases h1 : a < n
  · have d1 : decide (a < n) = true := decide_eq_true h1
    by_cases h2 : n ≤ z
    · have d2 : decide (n ≤ z) = true := decide_eq_true h2
      cases nm with
      | nil =>
        have e0 : B [] = ⟨#[]⟩ := rfl
        go_enter Tryd.func36, Tryd.ntmps36
        go_wp2_with (fail)
        go_ret
        exact ⟨ret_bool (by simp [d1, d2]), hA.out⟩
      | cons ch tl =>
        have s2 : (ch :: tl == []) = false := rfl
        go_enter Tryd.func36, Tryd.ntmps36
        go_wp2_with (fail)
        go_ret
        exact ⟨ret_bool (by simp [d1, d2]), hA.out⟩
    · have d2 : decide (n ≤ z) = false := decide_eq_false h2
      go_enter Tryd.func36, Tryd.ntmps36
      go_wp2_with (fail)
      go_ret
      exact ⟨ret_bool (by simp [d1, d2]), hA.out⟩
  · have d1 : decide (a < n) = false := decide_eq_false h1
    go_enter Tryd.func36, Tryd.ntmps36
    go_wp2_with (fail)
    go_ret
    exact ⟨ret_bool (by simp [d1]), hA.out⟩
set_option maxRecDepth 100000 in
set_option maxHeartbeats 4000000 in
theorem fits_num (Wd : ByteArray) (H M o n a z : Int) (nm : List UInt8) (hz : nm.length ≤ 9223372036854775807) (h2' : (H == 2) = false) (h3' : (H == 3) = false) (w0 w : World) (hr : Rel w0 w) :
    Calls Tryd.prog 36 #[.agg #[.string Wd, .int .i64 H, .int .i64 M], .agg #[.int .i64 o, .int .i64 n, .string (B nm)], .int .i64 a, .int .i64 z] w fun r w' => r = .returned (.bool (decide (0 ≤ n) && decide (n ≤ M) && decide (nm = []))) ∧ Rel w0 w' := by
  have hA := Lib.hid ((hr.alloc (.cells #[.string Wd, .int .i64 H, .int .i64 M] 70)).alloc (.cells #[.int .i64 o, .int .i64 n, .string (B nm)] 44))
  have HT := B_toList nm
  by_cases h1 : 0 ≤ n
  · have d1 : decide (0 ≤ n) = true := decide_eq_true h1
    by_cases h2 : n ≤ M
    · have d2 : decide (n ≤ M) = true := decide_eq_true h2
      cases nm with
      | nil =>
        have e0 : B [] = ⟨#[]⟩ := rfl
        go_enter Tryd.func36, Tryd.ntmps36
        go_wp2_with (fail)
        go_ret
        exact ⟨ret_bool (by simp [d1, d2]), hA.out⟩
      | cons ch tl =>
        have s2 : (ch :: tl == []) = false := rfl
        go_enter Tryd.func36, Tryd.ntmps36
        go_wp2_with (fail)
        go_ret
        exact ⟨ret_bool (by simp [d1, d2]), hA.out⟩
    · have d2 : decide (n ≤ M) = false := decide_eq_false h2
      go_enter Tryd.func36, Tryd.ntmps36
      go_wp2_with (fail)
      go_ret
      exact ⟨ret_bool (by simp [d1, d2]), hA.out⟩
  · have d1 : decide (0 ≤ n) = false := decide_eq_false h1
    go_enter Tryd.func36, Tryd.ntmps36
    go_wp2_with (fail)
    go_ret
    exact ⟨ret_bool (by simp [d1]), hA.out⟩
end Go.Proofs.YtldopbkjchgcnaaDoor

namespace Go.Proofs.YtldopbkjchgcnaaDoor
open Go.RowKit Go.Lib
set_option linter.unusedVariables false
set_option linter.unusedSimpArgs false

abbrev noOp : Value := .agg #[.string ⟨#[]⟩, .int .i64 0, .int .i64 0]
theorem ops_none {o : Int} (h : ¬ (1 ≤ o ∧ o ≤ 13)) : look opsL o = none := by
  unfold opsL
  simp only [look_cons]
  repeat rw [if_neg (by omega)]
  rfl
theorem ops_ways (o : Int) : ¬ (1 ≤ o ∧ o ≤ 13) ∨ o = 1 ∨ o = 2 ∨ o = 3 ∨ o = 4 ∨ o = 5 ∨ o = 6 ∨ o = 7 ∨ o = 8 ∨ o = 9 ∨ o = 10 ∨ o = 11 ∨ o = 12 ∨ o = 13 := by omega
/-- What fits is asked of an operation. -/
def FitsOp (o : Int) (Wd : ByteArray) (H M : Int) : Prop := ∀ (n : Int) (i len : Nat) (nm : List UInt8), nm.length ≤ 9223372036854775807 → ∀ w0 w, Rel w0 w →
    Calls Tryd.prog 36 #[.agg #[.string Wd, .int .i64 H, .int .i64 M], .agg #[.int .i64 o, .int .i64 n, .string (B nm)], .int .i64 (i : Int), .int .i64 (len : Int)] w fun r w' => r = .returned (.bool (inOk len i (o, n, nm))) ∧ Rel w0 w'
theorem fits_num_op (Wd : ByteArray) (H M o : Int) (h2 : (H == 2) = false) (h3 : (H == 3) = false) (ho : 1 ≤ o ∧ o ≤ 13) (h4 : o ≠ 4) (ht : isTo o = false) (hm : ∀ len, mostO len o = M) : FitsOp o Wd H M := fun n i len nm hz w0 w hr =>
  bool_at _ (fits_num Wd H M o n i len nm hz h2 h3 w0 w hr) (Lib.hid (by
    rw [inOk_eq, hm, if_neg h4, decide_eq_true ho, Bool.true_and]
    have : leastO i o = 0 := by unfold leastO; rw [ht]; rfl
    rw [this, Bool.decide_and]))
theorem fits_place_op (Wd : ByteArray) (M o : Int) (ho : o = 9 ∨ o = 12 ∨ o = 13) : FitsOp o Wd 2 M := fun n i len nm hz w0 w hr =>
  bool_at _ (fits_place Wd M o n i len nm hz w0 w hr) (Lib.hid (by
    obtain ⟨q1, q2⟩ := to_is ho i len
    rw [inOk_eq, q1, q2, if_neg (by omega), decide_eq_true (by omega : 1 ≤ o ∧ o ≤ 13), Bool.true_and, Bool.decide_and]
    rw [show decide ((i : Int) + 1 ≤ n) = decide ((i : Int) < n) from by rw [decide_eq_decide]; omega]))
theorem fits_name_op (Wd : ByteArray) (M : Int) : FitsOp 4 Wd 3 M := fun n i len nm hz w0 w hr =>
  bool_at _ (fits_name Wd M 4 n i len nm hz w0 w hr) (Lib.hid (by
    rw [inOk_eq, if_pos rfl]
    have e1 : leastO i 4 = 0 := rfl
    have e2 : mostO len 4 = 0 := rfl
    rw [e1, e2, decide_eq_true (by omega : (1 : Int) ≤ 4 ∧ (4 : Int) ≤ 13), Bool.true_and]
    congr 1
    rw [decide_eq_decide]; omega))
theorem ops_fits (o : Int) : ∃ (Wd : ByteArray) (H M : Int) (b : Bool), (look opsL o).getD noOp = .agg #[.string Wd, .int .i64 H, .int .i64 M] ∧ (look opsL o).isSome = b ∧ (b = false → ∀ len i n nm, inOk len i (o, n, nm) = false) ∧ (b = true → FitsOp o Wd H M) := by
  rcases ops_ways o with h | rfl | rfl | rfl | rfl | rfl | rfl | rfl | rfl | rfl | rfl | rfl | rfl | rfl
  · refine ⟨⟨#[]⟩, 0, 0, false, by rw [ops_none h]; rfl, by rw [ops_none h]; rfl, fun _ len i n nm => ?_, fun h => by cases h⟩
    rw [inOk_eq, decide_eq_false h]; rfl
  · exact ⟨_, _, _, true, rfl, rfl, (fun h => by cases h), fun _ => fits_num_op _ _ _ _ rfl rfl (by decide) (by decide) rfl (fun _ => rfl)⟩
  · exact ⟨_, _, _, true, rfl, rfl, (fun h => by cases h), fun _ => fits_num_op _ _ _ _ rfl rfl (by decide) (by decide) rfl (fun _ => rfl)⟩
  · exact ⟨_, _, _, true, rfl, rfl, (fun h => by cases h), fun _ => fits_num_op _ _ _ _ rfl rfl (by decide) (by decide) rfl (fun _ => rfl)⟩
  · exact ⟨_, _, _, true, rfl, rfl, (fun h => by cases h), fun _ => fits_name_op _ _⟩
  · exact ⟨_, _, _, true, rfl, rfl, (fun h => by cases h), fun _ => fits_num_op _ _ _ _ rfl rfl (by decide) (by decide) rfl (fun _ => rfl)⟩
  · exact ⟨_, _, _, true, rfl, rfl, (fun h => by cases h), fun _ => fits_num_op _ _ _ _ rfl rfl (by decide) (by decide) rfl (fun _ => rfl)⟩
  · exact ⟨_, _, _, true, rfl, rfl, (fun h => by cases h), fun _ => fits_num_op _ _ _ _ rfl rfl (by decide) (by decide) rfl (fun _ => rfl)⟩
  · exact ⟨_, _, _, true, rfl, rfl, (fun h => by cases h), fun _ => fits_num_op _ _ _ _ rfl rfl (by decide) (by decide) rfl (fun _ => rfl)⟩
  · exact ⟨_, _, _, true, rfl, rfl, (fun h => by cases h), fun _ => fits_place_op _ _ _ (by decide)⟩
  · exact ⟨_, _, _, true, rfl, rfl, (fun h => by cases h), fun _ => fits_num_op _ _ _ _ rfl rfl (by decide) (by decide) rfl (fun _ => rfl)⟩
  · exact ⟨_, _, _, true, rfl, rfl, (fun h => by cases h), fun _ => fits_num_op _ _ _ _ rfl rfl (by decide) (by decide) rfl (fun _ => rfl)⟩
  · exact ⟨_, _, _, true, rfl, rfl, (fun h => by cases h), fun _ => fits_place_op _ _ _ (by decide)⟩
  · exact ⟨_, _, _, true, rfl, rfl, (fun h => by cases h), fun _ => fits_place_op _ _ _ (by decide)⟩
theorem ops_run_ok {w : World} {q : Nat} (h : MapIs w q opsL) (o : Int) (ho : i64 o) {v : Value} {b : Bool} (hv : (look opsL o).getD noOp = v) (hb : (look opsL o).isSome = b) :
    (Instr.lookup 59 (.map (some q)) (.int .i64 o) true).run Tryd.prog w = .ok (.tuple #[v, .bool b]) w := by
  subst hv hb
  exact h.look_ok _ _ Tryd.underlying59 _ (by kernel_rfl) o (WalkArith.wf_i64 ho)
theorem ops_run {w : World} {q : Nat} (h : MapIs w q opsL) (o : Int) (ho : i64 o) {v : Value} (hv : (look opsL o).getD noOp = v) :
    (Instr.lookup 59 (.map (some q)) (.int .i64 o) false).run Tryd.prog w = .ok v w := by
  subst hv
  exact h.look _ _ Tryd.underlying59 _ (by kernel_rfl) o (WalkArith.wf_i64 ho)
set_option maxRecDepth 100000 in
set_option maxHeartbeats 8000000 in
theorem cright_any : CRightOk := fun A c l w0 w hr h => by
  have HR := Lib.hid hr
  have HS := Lib.hid hr.self
  have HA := Lib.hid h.2.2.2
  have HF := Lib.hid h.2.2.1
  have hl : l.length ≤ 9223372036854775807 := by have := h.1; have := h.2.1; unfold maxLen at this; omega
  clear h hr
  by_cases h5 : 5000 < l.length
  · have HB := Lib.hid (code_many h5)
    have t1 : decide ((5000 : Int) < (l.length : Int)) = true := decide_eq_true (by omega)
    go_enter Tryd.func16, Tryd.ntmps16
    go_wp2_with (fail)
    go_ret
    exact ⟨ret_bool HB.out.symm, HR.out⟩
  have t1 : decide ((5000 : Int) < (l.length : Int)) = false := decide_eq_false (by omega)
  go_enter Tryd.func16, Tryd.ntmps16
  go_wp2_with (go_at_call 30; (with_reducible refine (operations_any w _ HS.out).mono ?_); rintro e w1 ⟨q, rfl, hq, m1, r1, _⟩)
  have HM := Lib.hid m1
  have HR1 := Lib.hid r1
  clear m1 r1
  go_loopw [14] (fun i wr => ∃ j : Nat, j ≤ l.length ∧ i = .int .i64 (j : Int) ∧ Hid (okTo l j = true) ∧ Rel w1 wr) (fun i _ => l.length - (RowKit.intOf i).toNat)
  case atStart => exact ⟨0, by omega, rfl, Lib.hid rfl, HR1.out.self⟩
  case round =>
    obtain ⟨i, hi, rfl, HN, hRw⟩ := hrel
    have HRw := Lib.hid hRw
    by_cases hlt : i < l.length
    · obtain ⟨g, off, o, n, nm, rfl, c0, c1, c2, ho⟩ := ins_at HA.out (HR1.out.trans hRw) i hlt
      have hfo := HF.out _ (List.getElem_mem hlt)
      rw [ho] at hfo
      obtain ⟨hof, _, hs⟩ := hfo
      have HO := Lib.hid ho
      obtain ⟨Wd, H, M, b, hv, hb, hno, hyes⟩ := ops_fits o
      have lk := ops_run_ok (((HM.out.rel hRw).alloc (.cells #[.int .i64 o, .int .i64 n, .string (B nm)] 44))) o hof hv hb
      have HX := Lib.hid ((Bk.new wr 44 #[.int .i64 o, .int .i64 n, .string (B nm)]))
      have HX2 := Lib.hid ((Bk.new wr 44 #[.int .i64 o, .int .i64 n, .string (B nm)]).alloc (.cells #[.string Wd, .int .i64 H, .int .i64 M] 70))
      have HY := Lib.hid (Bk.new (wr.alloc (.cells #[.int .i64 o, .int .i64 n, .string (B nm)] 44)) 70 #[.string Wd, .int .i64 H, .int .i64 M])
      have HRa := Lib.hid ((hRw.alloc (.cells #[.int .i64 o, .int .i64 n, .string (B nm)] 44)).alloc (.cells #[.string Wd, .int .i64 H, .int .i64 M] 70))
      obtain ⟨⟨x0, x1, x2⟩, _⟩ := three_of HX.out
      obtain ⟨⟨y0, y1, y2⟩, _⟩ := three_of HX2.out
      obtain ⟨⟨z0, z1, z2⟩, _⟩ := three_of HY.out
      rw [World.size_alloc] at z0 z1 z2
      clear ho hRw
      cases b with
      | false =>
        have HE := Lib.hid (hno rfl l.length i n nm)
        clear hno hyes
        go_wp2_with (fail)
        go_ret
        exact ⟨ret_bool (code_bad hlt HO.out HE.out).symm, HR.out.trans (HR1.out.trans HRa.out)⟩
      | true =>
        obtain ⟨bv, hbv⟩ : ∃ bv, inOk l.length i (o, n, nm) = bv := ⟨_, rfl⟩
        have HC := Lib.hid (hyes rfl n i l.length nm hs w1 _ HRa.out)
        rw [hbv] at HC
        have HE := Lib.hid hbv
        clear hno hyes hbv
        cases bv with
        | false =>
          go_wp2_with (go_at_call 36; (with_reducible refine HC.out.mono ?_); rintro e w2 ⟨rfl, r2⟩)
          go_ret
          exact ⟨ret_bool (code_bad hlt HO.out HE.out).symm, HR.out.trans (HR1.out.trans r2)⟩
        | true =>
          go_wp2_with (go_at_call 36; (with_reducible refine HC.out.mono ?_); rintro e w2 ⟨rfl, r2⟩)
          go_roundw
          case rel => exact ⟨i + 1, by omega, by go_num, Lib.hid (okTo_step hlt HO.out HN.out HE.out), r2⟩
          case measure => simp [RowKit.intOf]; omega
    · obtain rfl : i = l.length := by omega
      have HB := Lib.hid (code_full (by omega) HN.out)
      clear hRw
      go_wp2_with (fail)
      go_ret
      exact ⟨ret_bool HB.out.symm, HR.out.trans (HR1.out.trans HRw.out)⟩
end Go.Proofs.YtldopbkjchgcnaaDoor

namespace Go.Proofs.YtldopbkjchgcnaaDoor
open Go.RowKit Go.Lib
set_option linter.unusedVariables false
set_option linter.unusedSimpArgs false

set_option maxRecDepth 100000 in
set_option maxHeartbeats 4000000 in
theorem line_none (o n : Int) (nm : List UInt8) (w0 w : World) (hr : Rel w0 w) :
    Calls Tryd.prog 32 #[.agg #[.string ⟨#[]⟩, .int .i64 0, .int .i64 0], .agg #[.int .i64 o, .int .i64 n, .string (B nm)]] w fun r w' => r = .returned (.string ⟨#[63]⟩) ∧ Rel w0 w' := by
  have hA := Lib.hid ((hr.alloc (.cells #[.string ⟨#[]⟩, .int .i64 0, .int .i64 0] 70)).alloc (.cells #[.int .i64 o, .int .i64 n, .string (B nm)] 44))
  go_enter Tryd.func32, Tryd.ntmps32
  go_wp2_with (fail)
  go_ret
  exact ⟨rfl, hA.out⟩
set_option maxRecDepth 100000 in
set_option maxHeartbeats 4000000 in
theorem line_bare (wd : List UInt8) (H M o n : Int) (nm : List UInt8) (hne : wd ≠ []) (h1 : (H == 1) = false) (h2 : (H == 2) = false) (h3 : (H == 3) = false) (w0 w : World) (hr : Rel w0 w) :
    Calls Tryd.prog 32 #[.agg #[.string (B wd), .int .i64 H, .int .i64 M], .agg #[.int .i64 o, .int .i64 n, .string (B nm)]] w fun r w' => r = .returned (.string (B wd)) ∧ Rel w0 w' := by
  have hA := Lib.hid ((hr.alloc (.cells #[.string (B wd), .int .i64 H, .int .i64 M] 70)).alloc (.cells #[.int .i64 o, .int .i64 n, .string (B nm)] 44))
  have s1 : (B wd).toList.isEmpty = false := by
    rw [B_toList]
    cases wd with
    | nil => exact absurd rfl hne
    | cons ch tl => rfl
  go_enter Tryd.func32, Tryd.ntmps32
  go_wp2_with (fail)
  go_ret
  exact ⟨rfl, hA.out⟩
set_option maxRecDepth 100000 in
set_option maxHeartbeats 4000000 in
theorem line_name (wd : List UInt8) (M o n : Int) (nm : List UInt8) (hne : wd ≠ []) (hl : wd.length ≤ 10) (hz : nm.length ≤ 1000000000) (w0 w : World) (hr : Rel w0 w) :
    Calls Tryd.prog 32 #[.agg #[.string (B wd), .int .i64 3, .int .i64 M], .agg #[.int .i64 o, .int .i64 n, .string (B nm)]] w fun r w' => r = .returned (.string (B (wd ++ 32 :: nm))) ∧ Rel w0 w' := by
  have hA := Lib.hid ((hr.alloc (.cells #[.string (B wd), .int .i64 3, .int .i64 M] 70)).alloc (.cells #[.int .i64 o, .int .i64 n, .string (B nm)] 44))
  have s1 : (B wd).toList.isEmpty = false := by
    rw [B_toList]
    cases wd with
    | nil => exact absurd rfl hne
    | cons ch tl => rfl
  obtain ⟨P, hP⟩ : ∃ P, B wd ++ (⟨#[32]⟩ : ByteArray) = P := ⟨_, rfl⟩
  obtain ⟨Q, hQ⟩ : ∃ Q, P ++ B nm = Q := ⟨_, rfl⟩
  have HQ := Lib.hid (show Q = B (wd ++ 32 :: nm) by rw [← hQ, ← hP, show (⟨#[32]⟩ : ByteArray) = B [32] from rfl, B_append, B_append]; simp)
  have zW : (B wd).size = wd.length := B_size wd
  have zP : P.size = wd.length + 1 := by rw [← hP, show (⟨#[32]⟩ : ByteArray) = B [32] from rfl, B_append, B_size]; simp
  have zN : (B nm).size = nm.length := B_size nm
  have g1 : ¬ 9223372036854775807 < (B wd).size + 1 := by omega
  have g2 : ¬ 9223372036854775807 < P.size + (B nm).size := by omega
  go_enter Tryd.func32, Tryd.ntmps32
  go_wp2_with (fail)
  go_ret
  exact ⟨ret_str HQ.out, hA.out⟩
set_option maxRecDepth 100000 in
set_option maxHeartbeats 4000000 in
theorem line_num1 (wd : List UInt8) (M o n : Int) (nm : List UInt8) (hne : wd ≠ []) (hl : wd.length ≤ 10) (hn : i64 n) (hz : (itoa n).length ≤ 100) (w0 w : World) (hr : Rel w0 w) :
    Calls Tryd.prog 32 #[.agg #[.string (B wd), .int .i64 1, .int .i64 M], .agg #[.int .i64 o, .int .i64 n, .string (B nm)]] w fun r w' => r = .returned (.string (B (wd ++ 32 :: itoa n))) ∧ Rel w0 w' := by
  have HA := Lib.hid ((hr.alloc (.cells #[.string (B wd), .int .i64 1, .int .i64 M] 70)).alloc (.cells #[.int .i64 o, .int .i64 n, .string (B nm)] 44))
  have HX := Lib.hid ((Bk.new w 70 #[.string (B wd), .int .i64 1, .int .i64 M]).alloc (.cells #[.int .i64 o, .int .i64 n, .string (B nm)] 44))
  have HY := Lib.hid (Bk.new (w.alloc (.cells #[.string (B wd), .int .i64 1, .int .i64 M] 70)) 44 #[.int .i64 o, .int .i64 n, .string (B nm)])
  rw [World.size_alloc] at HY
  obtain ⟨W, hW⟩ : ∃ W, (w.alloc (.cells #[.string (B wd), .int .i64 1, .int .i64 M] 70)).alloc (.cells #[.int .i64 o, .int .i64 n, .string (B nm)] 44) = W := ⟨_, rfl⟩
  rw [hW] at HA HX HY
  have RW := Lib.hid HA.out.self
  obtain ⟨n0, n1⟩ := hn
  have s1 : (B wd).toList.isEmpty = false := by
    rw [B_toList]
    cases wd with
    | nil => exact absurd rfl hne
    | cons ch tl => rfl
  obtain ⟨P, hP⟩ : ∃ P, B wd ++ (⟨#[32]⟩ : ByteArray) = P := ⟨_, rfl⟩
  obtain ⟨N, hN⟩ : ∃ N, num n = N := ⟨_, rfl⟩
  obtain ⟨Q, hQ⟩ : ∃ Q, P ++ N = Q := ⟨_, rfl⟩
  have HN := Lib.hid hN
  have HQ := Lib.hid (show Q = B (wd ++ 32 :: itoa n) by rw [← hQ, ← hP, ← hN, show (⟨#[32]⟩ : ByteArray) = B [32] from rfl]; unfold num; rw [B_append, B_append]; simp)
  have zW : (B wd).size = wd.length := B_size wd
  have zP : P.size = wd.length + 1 := by rw [← hP, show (⟨#[32]⟩ : ByteArray) = B [32] from rfl, B_append, B_size]; simp
  have zN : N.size = (itoa n).length := by rw [← hN]; exact B_size _
  have g1 : ¬ 9223372036854775807 < (B wd).size + 1 := by omega
  have g2 : ¬ 9223372036854775807 < P.size + N.size := by omega
  obtain ⟨⟨x0, x1, x2⟩, _⟩ := three_of HX.out
  obtain ⟨⟨y0, y1, y2⟩, _⟩ := three_of HY.out
  clear hr hN zW zP zN
  go_enter Tryd.func32, Tryd.ntmps32
  go_upto_region 6 with (fail)
  refine wp_region_held_drew (S := (fun w' => Rel W w')) (by kernel_rfl) RW.out.drew (fun hHeld => ?_)
  refine held_take (i := 0) (v := ?_) (some 13) rfl rfl (by kernel_rfl) (by kernel_rfl) (by kernel_rfl) (fun _ _ _ h => h) (Or.inl ⟨by rfl, ?_⟩) hHeld ?_
  rotate_left 1
  · intro w' (h : Rel W w'); obtain ⟨⟨z0, z1, z2⟩, _⟩ := three_of (HX.out.rel h); obtain ⟨⟨u0, u1, u2⟩, _⟩ := three_of (HY.out.rel h); go_simp; try with_reducible rfl
  try simp only [Act.put, List.setIfInBounds_toArray, List.set_cons_zero, List.set_cons_succ]
  refine held_take (i := 1) (v := ?_) (some 14) rfl rfl (by kernel_rfl) (by kernel_rfl) (by kernel_rfl) (fun _ _ _ h => h) (Or.inl ⟨by rfl, ?_⟩) hHeld ?_
  rotate_left 1
  · intro w' (h : Rel W w'); obtain ⟨⟨z0, z1, z2⟩, _⟩ := three_of (HX.out.rel h); obtain ⟨⟨u0, u1, u2⟩, _⟩ := three_of (HY.out.rel h); go_simp; try with_reducible rfl
  try simp only [Act.put, List.setIfInBounds_toArray, List.set_cons_zero, List.set_cons_succ]
  refine held_take (i := 2) (v := ?_) (some 15) rfl rfl (by kernel_rfl) (by kernel_rfl) (by kernel_rfl) (fun _ _ _ h => h) (Or.inl ⟨by rfl, ?_⟩) hHeld ?_
  rotate_left 1
  · intro w' (h : Rel W w'); obtain ⟨⟨z0, z1, z2⟩, _⟩ := three_of (HX.out.rel h); obtain ⟨⟨u0, u1, u2⟩, _⟩ := three_of (HY.out.rel h); go_simp; try with_reducible rfl
  try simp only [Act.put, List.setIfInBounds_toArray, List.set_cons_zero, List.set_cons_succ]
  refine held_take (i := 3) (v := ?_) (some 16) rfl rfl (by kernel_rfl) (by kernel_rfl) (by kernel_rfl) (fun _ _ _ h => h) (Or.inl ⟨by rfl, ?_⟩) hHeld ?_
  rotate_left 1
  · intro w' (h : Rel W w'); obtain ⟨⟨z0, z1, z2⟩, _⟩ := three_of (HX.out.rel h); obtain ⟨⟨u0, u1, u2⟩, _⟩ := three_of (HY.out.rel h); go_simp; try with_reducible rfl
  try simp only [Act.put, List.setIfInBounds_toArray, List.set_cons_zero, List.set_cons_succ]
  refine held_take (i := 4) (v := ?_) (some 17) rfl rfl (by kernel_rfl) (by kernel_rfl) (by kernel_rfl) (fun _ _ _ h => h) (Or.inl ⟨by rfl, ?_⟩) hHeld ?_
  rotate_left 1
  · intro w' (h : Rel W w'); obtain ⟨⟨z0, z1, z2⟩, _⟩ := three_of (HX.out.rel h); obtain ⟨⟨u0, u1, u2⟩, _⟩ := three_of (HY.out.rel h); go_simp; try with_reducible rfl
  try simp only [Act.put, List.setIfInBounds_toArray, List.set_cons_zero, List.set_cons_succ]
  refine held_one (j := 5) (by kernel_rfl) rfl (fun K hK => ?_)
  try simp only [List.getElem_toArray, List.getElem_cons_succ, List.getElem_cons_zero]
  rw [if_pos (by rfl)]
  go_simp
  go_at_call 50
  (with_reducible refine (num_any n n0 n1 W W.drew RW.out.drew).mono ?_)
  rintro e w5 ⟨rfl, h5⟩
  rw [HN.out]
  refine hK.out _ _ h5 (fun hHeld => ?_)
  clear hK K
  try simp only [Act.put, List.setIfInBounds_toArray, List.set_cons_zero, List.set_cons_succ]
  refine held_take (i := 6) (v := ?_) (some 19) rfl rfl (by kernel_rfl) (by kernel_rfl) (by kernel_rfl) (fun _ _ _ h => h) (Or.inl ⟨by rfl, ?_⟩) hHeld ?_
  rotate_left 1
  · intro w' (h : Rel W w'); obtain ⟨⟨z0, z1, z2⟩, _⟩ := three_of (HX.out.rel h); obtain ⟨⟨u0, u1, u2⟩, _⟩ := three_of (HY.out.rel h); go_simp; try with_reducible rfl
  try simp only [Act.put, List.setIfInBounds_toArray, List.set_cons_zero, List.set_cons_succ]
  refine held_take (i := 7) (v := ?_) (some 4) rfl rfl (by kernel_rfl) (by kernel_rfl) (by kernel_rfl) (fun _ _ _ h => h) (Or.inl ⟨by rfl, ?_⟩) hHeld ?_
  rotate_left 1
  · intro w' (h : Rel W w'); obtain ⟨⟨z0, z1, z2⟩, _⟩ := three_of (HX.out.rel h); obtain ⟨⟨u0, u1, u2⟩, _⟩ := three_of (HY.out.rel h); go_simp; try with_reducible rfl
  try simp only [Act.put, List.setIfInBounds_toArray, List.set_cons_zero, List.set_cons_succ]
  refine wpAnyH_done (by kernel_rfl) ?_ _
  go_wp2_with (fail)
  go_ret
  exact ⟨ret_str HQ.out, HA.out.trans hHeld⟩
set_option maxRecDepth 100000 in
set_option maxHeartbeats 4000000 in
theorem line_num2 (wd : List UInt8) (M o n : Int) (nm : List UInt8) (hne : wd ≠ []) (hl : wd.length ≤ 10) (hn : i64 n) (hz : (itoa n).length ≤ 100) (w0 w : World) (hr : Rel w0 w) :
    Calls Tryd.prog 32 #[.agg #[.string (B wd), .int .i64 2, .int .i64 M], .agg #[.int .i64 o, .int .i64 n, .string (B nm)]] w fun r w' => r = .returned (.string (B (wd ++ 32 :: itoa n))) ∧ Rel w0 w' := by
  have HA := Lib.hid ((hr.alloc (.cells #[.string (B wd), .int .i64 2, .int .i64 M] 70)).alloc (.cells #[.int .i64 o, .int .i64 n, .string (B nm)] 44))
  have HX := Lib.hid ((Bk.new w 70 #[.string (B wd), .int .i64 2, .int .i64 M]).alloc (.cells #[.int .i64 o, .int .i64 n, .string (B nm)] 44))
  have HY := Lib.hid (Bk.new (w.alloc (.cells #[.string (B wd), .int .i64 2, .int .i64 M] 70)) 44 #[.int .i64 o, .int .i64 n, .string (B nm)])
  rw [World.size_alloc] at HY
  obtain ⟨W, hW⟩ : ∃ W, (w.alloc (.cells #[.string (B wd), .int .i64 2, .int .i64 M] 70)).alloc (.cells #[.int .i64 o, .int .i64 n, .string (B nm)] 44) = W := ⟨_, rfl⟩
  rw [hW] at HA HX HY
  have RW := Lib.hid HA.out.self
  obtain ⟨n0, n1⟩ := hn
  have s1 : (B wd).toList.isEmpty = false := by
    rw [B_toList]
    cases wd with
    | nil => exact absurd rfl hne
    | cons ch tl => rfl
  obtain ⟨P, hP⟩ : ∃ P, B wd ++ (⟨#[32]⟩ : ByteArray) = P := ⟨_, rfl⟩
  obtain ⟨N, hN⟩ : ∃ N, num n = N := ⟨_, rfl⟩
  obtain ⟨Q, hQ⟩ : ∃ Q, P ++ N = Q := ⟨_, rfl⟩
  have HN := Lib.hid hN
  have HQ := Lib.hid (show Q = B (wd ++ 32 :: itoa n) by rw [← hQ, ← hP, ← hN, show (⟨#[32]⟩ : ByteArray) = B [32] from rfl]; unfold num; rw [B_append, B_append]; simp)
  have zW : (B wd).size = wd.length := B_size wd
  have zP : P.size = wd.length + 1 := by rw [← hP, show (⟨#[32]⟩ : ByteArray) = B [32] from rfl, B_append, B_size]; simp
  have zN : N.size = (itoa n).length := by rw [← hN]; exact B_size _
  have g1 : ¬ 9223372036854775807 < (B wd).size + 1 := by omega
  have g2 : ¬ 9223372036854775807 < P.size + N.size := by omega
  obtain ⟨⟨x0, x1, x2⟩, _⟩ := three_of HX.out
  obtain ⟨⟨y0, y1, y2⟩, _⟩ := three_of HY.out
  clear hr hN zW zP zN
  go_enter Tryd.func32, Tryd.ntmps32
  go_upto_region 6 with (fail)
  refine wp_region_held_drew (S := (fun w' => Rel W w')) (by kernel_rfl) RW.out.drew (fun hHeld => ?_)
  refine held_take (i := 0) (v := ?_) (some 13) rfl rfl (by kernel_rfl) (by kernel_rfl) (by kernel_rfl) (fun _ _ _ h => h) (Or.inl ⟨by rfl, ?_⟩) hHeld ?_
  rotate_left 1
  · intro w' (h : Rel W w'); obtain ⟨⟨z0, z1, z2⟩, _⟩ := three_of (HX.out.rel h); obtain ⟨⟨u0, u1, u2⟩, _⟩ := three_of (HY.out.rel h); go_simp; try with_reducible rfl
  try simp only [Act.put, List.setIfInBounds_toArray, List.set_cons_zero, List.set_cons_succ]
  refine held_take (i := 1) (v := ?_) (some 14) rfl rfl (by kernel_rfl) (by kernel_rfl) (by kernel_rfl) (fun _ _ _ h => h) (Or.inl ⟨by rfl, ?_⟩) hHeld ?_
  rotate_left 1
  · intro w' (h : Rel W w'); obtain ⟨⟨z0, z1, z2⟩, _⟩ := three_of (HX.out.rel h); obtain ⟨⟨u0, u1, u2⟩, _⟩ := three_of (HY.out.rel h); go_simp; try with_reducible rfl
  try simp only [Act.put, List.setIfInBounds_toArray, List.set_cons_zero, List.set_cons_succ]
  refine held_take (i := 2) (v := ?_) (some 15) rfl rfl (by kernel_rfl) (by kernel_rfl) (by kernel_rfl) (fun _ _ _ h => h) (Or.inl ⟨by rfl, ?_⟩) hHeld ?_
  rotate_left 1
  · intro w' (h : Rel W w'); obtain ⟨⟨z0, z1, z2⟩, _⟩ := three_of (HX.out.rel h); obtain ⟨⟨u0, u1, u2⟩, _⟩ := three_of (HY.out.rel h); go_simp; try with_reducible rfl
  try simp only [Act.put, List.setIfInBounds_toArray, List.set_cons_zero, List.set_cons_succ]
  refine held_take (i := 3) (v := ?_) (some 16) rfl rfl (by kernel_rfl) (by kernel_rfl) (by kernel_rfl) (fun _ _ _ h => h) (Or.inl ⟨by rfl, ?_⟩) hHeld ?_
  rotate_left 1
  · intro w' (h : Rel W w'); obtain ⟨⟨z0, z1, z2⟩, _⟩ := three_of (HX.out.rel h); obtain ⟨⟨u0, u1, u2⟩, _⟩ := three_of (HY.out.rel h); go_simp; try with_reducible rfl
  try simp only [Act.put, List.setIfInBounds_toArray, List.set_cons_zero, List.set_cons_succ]
  refine held_take (i := 4) (v := ?_) (some 17) rfl rfl (by kernel_rfl) (by kernel_rfl) (by kernel_rfl) (fun _ _ _ h => h) (Or.inl ⟨by rfl, ?_⟩) hHeld ?_
  rotate_left 1
  · intro w' (h : Rel W w'); obtain ⟨⟨z0, z1, z2⟩, _⟩ := three_of (HX.out.rel h); obtain ⟨⟨u0, u1, u2⟩, _⟩ := three_of (HY.out.rel h); go_simp; try with_reducible rfl
  try simp only [Act.put, List.setIfInBounds_toArray, List.set_cons_zero, List.set_cons_succ]
  refine held_one (j := 5) (by kernel_rfl) rfl (fun K hK => ?_)
  try simp only [List.getElem_toArray, List.getElem_cons_succ, List.getElem_cons_zero]
  rw [if_pos (by rfl)]
  go_simp
  go_at_call 50
  (with_reducible refine (num_any n n0 n1 W W.drew RW.out.drew).mono ?_)
  rintro e w5 ⟨rfl, h5⟩
  rw [HN.out]
  refine hK.out _ _ h5 (fun hHeld => ?_)
  clear hK K
  try simp only [Act.put, List.setIfInBounds_toArray, List.set_cons_zero, List.set_cons_succ]
  refine held_take (i := 6) (v := ?_) (some 19) rfl rfl (by kernel_rfl) (by kernel_rfl) (by kernel_rfl) (fun _ _ _ h => h) (Or.inl ⟨by rfl, ?_⟩) hHeld ?_
  rotate_left 1
  · intro w' (h : Rel W w'); obtain ⟨⟨z0, z1, z2⟩, _⟩ := three_of (HX.out.rel h); obtain ⟨⟨u0, u1, u2⟩, _⟩ := three_of (HY.out.rel h); go_simp; try with_reducible rfl
  try simp only [Act.put, List.setIfInBounds_toArray, List.set_cons_zero, List.set_cons_succ]
  refine held_take (i := 7) (v := ?_) (some 4) rfl rfl (by kernel_rfl) (by kernel_rfl) (by kernel_rfl) (fun _ _ _ h => h) (Or.inl ⟨by rfl, ?_⟩) hHeld ?_
  rotate_left 1
  · intro w' (h : Rel W w'); obtain ⟨⟨z0, z1, z2⟩, _⟩ := three_of (HX.out.rel h); obtain ⟨⟨u0, u1, u2⟩, _⟩ := three_of (HY.out.rel h); go_simp; try with_reducible rfl
  try simp only [Act.put, List.setIfInBounds_toArray, List.set_cons_zero, List.set_cons_succ]
  refine wpAnyH_done (by kernel_rfl) ?_ _
  go_wp2_with (fail)
  go_ret
  exact ⟨ret_str HQ.out, HA.out.trans hHeld⟩
end Go.Proofs.YtldopbkjchgcnaaDoor
