/- The document's own fine, whole; Right and Print; The document's own Right and Print; The document's own answers of layer 10: Compile; which code is the same. -/
import Derived.Test.YtldopbkjchgcnaaDoorZ14
import Derived.Test.YtldopbkjchgcnaaDoorZ15
import Derived.Test.YtldopbkjchgcnaaDoorZ09
namespace Go.Proofs.YtldopbkjchgcnaaDoor
open Go.RowKit Go.Lib
set_option linter.unusedVariables false
set_option linter.unusedSimpArgs false

theorem str_empty (a : List UInt8) : ((B a).toList == []) = decide (a = []) := by
  rw [B_toList]; cases a <;> simp
theorem fine_all {d : Nat} {k : Int} {l : List Ex} : ((l.zipIdx).all fun p => (isCond p.1.k == (decide (k = 10) && decide (p.2 = 0))) && fine d p.1) = true ↔ ∀ i (h : i < l.length), okA d k l i h := by
  simp only [List.all_eq_true, Bool.and_eq_true, beq_iff_eq]
  constructor
  · intro h i hi
    exact h (l[i], i) (by rw [List.mem_iff_getElem]; exact ⟨i, by simpa using hi, by simp⟩)
  · rintro h ⟨y, i⟩ hy
    obtain ⟨j, hj, e⟩ := List.mem_iff_getElem.1 hy
    simp at hj e
    obtain ⟨rfl, rfl⟩ := e
    exact h j hj
theorem len_sizes : ∀ l : List Ex, l.length ≤ sizes l := fun l => by
  induction l with
  | nil => simp
  | cons x t ih => rw [sizes_cons, List.length_cons]; have := size_pos x; omega
set_option maxHeartbeats 2000000 in
theorem rfine_any : ∀ (d : Nat), d ≤ 40 → ∀ (x : Ex) (S : Nat → Prop) (e : El) (w0 w : World), Rel w0 w → ExAt S w e x → size x ≤ 1000000 →
    Calls Tryd.prog 44 #[EV e, .int .i64 (d : Int)] w fun r w' => r = .returned (.bool (fine d x)) ∧ Rel w0 w' := by
  intro d
  induction d with
  | zero =>
    intro _ x S e w0 w hr h hz
    cases x with
    | mk k n nm l =>
      obtain ⟨A, c, es, rfl, hk, hn, hm, hl, hrow, hsub⟩ := h.open
      rw [size_mk] at hz
      have := len_sizes l
      exact rfine_no0 k n l A c (by omega) w0 w hr (argsN k) (mostN k) (Lib.hid rfl) (Lib.hid rfl) (B nm) (by rw [B_size]; exact hm)
  | succ d ih =>
    intro hd x S e w0 w hr h hz
    cases x with
    | mk k n nm l =>
      obtain ⟨A, c, es, rfl, hk, hn, hm, hl, hrow, hsub⟩ := h.open
      rw [size_mk] at hz
      have hll := len_sizes l
      have hl9 : l.length ≤ 1000000 := by omega
      have zNM : (B nm).size ≤ 100 := by rw [B_size]; exact hm
      have q0 : decide ((d : Int) + 1 < 1) = false := by simp; omega
      have hcast : (((d + 1 : Nat) : Int)) = (d : Int) + 1 := by omega
      rw [hcast, fine_eq]
      by_cases d1 : argsN k = (l.length : Int)
      · have q1 : (argsN k != (l.length : Int)) = false := by simp [d1]
        have q1' : (argsN k == (l.length : Int)) = true := by simp [d1]
        by_cases d2 : n < 0
        · have hf : (decide (0 ≤ n ∧ n ≤ mostN k)) = false := by simp; omega
          rw [hf]
          simp only [Bool.and_false, Bool.false_and]
          exact rfine_no2 k n l A c d (by omega) hl9 w0 w hr _ _ (Lib.hid rfl) (Lib.hid rfl) (B nm) zNM q0 q1 q1' (by simpa using d2)
        · have q2 : decide (n < 0) = false := by simpa using d2
          by_cases d3 : mostN k < n
          · have hf : (decide (0 ≤ n ∧ n ≤ mostN k)) = false := by simp; omega
            rw [hf]
            simp only [Bool.and_false, Bool.false_and]
            exact rfine_no3 k n l A c d (by omega) hl9 w0 w hr _ _ (Lib.hid rfl) (Lib.hid rfl) (B nm) zNM q0 q1 q1' q2 (by simpa using d3)
          · have q3 : decide (mostN k < n) = false := by simpa using d3
            have hs := str_empty nm
            by_cases d4 : nm = []
            · have q4' : ((B nm).toList == []) = true := by rw [hs]; simpa using d4
              have q4 : ((B nm).toList != []) = false := by simp [bne, q4']
              by_cases d5 : k = 3
              · have hf : (decide (nm ≠ []) == decide (k = 3)) = false := by simp [d4, d5]
                rw [hf]
                simp only [Bool.and_false, Bool.false_and]
                exact rfine_no5 k n l A c d (by omega) hl9 w0 w hr _ _ (Lib.hid rfl) (Lib.hid rfl) (B nm) zNM q0 q1 q1' q2 q3 q4 q4' (by simpa using d5)
              · have q5 : (k == 3) = false := by simpa using d5
                obtain ⟨b, hb⟩ : ∃ b, ((l.zipIdx).all fun p => (isCond p.1.k == (decide (k = 10) && decide (p.2 = 0))) && fine d p.1) = b := ⟨_, rfl⟩
                have hbb := fine_all (d := d) (k := k) (l := l)
                rw [hb] at hbb
                have hf : (decide (argsN k = (l.length : Int)) && decide (0 ≤ n ∧ n ≤ mostN k) && (decide (nm ≠ []) == decide (k = 3)) && (decide (k ≠ 3) || isName nm)) = true := by
                  have e1 : 0 ≤ n ∧ n ≤ mostN k := ⟨by omega, by omega⟩
                  simp [d1, e1, d4, d5]
                rw [hf, hb, Bool.true_and]
                exact rfine_args k n l A c d (by omega) hl9 w0 w hr _ _ (Lib.hid rfl) (Lib.hid rfl) (B nm) zNM q0 q1 q1' q2 q3 q4 q4' q5 S es hl (Lib.hid hrow) (Lib.hid hsub) (by omega) (Lib.hid (ih (by omega))) b (Lib.hid hbb)
            · have q4' : ((B nm).toList == []) = false := by rw [hs]; simpa using d4
              have q4 : ((B nm).toList != []) = true := by simp [bne, q4']
              by_cases d5 : k = 3
              · have q5 : (k == 3) = true := by simpa using d5
                cases hnm : isName nm
                · have hf : (decide (k ≠ 3) || isName nm) = false := by simp [d5, hnm]
                  rw [hnm] at hf
                  rw [hf]
                  simp only [Bool.and_false, Bool.false_and]
                  exact rfine_no6 k n l A c d (by omega) hl9 w0 w hr _ _ (Lib.hid rfl) (Lib.hid rfl) (B nm) zNM q0 q1 q1' q2 q3 q4 q4' q5 (Lib.hid (by rw [B_list]; exact hnm))
                · have hl0 : l.length = 0 := by subst d5; have : argsN 3 = 0 := by decide
                                                omega
                  have hln : l = [] := List.length_eq_zero_iff.1 hl0
                  have hf : (decide (argsN k = (l.length : Int)) && decide (0 ≤ n ∧ n ≤ mostN k) && (decide (nm ≠ []) == decide (k = 3)) && (decide (k ≠ 3) || true)) = true := by
                    have e1 : 0 ≤ n ∧ n ≤ mostN k := ⟨by omega, by omega⟩
                    rw [decide_eq_true d1, decide_eq_true e1, decide_eq_true d4, decide_eq_true d5]; simp
                  rw [hf, hln]
                  simp only [Bool.true_and, List.zipIdx_nil, List.all_nil]
                  rw [hln] at hl9 q1 q1' hl0
                  exact rfine_name k n [] A c d (by omega) hl9 w0 w hr _ _ (Lib.hid rfl) (Lib.hid rfl) (B nm) zNM q0 q1 q1' q2 q3 q4 q4' q5 (Lib.hid (by rw [B_list]; exact hnm)) rfl
              · have hf : (decide (nm ≠ []) == decide (k = 3)) = false := by simp [d4, d5]
                rw [hf]
                simp only [Bool.and_false, Bool.false_and]
                exact rfine_no4 k n l A c d (by omega) hl9 w0 w hr _ _ (Lib.hid rfl) (Lib.hid rfl) (B nm) zNM q0 q1 q1' q2 q3 q4 q4' (by simpa using d5)
      · have hf : decide (argsN k = (l.length : Int)) = false := by simpa using d1
        rw [hf]
        simp only [Bool.false_and]
        exact rfine_no1 k n l A c d (by omega) hl9 w0 w hr _ _ (Lib.hid rfl) (Lib.hid rfl) (B nm) zNM q0 (by simp [bne, d1]) (by simp [d1])
end Go.Proofs.YtldopbkjchgcnaaDoor

namespace Go.Proofs.YtldopbkjchgcnaaDoor
open Go.RowKit Go.Lib
set_option linter.unusedVariables false
set_option linter.unusedSimpArgs false

theorem rfine32 (x : Ex) (S : Nat → Prop) (e : El) (w0 w : World) (hr : Rel w0 w) (h : ExAt S w e x) (hz : size x ≤ 1000000) :
    Calls Tryd.prog 44 #[EV e, .int .i64 32] w fun r w' => r = .returned (.bool (fine 32 x)) ∧ Rel w0 w' := rfine_any 32 (by omega) x S e w0 w hr h hz
set_option maxRecDepth 100000 in
set_option maxHeartbeats 4000000 in
theorem rright_any (x : Ex) (S : Nat → Prop) (e : El) (w0 w : World) (hr : Rel w0 w) (h : ExAt S w e x) (hz : size x ≤ 1000000) :
    Calls Tryd.prog 28 #[EV e] w fun r w' => r = .returned (.bool (rightX x)) ∧ Rel w0 w' := by
  have HE := Lib.hid h
  have HR := Lib.hid hr
  obtain ⟨k, n, nm, A, m, c⟩ := e
  have hke : x.k = k := h.kind
  have HB := Lib.hid (Bk.new w 27 #[.int .i64 k, .int .i64 n, .string (B nm), .slice A m c])
  have HA := Lib.hid (hr.self.alloc (.cells #[.int .i64 k, .int .i64 n, .string (B nm), .slice A m c] 27))
  have HFi := Lib.hid (fun (w' : World) (h' : Rel w w') => rfine32 x S (k, n, nm, A, m, c) w' w' (hr.trans h').self (h.rel h') hz)
  have HSi := Lib.hid (fun (w' : World) (h' : Rel w w') => rsize_any x S (k, n, nm, A, m, c) w' w' (hr.trans h').self (h.rel h') hz)
  have hRX : rightX x = (fine 32 x && !isCond k && decide (size x ≤ 2000) && decide ((text x).length ≤ 2000)) := by unfold rightX; rw [hke]
  obtain ⟨b, hb⟩ : ∃ b, fine 32 x = b := ⟨_, rfl⟩
  have HTx := Lib.hid (fun (hf : fine 32 x = true) (hs : size x ≤ 2000) (w' : World) (h' : Rel w w') => rtext7_any x 32 S (k, n, nm, A, m, c) w' w' hf (hr.trans h').self (h.rel h') hs)
  have HFT := Lib.hid hb
  have HTL := Lib.hid (fun (hf : fine 32 x = true) => text_len x 32 hf)
  rw [hb] at HFi hRX
  clear h hb
  cases b with
  | false =>
    have HX := Lib.hid (show rightX x = false by rw [hRX]; simp)
    clear hRX
    go_enter Tryd.func28, Tryd.ntmps28
    go_wp2_with (go_at_call 44; (with_reducible refine (HFi.out _ HA.out).mono ?_); rintro e w1 ⟨rfl, h1⟩; obtain ⟨⟨c0, c1, c2, c3⟩, _⟩ := (HB.out.rel h1).four)
    go_ret
    exact ⟨ret_bool HX.out.symm, (HR.out.trans HA.out).trans h1⟩
  | true =>
    obtain ⟨q, hq⟩ : ∃ q, isCond k = q := ⟨_, rfl⟩
    have HQ := Lib.hid hq
    rw [hq] at hRX
    clear hq
    cases q with
    | true =>
      have HX := Lib.hid (show rightX x = false by rw [hRX]; simp)
      clear hRX
      go_enter Tryd.func28, Tryd.ntmps28
      go_wp2_with (first
        | (go_at_call 44; (with_reducible refine (HFi.out _ HA.out).mono ?_); rintro e w1 ⟨rfl, h1⟩; obtain ⟨⟨c0, c1, c2, c3⟩, _⟩ := (HB.out.rel h1).four)
        | (go_at_call 45; (with_reducible refine (cond_as k _ HQ _).mono ?_); rintro e w' ⟨rfl, rfl⟩))
      go_ret
      exact ⟨ret_bool HX.out.symm, (HR.out.trans HA.out).trans h1⟩
    | false =>
      obtain ⟨sz, hsz⟩ : ∃ s, size x = s := ⟨_, rfl⟩
      have HSZ := Lib.hid hsz
      rw [hsz] at hRX HSi hz
      clear hsz
      by_cases h2 : sz ≤ 2000
      · obtain ⟨T, hT⟩ : ∃ T, B (text x) = T := ⟨_, rfl⟩
        have hTs : T.size = (text x).length := by rw [← hT, B_size]
        have hTl : T.size ≤ 120000 := by rw [hTs]; have := HTL.out HFT.out; have := HSZ.out; omega
        have HTT := Lib.hid (HTx.out HFT.out (by rw [HSZ.out]; exact h2))
        rw [hT] at HTT
        have HX := Lib.hid (show rightX x = decide (T.size ≤ 2000) by rw [hRX, hTs]; simp [h2])
        have i2 : (sz : Int) ≤ 2000 := by omega
        clear hRX hT hTs
        by_cases h3 : T.size ≤ 2000
        · have i3 : (T.size : Int) ≤ 2000 := by omega
          go_enter Tryd.func28, Tryd.ntmps28
          go_wp2_with (first
            | (go_at_call 44; (with_reducible refine (HFi.out _ HA.out).mono ?_); rintro e w1 ⟨rfl, h1⟩; obtain ⟨⟨c0, c1, c2, c3⟩, _⟩ := (HB.out.rel h1).four)
            | (go_at_call 45; (with_reducible refine (cond_as k _ HQ _).mono ?_); rintro e w' ⟨rfl, rfl⟩)
            | (go_at_call 46; (with_reducible refine (HSi.out _ (HA.out.trans h1)).mono ?_); rintro e w2 ⟨rfl, h2'⟩; obtain ⟨⟨d0, d1, d2, d3⟩, _⟩ := ((HB.out.rel h1).rel h2').four)
            | (go_at_call 47; (with_reducible refine (HTT.out _ ((HA.out.trans h1).trans h2')).mono ?_); rintro e w3 ⟨rfl, h3'⟩))
          go_ret
          exact ⟨ret_bool (by rw [HX.out]; simp [h3]), (((HR.out.trans HA.out).trans h1).trans h2').trans h3'⟩
        · have i3 : ¬ (T.size : Int) ≤ 2000 := by omega
          go_enter Tryd.func28, Tryd.ntmps28
          go_wp2_with (first
            | (go_at_call 44; (with_reducible refine (HFi.out _ HA.out).mono ?_); rintro e w1 ⟨rfl, h1⟩; obtain ⟨⟨c0, c1, c2, c3⟩, _⟩ := (HB.out.rel h1).four)
            | (go_at_call 45; (with_reducible refine (cond_as k _ HQ _).mono ?_); rintro e w' ⟨rfl, rfl⟩)
            | (go_at_call 46; (with_reducible refine (HSi.out _ (HA.out.trans h1)).mono ?_); rintro e w2 ⟨rfl, h2'⟩; obtain ⟨⟨d0, d1, d2, d3⟩, _⟩ := ((HB.out.rel h1).rel h2').four)
            | (go_at_call 47; (with_reducible refine (HTT.out _ ((HA.out.trans h1).trans h2')).mono ?_); rintro e w3 ⟨rfl, h3'⟩))
          go_ret
          exact ⟨ret_bool (by rw [HX.out]; simp [h3]; omega), (((HR.out.trans HA.out).trans h1).trans h2').trans h3'⟩
      · have HX := Lib.hid (show rightX x = false by rw [hRX]; simp [h2])
        have i2 : ¬ (sz : Int) ≤ 2000 := by omega
        clear hRX
        go_enter Tryd.func28, Tryd.ntmps28
        go_wp2_with (first
          | (go_at_call 44; (with_reducible refine (HFi.out _ HA.out).mono ?_); rintro e w1 ⟨rfl, h1⟩; obtain ⟨⟨c0, c1, c2, c3⟩, _⟩ := (HB.out.rel h1).four)
          | (go_at_call 45; (with_reducible refine (cond_as k _ HQ _).mono ?_); rintro e w' ⟨rfl, rfl⟩)
          | (go_at_call 46; (with_reducible refine (HSi.out _ (HA.out.trans h1)).mono ?_); rintro e w2 ⟨rfl, h2'⟩))
        go_ret
        exact ⟨ret_bool (by rw [HX.out]), ((HR.out.trans HA.out).trans h1).trans h2'⟩
/-- What Print tells: its text, or none. -/
def prT (x : Ex) : List UInt8 := if rightX x then text x else []
def prE (x : Ex) : Int := if rightX x then 0 else 1
end Go.Proofs.YtldopbkjchgcnaaDoor

namespace Go.Proofs.YtldopbkjchgcnaaDoor
open Go.RowKit Go.Lib
set_option linter.unusedVariables false
set_option linter.unusedSimpArgs false

/-- What a strategy is compiled to, and the error. -/
def codX (x : Ex) : List In := if rightX x then cod x 0 else []
def codR (x : Ex) : Int := if rightX x then 0 else 1
theorem codX_yes {x : Ex} (h : rightX x = true) : codX x = cod x 0 ∧ codR x = 0 := by unfold codX codR; rw [if_pos h, if_pos h]; exact ⟨rfl, rfl⟩
theorem codX_no {x : Ex} (h : rightX x = false) : codX x = [] ∧ codR x = 1 := by unfold codX codR; rw [if_neg (by simp [h]), if_neg (by simp [h])]; exact ⟨rfl, rfl⟩
theorem codX_fit (x : Ex) : InsFit (codX x) := by
  cases h : rightX x with
  | true => rw [(codX_yes h).1]; exact ins_fit (right_code h).1
  | false => rw [(codX_no h).1]; intro o ho; cases ho
theorem codX_len (x : Ex) : (codX x).length ≤ 4000 := by
  cases h : rightX x with
  | true => rw [(codX_yes h).1]; have := right_code h; omega
  | false => rw [(codX_no h).1]; simp
set_option maxRecDepth 100000 in
set_option maxHeartbeats 4000000 in
theorem rcompile_any (x : Ex) (S : Nat → Prop) (e : El) (w0 w : World) (hr : Rel w0 w) (h : ExAt S w e x) (hz : size x ≤ 1000000) :
    Calls Tryd.prog 12 #[EV e] w fun r w' => ∃ A c, r = .returned (.tuple #[.slice A (codX x).length c, .int .i64 (codR x)]) ∧ InsOwn w' w.heap.size (.slice A (codX x).length c) (codX x) ∧ Rel w0 w' := by
  have HR := Lib.hid hr
  have HE := Lib.hid h
  obtain ⟨k, n, nm, A', m, c'⟩ := e
  have HB := Lib.hid (Bk.new w 27 #[.int .i64 k, .int .i64 n, .string (B nm), .slice A' m c'])
  have HA := Lib.hid (hr.self.alloc (.cells #[.int .i64 k, .int .i64 n, .string (B nm), .slice A' m c'] 27))
  have hws : w.heap.size ≤ (w.alloc (.cells #[.int .i64 k, .int .i64 n, .string (B nm), .slice A' m c'] 27)).heap.size := by rw [World.size_alloc]; omega
  obtain ⟨W, hW⟩ : ∃ W, w.alloc (.cells #[.int .i64 k, .int .i64 n, .string (B nm), .slice A' m c'] 27) = W := ⟨_, rfl⟩
  rw [hW] at HA HB hws
  have hC := rright_any x S (k, n, nm, A', m, c') W W HA.out.self (h.rel HA.out) hz
  obtain ⟨⟨b0, b1, b2, b3⟩, _⟩ := HB.out.four
  cases hx : rightX x with
  | false =>
    obtain ⟨e1, e2⟩ := codX_no hx
    rw [e1, e2]
    rw [hx] at hC
    have HC := Lib.hid hC
    clear hC hx e1 e2 h hr
    go_enter Tryd.func12, Tryd.ntmps12
    go_wp2_with (go_at_call 28; (with_reducible refine HC.out.mono ?_); rintro e w1 ⟨rfl, h1⟩)
    go_ret2
    exact ⟨none, 0, rfl, InsOwn.nil _ _, HR.out.trans (HA.out.trans h1)⟩
  | true =>
    obtain ⟨e1, e2⟩ := codX_yes hx
    obtain ⟨_, hl, h4⟩ := right_code hx
    have hf : fine 32 x = true := by unfold rightX at hx; simp only [Bool.and_eq_true] at hx; exact hx.1.1.1
    have hK := rcode_at (rcode_all 32 x hf) (h.rel HA.out) 0 (by omega) _ hl.symm _ rfl 0 rfl
    rw [e1, e2]
    rw [hx] at hC
    have HC := Lib.hid hC
    have HK := Lib.hid hK
    generalize cod x 0 = l at *
    clear hC hK hx e1 e2 h hr hl
    go_enter Tryd.func12, Tryd.ntmps12
    go_wp2_with (first
      | (go_at_call 28; (with_reducible refine HC.out.mono ?_); rintro e w1 ⟨rfl, h1⟩; have R1 := Lib.hid h1; obtain ⟨⟨d0, d1, d2, d3⟩, _⟩ := (HB.out.rel h1).four)
      | (go_at_call 29; (with_reducible refine (HK.out _ R1.out).mono ?_); rintro e w2 ⟨A2, c2, rfl, o2, h2⟩))
    go_ret2
    exact ⟨A2, c2, rfl, o2.base (Nat.le_trans hws R1.out.size), HR.out.trans (HA.out.trans (R1.out.trans h2))⟩
set_option maxRecDepth 100000 in
set_option maxHeartbeats 4000000 in
theorem rsame10_any (A A' : Option Addr) (c c' : Nat) (l m : List In) (b : Bool) (hb : Hid (b = true ↔ l = m)) (hl : l.length ≤ 100000) (hm : m.length ≤ 100000) (w0 w : World) (hr : Rel w0 w) (h : InsAt w A l) (h' : InsAt w A' m) :
    Calls Tryd.prog 13 #[.slice A l.length c, .slice A' m.length c'] w fun e w' => e = .returned (.bool b) ∧ Rel w0 w' := by
  have HR := Lib.hid hr
  have HS := Lib.hid hr.self
  have HA := Lib.hid h
  have HA' := Lib.hid h'
  clear h h' hr
  by_cases hlm : l.length = m.length
  · have HLM := Lib.hid hlm
    rw [hlm]
    have hbm : (m.length : Int) ≤ 100000 := by omega
    go_enter Tryd.func13, Tryd.ntmps13
    go_wp2_with (fail)
    go_loopw [5] (fun i wr => ∃ j : Nat, j ≤ m.length ∧ i = .int .i64 (j : Int) ∧ Hid (∀ k (hk : k < l.length) (hk' : k < m.length), k < j → l[k] = m[k]) ∧ Rel w wr) (fun i _ => m.length - (RowKit.intOf i).toNat)
    case atStart => exact ⟨0, by omega, rfl, Lib.hid (fun k _ _ hk => absurd hk (by omega)), HS.out⟩
    case round =>
      obtain ⟨j, hj, rfl, HN, hRw⟩ := hrel
      have HRw := Lib.hid hRw
      by_cases hlt : j < m.length
      · obtain ⟨g, off, rfl, hg, x0, x1, x2⟩ := (HA.out.rel hRw) j (by rw [HLM.out]; exact hlt)
        obtain ⟨g', off', rfl, hg', y0, y1, y2⟩ := (HA'.out.rel hRw) j hlt
        have HE := Lib.hid (show ∀ p q : In, l[j]'(by rw [HLM.out]; exact hlt) = p → m[j] = q → (l = m → p = q) ∧ (p = q → ∀ k (hk : k < l.length) (hk' : k < m.length), k < j + 1 → l[k] = m[k]) from fun p q h1 h2 => ⟨fun e => by subst e; rw [← h1, ← h2], fun e k hk hk' hkj => by
          by_cases e2 : k = j
          · subst e2; rw [h1, h2, e]
          · exact HN.out k hk hk' (by omega)⟩)
        obtain ⟨p, hp⟩ : ∃ p, l[j]'(by rw [HLM.out]; exact hlt) = p := ⟨_, rfl⟩
        obtain ⟨q, hq⟩ : ∃ q, m[j] = q := ⟨_, rfl⟩
        have HE2 := Lib.hid (HE.out p q hp hq)
        rw [hp] at x0 x1 x2
        rw [hq] at y0 y1 y2
        obtain ⟨o, n, nm⟩ := p
        obtain ⟨o', n', nm'⟩ := q
        clear hRw hg hg' hp hq
        by_cases e1 : o = o'
        · by_cases e2 : n = n'
          · by_cases e3 : nm = nm'
            · subst e1; subst e2; subst e3
              have HN2 := Lib.hid (HE2.out.2 rfl)
              go_wp2_with (fail)
              go_quiet (fail)
              go_wp2_with (fail)
              go_roundw
              case rel => exact ⟨j + 1, by omega, by go_num, HN2, HRw.out.drewN _⟩
              case measure => simp [RowKit.intOf]; omega
            · have hbv : b = false := (by cases b with
                | false => rfl
                | true => have := HE2.out.1 (hb.out.1 rfl); exact absurd (by injection this with _ h; injection h) e3)
              have e4 : B nm ≠ B nm' := fun e => e3 (by rw [← B_list nm, ← B_list nm', e])
              have e5 := list_ne e4
              subst e1; subst e2
              subst hbv
              go_wp2_with (fail)
              go_quiet (fail)
              go_wp2_with (fail)
              go_ret
              exact ⟨rfl, (HR.out.trans HRw.out).drewN _⟩
          · have hbv : b = false := (by cases b with
              | false => rfl
              | true => have := HE2.out.1 (hb.out.1 rfl); exact absurd (by injection this with _ h; injection h) e2)
            have e5 : (n == n') = false := by simpa using e2
            subst e1
            subst hbv
            go_wp2_with (fail)
            go_quiet (fail)
            go_wp2_with (fail)
            go_ret
            exact ⟨rfl, (HR.out.trans HRw.out).drewN _⟩
        · have hbv : b = false := (by cases b with
            | false => rfl
            | true => have := HE2.out.1 (hb.out.1 rfl); exact absurd (by injection this) e1)
          have e5 : (o == o') = false := by simpa using e1
          subst hbv
          go_wp2_with (fail)
          go_quiet (fail)
          go_wp2_with (fail)
          go_ret
          exact ⟨rfl, (HR.out.trans HRw.out).drewN _⟩
      · obtain rfl : j = m.length := by omega
        have hbv : b = true := (show b = true from hb.out.2 (List.ext_getElem HLM.out fun k h1 h2 => HN.out k h1 h2 h2))
        subst hbv
        go_wp2_with (fail)
        go_ret
        exact ⟨rfl, HR.out.trans HRw.out⟩
  · have hbv : b = false := (by cases b with
      | false => rfl
      | true => exact absurd (by rw [hb.out.1 rfl]) hlm)
    have k1 : ((l.length : Int) == (m.length : Int)) = false := by rw [beq_eq_false_iff_ne]; omega
    have k2 : (l.length == m.length) = false := by simpa using hlm
    subst hbv
    go_enter Tryd.func13, Tryd.ntmps13
    go_wp2_with (fail)
    go_ret
    exact ⟨rfl, HR.out⟩
end Go.Proofs.YtldopbkjchgcnaaDoor
