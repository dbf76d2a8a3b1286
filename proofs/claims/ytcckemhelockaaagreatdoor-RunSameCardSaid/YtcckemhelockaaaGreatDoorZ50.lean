/- The document's own fine, whole; Right and Print; The document's own Right and Print; The document's own answers of layer 9: which offers may be (Right); The document's own answers of layer 1 that layer 9 asks for. -/
import Derived.Test.YtcckemhelockaaaGreatDoorZL
import Derived.Test.YtcckemhelockaaaGreatDoorZ00
import Derived.Test.YtcckemhelockaaaGreatDoorZ01
import Derived.Test.YtcckemhelockaaaGreatDoorZ02
import Derived.Test.YtcckemhelockaaaGreatDoorZ03
import Derived.Test.YtcckemhelockaaaGreatDoorZ36
import Derived.Test.YtcckemhelockaaaGreatDoorZ45
import Derived.Test.YtcckemhelockaaaGreatDoorZ46
import Derived.Test.YtcckemhelockaaaGreatDoorZ47
import Derived.Test.YtcckemhelockaaaGreatDoorZ48
import Derived.Test.YtcckemhelockaaaGreatDoorZ49
namespace Go.Proofs.YtcckemhelockaaaGreatDoor
open Go.RowKit Go.Lib
set_option linter.unusedVariables false
set_option linter.unusedSimpArgs false
theorem str_empty (a : List UInt8) : ((B a).toList == []) = decide (a = []) := by
  rw [B_toList]; cases a <;> simp
theorem fine_all {d : Nat} {k : Int} {l : List Ex} : ((l.zipIdx).all fun p => (isCond p.1.k == (decide (k = 10) && decide (p.2 = 0))) && fine d p.1) = true ↔ ∀ i (h : i < l.length), okA d k l i h := by
  simp only [List.all_eq_true, Bool.and_eq_true, beq_iff_eq]
  constructor
  · intro h i hi
    exact h (l[i], i) (by rw [List.mem_iff_getElem]; exact ⟨i, by simpa using hi, by simp⟩)
  · rintro h ⟨y, i⟩ hy
    obtain ⟨j, hj, e⟩ := List.mem_iff_getElem.1 hy
    simp at hj e
    obtain ⟨rfl, rfl⟩ := e
    exact h j hj
theorem len_sizes : ∀ l : List Ex, l.length ≤ sizes l := fun l => by
  induction l with
  | nil => simp
  | cons x t ih => rw [sizes_cons, List.length_cons]; have := size_pos x; omega
set_option maxHeartbeats 2000000 in
theorem rfine_any : ∀ (d : Nat), d ≤ 40 → ∀ (x : Ex) (S : Nat → Prop) (e : El) (w0 w : World), Rel w0 w → ExAt S w e x → size x ≤ 1000000 →
    Calls Tryz.prog 60 #[EV e, .int .i64 (d : Int)] w fun r w' => r = .returned (.bool (fine d x)) ∧ Rel w0 w' := by
  intro d
  induction d with
  | zero =>
    intro _ x S e w0 w hr h hz
    cases x with
    | mk k n nm l =>
      obtain ⟨A, c, es, rfl, hk, hn, hm, hl, hrow, hsub⟩ := h.open
      rw [size_mk] at hz
      have := len_sizes l
      exact rfine_no0 k n l A c (by omega) w0 w hr (argsN k) (mostN k) (Lib.hid rfl) (Lib.hid rfl) (B nm) (by rw [B_size]; exact hm)
  | succ d ih =>
    intro hd x S e w0 w hr h hz
    cases x with
    | mk k n nm l =>
      obtain ⟨A, c, es, rfl, hk, hn, hm, hl, hrow, hsub⟩ := h.open
      rw [size_mk] at hz
      have hll := len_sizes l
      have hl9 : l.length ≤ 1000000 := by omega
      have zNM : (B nm).size ≤ 100 := by rw [B_size]; exact hm
      have q0 : decide ((d : Int) + 1 < 1) = false := by simp; omega
      have hcast : (((d + 1 : Nat) : Int)) = (d : Int) + 1 := by omega
      rw [hcast, fine_eq]
      by_cases d1 : argsN k = (l.length : Int)
      · have q1 : (argsN k != (l.length : Int)) = false := by simp [d1]
        have q1' : (argsN k == (l.length : Int)) = true := by simp [d1]
        by_cases d2 : n < 0
        · have hf : (decide (0 ≤ n ∧ n ≤ mostN k)) = false := by simp; omega
          rw [hf]
          simp only [Bool.and_false, Bool.false_and]
          exact rfine_no2 k n l A c d (by omega) hl9 w0 w hr _ _ (Lib.hid rfl) (Lib.hid rfl) (B nm) zNM q0 q1 q1' (by simpa using d2)
        · have q2 : decide (n < 0) = false := by simpa using d2
          by_cases d3 : mostN k < n
          · have hf : (decide (0 ≤ n ∧ n ≤ mostN k)) = false := by simp; omega
            rw [hf]
            simp only [Bool.and_false, Bool.false_and]
            exact rfine_no3 k n l A c d (by omega) hl9 w0 w hr _ _ (Lib.hid rfl) (Lib.hid rfl) (B nm) zNM q0 q1 q1' q2 (by simpa using d3)
          · have q3 : decide (mostN k < n) = false := by simpa using d3
            have hs := str_empty nm
            by_cases d4 : nm = []
            · have q4' : ((B nm).toList == []) = true := by rw [hs]; simpa using d4
              have q4 : ((B nm).toList != []) = false := by simp [bne, q4']
              by_cases d5 : k = 3
              · have hf : (decide (nm ≠ []) == decide (k = 3)) = false := by simp [d4, d5]
                rw [hf]
                simp only [Bool.and_false, Bool.false_and]
                exact rfine_no5 k n l A c d (by omega) hl9 w0 w hr _ _ (Lib.hid rfl) (Lib.hid rfl) (B nm) zNM q0 q1 q1' q2 q3 q4 q4' (by simpa using d5)
              · have q5 : (k == 3) = false := by simpa using d5
                obtain ⟨b, hb⟩ : ∃ b, ((l.zipIdx).all fun p => (isCond p.1.k == (decide (k = 10) && decide (p.2 = 0))) && fine d p.1) = b := ⟨_, rfl⟩
                have hbb := fine_all (d := d) (k := k) (l := l)
                rw [hb] at hbb
                have hf : (decide (argsN k = (l.length : Int)) && decide (0 ≤ n ∧ n ≤ mostN k) && (decide (nm ≠ []) == decide (k = 3)) && (decide (k ≠ 3) || isName nm)) = true := by
                  have e1 : 0 ≤ n ∧ n ≤ mostN k := ⟨by omega, by omega⟩
                  simp [d1, e1, d4, d5]
                rw [hf, hb, Bool.true_and]
                exact rfine_args k n l A c d (by omega) hl9 w0 w hr _ _ (Lib.hid rfl) (Lib.hid rfl) (B nm) zNM q0 q1 q1' q2 q3 q4 q4' q5 S es hl (Lib.hid hrow) (Lib.hid hsub) (by omega) (Lib.hid (ih (by omega))) b (Lib.hid hbb)
            · have q4' : ((B nm).toList == []) = false := by rw [hs]; simpa using d4
              have q4 : ((B nm).toList != []) = true := by simp [bne, q4']
              by_cases d5 : k = 3
              · have q5 : (k == 3) = true := by simpa using d5
                cases hnm : isName nm
                · have hf : (decide (k ≠ 3) || isName nm) = false := by simp [d5, hnm]
                  rw [hnm] at hf
                  rw [hf]
                  simp only [Bool.and_false, Bool.false_and]
                  exact rfine_no6 k n l A c d (by omega) hl9 w0 w hr _ _ (Lib.hid rfl) (Lib.hid rfl) (B nm) zNM q0 q1 q1' q2 q3 q4 q4' q5 (Lib.hid (by rw [B_list]; exact hnm))
                · have hl0 : l.length = 0 := by subst d5; have : argsN 3 = 0 := by decide
                                                omega
                  have hln : l = [] := List.length_eq_zero_iff.1 hl0
                  have hf : (decide (argsN k = (l.length : Int)) && decide (0 ≤ n ∧ n ≤ mostN k) && (decide (nm ≠ []) == decide (k = 3)) && (decide (k ≠ 3) || true)) = true := by
                    have e1 : 0 ≤ n ∧ n ≤ mostN k := ⟨by omega, by omega⟩
                    rw [decide_eq_true d1, decide_eq_true e1, decide_eq_true d4, decide_eq_true d5]; simp
                  rw [hf, hln]
                  simp only [Bool.true_and, List.zipIdx_nil, List.all_nil]
                  rw [hln] at hl9 q1 q1' hl0
                  exact rfine_name k n [] A c d (by omega) hl9 w0 w hr _ _ (Lib.hid rfl) (Lib.hid rfl) (B nm) zNM q0 q1 q1' q2 q3 q4 q4' q5 (Lib.hid (by rw [B_list]; exact hnm)) rfl
              · have hf : (decide (nm ≠ []) == decide (k = 3)) = false := by simp [d4, d5]
                rw [hf]
                simp only [Bool.and_false, Bool.false_and]
                exact rfine_no4 k n l A c d (by omega) hl9 w0 w hr _ _ (Lib.hid rfl) (Lib.hid rfl) (B nm) zNM q0 q1 q1' q2 q3 q4 q4' (by simpa using d5)
      · have hf : decide (argsN k = (l.length : Int)) = false := by simpa using d1
        rw [hf]
        simp only [Bool.false_and]
        exact rfine_no1 k n l A c d (by omega) hl9 w0 w hr _ _ (Lib.hid rfl) (Lib.hid rfl) (B nm) zNM q0 (by simp [bne, d1]) (by simp [d1])
end Go.Proofs.YtcckemhelockaaaGreatDoor

namespace Go.Proofs.YtcckemhelockaaaGreatDoor
open Go.RowKit Go.Lib
set_option linter.unusedVariables false
set_option linter.unusedSimpArgs false
theorem rfine32 (x : Ex) (S : Nat → Prop) (e : El) (w0 w : World) (hr : Rel w0 w) (h : ExAt S w e x) (hz : size x ≤ 1000000) :
    Calls Tryz.prog 60 #[EV e, .int .i64 32] w fun r w' => r = .returned (.bool (fine 32 x)) ∧ Rel w0 w' := rfine_any 32 (by omega) x S e w0 w hr h hz
set_option maxRecDepth 100000 in
set_option maxHeartbeats 4000000 in
theorem rright_any (x : Ex) (S : Nat → Prop) (e : El) (w0 w : World) (hr : Rel w0 w) (h : ExAt S w e x) (hz : size x ≤ 1000000) :
    Calls Tryz.prog 36 #[EV e] w fun r w' => r = .returned (.bool (rightX x)) ∧ Rel w0 w' := by
  have HE := Lib.hid h
  have HR := Lib.hid hr
  obtain ⟨k, n, nm, A, m, c⟩ := e
  have hke : x.k = k := h.kind
  have HB := Lib.hid (Bk.new w 38 #[.int .i64 k, .int .i64 n, .string (B nm), .slice A m c])
  have HA := Lib.hid (hr.self.alloc (.cells #[.int .i64 k, .int .i64 n, .string (B nm), .slice A m c] 38))
  have HFi := Lib.hid (fun (w' : World) (h' : Rel w w') => rfine32 x S (k, n, nm, A, m, c) w' w' (hr.trans h').self (h.rel h') hz)
  have HSi := Lib.hid (fun (w' : World) (h' : Rel w w') => rsize_any x S (k, n, nm, A, m, c) w' w' (hr.trans h').self (h.rel h') hz)
  have hRX : rightX x = (fine 32 x && !isCond k && decide (size x ≤ 2000) && decide ((text x).length ≤ 2000)) := by unfold rightX; rw [hke]
  obtain ⟨b, hb⟩ : ∃ b, fine 32 x = b := ⟨_, rfl⟩
  have HTx := Lib.hid (fun (hf : fine 32 x = true) (hs : size x ≤ 2000) (w' : World) (h' : Rel w w') => rtext7_any x 32 S (k, n, nm, A, m, c) w' w' hf (hr.trans h').self (h.rel h') hs)
  have HFT := Lib.hid hb
  have HTL := Lib.hid (fun (hf : fine 32 x = true) => text_len x 32 hf)
  rw [hb] at HFi hRX
  clear h hb
  cases b with
  | false =>
    have HX := Lib.hid (show rightX x = false by rw [hRX]; simp)
    clear hRX
    go_enter Tryz.func36, Tryz.ntmps36
    go_wp2_with (go_at_call 60; (with_reducible refine (HFi.out _ HA.out).mono ?_); rintro e w1 ⟨rfl, h1⟩; obtain ⟨⟨c0, c1, c2, c3⟩, _⟩ := (HB.out.rel h1).four)
    go_ret
    exact ⟨ret_bool HX.out.symm, (HR.out.trans HA.out).trans h1⟩
  | true =>
    obtain ⟨q, hq⟩ : ∃ q, isCond k = q := ⟨_, rfl⟩
    have HQ := Lib.hid hq
    rw [hq] at hRX
    clear hq
    cases q with
    | true =>
      have HX := Lib.hid (show rightX x = false by rw [hRX]; simp)
      clear hRX
      go_enter Tryz.func36, Tryz.ntmps36
      go_wp2_with (first
        | (go_at_call 60; (with_reducible refine (HFi.out _ HA.out).mono ?_); rintro e w1 ⟨rfl, h1⟩; obtain ⟨⟨c0, c1, c2, c3⟩, _⟩ := (HB.out.rel h1).four)
        | (go_at_call 61; (with_reducible refine (cond_as k _ HQ _).mono ?_); rintro e w' ⟨rfl, rfl⟩))
      go_ret
      exact ⟨ret_bool HX.out.symm, (HR.out.trans HA.out).trans h1⟩
    | false =>
      obtain ⟨sz, hsz⟩ : ∃ s, size x = s := ⟨_, rfl⟩
      have HSZ := Lib.hid hsz
      rw [hsz] at hRX HSi hz
      clear hsz
      by_cases h2 : sz ≤ 2000
      · obtain ⟨T, hT⟩ : ∃ T, B (text x) = T := ⟨_, rfl⟩
        have hTs : T.size = (text x).length := by rw [← hT, B_size]
        have hTl : T.size ≤ 120000 := by rw [hTs]; have := HTL.out HFT.out; have := HSZ.out; omega
        have HTT := Lib.hid (HTx.out HFT.out (by rw [HSZ.out]; exact h2))
        rw [hT] at HTT
        have HX := Lib.hid (show rightX x = decide (T.size ≤ 2000) by rw [hRX, hTs]; simp [h2])
        have i2 : (sz : Int) ≤ 2000 := by omega
        clear hRX hT hTs
        by_cases h3 : T.size ≤ 2000
        · have i3 : (T.size : Int) ≤ 2000 := by omega
          go_enter Tryz.func36, Tryz.ntmps36
          go_wp2_with (first
            | (go_at_call 60; (with_reducible refine (HFi.out _ HA.out).mono ?_); rintro e w1 ⟨rfl, h1⟩; obtain ⟨⟨c0, c1, c2, c3⟩, _⟩ := (HB.out.rel h1).four)
            | (go_at_call 61; (with_reducible refine (cond_as k _ HQ _).mono ?_); rintro e w' ⟨rfl, rfl⟩)
            | (go_at_call 62; (with_reducible refine (HSi.out _ (HA.out.trans h1)).mono ?_); rintro e w2 ⟨rfl, h2'⟩; obtain ⟨⟨d0, d1, d2, d3⟩, _⟩ := ((HB.out.rel h1).rel h2').four)
            | (go_at_call 63; (with_reducible refine (HTT.out _ ((HA.out.trans h1).trans h2')).mono ?_); rintro e w3 ⟨rfl, h3'⟩))
          go_ret
          exact ⟨ret_bool (by rw [HX.out]; simp [h3]), (((HR.out.trans HA.out).trans h1).trans h2').trans h3'⟩
        · have i3 : ¬ (T.size : Int) ≤ 2000 := by omega
          go_enter Tryz.func36, Tryz.ntmps36
          go_wp2_with (first
            | (go_at_call 60; (with_reducible refine (HFi.out _ HA.out).mono ?_); rintro e w1 ⟨rfl, h1⟩; obtain ⟨⟨c0, c1, c2, c3⟩, _⟩ := (HB.out.rel h1).four)
            | (go_at_call 61; (with_reducible refine (cond_as k _ HQ _).mono ?_); rintro e w' ⟨rfl, rfl⟩)
            | (go_at_call 62; (with_reducible refine (HSi.out _ (HA.out.trans h1)).mono ?_); rintro e w2 ⟨rfl, h2'⟩; obtain ⟨⟨d0, d1, d2, d3⟩, _⟩ := ((HB.out.rel h1).rel h2').four)
            | (go_at_call 63; (with_reducible refine (HTT.out _ ((HA.out.trans h1).trans h2')).mono ?_); rintro e w3 ⟨rfl, h3'⟩))
          go_ret
          exact ⟨ret_bool (by rw [HX.out]; simp [h3]; omega), (((HR.out.trans HA.out).trans h1).trans h2').trans h3'⟩
      · have HX := Lib.hid (show rightX x = false by rw [hRX]; simp [h2])
        have i2 : ¬ (sz : Int) ≤ 2000 := by omega
        clear hRX
        go_enter Tryz.func36, Tryz.ntmps36
        go_wp2_with (first
          | (go_at_call 60; (with_reducible refine (HFi.out _ HA.out).mono ?_); rintro e w1 ⟨rfl, h1⟩; obtain ⟨⟨c0, c1, c2, c3⟩, _⟩ := (HB.out.rel h1).four)
          | (go_at_call 61; (with_reducible refine (cond_as k _ HQ _).mono ?_); rintro e w' ⟨rfl, rfl⟩)
          | (go_at_call 62; (with_reducible refine (HSi.out _ (HA.out.trans h1)).mono ?_); rintro e w2 ⟨rfl, h2'⟩))
        go_ret
        exact ⟨ret_bool (by rw [HX.out]), ((HR.out.trans HA.out).trans h1).trans h2'⟩
end Go.Proofs.YtcckemhelockaaaGreatDoor

namespace Go.Proofs.YtcckemhelockaaaGreatDoor
open Go.RowKit Go.Lib
set_option linter.unusedVariables false
set_option linter.unusedSimpArgs false
set_option maxRecDepth 100000 in
set_option maxHeartbeats 4000000 in
theorem rright9_any (A : Option Addr) (c : Nat) (os : List Of) (w0 w : World) (hr : Rel w0 w) (h : OffArg w A c os) :
    Calls Tryz.prog 35 #[.slice A os.length c] w fun e w' => e = .returned (.bool (offsOk os)) ∧ Rel w0 w' := by
  have HR := Lib.hid hr
  have HS := Lib.hid hr.self
  have HA := Lib.hid h.2.2.2
  have HF := Lib.hid h.2.2.1
  have hl : os.length ≤ 9223372036854775807 := by have := h.1; have := h.2.1; unfold maxLen at this; omega
  clear h hr
  by_cases h8 : 8 < os.length
  · have HB := Lib.hid (offs_many h8)
    have t1 : decide ((8 : Int) < (os.length : Int)) = true := decide_eq_true (by omega)
    go_enter Tryz.func35, Tryz.ntmps35
    go_wp2_with (fail)
    go_ret
    exact ⟨ret_bool HB.out.symm, HR.out⟩
  have t1 : decide ((8 : Int) < (os.length : Int)) = false := decide_eq_false (by omega)
  go_enter Tryz.func35, Tryz.ntmps35
  go_wp2_with (fail)
  go_loopw [3] (fun i wr => ∃ j : Nat, j ≤ os.length ∧ i = .int .i64 (j : Int) ∧ Hid (offsTo os j = true) ∧ Rel w wr) (fun i _ => os.length - (RowKit.intOf i).toNat)
  case atStart => exact ⟨0, by omega, rfl, Lib.hid rfl, HS.out⟩
  case round =>
    obtain ⟨i, hi, rfl, HN, hRw⟩ := hrel
    have HRw := Lib.hid hRw
    by_cases hlt : i < os.length
    · obtain ⟨g, off, s, p, rfl, c0, c1, ho⟩ := offs_at HA.out hRw i hlt
      have hs : s.length ≤ 9223372036854775807 := by have := (HF.out _ (List.getElem_mem hlt)).1; rw [ho] at this; exact this
      have HO := Lib.hid ho
      obtain ⟨X, hX⟩ : ∃ X, B s = X := ⟨_, rfl⟩
      obtain ⟨b, hb⟩ : ∃ b, isName s = b := ⟨_, rfl⟩
      have hC := fun (w0 w : World) (hr : Rel w0 w) => rname_list s (by omega) w0 w hr
      rw [hX, hb] at hC
      rw [hX] at c0
      have HC := Lib.hid hC
      have HX := Lib.hid hX
      have HBn := Lib.hid hb
      clear ho hC hX hb
      cases b with
      | false =>
        have HB := Lib.hid (offs_bad hlt (.inl (offOk_mk HO.out false (by rw [HBn.out]; rfl))))
        go_wp2_with (go_at_call 38; (with_reducible refine (HC.out _ _ HRw.out.self).mono ?_); rintro e w1 ⟨rfl, h1⟩)
        go_ret
        exact ⟨ret_bool HB.out.symm, (HR.out.trans HRw.out).trans h1⟩
      | true =>
        by_cases p1 : p < 1
        · have t2 : decide (p < 1) = true := decide_eq_true p1
          have HB := Lib.hid (offs_bad hlt (.inl (offOk_mk HO.out false (by rw [HBn.out]; simp; omega))))
          go_wp2_with (go_at_call 38; (with_reducible refine (HC.out _ _ HRw.out.self).mono ?_); rintro e w1 ⟨rfl, h1⟩; have c1 := (h1.2.cell (p := ⟨g, off + i * 2 + 1, none⟩) (blk_of_cell c1)).trans c1)
          go_ret
          exact ⟨ret_bool HB.out.symm, (HR.out.trans HRw.out).trans h1⟩
        · have t2 : decide (p < 1) = false := decide_eq_false p1
          by_cases p2 : 1000000000000 < p
          · have t3 : decide (1000000000000 < p) = true := decide_eq_true p2
            have HB := Lib.hid (offs_bad hlt (.inl (offOk_mk HO.out false (by rw [HBn.out]; simp; omega))))
            go_wp2_with (go_at_call 38; (with_reducible refine (HC.out _ _ HRw.out.self).mono ?_); rintro e w1 ⟨rfl, h1⟩; have c1 := (h1.2.cell (p := ⟨g, off + i * 2 + 1, none⟩) (blk_of_cell c1)).trans c1)
            go_ret
            exact ⟨ret_bool HB.out.symm, (HR.out.trans HRw.out).trans h1⟩
          · have t3 : decide (1000000000000 < p) = false := decide_eq_false p2
            have HOk := Lib.hid (offOk_mk HO.out true (by rw [HBn.out]; simp; omega))
            go_wp2_with (go_at_call 38; (with_reducible refine (HC.out _ _ HRw.out.self).mono ?_); rintro e w1 ⟨rfl, h1⟩; have c1 := (h1.2.cell (p := ⟨g, off + i * 2 + 1, none⟩) (blk_of_cell c1)).trans c1)
            have c0 := (h1.2.cell (p := ⟨g, off + i * 2, none⟩) (blk_of_cell c0)).trans c0
            have HR1 := Lib.hid h1
            clear t2 t3 p1 p2 h1
            go_loopw [4] (fun k wr => ∃ j : Nat, j ≤ i ∧ k = .int .i64 (j : Int) ∧ Hid (∀ k (hk : k < os.length), k < j → os[k].1 ≠ os[i].1) ∧ Rel w1 wr) (fun k _ => i - (RowKit.intOf k).toNat)
            case atStart => exact ⟨0, by omega, rfl, Lib.hid (fun k _ hk => absurd hk (by omega)), Rel.start HR1.out.tab⟩
            case round =>
              obtain ⟨j, hj, rfl, HM, hRi⟩ := hrel
              have HRi := Lib.hid hRi
              by_cases hlt2 : j < i
              · obtain ⟨g', off', s', p', e, d0, d1, ho2⟩ := offs_at HA.out ((HRw.out.trans HR1.out).trans hRi) j (by omega)
                injection e with e
                injection e with e1 e2
                subst e1
                subst e2
                have c0' := (hRi.2.cell (p := ⟨g, off + i * 2, none⟩) (blk_of_cell c0)).trans c0
                obtain ⟨Y, hY⟩ : ∃ Y, B s' = Y := ⟨_, rfl⟩
                rw [hY] at d0
                have HO2 := Lib.hid ho2
                have HY := Lib.hid hY
                have hji : (j : Int) < (i : Int) := by omega
                clear ho2 hRi hY d1
                by_cases he : X = Y
                · have k1 := list_of.2 he
                  have HB := Lib.hid (offs_bad hlt (.inr ⟨j, by omega, hlt2, by rw [HO.out, HO2.out]; show s' = s; rw [← B_list s', ← B_list s, HX.out, HY.out, he]⟩))
                  clear he
                  go_wp2_with (fail)
                  go_quiet (fail)
                  go_wp2_with (fail)
                  go_ret
                  exact ⟨ret_bool HB.out.symm, (((HR.out.trans HRw.out).trans HR1.out).trans HRi.out).drewN _⟩
                · have k1 := list_ne he
                  have HM2 : Hid (∀ k (hk : k < os.length), k < j + 1 → os[k].1 ≠ os[i].1) := Lib.hid (fun k hk hkj => by
                    by_cases e : k = j
                    · subst e
                      rw [HO.out, HO2.out]
                      show s' ≠ s
                      intro e; subst e; exact he (HX.out.symm.trans HY.out)
                    · exact HM.out k hk (by omega))
                  clear he
                  go_wp2_with (fail)
                  go_quiet (fail)
                  go_wp2_with (fail)
                  go_roundw
                  case rel => exact ⟨j + 1, by omega, by go_num, HM2, HRi.out.drewN _⟩
                  case measure => simp [RowKit.intOf]; omega
              · obtain rfl : j = i := by omega
                have HN2 := Lib.hid (offsTo_step hlt HN.out HOk.out HM.out)
                go_wp2_with (fail)
                go_roundw
                case rel => exact ⟨j + 1, by omega, by go_num, HN2, (HRw.out.trans HR1.out).trans HRi.out⟩
                case measure => simp [RowKit.intOf]; omega
    · obtain rfl : i = os.length := by omega
      have HB := Lib.hid (offs_full (by omega) HN.out)
      go_wp2_with (fail)
      go_ret
      exact ⟨ret_bool HB.out.symm, HR.out.trans HRw.out⟩
end Go.Proofs.YtcckemhelockaaaGreatDoor

namespace Go.Proofs.YtcckemhelockaaaGreatDoor
open Go.RowKit Go.Lib
set_option linter.unusedVariables false
set_option linter.unusedSimpArgs false
theorem m9prt_up (p : Int) : -(fl (-p)) = if 0 < p.tmod 10000 then p.tdiv 10000 + 1 else p.tdiv 10000 := by
  have := tdt p 10000 (by omega)
  have h1 := @m9fl_lt (-p)
  generalize fl (-p) = q at *
  split <;> omega
set_option maxHeartbeats 400000 in
theorem m9rright_any (a : Int) (w : World) :
    Calls Tryz.prog 108 #[.int .i64 a] w fun e w' => e = .returned (.bool (rt a)) ∧ w = w' := by
  by_cases h1 : -1000000000000 ≤ a <;> by_cases h2 : a ≤ 1000000000000
  all_goals
    go_enter Tryz.func108, Tryz.ntmps108
    go_wp2
    all_goals
      go_ret
      exact ⟨ret_bool (by unfold rt; rw [eq_comm]; first | exact decide_eq_true (by omega) | exact decide_eq_false (by omega)), rfl⟩
set_option maxHeartbeats 400000 in
theorem m9told_any (a : Int) (w : World) :
    Calls Tryz.prog 109 #[.int .i64 a] w fun e w' => Two e (told1 a) (told2 a) ∧ w = w' := by
  by_cases h1 : -1000000000000 ≤ a <;> by_cases h2 : a ≤ 1000000000000
  all_goals
    go_enter Tryz.func109, Tryz.ntmps109
    go_wp2
    go_ret2
    exact ⟨m9ret_two (by unfold told1 rt; simp only [decide_eq_true_eq]; split <;> omega) (by unfold told2 rt; simp only [decide_eq_true_eq]; split <;> omega), rfl⟩
set_option maxHeartbeats 400000 in
theorem m9rsub_any (a b : Int) (w : World) :
    Calls Tryz.prog 67 #[.int .i64 a, .int .i64 b] w fun e w' => Two e (two1 a b (a - b)) (two2 a b (a - b)) ∧ w = w' := by
  by_cases h60 : -1000000000000 ≤ a
  · by_cases h50 : a ≤ 1000000000000
    · by_cases h40 : -1000000000000 ≤ b
      · by_cases h30 : b ≤ 1000000000000
        · by_cases h20 : -1000000000000 ≤ a - b
          · by_cases h10 : a - b ≤ 1000000000000
            · go_enter Tryz.func67, Tryz.ntmps67
              go_wp2
              go_ret2
              exact ⟨m9ret_two (by unfold two1 told1 rt; simp only [Bool.and_eq_true, decide_eq_true_eq]; (repeat' split) <;> omega) (by unfold two2 told2 rt; simp only [Bool.and_eq_true, decide_eq_true_eq]; (repeat' split) <;> omega), rfl⟩
            · go_enter Tryz.func67, Tryz.ntmps67
              go_wp2
              go_ret2
              exact ⟨m9ret_two (by unfold two1 told1 rt; simp only [Bool.and_eq_true, decide_eq_true_eq]; (repeat' split) <;> omega) (by unfold two2 told2 rt; simp only [Bool.and_eq_true, decide_eq_true_eq]; (repeat' split) <;> omega), rfl⟩
          · go_enter Tryz.func67, Tryz.ntmps67
            go_wp2
            go_ret2
            exact ⟨m9ret_two (by unfold two1 told1 rt; simp only [Bool.and_eq_true, decide_eq_true_eq]; (repeat' split) <;> omega) (by unfold two2 told2 rt; simp only [Bool.and_eq_true, decide_eq_true_eq]; (repeat' split) <;> omega), rfl⟩
        · go_enter Tryz.func67, Tryz.ntmps67
          go_wp2
          go_ret2
          exact ⟨m9ret_two (by unfold two1 told1 rt; simp only [Bool.and_eq_true, decide_eq_true_eq]; (repeat' split) <;> omega) (by unfold two2 told2 rt; simp only [Bool.and_eq_true, decide_eq_true_eq]; (repeat' split) <;> omega), rfl⟩
      · go_enter Tryz.func67, Tryz.ntmps67
        go_wp2
        go_ret2
        exact ⟨m9ret_two (by unfold two1 told1 rt; simp only [Bool.and_eq_true, decide_eq_true_eq]; (repeat' split) <;> omega) (by unfold two2 told2 rt; simp only [Bool.and_eq_true, decide_eq_true_eq]; (repeat' split) <;> omega), rfl⟩
    · go_enter Tryz.func67, Tryz.ntmps67
      go_wp2
      go_ret2
      exact ⟨m9ret_two (by unfold two1 told1 rt; simp only [Bool.and_eq_true, decide_eq_true_eq]; (repeat' split) <;> omega) (by unfold two2 told2 rt; simp only [Bool.and_eq_true, decide_eq_true_eq]; (repeat' split) <;> omega), rfl⟩
  · go_enter Tryz.func67, Tryz.ntmps67
    go_wp2
    go_ret2
    exact ⟨m9ret_two (by unfold two1 told1 rt; simp only [Bool.and_eq_true, decide_eq_true_eq]; (repeat' split) <;> omega) (by unfold two2 told2 rt; simp only [Bool.and_eq_true, decide_eq_true_eq]; (repeat' split) <;> omega), rfl⟩
set_option maxHeartbeats 400000 in
theorem m9rpart_any (a b : Int) (up : Bool) (w : World) :
    Calls Tryz.prog 66 #[.int .i64 a, .int .i64 b, .bool up] w fun e w' => Two e (part1 a b up) (part2 a b up) ∧ w = w' := by
  cases ha : rt a
  · have r1 : part1 a b up = 0 := by simp [part1, ha]
    have r2 : part2 a b up = 10 := by simp [part2, ha]
    rw [r1, r2]; clear r1 r2
    go_enter Tryz.func66, Tryz.ntmps66
    go_wp2_with (first | (go_at_call 108; refine (m9rright_any _ _).mono ?_; rintro e w' ⟨rfl, rfl⟩))
    go_ret2
    exact ⟨rfl, rfl⟩
  · by_cases b1 : -100000 ≤ b
    · by_cases b2 : b ≤ 100000
      · have hb : wtM b (-100000) 100000 = true := decide_eq_true ⟨b1, b2⟩
        obtain ⟨a1, a2⟩ := m9rt_iff.1 ha
        obtain ⟨p1, p2⟩ : -100000000000000000 ≤ a * b ∧ a * b ≤ 100000000000000000 := m9prod_bd a1 a2 b1 b2
        have t := tdt (a * b) 10000 (by omega)
        obtain ⟨g1, g2⟩ : -100000000000000 ≤ (a * b).tdiv 10000 ∧ (a * b).tdiv 10000 ≤ 100000000000000 := by omega
        clear t
        cases up
        · have r1 : part1 a b false = told1 (fl (a * b)) := by simp [part1, ha, hb, prt]
          have r2 : part2 a b false = told2 (fl (a * b)) := by simp [part2, ha, hb, prt]
          rw [r1, r2]; clear r1 r2 hb
          by_cases h : (a * b).tmod 10000 < 0
          · have e : fl (a * b) = (a * b).tdiv 10000 - 1 := if_pos h
            rw [e]; clear e
            go_enter Tryz.func66, Tryz.ntmps66
            go_wp2_with (first | (go_at_call 108; refine (m9rright_any _ _).mono ?_; rintro e w' ⟨rfl, rfl⟩) | (go_at_call 109; refine (m9told_any _ _).mono ?_; rintro e w' ⟨rfl, rfl⟩))
            go_ret2
            exact ⟨rfl, rfl⟩
          · have e : fl (a * b) = (a * b).tdiv 10000 := if_neg h
            rw [e]; clear e
            go_enter Tryz.func66, Tryz.ntmps66
            go_wp2_with (first | (go_at_call 108; refine (m9rright_any _ _).mono ?_; rintro e w' ⟨rfl, rfl⟩) | (go_at_call 109; refine (m9told_any _ _).mono ?_; rintro e w' ⟨rfl, rfl⟩))
            all_goals
              go_ret2
              exact ⟨rfl, rfl⟩
        · have r1 : part1 a b true = told1 (-(fl (-(a * b)))) := by simp [part1, ha, hb, prt]
          have r2 : part2 a b true = told2 (-(fl (-(a * b)))) := by simp [part2, ha, hb, prt]
          rw [r1, r2, m9prt_up]; clear r1 r2 hb
          by_cases h : 0 < (a * b).tmod 10000
          · rw [if_pos h]
            go_enter Tryz.func66, Tryz.ntmps66
            go_wp2_with (first | (go_at_call 108; refine (m9rright_any _ _).mono ?_; rintro e w' ⟨rfl, rfl⟩) | (go_at_call 109; refine (m9told_any _ _).mono ?_; rintro e w' ⟨rfl, rfl⟩))
            all_goals
              go_ret2
              exact ⟨rfl, rfl⟩
          · rw [if_neg h]
            go_enter Tryz.func66, Tryz.ntmps66
            go_wp2_with (first | (go_at_call 108; refine (m9rright_any _ _).mono ?_; rintro e w' ⟨rfl, rfl⟩) | (go_at_call 109; refine (m9told_any _ _).mono ?_; rintro e w' ⟨rfl, rfl⟩))
            all_goals
              go_ret2
              exact ⟨rfl, rfl⟩
      · have hb : wtM b (-100000) 100000 = false := decide_eq_false (by omega)
        have r1 : part1 a b up = 0 := by simp [part1, hb]
        have r2 : part2 a b up = 10 := by simp [part2, hb]
        rw [r1, r2]; clear r1 r2 hb
        go_enter Tryz.func66, Tryz.ntmps66
        go_wp2_with (first | (go_at_call 108; refine (m9rright_any _ _).mono ?_; rintro e w' ⟨rfl, rfl⟩))
        go_ret2
        exact ⟨rfl, rfl⟩
    · have hb : wtM b (-100000) 100000 = false := decide_eq_false (by omega)
      have r1 : part1 a b up = 0 := by simp [part1, hb]
      have r2 : part2 a b up = 10 := by simp [part2, hb]
      rw [r1, r2]; clear r1 r2 hb
      go_enter Tryz.func66, Tryz.ntmps66
      go_wp2_with (first | (go_at_call 108; refine (m9rright_any _ _).mono ?_; rintro e w' ⟨rfl, rfl⟩))
      go_ret2
      exact ⟨rfl, rfl⟩
end Go.Proofs.YtcckemhelockaaaGreatDoor
