/- The document's own fine, whole; Right and Print; The document's own Right and Print; The document's own answers of layer 9: a seller's price; what any expression tells; Eval and Cond; The document's own answers of layer 9: what any expression that may be tells; Eval and Cond; What is asked of the program, and the law's first calls; TreeUnlike, over what the program is asked. -/
import Derived.Test.YtpehlldgnbajjaaGreatDoorZ12
import Derived.Test.YtpehlldgnbajjaaGreatDoorZ13
import Derived.Test.YtpehlldgnbajjaaGreatDoorZ09
import Derived.Test.YtpehlldgnbajjaaGreatDoorZ06
namespace Go.Proofs.YtpehlldgnbajjaaGreatDoor
open Go.RowKit Go.Lib
set_option linter.unusedVariables false
set_option linter.unusedSimpArgs false

theorem str_empty (a : List UInt8) : ((B a).toList == []) = decide (a = []) := by
  rw [B_toList]; cases a <;> simp
theorem fine_all {d : Nat} {k : Int} {l : List Ex} : ((l.zipIdx).all fun p => (isCond p.1.k == (decide (k = 10) && decide (p.2 = 0))) && fine d p.1) = true ↔ ∀ i (h : i < l.length), okA d k l i h := by
  simp only [List.all_eq_true, Bool.and_eq_true, beq_iff_eq]
  constructor
  · intro h i hi
    exact h (l[i], i) (by rw [List.mem_iff_getElem]; exact ⟨i, by simpa using hi, by simp⟩)
  · rintro h ⟨y, i⟩ hy
    obtain ⟨j, hj, e⟩ := List.mem_iff_getElem.1 hy
    simp at hj e
    obtain ⟨rfl, rfl⟩ := e
    exact h j hj
theorem len_sizes : ∀ l : List Ex, l.length ≤ sizes l := fun l => by
  induction l with
  | nil => simp
  | cons x t ih => rw [sizes_cons, List.length_cons]; have := size_pos x; omega
set_option maxHeartbeats 2000000 in
theorem rfine_any : ∀ (d : Nat), d ≤ 40 → ∀ (x : Ex) (S : Nat → Prop) (e : El) (w0 w : World), Rel w0 w → ExAt S w e x → size x ≤ 1000000 →
    Calls Tryz.prog 34 #[EV e, .int .i64 (d : Int)] w fun r w' => r = .returned (.bool (fine d x)) ∧ Rel w0 w' := by
  intro d
  induction d with
  | zero =>
    intro _ x S e w0 w hr h hz
    cases x with
    | mk k n nm l =>
      obtain ⟨A, c, es, rfl, hk, hn, hm, hl, hrow, hsub⟩ := h.open
      rw [size_mk] at hz
      have := len_sizes l
      exact rfine_no0 k n l A c (by omega) w0 w hr (argsN k) (mostN k) (Lib.hid rfl) (Lib.hid rfl) (B nm) (by rw [B_size]; exact hm)
  | succ d ih =>
    intro hd x S e w0 w hr h hz
    cases x with
    | mk k n nm l =>
      obtain ⟨A, c, es, rfl, hk, hn, hm, hl, hrow, hsub⟩ := h.open
      rw [size_mk] at hz
      have hll := len_sizes l
      have hl9 : l.length ≤ 1000000 := by omega
      have zNM : (B nm).size ≤ 100 := by rw [B_size]; exact hm
      have q0 : decide ((d : Int) + 1 < 1) = false := by simp; omega
      have hcast : (((d + 1 : Nat) : Int)) = (d : Int) + 1 := by omega
      rw [hcast, fine_eq]
      by_cases d1 : argsN k = (l.length : Int)
      · have q1 : (argsN k != (l.length : Int)) = false := by simp [d1]
        have q1' : (argsN k == (l.length : Int)) = true := by simp [d1]
        by_cases d2 : n < 0
        · have hf : (decide (0 ≤ n ∧ n ≤ mostN k)) = false := by simp; omega
          rw [hf]
          simp only [Bool.and_false, Bool.false_and]
          exact rfine_no2 k n l A c d (by omega) hl9 w0 w hr _ _ (Lib.hid rfl) (Lib.hid rfl) (B nm) zNM q0 q1 q1' (by simpa using d2)
        · have q2 : decide (n < 0) = false := by simpa using d2
          by_cases d3 : mostN k < n
          · have hf : (decide (0 ≤ n ∧ n ≤ mostN k)) = false := by simp; omega
            rw [hf]
            simp only [Bool.and_false, Bool.false_and]
            exact rfine_no3 k n l A c d (by omega) hl9 w0 w hr _ _ (Lib.hid rfl) (Lib.hid rfl) (B nm) zNM q0 q1 q1' q2 (by simpa using d3)
          · have q3 : decide (mostN k < n) = false := by simpa using d3
            have hs := str_empty nm
            by_cases d4 : nm = []
            · have q4' : ((B nm).toList == []) = true := by rw [hs]; simpa using d4
              have q4 : ((B nm).toList != []) = false := by simp [bne, q4']
              by_cases d5 : k = 3
              · have hf : (decide (nm ≠ []) == decide (k = 3)) = false := by simp [d4, d5]
                rw [hf]
                simp only [Bool.and_false, Bool.false_and]
                exact rfine_no5 k n l A c d (by omega) hl9 w0 w hr _ _ (Lib.hid rfl) (Lib.hid rfl) (B nm) zNM q0 q1 q1' q2 q3 q4 q4' (by simpa using d5)
              · have q5 : (k == 3) = false := by simpa using d5
                obtain ⟨b, hb⟩ : ∃ b, ((l.zipIdx).all fun p => (isCond p.1.k == (decide (k = 10) && decide (p.2 = 0))) && fine d p.1) = b := ⟨_, rfl⟩
                have hbb := fine_all (d := d) (k := k) (l := l)
                rw [hb] at hbb
                have hf : (decide (argsN k = (l.length : Int)) && decide (0 ≤ n ∧ n ≤ mostN k) && (decide (nm ≠ []) == decide (k = 3)) && (decide (k ≠ 3) || isName nm)) = true := by
                  have e1 : 0 ≤ n ∧ n ≤ mostN k := ⟨by omega, by omega⟩
                  simp [d1, e1, d4, d5]
                rw [hf, hb, Bool.true_and]
                exact rfine_args k n l A c d (by omega) hl9 w0 w hr _ _ (Lib.hid rfl) (Lib.hid rfl) (B nm) zNM q0 q1 q1' q2 q3 q4 q4' q5 S es hl (Lib.hid hrow) (Lib.hid hsub) (by omega) (Lib.hid (ih (by omega))) b (Lib.hid hbb)
            · have q4' : ((B nm).toList == []) = false := by rw [hs]; simpa using d4
              have q4 : ((B nm).toList != []) = true := by simp [bne, q4']
              by_cases d5 : k = 3
              · have q5 : (k == 3) = true := by simpa using d5
                cases hnm : isName nm
                · have hf : (decide (k ≠ 3) || isName nm) = false := by simp [d5, hnm]
                  rw [hnm] at hf
                  rw [hf]
                  simp only [Bool.and_false, Bool.false_and]
                  exact rfine_no6 k n l A c d (by omega) hl9 w0 w hr _ _ (Lib.hid rfl) (Lib.hid rfl) (B nm) zNM q0 q1 q1' q2 q3 q4 q4' q5 (Lib.hid (by rw [B_list]; exact hnm))
                · have hl0 : l.length = 0 := by subst d5; have : argsN 3 = 0 := by decide
                                                omega
                  have hln : l = [] := List.length_eq_zero_iff.1 hl0
                  have hf : (decide (argsN k = (l.length : Int)) && decide (0 ≤ n ∧ n ≤ mostN k) && (decide (nm ≠ []) == decide (k = 3)) && (decide (k ≠ 3) || true)) = true := by
                    have e1 : 0 ≤ n ∧ n ≤ mostN k := ⟨by omega, by omega⟩
                    rw [decide_eq_true d1, decide_eq_true e1, decide_eq_true d4, decide_eq_true d5]; simp
                  rw [hf, hln]
                  simp only [Bool.true_and, List.zipIdx_nil, List.all_nil]
                  rw [hln] at hl9 q1 q1' hl0
                  exact rfine_name k n [] A c d (by omega) hl9 w0 w hr _ _ (Lib.hid rfl) (Lib.hid rfl) (B nm) zNM q0 q1 q1' q2 q3 q4 q4' q5 (Lib.hid (by rw [B_list]; exact hnm)) rfl
              · have hf : (decide (nm ≠ []) == decide (k = 3)) = false := by simp [d4, d5]
                rw [hf]
                simp only [Bool.and_false, Bool.false_and]
                exact rfine_no4 k n l A c d (by omega) hl9 w0 w hr _ _ (Lib.hid rfl) (Lib.hid rfl) (B nm) zNM q0 q1 q1' q2 q3 q4 q4' (by simpa using d5)
      · have hf : decide (argsN k = (l.length : Int)) = false := by simpa using d1
        rw [hf]
        simp only [Bool.false_and]
        exact rfine_no1 k n l A c d (by omega) hl9 w0 w hr _ _ (Lib.hid rfl) (Lib.hid rfl) (B nm) zNM q0 (by simp [bne, d1]) (by simp [d1])
end Go.Proofs.YtpehlldgnbajjaaGreatDoor

namespace Go.Proofs.YtpehlldgnbajjaaGreatDoor
open Go.RowKit Go.Lib
set_option linter.unusedVariables false
set_option linter.unusedSimpArgs false

theorem rfine32 (x : Ex) (S : Nat → Prop) (e : El) (w0 w : World) (hr : Rel w0 w) (h : ExAt S w e x) (hz : size x ≤ 1000000) :
    Calls Tryz.prog 34 #[EV e, .int .i64 32] w fun r w' => r = .returned (.bool (fine 32 x)) ∧ Rel w0 w' := rfine_any 32 (by omega) x S e w0 w hr h hz
set_option maxRecDepth 100000 in
set_option maxHeartbeats 4000000 in
theorem rright_any (x : Ex) (S : Nat → Prop) (e : El) (w0 w : World) (hr : Rel w0 w) (h : ExAt S w e x) (hz : size x ≤ 1000000) :
    Calls Tryz.prog 16 #[EV e] w fun r w' => r = .returned (.bool (rightX x)) ∧ Rel w0 w' := by
  have HE := Lib.hid h
  have HR := Lib.hid hr
  obtain ⟨k, n, nm, A, m, c⟩ := e
  have hke : x.k = k := h.kind
  have HB := Lib.hid (Bk.new w 31 #[.int .i64 k, .int .i64 n, .string (B nm), .slice A m c])
  have HA := Lib.hid (hr.self.alloc (.cells #[.int .i64 k, .int .i64 n, .string (B nm), .slice A m c] 31))
  have HFi := Lib.hid (fun (w' : World) (h' : Rel w w') => rfine32 x S (k, n, nm, A, m, c) w' w' (hr.trans h').self (h.rel h') hz)
  have HSi := Lib.hid (fun (w' : World) (h' : Rel w w') => rsize_any x S (k, n, nm, A, m, c) w' w' (hr.trans h').self (h.rel h') hz)
  have hRX : rightX x = (fine 32 x && !isCond k && decide (size x ≤ 2000) && decide ((text x).length ≤ 2000)) := by unfold rightX; rw [hke]
  obtain ⟨b, hb⟩ : ∃ b, fine 32 x = b := ⟨_, rfl⟩
  have HTx := Lib.hid (fun (hf : fine 32 x = true) (hs : size x ≤ 2000) (w' : World) (h' : Rel w w') => rtext7_any x 32 S (k, n, nm, A, m, c) w' w' hf (hr.trans h').self (h.rel h') hs)
  have HFT := Lib.hid hb
  have HTL := Lib.hid (fun (hf : fine 32 x = true) => text_len x 32 hf)
  rw [hb] at HFi hRX
  clear h hb
  cases b with
  | false =>
    have HX := Lib.hid (show rightX x = false by rw [hRX]; simp)
    clear hRX
    go_enter Tryz.func16, Tryz.ntmps16
    go_wp2_with (go_at_call 34; (with_reducible refine (HFi.out _ HA.out).mono ?_); rintro e w1 ⟨rfl, h1⟩; obtain ⟨⟨c0, c1, c2, c3⟩, _⟩ := (HB.out.rel h1).four)
    go_ret
    exact ⟨ret_bool HX.out.symm, (HR.out.trans HA.out).trans h1⟩
  | true =>
    obtain ⟨q, hq⟩ : ∃ q, isCond k = q := ⟨_, rfl⟩
    have HQ := Lib.hid hq
    rw [hq] at hRX
    clear hq
    cases q with
    | true =>
      have HX := Lib.hid (show rightX x = false by rw [hRX]; simp)
      clear hRX
      go_enter Tryz.func16, Tryz.ntmps16
      go_wp2_with (first
        | (go_at_call 34; (with_reducible refine (HFi.out _ HA.out).mono ?_); rintro e w1 ⟨rfl, h1⟩; obtain ⟨⟨c0, c1, c2, c3⟩, _⟩ := (HB.out.rel h1).four)
        | (go_at_call 35; (with_reducible refine (cond_as k _ HQ _).mono ?_); rintro e w' ⟨rfl, rfl⟩))
      go_ret
      exact ⟨ret_bool HX.out.symm, (HR.out.trans HA.out).trans h1⟩
    | false =>
      obtain ⟨sz, hsz⟩ : ∃ s, size x = s := ⟨_, rfl⟩
      have HSZ := Lib.hid hsz
      rw [hsz] at hRX HSi hz
      clear hsz
      by_cases h2 : sz ≤ 2000
      · obtain ⟨T, hT⟩ : ∃ T, B (text x) = T := ⟨_, rfl⟩
        have hTs : T.size = (text x).length := by rw [← hT, B_size]
        have hTl : T.size ≤ 120000 := by rw [hTs]; have := HTL.out HFT.out; have := HSZ.out; omega
        have HTT := Lib.hid (HTx.out HFT.out (by rw [HSZ.out]; exact h2))
        rw [hT] at HTT
        have HX := Lib.hid (show rightX x = decide (T.size ≤ 2000) by rw [hRX, hTs]; simp [h2])
        have i2 : (sz : Int) ≤ 2000 := by omega
        clear hRX hT hTs
        by_cases h3 : T.size ≤ 2000
        · have i3 : (T.size : Int) ≤ 2000 := by omega
          go_enter Tryz.func16, Tryz.ntmps16
          go_wp2_with (first
            | (go_at_call 34; (with_reducible refine (HFi.out _ HA.out).mono ?_); rintro e w1 ⟨rfl, h1⟩; obtain ⟨⟨c0, c1, c2, c3⟩, _⟩ := (HB.out.rel h1).four)
            | (go_at_call 35; (with_reducible refine (cond_as k _ HQ _).mono ?_); rintro e w' ⟨rfl, rfl⟩)
            | (go_at_call 36; (with_reducible refine (HSi.out _ (HA.out.trans h1)).mono ?_); rintro e w2 ⟨rfl, h2'⟩; obtain ⟨⟨d0, d1, d2, d3⟩, _⟩ := ((HB.out.rel h1).rel h2').four)
            | (go_at_call 37; (with_reducible refine (HTT.out _ ((HA.out.trans h1).trans h2')).mono ?_); rintro e w3 ⟨rfl, h3'⟩))
          go_ret
          exact ⟨ret_bool (by rw [HX.out]; simp [h3]), (((HR.out.trans HA.out).trans h1).trans h2').trans h3'⟩
        · have i3 : ¬ (T.size : Int) ≤ 2000 := by omega
          go_enter Tryz.func16, Tryz.ntmps16
          go_wp2_with (first
            | (go_at_call 34; (with_reducible refine (HFi.out _ HA.out).mono ?_); rintro e w1 ⟨rfl, h1⟩; obtain ⟨⟨c0, c1, c2, c3⟩, _⟩ := (HB.out.rel h1).four)
            | (go_at_call 35; (with_reducible refine (cond_as k _ HQ _).mono ?_); rintro e w' ⟨rfl, rfl⟩)
            | (go_at_call 36; (with_reducible refine (HSi.out _ (HA.out.trans h1)).mono ?_); rintro e w2 ⟨rfl, h2'⟩; obtain ⟨⟨d0, d1, d2, d3⟩, _⟩ := ((HB.out.rel h1).rel h2').four)
            | (go_at_call 37; (with_reducible refine (HTT.out _ ((HA.out.trans h1).trans h2')).mono ?_); rintro e w3 ⟨rfl, h3'⟩))
          go_ret
          exact ⟨ret_bool (by rw [HX.out]; simp [h3]; omega), (((HR.out.trans HA.out).trans h1).trans h2').trans h3'⟩
      · have HX := Lib.hid (show rightX x = false by rw [hRX]; simp [h2])
        have i2 : ¬ (sz : Int) ≤ 2000 := by omega
        clear hRX
        go_enter Tryz.func16, Tryz.ntmps16
        go_wp2_with (first
          | (go_at_call 34; (with_reducible refine (HFi.out _ HA.out).mono ?_); rintro e w1 ⟨rfl, h1⟩; obtain ⟨⟨c0, c1, c2, c3⟩, _⟩ := (HB.out.rel h1).four)
          | (go_at_call 35; (with_reducible refine (cond_as k _ HQ _).mono ?_); rintro e w' ⟨rfl, rfl⟩)
          | (go_at_call 36; (with_reducible refine (HSi.out _ (HA.out.trans h1)).mono ?_); rintro e w2 ⟨rfl, h2'⟩))
        go_ret
        exact ⟨ret_bool (by rw [HX.out]), ((HR.out.trans HA.out).trans h1).trans h2'⟩
/-- What Print tells: its text, or none. -/
def prT (x : Ex) : List UInt8 := if rightX x then text x else []
def prE (x : Ex) : Int := if rightX x then 0 else 1
end Go.Proofs.YtpehlldgnbajjaaGreatDoor

namespace Go.Proofs.YtpehlldgnbajjaaGreatDoor
open Go.RowKit Go.Lib
set_option linter.unusedVariables false
set_option linter.unusedSimpArgs false

theorem from_hit {os : List Of} {s : List UInt8} {i : Nat} (hi : i < os.length) (h : os[i].1 = s) (hn : ∀ k (hk : k < os.length), k < i → os[k].1 ≠ s) : fromO os s = some os[i].2 := by
  unfold fromO
  have : os.find? (fun o => decide (o.1 = s)) = some os[i] := by
    rw [List.find?_eq_some_iff_getElem]
    refine ⟨by simpa using h, i, hi, rfl, fun j hj => ?_⟩
    simpa using hn j (by omega) hj
  rw [this]; rfl
set_option maxRecDepth 100000 in
set_option maxHeartbeats 4000000 in
theorem rtold_3 (d : Nat) (n : Int) (nm : List UInt8) (S : Nat → Prop) (e : El) (A : Option Addr) (c : Nat) (os : List Of) (w0 w : World) (hr : Rel w0 w) (h : ExAt S w e (.mk 3 n nm [])) (hl : offsOk os = true) (ho : OffArg w A c os) :
    Calls Tryz.prog 28 #[EV e, .slice A os.length c] w fun z w' => z = .returned (RV (toldN os (d + 1) (.mk 3 n nm []))) ∧ Rel w0 w' := by
  obtain ⟨A', c', es, rfl, hk, hn, hm, hle, hrow, hsub⟩ := h.open
  have HR := Lib.hid hr
  have HB := Lib.hid (Bk.new w 31 #[.int .i64 3, .int .i64 n, .string (B nm), .slice A' 0 c'])
  have HA := Lib.hid (hr.self.alloc (.cells #[.int .i64 3, .int .i64 n, .string (B nm), .slice A' 0 c'] 31))
  have HOf := Lib.hid ho.2.2.2
  obtain ⟨W, hW⟩ : ∃ W, w.alloc (.cells #[.int .i64 3, .int .i64 n, .string (B nm), .slice A' 0 c'] 31) = W := ⟨_, rfl⟩
  rw [hW] at HA HB
  have h8 := offs_len hl
  have HF := Lib.hid (told_from os d (.mk 3 n nm []) rfl)
  obtain ⟨X, hX⟩ : ∃ X, B nm = X := ⟨_, rfl⟩
  have HX := Lib.hid hX
  rw [hX] at HB hW
  have hW2 : w.alloc (.cells #[.int .i64 3, .int .i64 n, .string (B nm), .slice A' 0 c'] 31) = W := by rw [hX]; exact hW
  obtain ⟨⟨b0, b1, b2, b3⟩, _⟩ := HB.out.four
  clear hrow hsub h ho hX hW
  go_enter Tryz.func28, Tryz.ntmps28
  rw [HF.out]
  go_wp2_with (fail)
  go_loopw [11] (fun i wr => ∃ j : Nat, j ≤ os.length ∧ i = .int .i64 (j : Int) ∧ Hid (∀ k (hk : k < os.length), k < j → os[k].1 ≠ nm) ∧ Rel W wr) (fun i _ => os.length - (RowKit.intOf i).toNat)
  case atStart => exact ⟨0, by omega, rfl, Lib.hid (fun k _ hk => absurd hk (by omega)), HA.out.right2⟩
  case round =>
    obtain ⟨i, hi, rfl, HN, hRw⟩ := hrel
    have HRw := Lib.hid hRw
    obtain ⟨⟨d0, d1, d2, d3⟩, _⟩ := (HB.out.rel hRw).four
    by_cases hlt : i < os.length
    · obtain ⟨g, off, s, p, rfl, c0, c1, ho⟩ := offs_at HOf.out (HA.out.trans hRw) i hlt
      obtain ⟨Y, hY⟩ : ∃ Y, B s = Y := ⟨_, rfl⟩
      have HO := Lib.hid ho
      rw [hY] at c0
      have HY := Lib.hid hY
      clear ho hY hRw
      by_cases he : Y = X
      · have k1 := list_of.2 he
        have HV := Lib.hid (show fromO os nm = some p by
          have h1 : os[i].1 = nm := by rw [HO.out]; show s = nm; rw [← B_list s, ← B_list nm, HY.out, HX.out, he]
          rw [from_hit hlt h1 HN.out, HO.out])
        clear he
        go_wp2_with (fail)
        go_quiet (fail)
        go_wp2_with (fail)
        go_ret3
        exact ⟨by show _ = Ending.returned (RV (.ok (fromO os nm))); rw [HV.out]; rfl, ((HR.out.trans HA.out).trans HRw.out).drewN _⟩
      · have k1 := list_ne he
        have HN2 : Hid (∀ k (hk : k < os.length), k < i + 1 → os[k].1 ≠ nm) := Lib.hid (fun k hk hki => by
          by_cases e : k = i
          · subst e
            rw [HO.out]
            show s ≠ nm
            intro e; subst e; exact he (HY.out.symm.trans HX.out)
          · exact HN.out k hk (by omega))
        clear he
        go_wp2_with (fail)
        go_quiet (fail)
        go_wp2_with (fail)
        go_roundw
        case rel => exact ⟨i + 1, by omega, by go_num, HN2, HRw.out.drewN _⟩
        case measure => simp [RowKit.intOf]; omega
    · obtain rfl : i = os.length := by omega
      have HV := Lib.hid (show fromO os nm = none from from_none fun k hk => HN.out k hk hk)
      go_wp2_with (fail)
      go_ret3
      exact ⟨by show _ = Ending.returned (RV (.ok (fromO os nm))); rw [HV.out]; rfl, (HR.out.trans HA.out).trans HRw.out⟩
end Go.Proofs.YtpehlldgnbajjaaGreatDoor

namespace Go.Proofs.YtpehlldgnbajjaaGreatDoor
open Go.RowKit Go.Lib
set_option linter.unusedVariables false
set_option linter.unusedSimpArgs false

theorem er_ne {os : List Of} {d : Nat} {y : Ex} {er : Int} (h : toldN os d y = .error er) : (er != 0) = true := by
  have := told_err _ _ _ _ h; subst this; rfl
theorem erc_ne {os : List Of} {d : Nat} {y : Ex} {er : Int} (h : condN os d y = .error er) : (er != 0) = true := by
  have := cond_err _ _ _ _ h; subst this; rfl
theorem len0 {l : List Ex} (h : (0 : Int) = (l.length : Int)) : l = [] := List.length_eq_zero_iff.1 (by omega)
theorem len1 {l : List Ex} (h : (1 : Int) = (l.length : Int)) : ∃ a, l = [a] := List.length_eq_one_iff.1 (by omega)
theorem len2 {l : List Ex} (h : (2 : Int) = (l.length : Int)) : ∃ a b, l = [a, b] := by
  match l, h with
  | [a, b], _ => exact ⟨a, b, rfl⟩
  | [], h => simp at h
  | [_], h => simp at h
  | _ :: _ :: _ :: _, h => simp only [List.length_cons] at h; omega
theorem len3 {l : List Ex} (h : (3 : Int) = (l.length : Int)) : ∃ a b c, l = [a, b, c] := by
  match l, h with
  | [a, b, c], _ => exact ⟨a, b, c, rfl⟩
  | [], h => simp at h
  | [_], h => simp at h
  | [_, _], h => simp at h
  | _ :: _ :: _ :: _ :: _, h => simp only [List.length_cons] at h; omega
theorem rtold_all : ∀ d, RToldAt d ∧ RCondAt d := by
  intro d
  induction d with
  | zero => exact ⟨fun x S e A c os w0 w hx => (by cases hx), fun x S e A c os w0 w hx => (by cases hx)⟩
  | succ d ih =>
    obtain ⟨H, HCd⟩ := ih
    refine ⟨fun x S e A c os w0 w hx hc hr h hl ho => ?_, fun x S e A c os w0 w hx hc hr h hl ho => ?_⟩
    · cases x with
      | mk k n nm xs =>
        obtain ⟨p1, p2, p3, p4, p5⟩ := fine_parts hx
        have hk := kind_list (k := k) (by omega)
        rcases hk with rfl | rfl | rfl | rfl | rfl | rfl | rfl | rfl | rfl | rfl | rfl | rfl
        · obtain rfl := len0 p1
          exact rtold_1 d n nm S e A c os w0 w hr h hl ho
        · obtain rfl := len0 p1
          exact rtold_2 d n nm S e A c os w0 w hr h hl ho
        · obtain rfl := len0 p1
          exact rtold_3 d n nm S e A c os w0 w hr h hl ho
        · obtain rfl := len0 p1
          exact rtold_4 d n nm S e A c os w0 w hr h hl ho
        · obtain ⟨y, rfl⟩ := len1 p1
          obtain ⟨g0, f0⟩ := p5 0 (by simp)
          have hh := told_less5 os d n nm y
          cases q0 : toldN os d y with
          | error er => rw [hh, q0]; exact rtold_5e d n nm y H f0 g0 (er_ne q0) S e A c os w0 w hr h hl ho q0
          | ok o =>
            cases o with
            | none => rw [hh, q0]; exact rtold_5n d n nm y H f0 g0 S e A c os w0 w hr h hl ho q0
            | some v => rw [hh, q0]; exact rtold_5s d n nm y H f0 g0 S e A c os w0 w hr h hl ho q0
        · obtain ⟨y, rfl⟩ := len1 p1
          obtain ⟨g0, f0⟩ := p5 0 (by simp)
          have hh := told_cut6 os d n nm y
          cases q0 : toldN os d y with
          | error er => rw [hh, q0]; exact rtold_6e d n nm y H f0 g0 (er_ne q0) S e A c os w0 w hr h hl ho q0
          | ok o =>
            cases o with
            | none => rw [hh, q0]; exact rtold_6n d n nm y H f0 g0 S e A c os w0 w hr h hl ho q0
            | some v =>
              rw [hh, q0]
              by_cases hp : part2 v n false = 0
              · show Calls _ _ _ _ fun z w' => z = .returned (RV (cutR v n)) ∧ Rel w0 w'
                rw [show cutR v n = subR v (part1 v n false) by unfold cutR; rw [if_pos hp]]
                exact rtold_6s d n nm y H f0 g0 rfl hp S e A c os w0 w hr h hl ho q0
              · show Calls _ _ _ _ fun z w' => z = .returned (RV (cutR v n)) ∧ Rel w0 w'
                rw [show cutR v n = .error (part2 v n false) by unfold cutR; rw [if_neg hp]]
                exact rtold_6p d n nm y H f0 g0 rfl rfl (by simpa using hp) S e A c os w0 w hr h hl ho q0
        · obtain ⟨x, y, rfl⟩ := len2 p1
          obtain ⟨g0, f0⟩ := p5 0 (by simp)
          obtain ⟨g1, f1⟩ := p5 1 (by simp)
          have hh := told_both os d 7 n nm x y (by omega)
          cases q0 : toldN os d x with
          | error er => rw [hh, q0]; exact rtold_7e d n nm x y H f0 g0 (er_ne q0) S e A c os w0 w hr h hl ho q0
          | ok o =>
            cases q1 : toldN os d y with
            | error er =>
              cases o with
              | none => rw [hh, q0, q1]; exact rtold_7ne d n nm x y H f0 g0 f1 g1 (er_ne q1) S e A c os w0 w hr h hl ho q0 q1
              | some v => rw [hh, q0, q1]; exact rtold_7se d n nm x y H f0 g0 f1 g1 (er_ne q1) S e A c os w0 w hr h hl ho q0 q1
            | ok o1 =>
              cases o with
              | none =>
                cases o1 with
                | none => rw [hh, q0, q1]; exact rtold_7nn d n nm x y H f0 g0 f1 g1 S e A c os w0 w hr h hl ho q0 q1
                | some u => rw [hh, q0, q1]; exact rtold_7ns d n nm x y H f0 g0 f1 g1 S e A c os w0 w hr h hl ho q0 q1
              | some v =>
                cases o1 with
                | none => rw [hh, q0, q1]; exact rtold_7sn d n nm x y H f0 g0 f1 g1 S e A c os w0 w hr h hl ho q0 q1
                | some u => rw [hh, q0, q1]; exact rtold_7ss d n nm x y H f0 g0 f1 g1 S e A c os w0 w hr h hl ho q0 q1
        · obtain ⟨x, y, rfl⟩ := len2 p1
          obtain ⟨g0, f0⟩ := p5 0 (by simp)
          obtain ⟨g1, f1⟩ := p5 1 (by simp)
          have hh := told_both os d 8 n nm x y (by omega)
          cases q0 : toldN os d x with
          | error er => rw [hh, q0]; exact rtold_8e d n nm x y H f0 g0 (er_ne q0) S e A c os w0 w hr h hl ho q0
          | ok o =>
            cases q1 : toldN os d y with
            | error er =>
              cases o with
              | none => rw [hh, q0, q1]; exact rtold_8ne d n nm x y H f0 g0 f1 g1 (er_ne q1) S e A c os w0 w hr h hl ho q0 q1
              | some v => rw [hh, q0, q1]; exact rtold_8se d n nm x y H f0 g0 f1 g1 (er_ne q1) S e A c os w0 w hr h hl ho q0 q1
            | ok o1 =>
              cases o with
              | none =>
                cases o1 with
                | none => rw [hh, q0, q1]; exact rtold_8nn d n nm x y H f0 g0 f1 g1 S e A c os w0 w hr h hl ho q0 q1
                | some u => rw [hh, q0, q1]; exact rtold_8ns d n nm x y H f0 g0 f1 g1 S e A c os w0 w hr h hl ho q0 q1
              | some v =>
                cases o1 with
                | none => rw [hh, q0, q1]; exact rtold_8sn d n nm x y H f0 g0 f1 g1 S e A c os w0 w hr h hl ho q0 q1
                | some u => rw [hh, q0, q1]; exact rtold_8ss d n nm x y H f0 g0 f1 g1 S e A c os w0 w hr h hl ho q0 q1
        · obtain ⟨x, y, rfl⟩ := len2 p1
          obtain ⟨g0, f0⟩ := p5 0 (by simp)
          obtain ⟨g1, f1⟩ := p5 1 (by simp)
          have hh := told_else os d n nm x y
          cases q0 : toldN os d x with
          | error er => rw [hh, q0]; exact rtold_9e d n nm x y H f0 g0 (er_ne q0) S e A c os w0 w hr h hl ho q0
          | ok o =>
            cases o with
            | none => rw [hh, q0]; exact rtold_9n d n nm x y H f0 g0 f1 g1 S e A c os w0 w hr h hl ho q0 rfl
            | some v => rw [hh, q0]; exact rtold_9s d n nm x y H f0 g0 S e A c os w0 w hr h hl ho q0
        · obtain ⟨k, x, y, rfl⟩ := len3 p1
          obtain ⟨g0, f0⟩ := p5 0 (by simp)
          obtain ⟨g1, f1⟩ := p5 1 (by simp)
          obtain ⟨g2, f2⟩ := p5 2 (by simp)
          have hh := told_if os d n nm k x y
          cases q0 : condN os d k with
          | error er => rw [hh, q0]; exact rtold_10e d n nm k x y H HCd f0 g0 (erc_ne q0) S e A c os w0 w hr h hl ho q0
          | ok b =>
            cases b with
            | true => rw [hh, q0]; exact rtold_10t d n nm k x y H HCd f0 g0 f1 g1 S e A c os w0 w hr h hl ho q0 rfl
            | false => rw [hh, q0]; exact rtold_10f d n nm k x y H HCd f0 g0 f2 g2 S e A c os w0 w hr h hl ho q0 rfl
        · cases hc
        · cases hc
    · cases x with
      | mk k n nm xs =>
        obtain ⟨p1, p2, p3, p4, p5⟩ := fine_parts hx
        have hk : k = 11 ∨ k = 12 := by simpa [isCond, Ex.k] using hc
        rcases hk with rfl | rfl
        · obtain rfl := len0 p1
          exact rcond_11 d n nm S e A c os w0 w hr h hl ho
        · obtain ⟨x, y, rfl⟩ := len2 p1
          obtain ⟨g0, f0⟩ := p5 0 (by simp)
          obtain ⟨g1, f1⟩ := p5 1 (by simp)
          have hh : condN os (d + 1) (.mk 12 n nm [x, y]) = match toldN os d x with | .error e => .error e | .ok a => match toldN os d y with | .error e => .error e | .ok b => .ok (match a, b with | some a, some b => decide (b < a) | _, _ => false) := by
            rw [cond_above, (told_less os d (d + 1) (by omega) x f0).1 g0, (told_less os d (d + 1) (by omega) y f1).1 g1]; rfl
          cases q0 : toldN os d x with
          | error er => rw [hh, q0]; exact rcond_12e d n nm x y H f0 g0 (er_ne q0) S e A c os w0 w hr h hl ho q0
          | ok o =>
            cases q1 : toldN os d y with
            | error er =>
              cases o with
              | none => rw [hh, q0, q1]; exact rcond_12ne d n nm x y H f0 g0 f1 g1 (er_ne q1) S e A c os w0 w hr h hl ho q0 q1
              | some v => rw [hh, q0, q1]; exact rcond_12se d n nm x y H f0 g0 f1 g1 (er_ne q1) S e A c os w0 w hr h hl ho q0 q1
            | ok o1 =>
              cases o with
              | none =>
                cases o1 with
                | none => rw [hh, q0, q1]; exact rcond_12nn d n nm x y H f0 g0 f1 g1 S e A c os w0 w hr h hl ho q0 q1
                | some u => rw [hh, q0, q1]; exact rcond_12ns d n nm x y H f0 g0 f1 g1 S e A c os w0 w hr h hl ho q0 q1
              | some v =>
                cases o1 with
                | none => rw [hh, q0, q1]; exact rcond_12sn d n nm x y H f0 g0 f1 g1 S e A c os w0 w hr h hl ho q0 q1
                | some u => rw [hh, q0, q1]; exact rcond_12ss d n nm x y H f0 g0 f1 g1 S e A c os w0 w hr h hl ho q0 q1
end Go.Proofs.YtpehlldgnbajjaaGreatDoor

namespace Go.Proofs.YtpehlldgnbajjaaGreatDoor
open Go.RowKit Go.Lib
set_option linter.unusedVariables false
set_option linter.unusedSimpArgs false

def PrintOk : Prop := ∀ (x : Ex) (S : Nat → Prop) (e : El) (w0 w : World), Rel w0 w → ExAt S w e x → size x ≤ 100000 → Calls Tryz.prog 48 #[EV e] w fun r w' => r = .returned (.tuple #[.string (B (prT x)), .int .i64 (prE x)]) ∧ Rel w0 w'
def RightOk : Prop := ∀ (x : Ex) (S : Nat → Prop) (e : El) (w0 w : World), Rel w0 w → ExAt S w e x → size x ≤ 100000 → Calls Tryz.prog 24 #[EV e] w fun r w' => r = .returned (.bool (rightX x)) ∧ Rel w0 w'
theorem ExAt.one {S : Nat → Prop} {w : World} {k n : Int} {nm : List UInt8} {g c : Nat} {a : El} {x : Ex} (hk : i64 k) (hn : i64 n) (hm : nm.length ≤ 100) (h : Bk w g 31 (cellsEs [a]).toArray) (hS : S g) (hx : ExAt S w a x) :
    ExAt S w (k, n, nm, some ⟨g, 0, none⟩, 1, c) (.mk k n nm [x]) :=
  .mk k n nm _ c [x] [a] hk hn hm rfl (RowE.of_bk h hS) fun i h h' => by
    match i, h, h' with
    | 0, _, _ => exact hx
def exLow : Ex := .mk 1 0 [] []
def exX : Ex := .mk 9 0 [] [.mk 5 1 [] [exLow], .mk 4 999 [] []]
def exTxt : List UInt8 := [101, 108, 115, 101, 40, 108, 101, 115, 115, 40, 108, 111, 119, 101, 115, 116, 44, 32, 48, 46, 48, 49, 41, 44, 32, 57, 46, 57, 57, 41]
theorem txt_small (a b c : Nat) (ha : a < 10) (hb : b < 10) (hc : c < 10) : txt ((a * 100 + b * 10 + c : Nat) : Int) = [UInt8.ofNat (48 + a), 46, UInt8.ofNat (48 + b), UInt8.ofNat (48 + c)] := by
  rw [txt_pos (by omega) (by omega)]
  unfold pos
  rw [show ((a * 100 + b * 10 + c : Nat) : Int).toNat / 100 = a by omega, show ((a * 100 + b * 10 + c : Nat) : Int).toNat / 10 % 10 = b by omega, show ((a * 100 + b * 10 + c : Nat) : Int).toNat % 10 = c by omega, dd_one _ ha, dd_one _ hb, dd_one _ hc]
  rfl
theorem exX_text : text exX = exTxt := by
  have e1 : txt 1 = [48, 46, 48, 49] := txt_small 0 0 1 (by omega) (by omega) (by omega)
  have e2 : txt 999 = [57, 46, 57, 57] := txt_small 9 9 9 (by omega) (by omega) (by omega)
  unfold exX exLow
  simp only [text_mk, texts_cons, texts_nil, mores_cons, mores_nil, tailK, e1, e2]
  decide
theorem exX_size : size exX = 4 := by unfold exX exLow; simp only [size_mk, sizes_cons, sizes_nil]
theorem exX_deep : deep exX = 3 := by unfold exX exLow; simp only [deep_mk, deeps_cons, deeps_nil]; decide
theorem exX_right : rightX exX = true := by
  unfold rightX
  rw [exX_text, exX_size]
  decide
theorem exX_print : prT exX = exTxt ∧ prE exX = 0 := by
  unfold prT prE; rw [exX_right, exX_text]; exact ⟨rfl, rfl⟩
theorem more_print : prT (.mk 11 0 [] []) = [] ∧ prE (.mk 11 0 [] []) = 1 := by
  have : rightX (.mk 11 0 [] []) = false := by unfold rightX; rw [show isCond (Ex.mk 11 0 [] []).k = true from rfl]; simp
  unfold prT prE; rw [this]; exact ⟨rfl, rfl⟩
theorem none_right : rightX (.mk 0 0 [] []) = false := by
  have : fine 32 (.mk 0 0 [] []) = false := by decide
  unfold rightX; rw [this]; simp
theorem low_ne : exX ≠ exLow := fun h => by unfold exX exLow at h; injection h with h; cases h
theorem arg1 {f : FuncId} {v v' : Value} {w : World} {Q : Ending → World → Prop} (hv : Hid (v = v')) (h : Calls Tryz.prog f #[v] w Q) : Calls Tryz.prog f #[v'] w Q := by rw [← hv.out]; exact h
theorem arg2 {f : FuncId} {v v' u u' : Value} {w : World} {Q : Ending → World → Prop} (hv : Hid (v = v')) (hu : Hid (u = u')) (h : Calls Tryz.prog f #[v, u] w Q) : Calls Tryz.prog f #[v', u'] w Q := by rw [← hv.out, ← hu.out]; exact h
theorem leaf11 (w : World) : ExAt (fun _ => True) w (11, 0, [], none, 0, 0) (.mk 11 0 [] []) := ExAt.leaf _ _ 11 0 [] none 0 ⟨by decide, by decide⟩ ⟨by decide, by decide⟩ (Nat.zero_le _)
theorem leaf0 (w : World) : ExAt (fun _ => True) w (0, 0, [], none, 0, 0) (.mk 0 0 [] []) := ExAt.leaf _ _ 0 0 [] none 0 ⟨by decide, by decide⟩ ⟨by decide, by decide⟩ (Nat.zero_le _)
/-- The blocks that awake makes. -/
theorem awake_world (w : World) : ∃ W : World, W = (((w.alloc (.cells #[.int .i64 1, .int .i64 0, .string ⟨#[]⟩, .slice none 0 0] 31)).alloc (.cells #[.int .i64 1, .int .i64 0, .string ⟨#[]⟩, .slice none 0 0] 31)).alloc
    (.cells #[.int .i64 5, .int .i64 1, .string ⟨#[]⟩, .slice (some ⟨w.heap.size + 1, 0, none⟩) 1 1, .int .i64 4, .int .i64 999, .string ⟨#[]⟩, .slice none 0 0] 31)).alloc (.cells #[.int .i64 9, .int .i64 0, .string ⟨#[]⟩, .slice (some ⟨w.heap.size + 2, 0, none⟩) 2 2] 31) ∧
    Bk W w.heap.size 31 #[.int .i64 1, .int .i64 0, .string ⟨#[]⟩, .slice none 0 0] ∧ Bk W (w.heap.size + 3) 31 #[.int .i64 9, .int .i64 0, .string ⟨#[]⟩, .slice (some ⟨w.heap.size + 2, 0, none⟩) 2 2] ∧
    ExAt (fun _ => True) W (9, 0, [], some ⟨w.heap.size + 2, 0, none⟩, 2, 2) exX ∧ ExAt (fun _ => True) W (1, 0, [], none, 0, 0) exLow := by
  refine ⟨_, rfl, ?_, ?_, ?_, ?_⟩
  · exact (((Bk.new w _ _).alloc _).alloc _).alloc _
  · have := Bk.new (((w.alloc (.cells #[.int .i64 1, .int .i64 0, .string ⟨#[]⟩, .slice none 0 0] 31)).alloc (.cells #[.int .i64 1, .int .i64 0, .string ⟨#[]⟩, .slice none 0 0] 31)).alloc
      (.cells #[.int .i64 5, .int .i64 1, .string ⟨#[]⟩, .slice (some ⟨w.heap.size + 1, 0, none⟩) 1 1, .int .i64 4, .int .i64 999, .string ⟨#[]⟩, .slice none 0 0] 31)) 31 #[.int .i64 9, .int .i64 0, .string ⟨#[]⟩, .slice (some ⟨w.heap.size + 2, 0, none⟩) 2 2]
    simp only [World.size_alloc] at this
    exact this
  · have b2 := Bk.new ((w.alloc (.cells #[.int .i64 1, .int .i64 0, .string ⟨#[]⟩, .slice none 0 0] 31)).alloc (.cells #[.int .i64 1, .int .i64 0, .string ⟨#[]⟩, .slice none 0 0] 31)) 31
      #[.int .i64 5, .int .i64 1, .string ⟨#[]⟩, .slice (some ⟨w.heap.size + 1, 0, none⟩) 1 1, .int .i64 4, .int .i64 999, .string ⟨#[]⟩, .slice none 0 0]
    simp only [World.size_alloc] at b2
    have b1 := Bk.snd w #[.int .i64 1, .int .i64 0, .string ⟨#[]⟩, .slice none 0 0] #[.int .i64 1, .int .i64 0, .string ⟨#[]⟩, .slice none 0 0] 31 31
    refine ExAt.two (a := (5, 1, [], some ⟨w.heap.size + 1, 0, none⟩, 1, 1)) (b := (4, 999, [], none, 0, 0)) ⟨by decide, by decide⟩ ⟨by decide, by decide⟩ (Nat.zero_le _) (b2.alloc _) trivial ?_ (ExAt.leaf _ _ 4 999 [] none 0 ⟨by decide, by decide⟩ ⟨by decide, by decide⟩ (Nat.zero_le _))
    exact ExAt.one (a := (1, 0, [], none, 0, 0)) ⟨by decide, by decide⟩ ⟨by decide, by decide⟩ (Nat.zero_le _) ((b1.alloc _).alloc _) trivial (ExAt.leaf _ _ 1 0 [] none 0 ⟨by decide, by decide⟩ ⟨by decide, by decide⟩ (Nat.zero_le _))
  · exact ExAt.leaf _ _ 1 0 [] none 0 ⟨by decide, by decide⟩ ⟨by decide, by decide⟩ (Nat.zero_le _)
end Go.Proofs.YtpehlldgnbajjaaGreatDoor

namespace Go.Proofs.YtpehlldgnbajjaaGreatDoor
open Go.RowKit Go.Lib
set_option linter.unusedVariables false
set_option linter.unusedSimpArgs false

theorem pr_of {x : Ex} {b : Bool} (h : rightX x = b) : prT x = (if b then text x else []) ∧ prE x = (if b then 0 else 1) := by
  unfold prT prE; rw [h]; exact ⟨rfl, rfl⟩
theorem right_inj {x y : Ex} (hx : rightX x = true) (hy : rightX y = true) : text x = text y ↔ x = y := by
  simp only [rightX, Bool.and_eq_true] at hx hy
  constructor
  · intro h
    exact (text_inj x y 32 32 hx.1.1.1 hy.1.1.1 [] [] rfl rfl (by rw [h])).1
  · intro h; rw [h]
theorem B_eq (a b : List UInt8) : ((B a).toList == (B b).toList) = decide (a = b) := by
  rw [B_toList, B_toList]
  by_cases h : a = b <;> simp [h]
end Go.Proofs.YtpehlldgnbajjaaGreatDoor
