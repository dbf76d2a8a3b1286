/- The document's own answers of layer 10: code as lines. -/
import Derived.Test.YtldopbkjchgcnaaDoorZ17
import Derived.Test.YtldopbkjchgcnaaDoorZ12
namespace Go.Proofs.YtldopbkjchgcnaaDoor
open Go.RowKit Go.Lib
set_option linter.unusedVariables false
set_option linter.unusedSimpArgs false

theorem num_low (n q r : Int) (h : n < -1000000000000000000) (hq : 0 ≤ q) (hr : 0 ≤ r) (hr' : r < 10) (e : n = -(10 * q + r)) : (⟨#[45]⟩ : ByteArray) ++ B (decDigits q.toNat) ++ B (decDigits r.toNat) = num n := by
  rw [dash, B_append, List.cons_append, ← num_neg n (by omega), dash]
  congr 2
  rw [dd_last hr (by omega), dd_step (n := -n) (by omega) (by omega), show r % 10 = -n % 10 by omega, show q = -n / 10 by omega]
set_option maxHeartbeats 400000 in
theorem rnum_any (n : Int) (h0 : -9223372036854775808 ≤ n) (h1 : n ≤ 9223372036854775807) (w0 w : World) (hr : Rel w0 w) :
    Calls Tryd.prog 35 #[.int .i64 n] w fun e w' => e = .returned (.string (num n)) ∧ Rel w0 w' := by
  by_cases hn : 0 ≤ n
  · have HS := Lib.hid (show B (decDigits n.toNat) = num n by unfold num itoa; rw [if_neg (by omega)])
    go_enter Tryd.func35, Tryd.ntmps35
    go_wp2_with ((go_at_call 51; (with_reducible refine (str_at _ (digits_any _ hn h1 _ _ hr) HS).mono ?_); rintro e w' ⟨rfl, hr'⟩))
    go_ret
    exact ⟨rfl, hr'⟩
  · by_cases hb : n < -1000000000000000000
    · have hq := tdt n 10 (by omega)
      have q1 : n.tdiv 10 ≤ 0 := by omega
      have q2 : -922337203685477580 ≤ n.tdiv 10 := by omega
      have q3 : n.tmod 10 ≤ 0 := by omega
      have q4 : -9 ≤ n.tmod 10 := by omega
      have z1 := dd_size (-(n.tdiv 10)) (by omega)
      have z2 := dd_size (-(n.tmod 10)) (by omega)
      have HS := Lib.hid (num_low n (-(n.tdiv 10)) (-(n.tmod 10)) (by omega) (by omega) (by omega) (by omega) (by omega))
      clear hq
      go_enter Tryd.func35, Tryd.ntmps35
      go_wp2_with ((go_at_call 51; (with_reducible refine (digits_any _ (by omega) (by omega) _ _ (by assumption)).mono ?_); rintro e w' ⟨rfl, hr'⟩))
      go_ret
      exact ⟨ret_str HS.out, by assumption⟩
    · have z1 := dd_size (-n) (by omega)
      have HS := Lib.hid (num_neg n (by omega))
      go_enter Tryd.func35, Tryd.ntmps35
      go_wp2_with ((go_at_call 51; (with_reducible refine (digits_any _ (by omega) (by omega) _ _ (by assumption)).mono ?_); rintro e w' ⟨rfl, hr'⟩))
      go_ret
      exact ⟨ret_str HS.out, by assumption⟩
theorem textC_take (l : List In) (j : Nat) (h : j < l.length) : textC (l.take (j + 1)) = textC (l.take j) ++ lineT l[j] := by
  rw [List.take_succ_eq_append_getElem h, textC_snoc]
theorem textC_le (l : List In) (j : Nat) : (textC (l.take j)).length ≤ (textC l).length := by
  have := congrArg (fun x => (textC x).length) (List.take_append_drop j l)
  simp only [textC_append, List.length_append] at this
  omega
theorem word_none {o : Int} (h : o < 0 ∨ 13 < o) (n : Int) (nm : List UInt8) : lineT (o, n, nm) = [63] ++ [10] := by
  have e : wordO o = [63] := by
    unfold wordO
    rw [if_neg (by omega), if_neg (by omega), if_neg (by omega), if_neg (by omega), if_neg (by omega), if_neg (by omega), if_neg (by omega), if_neg (by omega), if_neg (by omega), if_neg (by omega), if_neg (by omega), if_neg (by omega), if_neg (by omega)]
  have e2 : numO o = false := by
    unfold numO
    simp only [Bool.or_eq_false_iff, beq_eq_false_iff_ne]
    omega
  unfold lineT tailO
  simp only [e, e2]
  rw [if_neg (by decide), if_neg (by omega)]; rfl
set_option maxRecDepth 100000 in
set_option maxHeartbeats 8000000 in
theorem rtext10_any (A : Option Addr) (c : Nat) (l : List In) (hb : (textC l).length ≤ 9223372036854775807) (w0 w : World) (hr : Rel w0 w) (h : InsArg w A c l) :
    Calls Tryd.prog 15 #[.slice A l.length c] w fun e w' => e = .returned (.string (B (textC l))) ∧ Rel w0 w' := by
  have HR := Lib.hid hr
  have HBk := Lib.hid (Bk.new w 9 #[.string ⟨#[63]⟩, .string ⟨#[112, 117, 115, 104]⟩, .string ⟨#[108, 111, 119, 101, 115, 116]⟩, .string ⟨#[115, 101, 99, 111, 110, 100]⟩, .string ⟨#[102, 114, 111, 109]⟩, .string ⟨#[108, 101, 115, 115]⟩, .string ⟨#[99, 117, 116]⟩, .string ⟨#[109, 105, 110]⟩, .string ⟨#[109, 97, 120]⟩, .string ⟨#[101, 108, 115, 101]⟩, .string ⟨#[109, 111, 114, 101]⟩, .string ⟨#[97, 98, 111, 118, 101]⟩, .string ⟨#[117, 110, 108, 101, 115, 115]⟩, .string ⟨#[106, 117, 109, 112]⟩])
  have HA := Lib.hid (hr.self.alloc (.cells #[.string ⟨#[63]⟩, .string ⟨#[112, 117, 115, 104]⟩, .string ⟨#[108, 111, 119, 101, 115, 116]⟩, .string ⟨#[115, 101, 99, 111, 110, 100]⟩, .string ⟨#[102, 114, 111, 109]⟩, .string ⟨#[108, 101, 115, 115]⟩, .string ⟨#[99, 117, 116]⟩, .string ⟨#[109, 105, 110]⟩, .string ⟨#[109, 97, 120]⟩, .string ⟨#[101, 108, 115, 101]⟩, .string ⟨#[109, 111, 114, 101]⟩, .string ⟨#[97, 98, 111, 118, 101]⟩, .string ⟨#[117, 110, 108, 101, 115, 115]⟩, .string ⟨#[106, 117, 109, 112]⟩] 9))
  obtain ⟨W, hW⟩ : ∃ W, w.alloc (.cells #[.string ⟨#[63]⟩, .string ⟨#[112, 117, 115, 104]⟩, .string ⟨#[108, 111, 119, 101, 115, 116]⟩, .string ⟨#[115, 101, 99, 111, 110, 100]⟩, .string ⟨#[102, 114, 111, 109]⟩, .string ⟨#[108, 101, 115, 115]⟩, .string ⟨#[99, 117, 116]⟩, .string ⟨#[109, 105, 110]⟩, .string ⟨#[109, 97, 120]⟩, .string ⟨#[101, 108, 115, 101]⟩, .string ⟨#[109, 111, 114, 101]⟩, .string ⟨#[97, 98, 111, 118, 101]⟩, .string ⟨#[117, 110, 108, 101, 115, 115]⟩, .string ⟨#[106, 117, 109, 112]⟩] 9) = W := ⟨_, rfl⟩
  rw [hW] at HBk HA
  have HAt := Lib.hid (h.2.2.2.rel HA.out)
  have HF := Lib.hid h.2.2.1
  have hl : l.length ≤ 9223372036854775807 := by have := h.1; have := h.2.1; unfold maxLen at this; omega
  have HBd := Lib.hid hb
  clear h hr hb
  go_enter Tryd.func15, Tryd.ntmps15
  go_wp2_with (fail)
  go_loopw [4, 5] (fun s i wr => ∃ (j : Nat) (P : ByteArray), j ≤ l.length ∧ i = .int .i64 (j : Int) ∧ s = .string P ∧ Hid (P = B (textC (l.take j))) ∧ Rel W wr) (fun _ i _ => l.length - (RowKit.intOf i).toNat)
  case atStart => exact ⟨0, ⟨#[]⟩, by omega, rfl, rfl, Lib.hid rfl, HA.out.self⟩
  case round =>
    obtain ⟨j, P, hj, rfl, rfl, HP, hRw⟩ := hrel
    have HRw := Lib.hid hRw
    by_cases hlt : j < l.length
    · obtain ⟨g, off, o, n, nm, rfl, c0, c1, c2, ho⟩ := ins_at HAt.out hRw j hlt
      have hfo := HF.out _ (List.getElem_mem hlt)
      rw [ho] at hfo
      obtain ⟨_, hn64, hnm⟩ := hfo
      obtain ⟨n0, n1⟩ := hn64
      have HT := Lib.hid (show textC (l.take (j + 1)) = textC (l.take j) ++ lineT (o, n, nm) by rw [textC_take l j hlt, ho])
      have zP : P.size + (lineT (o, n, nm)).length ≤ 9223372036854775807 := by
        have h1 := textC_le l (j + 1)
        have h2 := HBd.out
        rw [HT.out, List.length_append] at h1
        have h3 : P.size = (textC (l.take j)).length := by rw [HP.out, B_size]
        omega
      obtain ⟨NN, hNN⟩ : ∃ NN, num n = NN := ⟨_, rfl⟩
      obtain ⟨NM, hNM⟩ : ∃ NM, B nm = NM := ⟨_, rfl⟩
      have zNN : NN.size = (itoa n).length := by rw [← hNN]; exact B_size _
      have zNM : NM.size = nm.length := by rw [← hNM]; exact B_size _
      have HC := Lib.hid (fun (w' : World) (hh : Rel W w') => rnum_any n n0 n1 w' w' hh.self)
      rw [hNN] at HC
      rw [hNM] at c2
      have HNN := Lib.hid hNN
      have HNM := Lib.hid hNM
      clear ho hNN hNM hRw
      have hways : (o < 0 ∨ 13 < o) ∨ o = 0 ∨ o = 1 ∨ o = 2 ∨ o = 3 ∨ o = 4 ∨ o = 5 ∨ o = 6 ∨ o = 7 ∨ o = 8 ∨ o = 9 ∨ o = 10 ∨ o = 11 ∨ o = 12 ∨ o = 13 := by omega
      rcases hways with hx | rfl | rfl | rfl | rfl | rfl | rfl | rfl | rfl | rfl | rfl | rfl | rfl | rfl | rfl
      · have hL := word_none hx n nm
        rw [hL] at HT zP
        have z1 : ¬ 9223372036854775807 < P.size + 1 := by simp at zP; omega
        have z2 : ¬ 9223372036854775807 < P.size + 1 + 1 := by simp at zP; omega
        have HE := Lib.hid (show P ++ (⟨#[63]⟩ : ByteArray) ++ (⟨#[10]⟩ : ByteArray) = B (textC (l.take (j + 1))) by
          rw [HT.out, HP.out]
          show B _ ++ B [63] ++ B [10] = _
          rw [B_append, B_append]; simp)
        have w0 := (HBk.out.rel HRw.out).cell 0
        simp only [List.getElem?_toArray, List.getElem?_cons_succ, List.getElem?_cons_zero] at w0
        clear zP hL
        rcases hx with hx | hx
        · have k1 : decide (o < 0) = true := decide_eq_true hx
          clear hx
          go_wp2_with (fail)
          go_roundw
          case rel => exact ⟨j + 1, _, by omega, by go_num, rfl, HE, HRw.out⟩
          case measure => simp [RowKit.intOf]; omega
        · have k1 : decide (o < 0) = false := decide_eq_false (by omega)
          have k2 : decide (13 < o) = true := decide_eq_true hx
          clear hx
          go_wp2_with (fail)
          go_roundw
          case rel => exact ⟨j + 1, _, by omega, by go_num, rfl, HE, HRw.out⟩
          case measure => simp [RowKit.intOf]; omega
      · have hL : lineT (0, n, nm) = [63] ++ [10] := rfl
        rw [hL] at HT zP
        have z1 : ¬ 9223372036854775807 < P.size + 1 := by simp at zP; omega
        have z2 : ¬ 9223372036854775807 < P.size + 1 + 1 := by simp at zP; omega
        have HE := Lib.hid (show P ++ (⟨#[63]⟩ : ByteArray) ++ (⟨#[10]⟩ : ByteArray) = B (textC (l.take (j + 1))) by
          rw [HT.out, HP.out]
          skip
          show B _ ++ B [63] ++ B [10] = _
          simp only [B_append]; simp)
        have w0 := (HBk.out.rel HRw.out).cell 0
        simp only [List.getElem?_toArray, List.getElem?_cons_succ, List.getElem?_cons_zero] at w0
        clear zP hL
        go_wp2_with (fail)
        go_roundw
        case rel => exact ⟨j + 1, _, by omega, by go_num, rfl, HE, HRw.out⟩
        case measure => simp [RowKit.intOf]; omega
      · have hL : lineT (1, n, nm) = [112, 117, 115, 104] ++ (32 :: itoa n ++ [10]) := rfl
        rw [hL] at HT zP
        have z1 : ¬ 9223372036854775807 < P.size + 4 := by simp at zP; omega
        have z2 : ¬ 9223372036854775807 < P.size + 4 + 1 := by simp at zP; omega
        have z3 : ¬ 9223372036854775807 < P.size + 4 + 1 + NN.size := by simp at zP; omega
        have z4 : ¬ 9223372036854775807 < P.size + 4 + 1 + NN.size + 1 := by simp at zP; omega
        have HE := Lib.hid (show P ++ (⟨#[112, 117, 115, 104]⟩ : ByteArray) ++ (⟨#[32]⟩ : ByteArray) ++ NN ++ (⟨#[10]⟩ : ByteArray) = B (textC (l.take (j + 1))) by
          rw [HT.out, HP.out]
          rw [← HNN.out]
          show B _ ++ B [112, 117, 115, 104] ++ B [32] ++ B (itoa n) ++ B [10] = _
          simp only [B_append]; simp)
        have w1 := (HBk.out.rel HRw.out).cell 1
        simp only [List.getElem?_toArray, List.getElem?_cons_succ, List.getElem?_cons_zero] at w1
        clear zP hL
        go_wp2_with ((go_at_call 35; (with_reducible refine (HC.out _ HRw.out).mono ?_); rintro e w2 ⟨rfl, h2⟩))
        go_roundw
        case rel => exact ⟨j + 1, _, by omega, by go_num, rfl, HE, HRw.out.trans h2⟩
        case measure => simp [RowKit.intOf]; omega
      · have hL : lineT (2, n, nm) = [108, 111, 119, 101, 115, 116] ++ [10] := rfl
        rw [hL] at HT zP
        have z1 : ¬ 9223372036854775807 < P.size + 6 := by simp at zP; omega
        have z2 : ¬ 9223372036854775807 < P.size + 6 + 1 := by simp at zP; omega
        have HE := Lib.hid (show P ++ (⟨#[108, 111, 119, 101, 115, 116]⟩ : ByteArray) ++ (⟨#[10]⟩ : ByteArray) = B (textC (l.take (j + 1))) by
          rw [HT.out, HP.out]
          skip
          show B _ ++ B [108, 111, 119, 101, 115, 116] ++ B [10] = _
          simp only [B_append]; simp)
        have w2 := (HBk.out.rel HRw.out).cell 2
        simp only [List.getElem?_toArray, List.getElem?_cons_succ, List.getElem?_cons_zero] at w2
        clear zP hL
        go_wp2_with (fail)
        go_roundw
        case rel => exact ⟨j + 1, _, by omega, by go_num, rfl, HE, HRw.out⟩
        case measure => simp [RowKit.intOf]; omega
      · have hL : lineT (3, n, nm) = [115, 101, 99, 111, 110, 100] ++ [10] := rfl
        rw [hL] at HT zP
        have z1 : ¬ 9223372036854775807 < P.size + 6 := by simp at zP; omega
        have z2 : ¬ 9223372036854775807 < P.size + 6 + 1 := by simp at zP; omega
        have HE := Lib.hid (show P ++ (⟨#[115, 101, 99, 111, 110, 100]⟩ : ByteArray) ++ (⟨#[10]⟩ : ByteArray) = B (textC (l.take (j + 1))) by
          rw [HT.out, HP.out]
          skip
          show B _ ++ B [115, 101, 99, 111, 110, 100] ++ B [10] = _
          simp only [B_append]; simp)
        have w3 := (HBk.out.rel HRw.out).cell 3
        simp only [List.getElem?_toArray, List.getElem?_cons_succ, List.getElem?_cons_zero] at w3
        clear zP hL
        go_wp2_with (fail)
        go_roundw
        case rel => exact ⟨j + 1, _, by omega, by go_num, rfl, HE, HRw.out⟩
        case measure => simp [RowKit.intOf]; omega
      · have hL : lineT (4, n, nm) = [102, 114, 111, 109] ++ (32 :: nm ++ [10]) := rfl
        rw [hL] at HT zP
        have z1 : ¬ 9223372036854775807 < P.size + 4 := by simp at zP; omega
        have z2 : ¬ 9223372036854775807 < P.size + 4 + 1 := by simp at zP; omega
        have z3 : ¬ 9223372036854775807 < P.size + 4 + 1 + NM.size := by simp at zP; omega
        have z4 : ¬ 9223372036854775807 < P.size + 4 + 1 + NM.size + 1 := by simp at zP; omega
        have HE := Lib.hid (show P ++ (⟨#[102, 114, 111, 109]⟩ : ByteArray) ++ (⟨#[32]⟩ : ByteArray) ++ NM ++ (⟨#[10]⟩ : ByteArray) = B (textC (l.take (j + 1))) by
          rw [HT.out, HP.out]
          rw [← HNM.out]
          show B _ ++ B [102, 114, 111, 109] ++ B [32] ++ B nm ++ B [10] = _
          simp only [B_append]; simp)
        have w4 := (HBk.out.rel HRw.out).cell 4
        simp only [List.getElem?_toArray, List.getElem?_cons_succ, List.getElem?_cons_zero] at w4
        clear zP hL
        go_wp2_with (fail)
        go_roundw
        case rel => exact ⟨j + 1, _, by omega, by go_num, rfl, HE, HRw.out⟩
        case measure => simp [RowKit.intOf]; omega
      · have hL : lineT (5, n, nm) = [108, 101, 115, 115] ++ (32 :: itoa n ++ [10]) := rfl
        rw [hL] at HT zP
        have z1 : ¬ 9223372036854775807 < P.size + 4 := by simp at zP; omega
        have z2 : ¬ 9223372036854775807 < P.size + 4 + 1 := by simp at zP; omega
        have z3 : ¬ 9223372036854775807 < P.size + 4 + 1 + NN.size := by simp at zP; omega
        have z4 : ¬ 9223372036854775807 < P.size + 4 + 1 + NN.size + 1 := by simp at zP; omega
        have HE := Lib.hid (show P ++ (⟨#[108, 101, 115, 115]⟩ : ByteArray) ++ (⟨#[32]⟩ : ByteArray) ++ NN ++ (⟨#[10]⟩ : ByteArray) = B (textC (l.take (j + 1))) by
          rw [HT.out, HP.out]
          rw [← HNN.out]
          show B _ ++ B [108, 101, 115, 115] ++ B [32] ++ B (itoa n) ++ B [10] = _
          simp only [B_append]; simp)
        have w5 := (HBk.out.rel HRw.out).cell 5
        simp only [List.getElem?_toArray, List.getElem?_cons_succ, List.getElem?_cons_zero] at w5
        clear zP hL
        go_wp2_with ((go_at_call 35; (with_reducible refine (HC.out _ HRw.out).mono ?_); rintro e w2 ⟨rfl, h2⟩))
        go_roundw
        case rel => exact ⟨j + 1, _, by omega, by go_num, rfl, HE, HRw.out.trans h2⟩
        case measure => simp [RowKit.intOf]; omega
      · have hL : lineT (6, n, nm) = [99, 117, 116] ++ (32 :: itoa n ++ [10]) := rfl
        rw [hL] at HT zP
        have z1 : ¬ 9223372036854775807 < P.size + 3 := by simp at zP; omega
        have z2 : ¬ 9223372036854775807 < P.size + 3 + 1 := by simp at zP; omega
        have z3 : ¬ 9223372036854775807 < P.size + 3 + 1 + NN.size := by simp at zP; omega
        have z4 : ¬ 9223372036854775807 < P.size + 3 + 1 + NN.size + 1 := by simp at zP; omega
        have HE := Lib.hid (show P ++ (⟨#[99, 117, 116]⟩ : ByteArray) ++ (⟨#[32]⟩ : ByteArray) ++ NN ++ (⟨#[10]⟩ : ByteArray) = B (textC (l.take (j + 1))) by
          rw [HT.out, HP.out]
          rw [← HNN.out]
          show B _ ++ B [99, 117, 116] ++ B [32] ++ B (itoa n) ++ B [10] = _
          simp only [B_append]; simp)
        have w6 := (HBk.out.rel HRw.out).cell 6
        simp only [List.getElem?_toArray, List.getElem?_cons_succ, List.getElem?_cons_zero] at w6
        clear zP hL
        go_wp2_with ((go_at_call 35; (with_reducible refine (HC.out _ HRw.out).mono ?_); rintro e w2 ⟨rfl, h2⟩))
        go_roundw
        case rel => exact ⟨j + 1, _, by omega, by go_num, rfl, HE, HRw.out.trans h2⟩
        case measure => simp [RowKit.intOf]; omega
      · have hL : lineT (7, n, nm) = [109, 105, 110] ++ [10] := rfl
        rw [hL] at HT zP
        have z1 : ¬ 9223372036854775807 < P.size + 3 := by simp at zP; omega
        have z2 : ¬ 9223372036854775807 < P.size + 3 + 1 := by simp at zP; omega
        have HE := Lib.hid (show P ++ (⟨#[109, 105, 110]⟩ : ByteArray) ++ (⟨#[10]⟩ : ByteArray) = B (textC (l.take (j + 1))) by
          rw [HT.out, HP.out]
          skip
          show B _ ++ B [109, 105, 110] ++ B [10] = _
          simp only [B_append]; simp)
        have w7 := (HBk.out.rel HRw.out).cell 7
        simp only [List.getElem?_toArray, List.getElem?_cons_succ, List.getElem?_cons_zero] at w7
        clear zP hL
        go_wp2_with (fail)
        go_roundw
        case rel => exact ⟨j + 1, _, by omega, by go_num, rfl, HE, HRw.out⟩
        case measure => simp [RowKit.intOf]; omega
      · have hL : lineT (8, n, nm) = [109, 97, 120] ++ [10] := rfl
        rw [hL] at HT zP
        have z1 : ¬ 9223372036854775807 < P.size + 3 := by simp at zP; omega
        have z2 : ¬ 9223372036854775807 < P.size + 3 + 1 := by simp at zP; omega
        have HE := Lib.hid (show P ++ (⟨#[109, 97, 120]⟩ : ByteArray) ++ (⟨#[10]⟩ : ByteArray) = B (textC (l.take (j + 1))) by
          rw [HT.out, HP.out]
          skip
          show B _ ++ B [109, 97, 120] ++ B [10] = _
          simp only [B_append]; simp)
        have w8 := (HBk.out.rel HRw.out).cell 8
        simp only [List.getElem?_toArray, List.getElem?_cons_succ, List.getElem?_cons_zero] at w8
        clear zP hL
        go_wp2_with (fail)
        go_roundw
        case rel => exact ⟨j + 1, _, by omega, by go_num, rfl, HE, HRw.out⟩
        case measure => simp [RowKit.intOf]; omega
      · have hL : lineT (9, n, nm) = [101, 108, 115, 101] ++ (32 :: itoa n ++ [10]) := rfl
        rw [hL] at HT zP
        have z1 : ¬ 9223372036854775807 < P.size + 4 := by simp at zP; omega
        have z2 : ¬ 9223372036854775807 < P.size + 4 + 1 := by simp at zP; omega
        have z3 : ¬ 9223372036854775807 < P.size + 4 + 1 + NN.size := by simp at zP; omega
        have z4 : ¬ 9223372036854775807 < P.size + 4 + 1 + NN.size + 1 := by simp at zP; omega
        have HE := Lib.hid (show P ++ (⟨#[101, 108, 115, 101]⟩ : ByteArray) ++ (⟨#[32]⟩ : ByteArray) ++ NN ++ (⟨#[10]⟩ : ByteArray) = B (textC (l.take (j + 1))) by
          rw [HT.out, HP.out]
          rw [← HNN.out]
          show B _ ++ B [101, 108, 115, 101] ++ B [32] ++ B (itoa n) ++ B [10] = _
          simp only [B_append]; simp)
        have w9 := (HBk.out.rel HRw.out).cell 9
        simp only [List.getElem?_toArray, List.getElem?_cons_succ, List.getElem?_cons_zero] at w9
        clear zP hL
        go_wp2_with ((go_at_call 35; (with_reducible refine (HC.out _ HRw.out).mono ?_); rintro e w2 ⟨rfl, h2⟩))
        go_roundw
        case rel => exact ⟨j + 1, _, by omega, by go_num, rfl, HE, HRw.out.trans h2⟩
        case measure => simp [RowKit.intOf]; omega
      · have hL : lineT (10, n, nm) = [109, 111, 114, 101] ++ (32 :: itoa n ++ [10]) := rfl
        rw [hL] at HT zP
        have z1 : ¬ 9223372036854775807 < P.size + 4 := by simp at zP; omega
        have z2 : ¬ 9223372036854775807 < P.size + 4 + 1 := by simp at zP; omega
        have z3 : ¬ 9223372036854775807 < P.size + 4 + 1 + NN.size := by simp at zP; omega
        have z4 : ¬ 9223372036854775807 < P.size + 4 + 1 + NN.size + 1 := by simp at zP; omega
        have HE := Lib.hid (show P ++ (⟨#[109, 111, 114, 101]⟩ : ByteArray) ++ (⟨#[32]⟩ : ByteArray) ++ NN ++ (⟨#[10]⟩ : ByteArray) = B (textC (l.take (j + 1))) by
          rw [HT.out, HP.out]
          rw [← HNN.out]
          show B _ ++ B [109, 111, 114, 101] ++ B [32] ++ B (itoa n) ++ B [10] = _
          simp only [B_append]; simp)
        have w10 := (HBk.out.rel HRw.out).cell 10
        simp only [List.getElem?_toArray, List.getElem?_cons_succ, List.getElem?_cons_zero] at w10
        clear zP hL
        go_wp2_with ((go_at_call 35; (with_reducible refine (HC.out _ HRw.out).mono ?_); rintro e w2 ⟨rfl, h2⟩))
        go_roundw
        case rel => exact ⟨j + 1, _, by omega, by go_num, rfl, HE, HRw.out.trans h2⟩
        case measure => simp [RowKit.intOf]; omega
      · have hL : lineT (11, n, nm) = [97, 98, 111, 118, 101] ++ [10] := rfl
        rw [hL] at HT zP
        have z1 : ¬ 9223372036854775807 < P.size + 5 := by simp at zP; omega
        have z2 : ¬ 9223372036854775807 < P.size + 5 + 1 := by simp at zP; omega
        have HE := Lib.hid (show P ++ (⟨#[97, 98, 111, 118, 101]⟩ : ByteArray) ++ (⟨#[10]⟩ : ByteArray) = B (textC (l.take (j + 1))) by
          rw [HT.out, HP.out]
          skip
          show B _ ++ B [97, 98, 111, 118, 101] ++ B [10] = _
          simp only [B_append]; simp)
        have w11 := (HBk.out.rel HRw.out).cell 11
        simp only [List.getElem?_toArray, List.getElem?_cons_succ, List.getElem?_cons_zero] at w11
        clear zP hL
        go_wp2_with (fail)
        go_roundw
        case rel => exact ⟨j + 1, _, by omega, by go_num, rfl, HE, HRw.out⟩
        case measure => simp [RowKit.intOf]; omega
      · have hL : lineT (12, n, nm) = [117, 110, 108, 101, 115, 115] ++ (32 :: itoa n ++ [10]) := rfl
        rw [hL] at HT zP
        have z1 : ¬ 9223372036854775807 < P.size + 6 := by simp at zP; omega
        have z2 : ¬ 9223372036854775807 < P.size + 6 + 1 := by simp at zP; omega
        have z3 : ¬ 9223372036854775807 < P.size + 6 + 1 + NN.size := by simp at zP; omega
        have z4 : ¬ 9223372036854775807 < P.size + 6 + 1 + NN.size + 1 := by simp at zP; omega
        have HE := Lib.hid (show P ++ (⟨#[117, 110, 108, 101, 115, 115]⟩ : ByteArray) ++ (⟨#[32]⟩ : ByteArray) ++ NN ++ (⟨#[10]⟩ : ByteArray) = B (textC (l.take (j + 1))) by
          rw [HT.out, HP.out]
          rw [← HNN.out]
          show B _ ++ B [117, 110, 108, 101, 115, 115] ++ B [32] ++ B (itoa n) ++ B [10] = _
          simp only [B_append]; simp)
        have w12 := (HBk.out.rel HRw.out).cell 12
        simp only [List.getElem?_toArray, List.getElem?_cons_succ, List.getElem?_cons_zero] at w12
        clear zP hL
        go_wp2_with ((go_at_call 35; (with_reducible refine (HC.out _ HRw.out).mono ?_); rintro e w2 ⟨rfl, h2⟩))
        go_roundw
        case rel => exact ⟨j + 1, _, by omega, by go_num, rfl, HE, HRw.out.trans h2⟩
        case measure => simp [RowKit.intOf]; omega
      · have hL : lineT (13, n, nm) = [106, 117, 109, 112] ++ (32 :: itoa n ++ [10]) := rfl
        rw [hL] at HT zP
        have z1 : ¬ 9223372036854775807 < P.size + 4 := by simp at zP; omega
        have z2 : ¬ 9223372036854775807 < P.size + 4 + 1 := by simp at zP; omega
        have z3 : ¬ 9223372036854775807 < P.size + 4 + 1 + NN.size := by simp at zP; omega
        have z4 : ¬ 9223372036854775807 < P.size + 4 + 1 + NN.size + 1 := by simp at zP; omega
        have HE := Lib.hid (show P ++ (⟨#[106, 117, 109, 112]⟩ : ByteArray) ++ (⟨#[32]⟩ : ByteArray) ++ NN ++ (⟨#[10]⟩ : ByteArray) = B (textC (l.take (j + 1))) by
          rw [HT.out, HP.out]
          rw [← HNN.out]
          show B _ ++ B [106, 117, 109, 112] ++ B [32] ++ B (itoa n) ++ B [10] = _
          simp only [B_append]; simp)
        have w13 := (HBk.out.rel HRw.out).cell 13
        simp only [List.getElem?_toArray, List.getElem?_cons_succ, List.getElem?_cons_zero] at w13
        clear zP hL
        go_wp2_with ((go_at_call 35; (with_reducible refine (HC.out _ HRw.out).mono ?_); rintro e w2 ⟨rfl, h2⟩))
        go_roundw
        case rel => exact ⟨j + 1, _, by omega, by go_num, rfl, HE, HRw.out.trans h2⟩
        case measure => simp [RowKit.intOf]; omega
    · obtain rfl : j = l.length := by omega
      have HE := Lib.hid (show P = B (textC l) by rw [HP.out, List.take_length])
      go_wp2_with (fail)
      go_ret
      exact ⟨ret_str HE.out, HR.out.trans (HA.out.trans HRw.out)⟩
end Go.Proofs.YtldopbkjchgcnaaDoor
