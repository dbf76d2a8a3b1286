/- CodeLeads, over what the program is asked; What stands in 'min(x, y)' is compiled as it is alone, but for places. -/
import Derived.Test.YtldopbkjchgcnaaDoorZ19
import Derived.Test.YtldopbkjchgcnaaDoorZ16
namespace Go.Proofs.YtldopbkjchgcnaaDoor
open Go.RowKit Go.Lib
set_option linter.unusedVariables false
set_option linter.unusedSimpArgs false

theorem pk10_as (c n y : Int) (h : Hid (pk c n = y)) (hc : -9223372036854775808 ≤ c) (hc' : c ≤ 9223372036854775807) (hn : 0 < n) (hn' : n ≤ 9223372036854775807) (w : World) :
    Calls Tryd.prog 22 #[.int .i64 c, .int .i64 n] w fun e w' => e = .returned (.int .i64 y) ∧ w = w' := by
  rw [← h.out]
  by_cases h : c < 0
  all_goals
    go_enter Tryd.func22, Tryd.ntmps22
    go_wp2
    all_goals
      go_ret
      exact ⟨ret_int (by unfold pk; split <;> first | rfl | omega), rfl⟩
theorem far_step {l : List In} {k j : Nat} (hj : j < l.length) {t : In} (ht : l[j] = t) : farTo l k (j + 1) = if isTo t.1 = true ∧ j < k then max (farTo l k j) t.2.1 else farTo l k j := by
  rw [farTo, List.getElem?_eq_getElem hj, ht]
set_option maxRecDepth 100000 in
set_option maxHeartbeats 8000000 in
theorem CodeLeads_at (H : CodeOk) (HT : RightOk) (A : Option Addr) (c : Nat) (L : List Int) (at_ : Int) (hat : i64 at_) (w : World) (hr : Rel w w) (hi : IntsIn w A c L) :
    Calls Tryd.prog 7 #[.slice A L.length c, .int .i64 at_] w fun e w' => e = .returned (.bool true) ∧ Rel w w' := by
  have H := Lib.hid H
  have HR := Lib.hid hr
  have HI0 := Lib.hid hi
  obtain ⟨x, hx⟩ : ∃ x, strat L = x := ⟨_, rfl⟩
  have hS := fun (w0 w : World) (hr : Rel w0 w) (h : IntsIn w A c L) => strat_any A c L w0 w hr h
  have zx : size x ≤ 70000 := by have := strat_size L; rw [hx] at this; omega
  rw [hx] at hS
  have HSt := Lib.hid hS
  have HT := Lib.hid HT
  clear hi hx hS hr
  go_enter Tryd.func7, Tryd.ntmps7
  go_upto_region 3 with (first
    | (go_at_call 8; (with_reducible refine (awake10_any H.out _ _ HR.out).mono ?_); rintro e1 w1 ⟨rfl, h1⟩; have R1 := Lib.hid h1)
    | (go_at_call 9; (with_reducible refine (HSt.out _ _ R1.out (HI0.out.rel R1.out)).mono ?_); rintro e2 w2 ⟨vx, rfl, ex, h2⟩; have R2 := Lib.hid h2))
  have RA := Lib.hid (R2.out.alloc (.cells #[.int .i64 vx.1, .int .i64 vx.2.1, .string (B vx.2.2.1), .slice vx.2.2.2.1 vx.2.2.2.2.1 vx.2.2.2.2.2] 27))
  have HB := Lib.hid (Bk.new w2 27 #[.int .i64 vx.1, .int .i64 vx.2.1, .string (B vx.2.2.1), .slice vx.2.2.2.1 vx.2.2.2.2.1 vx.2.2.2.2.2])
  have EX := Lib.hid ((ex.rel (R2.out.self.alloc (.cells #[.int .i64 vx.1, .int .i64 vx.2.1, .string (B vx.2.2.1), .slice vx.2.2.2.1 vx.2.2.2.2.1 vx.2.2.2.2.2] 27))).weak (S' := fun _ => True) (fun _ _ => trivial))
  obtain ⟨W, hW⟩ : ∃ W, w2.alloc (.cells #[.int .i64 vx.1, .int .i64 vx.2.1, .string (B vx.2.2.1), .slice vx.2.2.2.1 vx.2.2.2.2.1 vx.2.2.2.2.2] 27) = W := ⟨_, rfl⟩
  rw [hW] at RA HB EX ⊢
  clear hW ex h1 h2
  obtain ⟨⟨x0, x1, x2, x3⟩, _⟩ := HB.out.four
  obtain ⟨b, hb⟩ : ∃ b, rightX x = b := ⟨_, rfl⟩
  cases b with
  | false =>
    have Q := Lib.hid (show codX x = [] ∧ ([] : List In).length = 0 ∧ codR x = 1 from ⟨(codX_no hb).1, rfl, (codX_no hb).2⟩)
    have hC := fun (w' : World) (hh : Rel W w') => HT.out x _ vx w' w' hh.self (EX.out.rel hh) (by omega)
    rw [hb] at hC
    have HC := Lib.hid hC
    clear hC hb
    go_wp2_with (first
      | (go_at_call 11; (with_reducible refine (compile_as H.out x [] 0 1 Q _ vx _ _ RA.out.self EX.out (by omega) _ (Lib.hid rfl)).mono ?_); rintro e w3 ⟨A3, a3, rfl, o3, h3⟩; have R3 := Lib.hid h3; obtain ⟨⟨y0, y1, y2, y3⟩, _⟩ := (HB.out.rel h3).four)
      | (go_at_call 18; (with_reducible refine (HC.out _ R3.out).mono ?_); rintro e w4 ⟨rfl, h4⟩))
    go_ret
    exact ⟨rfl, HR.out.trans (RA.out.trans (R3.out.trans h4))⟩
  | true =>
    obtain ⟨l, hl⟩ : ∃ l, codX x = l := ⟨_, rfl⟩
    obtain ⟨k1, k2, k3⟩ := codX_code x hb
    have hne : 0 < l.length := by rw [← hl]; have := size_pos x; omega
    rw [hl] at k1
    have hlen := (codeOk_iff.1 k1).1
    have Q := Lib.hid (show codX x = l ∧ l.length = l.length ∧ codR x = 0 from ⟨hl, rfl, (codX_yes hb).2⟩)
    have HK1 := Lib.hid k1
    have HF := Lib.hid (ins_fit k1)
    have hkb := pk_bd at_ ((l.length : Int) + 1) (by omega)
    obtain ⟨k, hk⟩ : ∃ k : Nat, pk at_ ((l.length : Int) + 1) = (k : Int) := ⟨(pk at_ ((l.length : Int) + 1)).toNat, by omega⟩
    have hkl : k ≤ l.length := by omega
    have HPk := Lib.hid hk
    have hw1 : IntKind.i64.wrap ((l.length : Int) + 1) = (l.length : Int) + 1 := IntWalk.i64_in _ (by omega)
    have hp1 : (0 : Int) < (l.length : Int) + 1 := by omega
    have hp2 : (l.length : Int) + 1 ≤ 9223372036854775807 := by omega
    obtain ⟨a0, a1⟩ := hat
    clear hl hb k1 k2 k3 hkb hk
    go_upto_region 6 with (go_at_call 11; (with_reducible refine (compile_as H.out x l l.length 0 Q _ vx _ _ RA.out.self EX.out (by omega) _ (Lib.hid rfl)).mono ?_); rintro e w3 ⟨A1, c1, rfl, o3, h3⟩)
    have R3 := Lib.hid h3
    have hcap := o3.cap
    rcases o3.form with ⟨_, _, h0⟩ | ⟨g, rfl, hg1, hg2⟩
    · rw [h0] at hne; simp at hne
    have HI := Lib.hid (InsOwn.arg o3 HF.out)
    have HAt := Lib.hid (InsOwn.at o3 rfl)
    have hcm : c1 ≤ 9223372036854775807 := hcap.2
    have hcl := hcap.1
    clear o3 h3 hg1 hg2 hcap
    go_upto_region 7 with (go_at_call 22; (with_reducible refine (pk10_as at_ ((l.length : Int) + 1) (k : Int) HPk a0 a1 hp1 hp2 _).mono ?_); rintro e w' ⟨rfl, rfl⟩)
    go_wp2_with (fail)
    go_loopw [10, 11] (fun f i wr => ∃ (j : Nat) (F : Int), j ≤ l.length ∧ i = .int .i64 (j : Int) ∧ f = .int .i64 F ∧ Hid (F = farTo l k j) ∧ Rel w3 wr) (fun _ i _ => l.length - (RowKit.intOf i).toNat)
    case atStart => exact ⟨0, 0, by omega, rfl, rfl, Lib.hid rfl, R3.out.self⟩
    case round =>
      obtain ⟨j, F, hj, rfl, rfl, HFj, hRw⟩ := hrel
      have HRw := Lib.hid hRw
      by_cases hlt : j < l.length
      · obtain ⟨g', off, o, n, nm, e1, d0, d1, d2, ho⟩ := ins_at HAt.out hRw j hlt
        injection e1 with e1; injection e1 with e1 e3; subst e1; subst e3
        have HSt := Lib.hid (far_step (k := k) hlt ho)
        have hto : isTo o = true → (j : Int) < n ∧ n ≤ (l.length : Int) := fun h => by
          have := leads_in HK1.out hlt (by rw [ho]; exact h)
          rw [ho] at this; exact this
        clear ho hRw
        rw [Nat.zero_add] at d0 d1 d2
        by_cases ht : isTo o = true
        · obtain ⟨n1, n2⟩ := hto ht
          have q1 : decide (n ≤ (j : Int)) = false := decide_eq_false (by omega)
          have q2 : decide ((l.length : Int) < n) = false := decide_eq_false (by omega)
          have hway : ((o == 9) = true) ∨ ((o == 9) = false ∧ (o == 12) = true) ∨ ((o == 9) = false ∧ (o == 12) = false ∧ (o == 13) = true) := by
            unfold isTo at ht
            simp only [Bool.or_eq_true, beq_iff_eq] at ht
            simp only [beq_iff_eq, beq_eq_false_iff_ne]
            omega
          by_cases hjk : j < k
          · have HN2 := Lib.hid (show farTo l k (j + 1) = max F n by rw [HSt.out, if_pos ⟨ht, hjk⟩, HFj.out])
            have q3 : decide ((j : Int) < (k : Int)) = true := decide_eq_true (by omega)
            clear hto ht
            rcases hway with w9 | ⟨w9, w12⟩ | ⟨w9, w12, w13⟩
            all_goals
              go_wp2_with (fail)
              all_goals
                go_roundw
                case rel => exact ⟨j + 1, _, by omega, by go_num, rfl, Lib.hid (by rw [HN2.out]; first | rfl | omega), HRw.out⟩
                case measure => simp [RowKit.intOf]; omega
          · have HN2 := Lib.hid (show F = farTo l k (j + 1) by rw [HSt.out, if_neg (by omega), HFj.out])
            have q3 : decide ((j : Int) < (k : Int)) = false := decide_eq_false (by omega)
            clear hto ht
            rcases hway with w9 | ⟨w9, w12⟩ | ⟨w9, w12, w13⟩
            all_goals
              go_wp2_with (fail)
              go_roundw
              case rel => exact ⟨j + 1, F, by omega, by go_num, rfl, HN2, HRw.out⟩
              case measure => simp [RowKit.intOf]; omega
        · have HN2 := Lib.hid (show F = farTo l k (j + 1) by rw [HSt.out, if_neg (fun h => ht h.1), HFj.out])
          obtain ⟨w9, w12, w13⟩ : (o == 9) = false ∧ (o == 12) = false ∧ (o == 13) = false := by
            unfold isTo at ht
            simp only [Bool.not_eq_true, Bool.or_eq_false_iff] at ht
            exact ⟨ht.1.1, ht.1.2, ht.2⟩
          clear hto ht
          go_wp2_with (fail)
          go_roundw
          case rel => exact ⟨j + 1, F, by omega, by go_num, rfl, HN2, HRw.out⟩
          case measure => simp [RowKit.intOf]; omega
      · obtain rfl : j = l.length := by omega
        have hcut := leads_cut HK1.out hkl
        rw [← HFj.out] at hcut
        obtain ⟨bb, hbb⟩ : ∃ b, decide (F ≤ (k : Int)) = b := ⟨_, rfl⟩
        rw [hbb] at hcut
        have HQ := Lib.hid (show codeOk (l.take k) = bb ∧ (l.take k).length = k from ⟨hcut, by rw [List.length_take]; omega⟩)
        have ss : (bb == bb) = true := by cases bb <;> rfl
        have HIk := Lib.hid (show InsArg wr (some ⟨g, 0, none⟩) c1 (l.take k) from ⟨by rw [List.length_take]; omega, HI.out.2.1, fun o ho => HF.out o (List.mem_of_mem_take ho), (HAt.out.rel hRw).take k⟩)
        have s1 : (k : Int) ≤ (c1 : Int) := by omega
        have s2 : k ≤ c1 := by omega
        have s3 : (0 : Int) ≤ (k : Int) := by omega
        clear hcut hRw
        go_wp2_with (go_at_call 16; (with_reducible refine (cright_as H.out (l.take k) k bb HQ (some ⟨g, 0, none⟩) c1 _ _ HRw.out.self HIk.out).mono ?_); rintro e w5 ⟨rfl, h5⟩)
        go_ret
        exact ⟨by simp [hbb], HR.out.trans (RA.out.trans (R3.out.trans (HRw.out.trans h5)))⟩
end Go.Proofs.YtldopbkjchgcnaaDoor

namespace Go.Proofs.YtldopbkjchgcnaaDoor
open Go.RowKit Go.Lib
set_option linter.unusedVariables false
set_option linter.unusedSimpArgs false

theorem min_parts {x y : Ex} (h : rightX (.mk 7 0 [] [x, y]) = true) : rightX x = true ∧ rightX y = true := by
  simp only [rightX, Bool.and_eq_true, decide_eq_true_eq] at h
  obtain ⟨⟨⟨h1, h2⟩, h3⟩, h4⟩ := h
  have hf := fine_parts (d := 31) h1
  rw [size_mk, sizes_cons, sizes_cons, sizes_nil] at h3
  rw [text_mk, if_neg (by decide), if_neg (by decide), texts_cons, mores_cons, mores_nil] at h4
  simp only [List.length_append] at h4
  obtain ⟨p0, f0⟩ := hf.2.2.2.2 0 (by simp)
  obtain ⟨p1, f1⟩ := hf.2.2.2.2 1 (by simp)
  simp only [List.getElem_cons_zero, List.getElem_cons_succ] at p0 f0 p1 f1
  have d0 := fine_deep _ _ f0
  have d1 := fine_deep _ _ f1
  have g0 := fine_less _ 31 32 f0 (by omega)
  have g1 := fine_less _ 31 32 f1 (by omega)
  have q0 : isCond x.k = false := by rw [p0]; rfl
  have q1 : isCond y.k = false := by rw [p1]; rfl
  unfold rightX
  rw [g0, g1, q0, q1, decide_eq_true (show size x ≤ 2000 by omega), decide_eq_true (show size y ≤ 2000 by omega), decide_eq_true (show (text x).length ≤ 2000 by omega), decide_eq_true (show (text y).length ≤ 2000 by omega)]
  exact ⟨rfl, rfl⟩
theorem min_code {x y : Ex} (h : rightX (.mk 7 0 [] [x, y]) = true) : codX (.mk 7 0 [] [x, y]) = codX x ++ ((codX y).map (mv (codX x).length) ++ [(7, 0, [])]) := by
  obtain ⟨hx, hy⟩ := min_parts h
  rw [(codX_yes h).1, (codX_yes hx).1, (codX_yes hy).1, cod_op (by decide) (by decide), cods_cons, cods_cons, cods_nil, List.append_nil, (right_code hx).2.1]
  have hf : fine 32 y = true := by
    unfold rightX at hy
    simp only [Bool.and_eq_true] at hy
    exact hy.1.1.1
  have := cod_move 32 y hf (clen x) 0
  rw [Nat.add_zero] at this
  rw [Nat.zero_add, this, List.append_assoc]; rfl
theorem min_at {a b l : List In} (h : l = a ++ (b.map (mv a.length) ++ [(7, 0, [])])) : l.length = a.length + b.length + 1 ∧ l.take a.length = a ∧ (∀ (h : a.length + b.length < l.length), l[a.length + b.length] = (7, 0, [])) ∧ ∀ q (hq : q < b.length) (h : a.length + q < l.length), l[a.length + q] = mv a.length b[q] := by
  subst h
  refine ⟨by simp; omega, by simp, fun h => ?_, fun q hq h => ?_⟩
  · rw [List.getElem_append_right (by omega), List.getElem_append_right (by simp)]; simp
  · rw [List.getElem_append_right (by omega), List.getElem_append_left (by simp; omega), List.getElem_map]
    simp only [Nat.add_sub_cancel_left]
end Go.Proofs.YtldopbkjchgcnaaDoor
