/- The walk of FrameUnlike, over what the program's Encode tells. -/
import Derived.Test.YtjbbfcomgglhiaaDoorFrameLawC
namespace Go.Proofs.YtjbbfcomgglhiaaDoor
open Go.RowKit Go.Lib
set_option linter.unusedVariables false
set_option linter.unusedSimpArgs false

/-- What is told of two records' frames. -/
theorem one_drop' {l : List (Int × List Int × ByteArray)} {i : Nat} (h : i < l.length) : (l.drop i).take 1 = [l[i]] := by
  rw [List.drop_eq_getElem_cons h]; rfl
theorem unlike_facts {a b : Int × List Int × ByteArray} (ha : frRight (pure3 a)) (hb : frRight (pure3 b)) {S S' : ByteArray} {c : Bool} (hS : B (frEnc (pure3 a)) = S) (hS' : B (frEnc (pure3 b)) = S') (hc : sameB [a] [b] = c) :
    (S.toList == S'.toList) = c ∧ (c = false → S.size ≤ S'.size → ((S'.extract 0 S.size).toList == S.toList) = false) := by
  have la : S.data.toList = frEnc (pure3 a) := by rw [← hS, B_list]
  have lb : S'.data.toList = frEnc (pure3 b) := by rw [← hS', B_list]
  have hs : sameB [a] [b] = decide (pure3 a = pure3 b) := by simp [sameB]
  rw [hs] at hc
  have tl : ∀ x : ByteArray, x.toList = x.data.toList := fun x => by rw [← B_of x, B_toList, B_list]
  rw [tl S, tl S', tl (S'.extract 0 S.size)]
  refine ⟨?_, ?_⟩
  · rw [← hc, Bool.eq_iff_iff, beq_iff_eq, decide_eq_true_iff]
    constructor
    · intro h
      exact frEnc_inj ha hb (by rw [← la, ← lb, h])
    · intro h
      rw [← hS, ← hS', h]
  · intro h _
    rw [h] at hc
    rw [beq_eq_false_iff_ne]
    intro e
    refine (decide_eq_false_iff_not.1 hc) (frEnc_prefix ha hb ((frEnc (pure3 b)).drop (frEnc (pure3 a)).length) ?_)
    have e1 := e
    rw [tok_list, List.drop_zero, Nat.sub_zero, la, lb, ← hS, B_size] at e1
    rw [← e1, List.length_take, show min (frEnc (pure3 a)).length (frEnc (pure3 b)).length = (frEnc (pure3 a)).length by
      have := congrArg List.length e1
      rw [List.length_take] at this
      exact this]
    exact (List.take_append_drop _ _).symm
set_option maxRecDepth 100000 in
set_option maxHeartbeats 4000000 in
theorem FrameUnlike_at (hA : AwakeOk) (hE : EncOk) (A T : Option Addr) (ca ct : Nat) (zss : List (List Int)) (ss : List ByteArray) (hl : zss.length ≤ 9223372036854775807) (hl' : ss.length ≤ 9223372036854775807) (hz : Hid (∀ zs ∈ zss, zs.length ≤ 9223372036854775807 ∧ w64 zs)) (hss : Hid (∀ s ∈ ss, s.size ≤ 9223372036854775807))
    (w : World) (hr : Rel w w) (hx : Hid (RowsAt w A zss)) (hy : Hid (StrsAt w T ss)) :
    Calls Tryd.prog 7 #[.slice A zss.length ca, .slice T ss.length ct] w fun e w' => e = .returned (.bool true) ∧ Below w.heap.size w w' := by
  have HA := Lib.hid hA
  have HE := Lib.hid hE
  have HR := Lib.hid hr
  clear hA hE hr
  go_enter Tryd.func7, Tryd.ntmps7
  go_wp2_with (first
    | (go_at_call 10; (with_reducible refine (awake_of HA.out _ _ HR.out).mono ?_); rintro e w1 ⟨rfl, h1⟩)
    | (go_at_call 15; (with_reducible refine (records_any A T ca ct zss ss hl hl' hz hss w _ h1 (Lib.hid (hx.out.rel h1)) (Lib.hid (hy.out.rel h1))).mono ?_); rintro e w2 ⟨es, D, cd, base, rfl, h2, hE2, hes⟩; have F := recs_facts hes; have HF := Lib.hid F.2; have f1 := F.1; clear F hes; obtain ⟨cc1, cc2⟩ := own_cap hE2 rfl; have HE2 := Lib.hid hE2; clear hE2))
  have HRS := Lib.hid (recs_right HF.out.1)
  have HLN := Lib.hid (show (es.map (·.1)).length = es.length by rw [List.length_map])
  have hDf := Lib.hid (own_form HE2.out)
  go_loopw [7] (fun i wr => ∃ j : Nat, j ≤ es.length ∧ i = .int .i64 j ∧ Rel w2 wr) (fun i _ => es.length - (intOf i).toNat)
  case atStart => exact ⟨0, by omega, rfl, h2.self⟩
  case round =>
    obtain ⟨j, hj, rfl, hR2⟩ := hrel
    by_cases hlt : j + 1 < es.length
    · obtain ⟨g, rfl⟩ : ∃ g, D = some ⟨g, 0, none⟩ := by
        rcases hDf.out with ⟨_, h, _⟩ | h
        · omega
        · exact h
      have hrec := (HE2.out.rel hR2).recs rfl
      obtain ⟨a, ha⟩ : ∃ a, (es.map (·.1))[j]'(by rw [List.length_map]; omega) = a := ⟨_, rfl⟩
      obtain ⟨b, hb⟩ : ∃ b, (es.map (·.1))[j + 1]'(by rw [List.length_map]; omega) = b := ⟨_, rfl⟩
      have qa : frRight (pure3 a) := by rw [← ha]; exact HRS.out _ (List.getElem_mem _)
      have qb : frRight (pure3 b) := by rw [← hb]; exact HRS.out _ (List.getElem_mem _)
      have TA : ((es.map (·.1)).drop j).take 1 = [a] := by rw [one_drop' (by rw [List.length_map]; omega), ha]
      have TB : ((es.map (·.1)).drop (j + 1)).take 1 = [b] := by rw [one_drop' (by rw [List.length_map]; omega), hb]
      obtain ⟨g', off, A1, c1, e1, hb1, x0, x1, x2, x3⟩ := hrec j (by rw [List.length_map]; omega)
      injection (Option.some.inj e1) with e11 e12
      subst e11
      subst e12
      obtain ⟨g', off, A2, c2, e2, hb2, y0, y1, y2, y3⟩ := hrec (j + 1) (by rw [List.length_map]; omega)
      injection (Option.some.inj e2) with e21 e22
      subst e21
      subst e22
      simp only [ha, hb, Nat.zero_add] at x0 x1 x2 x3 y0 y1 y2 y3
      obtain ⟨S, hS⟩ : ∃ S, B (frEnc (pure3 a)) = S := ⟨_, rfl⟩
      obtain ⟨S', hS'⟩ : ∃ S, B (frEnc (pure3 b)) = S := ⟨_, rfl⟩
      obtain ⟨c, hc⟩ : ∃ c, sameB [a] [b] = c := ⟨_, rfl⟩
      obtain ⟨f2, f3⟩ := unlike_facts qa qb hS hS' hc
      have zS := enc_size qa
      have zS' := enc_size qb
      rw [hS] at zS
      rw [hS'] at zS'
      have HX := Lib.hid x3
      have HY := Lib.hid y3
      have QA := Lib.hid qa
      have QB := Lib.hid qb
      have HSV := Lib.hid hS
      have HSV' := Lib.hid hS'
      have HC := Lib.hid hc
      have F3 := Lib.hid f3
      have HTA := Lib.hid TA
      have HTB := Lib.hid TB
      have RA := Lib.hid (show RecsAt wr (some ⟨g, j * 3, none⟩) [a] by rw [← TA]; exact (drop_zero' (hrec.drop j)).take 1)
      have RB := Lib.hid (show RecsAt wr (some ⟨g, (j + 1) * 3, none⟩) [b] by rw [← TB]; exact (drop_zero' (hrec.drop (j + 1))).take 1)
      clear x3 y3 qa qb hS hS' hc f3 TA TB hrec ha hb
      have NA := Lib.hid (show ∀ r ∈ [a], r.2.1.length ≤ 1000000000 by
        intro r hr
        rw [List.mem_singleton] at hr
        subst hr
        exact nums_len QA.out)
      have n1 : ¬ cd = j := by omega
      have n2 : ¬ cd = j + 1 := by omega
      go_upto_region 8 with (first
        | (go_at_call 11; (with_reducible refine (enc_right HE.out QA.out A1 c1 _ _ hR2.self HX).mono ?_); rw [HSV.out]; rintro e wn ⟨rfl, hn⟩; have z0 := (hn.2.cell (p := ⟨g, (j + 1) * 3, none⟩) hb2).trans y0; have z1 := (hn.2.cell (p := ⟨g, (j + 1) * 3 + 1, none⟩) hb2).trans y1; have z2 := (hn.2.cell (p := ⟨g, (j + 1) * 3 + 2, none⟩) hb2).trans y2; have zb := Nat.lt_of_lt_of_le hb2 hn.2.size)
        | (go_at_call 11; (with_reducible refine (enc_right HE.out QB.out A2 c2 _ _ hn (Lib.hid (HY.out.rel hn))).mono ?_); rw [HSV'.out]; rintro e wm ⟨rfl, hm⟩))
      clear x0 x1 x2 y0 y1 y2 z0 z1 z2
      have s1 : IntKind.i64.wrap ((j : Int) + 1) = ((j + 1 : Nat) : Int) := by rw [IntKind.wrap_i64]; omega
      have s2 : IntKind.i64.wrap ((j : Int) + 2) = ((j + 2 : Nat) : Int) := by rw [IntKind.wrap_i64]; omega
      go_region_with (go_at_call 19; (with_reducible refine (same_recs _ _ _ _ [a] [b] 1 1 (Lib.hid rfl) (Lib.hid rfl) c HC (by omega) (by omega) NA _ _ hm.drew (Lib.hid (RA.out.rel hm.drew)) (Lib.hid (RB.out.rel hm.drew))).mono ?_); rintro e w9 ⟨rfl, h9⟩)
      all_goals
        clear s1 s2 RA RB NA HTA HTB HX HY
        have h29 := Lib.hid (hR2.trans h9)
        cases c
        · by_cases hle : S.size ≤ S'.size
          · have f3 := F3.out rfl hle
            clear F3
            go_wp2_with (fail)
            go_roundw
            case rel => exact ⟨j + 1, by omega, by go_num, h29.out⟩
            case measure => simp [intOf]; omega
          · clear F3
            go_wp2_with (fail)
            go_roundw
            case rel => exact ⟨j + 1, by omega, by go_num, h29.out⟩
            case measure => simp [intOf]; omega
        · clear F3
          go_wp2_with (fail)
          go_roundw
          case rel => exact ⟨j + 1, by omega, by go_num, h29.out⟩
          case measure => simp [intOf]; omega
    · go_wp2_with (fail)
      go_ret
      exact ⟨rfl, (h2.trans hR2).2⟩
end Go.Proofs.YtjbbfcomgglhiaaDoor
