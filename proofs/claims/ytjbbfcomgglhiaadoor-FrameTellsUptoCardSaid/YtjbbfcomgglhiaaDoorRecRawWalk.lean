/- The walk of the law's own records. -/
import Derived.Test.YtjbbfcomgglhiaaDoorRecRaw
import Derived.Deep.RegionLaw
namespace Go.Proofs.YtjbbfcomgglhiaaDoor
open Go.RowKit Go.Lib
set_option linter.unusedVariables false
set_option linter.unusedSimpArgs false

def RecsPost (zss : List (List Int)) (ss : List ByteArray) (w0 : World) (e : Ending) (w' : World) : Prop :=
  ∃ (es : List ((Int × List Int × ByteArray) × Option Addr × Nat)) (A : Option Addr) (c base : Nat), e = .returned (.slice A es.length c) ∧ Rel w0 w' ∧ ElsOwn w' base (.slice A es.length c) es ∧ es.map (·.1) = recsOf zss ss
theorem raw_done (zs : List Int) (k : Nat) {K : Int} {xs : List Int} (hk : k ≤ zs.length) (h21 : k ≤ 21) (h : ¬ (k < zs.length ∧ k < 21)) (hK : K = kindOf (zs.take k)) (hX : xs = numsOf (zs.take k)) :
    K = kindOf (zs.take 21) ∧ xs = numsOf (zs.take 21) := by
  have e : zs.take k = zs.take 21 := by
    by_cases h1 : k < zs.length
    · have : k = 21 := by omega
      rw [this]
    · rw [List.take_of_length_le (by omega), List.take_of_length_le (by omega)]
  rw [← e]
  exact ⟨hK, hX⟩
theorem Rel.self' {w0 w : World} (h : Rel w0 w) : Rel w w := h.self
theorem len_more' (xs : List Int) (n : Int) : (xs ++ [n]).length = xs.length + 1 := by simp
theorem add_none (a : Addr) : a.add 0 = a := by unfold Addr.add; simp
theorem pick_as (c n y : Int) (h : Hid (pk c n = y)) (hc : -9223372036854775808 ≤ c) (hc' : c ≤ 9223372036854775807) (hn : 0 < n) (hn' : n ≤ 9223372036854775807) (w : World) :
    Calls Tryd.prog 16 #[.int .i64 c, .int .i64 n] w fun e w' => e = .returned (.int .i64 y) ∧ w = w' := int_at y (pick_any c n hc hc' hn hn' w) h
set_option maxRecDepth 100000 in
set_option maxHeartbeats 4000000 in
theorem records_any (A T : Option Addr) (ca ct : Nat) (zss : List (List Int)) (ss : List ByteArray) (hl : zss.length ≤ 9223372036854775807) (hl' : ss.length ≤ 9223372036854775807) (hz : Hid (∀ zs ∈ zss, zs.length ≤ 9223372036854775807 ∧ w64 zs)) (hss : Hid (∀ s ∈ ss, s.size ≤ 9223372036854775807))
    (w0 w : World) (hr : Rel w0 w) (hx : Hid (RowsAt w A zss)) (hy : Hid (StrsAt w T ss)) :
    Calls Tryd.prog 15 #[.slice A zss.length ca, .slice T ss.length ct] w (RecsPost zss ss w0) := by
  obtain ⟨i0, hi, hz0, hz1, hz2⟩ := info_parts int_info
  obtain ⟨j0, ji, jz0, jz1, jz2⟩ := info_parts rec_info
  have HR := Lib.hid hr
  have HW := Lib.hid hr.self
  go_enter Tryd.func15, Tryd.ntmps15
  go_wp2
  go_loopw [5, 6] (fun v i wr => ∃ (j : Nat) (B : Option Addr) (c : Nat) (es : List ((Int × List Int × ByteArray) × Option Addr × Nat)), j ≤ zss.length ∧ j ≤ 12 ∧ i = .int .i64 j ∧ v = .slice B es.length c ∧ es.length ≤ 12 ∧ Rel w wr ∧
      ElsOwn wr w.heap.size (.slice B es.length c) es ∧ Hid (es.length = j ∧ es.map (·.1) = rawRecs ss (zss.take j) 0)) (fun _ i _ => 12 - (intOf i).toNat)
  case atStart => exact ⟨0, none, 0, [], by omega, by omega, rfl, rfl, by simp, HW.out, ElsOwn.nil _ _, Lib.hid ⟨rfl, rfl⟩⟩
  case round =>
    obtain ⟨j, B, c, es, hj, hj12, rfl, rfl, hes, hR2, hE, HS⟩ := hrel
    by_cases hlt : j < zss.length ∧ j < 12
    · obtain ⟨hlt, hlt12⟩ := hlt
      obtain ⟨a, A', c', rfl, hb, h0, h1⟩ := (hx.out.rel hR2) j hlt
      have hzz := hz.out zss[j] (List.getElem_mem hlt)
      have HT := Lib.hid (rawRecs_take ss zss j hlt)
      obtain ⟨zs, hzs⟩ : ∃ zs, zss[j] = zs := ⟨_, rfl⟩
      rw [hzs] at h0 h1 hzz
      have HZ := Lib.hid hzs
      obtain ⟨hzl, hz64⟩ := hzz
      have H64 := Lib.hid hz64
      have HI := Lib.hid h1
      clear hzs hz64 h1
      have e12 : decide ((j : Int) < 12) = true := decide_eq_true (by omega)
      go_upto_region 6 with (fail)
      obtain ⟨wo, hwo⟩ : ∃ wo, wo = wr := ⟨_, rfl⟩
      subst hwo
      have hwb : Rel wo (wo.alloc (.cells #[.int .i64 1, .slice none 0 0, .string ⟨#[]⟩] 24)) := hR2.self.alloc _
      have hB0 := Bk.new wo 24 #[.int .i64 1, .slice none 0 0, .string ⟨#[]⟩]
      obtain ⟨gb, hgb⟩ : ∃ gb, wo.heap.size = gb := ⟨_, rfl⟩
      have hab : a.block < gb := by omega
      rw [hgb] at hB0 ⊢
      have HGB := Lib.hid hgb
      have hown0 : (wo.alloc (.cells #[.int .i64 1, .slice none 0 0, .string ⟨#[]⟩] 24)).ownsRow (gb + 1) 3 1 (.slice none 0 0) 0 [] := World.ownsRow_nil _ _ _ _
      clear hgb
      generalize wo.alloc (.cells #[.int .i64 1, .slice none 0 0, .string ⟨#[]⟩] 24) = wb at hwb hB0 hown0 ⊢
      go_wp2_with (fail)
      go_loopw [8] (fun kk w2 => ∃ (k : Nat) (D : Option Addr) (cd : Nat) (K : Int) (xs : List Int), k ≤ zs.length ∧ k ≤ 21 ∧ kk = .int .i64 k ∧ Rel wo w2 ∧ Bk w2 gb 24 #[.int .i64 K, .slice D xs.length cd, .string ⟨#[]⟩] ∧
          w2.ownsRow (gb + 1) 3 1 (.slice D xs.length cd) xs.length (xs.map (Value.int .i64)) ∧ xs.length ≤ k ∧ Hid (K = kindOf (zs.take k) ∧ xs = numsOf (zs.take k))) (fun kk _ => 21 - (intOf kk).toNat)
      case atStart => exact ⟨0, none, 0, 1, [], by omega, by omega, rfl, hwb, hB0, hown0, by simp, Lib.hid ⟨rfl, rfl⟩⟩
      case round =>
        obtain ⟨k, D, cd, K, xs, hk, hk21, rfl, hR4, hB, hown, hxl, HK⟩ := hrel
        have h0' : wo.cell? (a.add j) = some (.slice A' zs.length c') → _ := fun h => (hR4.2.cell (p := a.add j) (by rw [block_add, HGB.out]; exact hab)).trans h
        have q0 := h0' h0
        clear h0'
        by_cases hlt2 : k < zs.length ∧ k < 21
        · obtain ⟨hlt2, hlt21⟩ := hlt2
          obtain ⟨a2, rfl, hb2x, hc2x⟩ := HI.out k hlt2
          have hc2 := (hR4.2.cell (p := a2.add k) (by rw [block_add]; exact hb2x)).trans hc2x
          clear hc2x
          have hzb := H64.out zs[k] (List.getElem_mem hlt2)
          obtain ⟨z, hzk⟩ : ∃ z, zs[k] = z := ⟨_, rfl⟩
          rw [hzk] at hc2 hzb
          obtain ⟨zb0, zb1⟩ := hzb
          have HZK := Lib.hid hzk
          clear hzk
          by_cases hk0 : k = 0
          · have e0 : ((k : Int) == 0) = true := by rw [beq_iff_eq]; omega
            obtain ⟨kd, hkd⟩ : ∃ y, pk z 255 = y := ⟨_, rfl⟩
            have hkb := pk_bd z 255 (by omega)
            rw [hkd] at hkb
            obtain ⟨kb0, kb1⟩ := hkb
            have HKD := Lib.hid hkd
            have hz0 : zs[0]'(by omega) = z := by have := HZK.out; simp only [hk0] at this; exact this
            have HF := Lib.hid (And.intro (show (1 : Int) + kd = kindOf (zs.take (k + 1)) by rw [hk0, kind_first zs (by omega), hz0, HKD.out]) (show xs = numsOf (zs.take (k + 1)) by rw [hk0, nums_first, HK.out.2, hk0]; rfl))
            rw [hk0, add_none] at hc2
            clear hk0 hz0 hkd
            obtain ⟨⟨d0, d1, d2⟩, g0, g1, g2⟩ := hB.three
            go_wp2_with (go_at_call 16; (with_reducible refine (pick_as z 255 kd HKD zb0 zb1 (by omega) (by omega) _).mono ?_); rintro e w' ⟨rfl, rfl⟩)
            go_roundw
            case rel =>
              exact ⟨k + 1, D, cd, (1 : Int) + kd, xs, by omega, by omega, by go_num, hR4.setCell (p := ⟨gb, 0, none⟩) (Nat.le_of_eq HGB.out) _, hB.set_ 0 _, own_set hown (own_ne hown hB (by decide)) _, by omega, HF⟩
            case measure => simp [intOf]; omega
          · have e0 : ((k : Int) == 0) = false := by rw [beq_eq_false_iff_ne]; omega
            obtain ⟨y, hy2⟩ : ∃ y, pk z 2251799813685249 = y := ⟨_, rfl⟩
            have hyb := pk_bd z 2251799813685249 (by omega)
            rw [hy2] at hyb
            obtain ⟨yb0, yb1⟩ := hyb
            have HY2 := Lib.hid hy2
            have HF := Lib.hid (And.intro (show K = kindOf (zs.take (k + 1)) by rw [kind_more zs k (by omega), HK.out.1]) (show xs ++ [y - 1125899906842624] = numsOf (zs.take (k + 1)) by rw [nums_more zs k (by omega) hlt2, ← HK.out.2, HZK.out, numOf, HY2.out]))
            obtain ⟨⟨d0, d1, d2⟩, g0, g1, g2⟩ := hB.three
            have hsub : IntKind.i64.wrap (y - 1125899906842624) = y - 1125899906842624 := by rw [IntKind.wrap_i64]; omega
            have HSUB := Lib.hid hsub
            have hlt3 : gb < wr.heap.size := hB.lt
            have hb3 : a2.block < gb := by rw [← HGB.out]; exact hb2x
            clear hy2 hk0 hsub
            go_wp2_with (fail)
            have hsub := HSUB.out
            have ag := own_ne hown hB (by decide)
            have aa : some a.block ≠ (Value.slice D xs.length cd).ownBlock := fun e => by have := (hown.lt _ e.symm).1; omega
            have a2n : some a2.block ≠ (Value.slice D xs.length cd).ownBlock := fun e => by have := (hown.lt _ e.symm).1; omega
            have hab3 : a.block < wr.heap.size := by omega
            have ha23 : a2.block < wr.heap.size := by omega
            have e12' := e12
            clear e12
            have ne1 : ∀ i, (a.add i) ≠ ⟨gb, 1, none⟩ := fun i e => by have := congrArg Addr.block e; rw [block_add] at this; simp at this; omega
            have ne2 : ∀ i, (a2.add i) ≠ ⟨gb, 1, none⟩ := fun i e => by have := congrArg Addr.block e; rw [block_add] at this; simp at this; omega
            go_region_law
              (first
                | (rw [if_pos (by rfl)]; go_simp; go_at_call 16; (with_reducible refine (pick_as z 2251799813685249 y HY2 zb0 zb1 (by omega) (by omega) _).mono ?_); rintro e w' ⟨rfl, rfl⟩)
                | (refine step_append_lies _ (by rfl) _ _ _ (by rfl) (gb + 1) 3 i0 _ 1 8 Tryd.underlying22 hi hz0 hz1 hz2 rfl (by decide) (.slice D xs.length cd) xs.length (xs.map (Value.int .i64)) (by rfl) ((hown.alloc _).drew)
                    ⟨wr.heap.size, 0, none⟩ 1 1 [.int .i64 (y - 1125899906842624)] (by rfl) (by rfl) (cell_one_new wr (.int .i64 (y - 1125899906842624)) _) (one_cell _)
                    (by decide) (by unfold maxLen; omega) (by omega) (by simp; omega) (wr.heap.size + 1) (by simp) ?_; intro g cap w1 hown1 hgrow hat hlt1; have K1 := ((hB.alloc (.cells #[.int .i64 (y - 1125899906842624)] 3)).drew).grown hgrow ag; obtain ⟨⟨y0, y1, y2⟩, fz0, fz1, fz2⟩ := K1.three))
            all_goals
              go_wp2_with (fail)
              go_roundw
              case rel =>
                refine ⟨k + 1, some ⟨g, 0, none⟩, cap, K, xs ++ [y - 1125899906842624], by omega, by omega, by go_num, ?_, ?_, ?_, by rw [len_more']; omega, HF⟩
                · exact (((hR4.alloc _).drew).grown hgrow (fun q hq => by have := (hown.lt q hq).1; have := HGB.out; omega)).setCell (p := ⟨gb, 1, none⟩) (Nat.le_of_eq HGB.out) _
                · rw [len_more']; exact K1.set_ 1 _
                · rw [len_more', List.map_append]; exact own_set hown1 (own_ne hown1 K1 (by decide)) _
              case measure => simp [intOf]; omega
        · have HF := Lib.hid (raw_done zs k hk hk21 hlt2 HK.out.1 HK.out.2)
          have hszw := hR2.size
          have hlt3 : gb < wr.heap.size := hB.lt
          have hgw : w.heap.size ≤ gb := by rw [← HGB.out]; exact hszw
          obtain ⟨⟨d0, d1, d2⟩, g0, g1, g2⟩ := hB.three
          have e21 : k < zs.length → ¬ k < 21 := fun h1 h2 => hlt2 ⟨h1, h2⟩
          have hj12' : es.length ≤ 11 := by have := HS.out.1; omega
          have E21 := Lib.hid e21
          clear hlt2 e21
          by_cases hs0 : 0 < ss.length
          · obtain ⟨mi, hmi⟩ : ∃ m, j % ss.length = m := ⟨_, rfl⟩
            have hml : mi < ss.length := by rw [← hmi]; exact Nat.mod_lt _ hs0
            obtain ⟨bt', rfl, htb, htc⟩ := (hy.out.rel (hR2.trans hR4)) mi hml
            have hts := hss.out ss[mi] (List.getElem_mem hml)
            obtain ⟨tt, htt⟩ : ∃ t, ss[mi] = t := ⟨_, rfl⟩
            rw [htt] at htc hts
            have hrem : (j : Int) % (ss.length : Int) = (mi : Int) := by rw [← hmi]; simp
            have HTX0 := Lib.hid (show cut200 tt = textOf ss j by unfold textOf; rw [dif_pos hs0]; congr 1; simp only [hmi, htt])
            clear hmi htt
            by_cases c1 : k < zs.length
            all_goals
              first | (have c2 := E21.out c1) | skip
              by_cases hs2 : (tt.size : Int) ≤ 200
              · have hs3 : ¬ (200 : Int) < (tt.size : Int) := by omega
                have HTX := Lib.hid (show tt = textOf ss j by rw [← HTX0.out]; unfold cut200; rw [if_pos hs2])
                go_wp2_with (at_builtin; (refine wpList_append_lies _ rfl _ _ 32 rfl w.heap.size 24 j0 (.agg #[.int .i64 0, .slice none 0 0, .string ⟨#[]⟩]) 3 48 Tryd.underlying32 ji jz0 jz1 jz2 rfl (by decide) _ es.length (cellsOf es) rfl ((hE.rel (hR4.setCell (p := ⟨gb, 2, none⟩) (Nat.le_of_eq HGB.out) (.string tt))).1.alloc _) ⟨wr.heap.size, 0, none⟩ 1 1 (cells3 ((K, xs, tt), D, cd)) rfl rfl (World.news_of_block (Bk.new_set wr ⟨gb, 2, none⟩ (.string tt) 24 #[.int .i64 K, .slice D xs.length cd, .string tt])) (cells3_one _) (by decide) (by unfold maxLen; omega) (by omega) (by simp; omega) _ rfl ?_); intro g cap w1 hown1 hgrow hat hlt1)
                have hRR := hR4.setCell (p := ⟨gb, 2, none⟩) (Nat.le_of_eq HGB.out) (.string tt)
                have hA := hRR.self'.alloc (.cells #[.int .i64 K, .slice D xs.length cd, .string tt] 24)
                have hE5 := ElsOwn.more (e := ((K, xs, tt), D, cd)) ((hE.rel hRR).rel hA) (NumsOwn.of (own_rel (own_zero (own_set (p := ⟨gb, 2, none⟩) hown (own_ne hown hB (by decide)) (.string tt))) hA)) hown1 hgrow
                have hR6 : Rel w w1 := ((hR2.trans hRR).alloc _).grown hgrow (fun q hq => (hE.1.lt q hq).1)
                have HL := Lib.hid (show (es ++ [((K, xs, tt), D, cd)]).length = es.length + 1 by simp)
                have HP := Lib.hid (show (es ++ [((K, xs, tt), D, cd)]).map (·.1) = rawRecs ss (zss.take (j + 1)) 0 by
                  rw [HT.out, List.map_append, HS.out.2, HZ.out, rawRec, ← HF.out.1, ← HF.out.2, ← HTX.out]; rfl)
                go_roundw
                case rel => exact ⟨j + 1, some ⟨g, 0, none⟩, cap, es ++ [((K, xs, tt), D, cd)], by omega, by omega, by go_num, by rw [HL.out], by rw [HL.out]; have := HS.out.1; omega, hR6, by rw [HL.out]; exact hE5, Lib.hid ⟨by rw [HL.out, HS.out.1], HP.out⟩⟩
                case measure => simp [intOf]; omega
              · have hs3 : (200 : Int) < (tt.size : Int) := by omega
                have HTX := Lib.hid (show tt.extract 0 200 = textOf ss j by rw [← HTX0.out]; unfold cut200; rw [if_neg hs2])
                go_wp2_with (at_builtin; (refine wpList_append_lies _ rfl _ _ 32 rfl w.heap.size 24 j0 (.agg #[.int .i64 0, .slice none 0 0, .string ⟨#[]⟩]) 3 48 Tryd.underlying32 ji jz0 jz1 jz2 rfl (by decide) _ es.length (cellsOf es) rfl ((hE.rel (hR4.setCell (p := ⟨gb, 2, none⟩) (Nat.le_of_eq HGB.out) (.string (tt.extract 0 200)))).1.alloc _) ⟨wr.heap.size, 0, none⟩ 1 1 (cells3 ((K, xs, (tt.extract 0 200)), D, cd)) rfl rfl (World.news_of_block (Bk.new_set wr ⟨gb, 2, none⟩ (.string (tt.extract 0 200)) 24 #[.int .i64 K, .slice D xs.length cd, .string (tt.extract 0 200)])) (cells3_one _) (by decide) (by unfold maxLen; omega) (by omega) (by simp; omega) _ rfl ?_); intro g cap w1 hown1 hgrow hat hlt1)
                have hRR := hR4.setCell (p := ⟨gb, 2, none⟩) (Nat.le_of_eq HGB.out) (.string (tt.extract 0 200))
                have hA := hRR.self'.alloc (.cells #[.int .i64 K, .slice D xs.length cd, .string (tt.extract 0 200)] 24)
                have hE5 := ElsOwn.more (e := ((K, xs, (tt.extract 0 200)), D, cd)) ((hE.rel hRR).rel hA) (NumsOwn.of (own_rel (own_zero (own_set (p := ⟨gb, 2, none⟩) hown (own_ne hown hB (by decide)) (.string (tt.extract 0 200)))) hA)) hown1 hgrow
                have hR6 : Rel w w1 := ((hR2.trans hRR).alloc _).grown hgrow (fun q hq => (hE.1.lt q hq).1)
                have HL := Lib.hid (show (es ++ [((K, xs, (tt.extract 0 200)), D, cd)]).length = es.length + 1 by simp)
                have HP := Lib.hid (show (es ++ [((K, xs, (tt.extract 0 200)), D, cd)]).map (·.1) = rawRecs ss (zss.take (j + 1)) 0 by
                  rw [HT.out, List.map_append, HS.out.2, HZ.out, rawRec, ← HF.out.1, ← HF.out.2, ← HTX.out]; rfl)
                go_roundw
                case rel => exact ⟨j + 1, some ⟨g, 0, none⟩, cap, es ++ [((K, xs, (tt.extract 0 200)), D, cd)], by omega, by omega, by go_num, by rw [HL.out], by rw [HL.out]; have := HS.out.1; omega, hR6, by rw [HL.out]; exact hE5, Lib.hid ⟨by rw [HL.out, HS.out.1], HP.out⟩⟩
                case measure => simp [intOf]; omega
          · have HTX := Lib.hid (show (⟨#[]⟩ : ByteArray) = textOf ss j by unfold textOf; rw [dif_neg hs0])
            by_cases c1 : k < zs.length
            all_goals
              first | (have c2 := E21.out c1) | skip
              go_wp2_with (at_builtin; (refine wpList_append_lies _ rfl _ _ 32 rfl w.heap.size 24 j0 (.agg #[.int .i64 0, .slice none 0 0, .string ⟨#[]⟩]) 3 48 Tryd.underlying32 ji jz0 jz1 jz2 rfl (by decide) _ es.length (cellsOf es) rfl ((hE.rel hR4).1.alloc _) ⟨wr.heap.size, 0, none⟩ 1 1 (cells3 ((K, xs, (⟨#[]⟩ : ByteArray)), D, cd)) rfl rfl (World.news_of_block (Bk.new _ 24 #[.int .i64 K, .slice D xs.length cd, .string ⟨#[]⟩])) (cells3_one _) (by decide) (by unfold maxLen; omega) (by omega) (by simp; omega) _ rfl ?_); intro g cap w1 hown1 hgrow hat hlt1)
              have hRR := hR4
              have hA := hRR.self'.alloc (.cells #[.int .i64 K, .slice D xs.length cd, .string ⟨#[]⟩] 24)
              have hE5 := ElsOwn.more (e := ((K, xs, (⟨#[]⟩ : ByteArray)), D, cd)) ((hE.rel hRR).rel hA) (NumsOwn.of (own_rel (own_zero (hown)) hA)) hown1 hgrow
              have hR6 : Rel w w1 := ((hR2.trans hRR).alloc _).grown hgrow (fun q hq => (hE.1.lt q hq).1)
              have HL := Lib.hid (show (es ++ [((K, xs, (⟨#[]⟩ : ByteArray)), D, cd)]).length = es.length + 1 by simp)
              have HP := Lib.hid (show (es ++ [((K, xs, (⟨#[]⟩ : ByteArray)), D, cd)]).map (·.1) = rawRecs ss (zss.take (j + 1)) 0 by
                rw [HT.out, List.map_append, HS.out.2, HZ.out, rawRec, ← HF.out.1, ← HF.out.2, ← HTX.out]; rfl)
              go_roundw
              case rel => exact ⟨j + 1, some ⟨g, 0, none⟩, cap, es ++ [((K, xs, (⟨#[]⟩ : ByteArray)), D, cd)], by omega, by omega, by go_num, by rw [HL.out], by rw [HL.out]; have := HS.out.1; omega, hR6, by rw [HL.out]; exact hE5, Lib.hid ⟨by rw [HL.out, HS.out.1], HP.out⟩⟩
              case measure => simp [intOf]; omega
    · have HF := Lib.hid (show es.map (·.1) = recsOf zss ss by
        rw [HS.out.2]
        unfold recsOf
        congr 1
        by_cases h1 : j < zss.length
        · have : j = 12 := by omega
          rw [this]
        · rw [List.take_of_length_le (by omega), List.take_of_length_le (by omega)])
      have e2 : j < zss.length → ¬ j < 12 := fun h1 h2 => hlt ⟨h1, h2⟩
      have E2 := Lib.hid e2
      clear hlt e2
      by_cases c1 : j < zss.length
      · have c2 := E2.out c1
        go_wp2_with (fail)
        go_ret
        exact ⟨es, B, c, w.heap.size, rfl, HR.out.trans hR2, hE, HF.out⟩
      · go_wp2_with (fail)
        go_ret
        exact ⟨es, B, c, w.heap.size, rfl, HR.out.trans hR2, hE, HF.out⟩
end Go.Proofs.YtjbbfcomgglhiaaDoor
