/- The document's own answers of layer 16: Push. -/
import Derived.Test.YtndmnlgancnbkaaZL
import Derived.Test.YtndmnlgancnbkaaZ00
import Derived.Test.YtndmnlgancnbkaaZ01
import Derived.Test.YtndmnlgancnbkaaZ02
import Derived.Test.YtndmnlgancnbkaaZ03
import Derived.Test.YtndmnlgancnbkaaZ05
import Derived.Test.YtndmnlgancnbkaaZ11
import Derived.Test.YtndmnlgancnbkaaZ14
import Derived.Test.YtndmnlgancnbkaaZ16
namespace Go.Proofs.Ytndmnlgancnbkaa
open Go.RowKit Go.Lib
set_option linter.unusedVariables false
set_option linter.unusedSimpArgs false
variable {t : TypeId} {rs : List Value}
set_option maxRecDepth 100000 in
set_option maxHeartbeats 8000000 in
theorem rpush_has {w : World} {g : Nat} {u : Value} {m : Int} {L : List It} (hr : Rel w w) (h : Rb t rs w g u m L) (k p : Int) (hh : hasH L k = true) :
    Calls Try.prog 32 #[.pointer (some ⟨g, 0, none⟩), .int .i64 k, .int .i64 p] w fun e w' => e = .returned (.int .i64 1) ∧ Rel w w' := by
  obtain ⟨A, c, rfl, ha⟩ := h.at
  have HT := Lib.hid (show Calls Try.prog 46 #[.pointer (some ⟨g, 0, none⟩), .int .i64 k] w fun e w' => ∃ r : Nat, e = .returned (.int .i64 (r : Int)) ∧ Rel w w' from (rat16_any g m L A L.length c k w hr ha).mono (by
    rintro e w' ⟨r, he, h1, h2⟩
    rcases h2.out with ⟨i, hi, rfl, _⟩ | ⟨_, hn⟩
    · exact ⟨i, he, h1.out⟩
    · rw [hh] at hn; cases hn))
  clear h ha hr hh
  go_enter Try.func32, Try.ntmps32
  go_wp2_with (go_at_call 46; (with_reducible refine HT.out.mono ?_); rintro e w1 ⟨r, rfl, r1⟩; have R1 := Lib.hid r1; have hr0 : (0 : Int) ≤ (r : Int) := Int.natCast_nonneg r; clear r1)
  go_ret
  exact ⟨rfl, R1.out⟩
set_option maxRecDepth 100000 in
set_option maxHeartbeats 8000000 in
theorem rpush_full {w : World} {g : Nat} {u : Value} {m : Int} {L : List It} (hr : Rel w w) (h : Rb t rs w g u m L) (k p : Int) (hh : hasH L k = false) (hm : m ≤ (L.length : Int)) :
    Calls Try.prog 32 #[.pointer (some ⟨g, 0, none⟩), .int .i64 k, .int .i64 p] w fun e w' => e = .returned (.int .i64 50) ∧ Rel w w' := by
  obtain ⟨A, c, rfl, ha⟩ := h.at
  obtain ⟨n, hn⟩ : ∃ n, L.length = n := ⟨_, rfl⟩
  rw [hn] at hm ha
  have hd : decide (m ≤ (n : Int)) = true := decide_eq_true hm
  have HA := Lib.hid ha
  have HT := Lib.hid (show Calls Try.prog 46 #[.pointer (some ⟨g, 0, none⟩), .int .i64 k] w fun e w' => e = .returned (.int .i64 (-1)) ∧ Rel w w' from (rat16_any g m L A n c k w hr ha).mono (by
    rintro e w' ⟨r, he, h1, h2⟩
    rcases h2.out with ⟨i, hi, rfl, hk⟩ | ⟨rfl, _⟩
    · have : hasH L k = true := has_iff.2 ⟨_, List.getElem_mem hi, hk⟩
      rw [hh] at this; cases this
    · exact ⟨he, h1.out⟩))
  clear h ha hr hh hn
  go_enter Try.func32, Try.ntmps32
  go_upto_region 3 with (go_at_call 46; (with_reducible refine HT.out.mono ?_); rintro e w1 ⟨rfl, r1⟩; have R1 := Lib.hid r1; have HA1 := Lib.hid (HA.out.rel r1); obtain ⟨x0, x1⟩ := HA1.out.2.1.two.1; clear r1)
  go_quiet (fail)
  all_goals
    go_wp2_with (fail)
    go_ret
    exact ⟨rfl, R1.out.drewN _⟩
set_option maxRecDepth 100000 in
set_option maxHeartbeats 8000000 in
theorem rpush_main {w : World} {g : Nat} {u : Value} {m : Int} {L : List It} (hr : Rel w w) (h : Rb t rs w g u m L) (k p : Int) (hk : i64 k) (hp : i64 p) (hh : hasH L k = false) (hm : ¬ m ≤ (L.length : Int)) (hm2 : m ≤ 1000) :
    Calls Try.prog 32 #[.pointer (some ⟨g, 0, none⟩), .int .i64 k, .int .i64 p] w fun e w' => e = .returned (.int .i64 0) ∧ ∃ u', Rb t rs w' g u' m (insH L (k, p)) ∧ St (SoR g u) (SoR g u') w w' := by
  obtain ⟨A, c, rfl, ha⟩ := h.at
  obtain ⟨n, hn⟩ : ∃ n, L.length = n := ⟨_, rfl⟩
  obtain ⟨i0, hi0, hz⟩ := Option.map_eq_some_iff.1 item_info17
  simp only [Prod.mk.injEq] at hz
  obtain ⟨hz0, hz1, hz2⟩ := hz
  have HPW := Lib.hid (show pushE m L k = 0 ∧ Srt (insH L (k, p)) ∧ (∀ z ∈ insH L (k, p), i64 z.1 ∧ i64 z.2) ∧ (insH L (k, p)).length ≤ 1000 from by
    refine ⟨?_, ins_srt h.srt hh, fun z hz => ?_, by rw [ins_len]; omega⟩
    · unfold pushE; rw [hh, if_neg (by simp), if_neg hm]
    · rcases ins_mem.1 hz with rfl | hz
      · exact ⟨hk, hp⟩
      · exact h.fit z hz)
  have HB := Lib.hid h
  rw [hn] at hm ha HB ⊢
  have hd : decide (m ≤ (n : Int)) = false := decide_eq_false hm
  have hn1 : n + 1 ≤ 1000 := by omega
  have hc0 := ha.2.2.2.1
  have hc1 := ha.2.2.2.2
  unfold maxLen at hc1
  have HA := Lib.hid ha
  have HN := Lib.hid hn
  have HT := Lib.hid (show Calls Try.prog 46 #[.pointer (some ⟨g, 0, none⟩), .int .i64 k] w fun e w' => e = .returned (.int .i64 (-1)) ∧ Rel w w' from (rat16_any g m L A n c k w hr ha).mono (by
    rintro e w' ⟨r, he, h1, h2⟩
    rcases h2.out with ⟨i, hi, rfl, hk⟩ | ⟨rfl, _⟩
    · have : hasH L k = true := has_iff.2 ⟨_, List.getElem_mem hi, hk⟩
      rw [hh] at this; cases this
    · exact ⟨he, h1.out⟩))
  have HOne := Lib.hid clH_one
  clear h ha hr hh hn hk hp
  go_enter Try.func32, Try.ntmps32
  go_upto_region 3 with (go_at_call 46; (with_reducible refine HT.out.mono ?_); rintro e w1 ⟨rfl, r1⟩; have R1 := Lib.hid r1; have HA1 := Lib.hid (HA.out.rel r1); obtain ⟨x0, x1⟩ := HA1.out.2.1.two.1; clear r1)
  go_quiet (fail)
  have R2 := Lib.hid (R1.out.drewN nq)
  obtain ⟨W1, hW1⟩ : ∃ W, w1.drewN nq = W := ⟨_, rfl⟩
  rw [hW1] at R2
  try rw [hW1]
  clear hW1 x0 x1 HA1 R1 hd hm
  go_wp2_with (fail)
  go_loopw [7, 8, 9] (fun o dd i wr => ∃ (j N c2 : Nat) (A2 : Option Addr) (out : List It) (d : Bool), o = .slice A2 N c2 ∧ dd = .bool d ∧ i = .int .i64 (j : Int) ∧ j ≤ n ∧ N ≤ j + 1 ∧ Hid (out.length = N) ∧ Hid (LaidR L (k, p) j d out) ∧ Hid (RowOwn 64 clH 2 wr w.heap.size (.slice A2 N c2) out) ∧ Hid (Rel w wr)) (fun _ _ i _ => n - (RowKit.intOf i).toNat)
  case atStart => exact ⟨0, 0, 0, none, [], false, rfl, rfl, rfl, by omega, by omega, Lib.hid rfl, Lib.hid (.inr ⟨rfl, rfl, fun a ha => by cases ha⟩), Lib.hid (RowOwn.nil _ _ _), R2⟩
  case round =>
    obtain ⟨j, N, c2, A2, out, d, rfl, rfl, rfl, hj, hNj, HO, HLd, HRow, HW⟩ := hrel
    have HI2 := Lib.hid (HA.out.rel HW.out)
    obtain ⟨x0, x1⟩ := HI2.out.2.1.two.1
    -- ROUND
    by_cases hlt : j < n
    · have hij : (j : Int) < (n : Int) := by omega
      have hij0 : (0 : Int) ≤ (j : Int) := by omega
      have hjL : j < L.length := by rw [HN.out]; exact hlt
      obtain ⟨g1, off, rfl, hc⟩ := row17_at HI2.out.2.2.1 (by omega)
      obtain ⟨a0, a1⟩ := hc j hjL
      obtain ⟨⟨ex, ey⟩, hx⟩ : ∃ x, L[j] = x := ⟨_, rfl⟩
      have HX := Lib.hid hx
      rw [hx] at a0 a1
      replace a0 : wr.cell? ⟨g1, off + j * 2, none⟩ = some (.int .i64 ex) := a0
      replace a1 : wr.cell? ⟨g1, off + j * 2 + 1, none⟩ = some (.int .i64 ey) := a1
      have HJ := Lib.hid hjL
      clear hc hx
      have HRow3 := Lib.hid (show RowOwn 64 clH 2 (wr.alloc (.cells #[.int .i64 ex, .int .i64 ey] 64)) w.heap.size (.slice A2 N c2) out from HRow.out.rel (HW.out.self.alloc (.cells #[.int .i64 ex, .int .i64 ey] 64)))
      have HNew3 := Lib.hid (show RowAt clH 2 (wr.alloc (.cells #[.int .i64 ex, .int .i64 ey] 64)) (some ⟨wr.heap.size, 0, none⟩) [(ex, ey)] from RowAt.of_bk (cl := clH) (k := 2) clH_len (T := 64) (xs := [(ex, ey)]) (Bk.new wr 64 #[.int .i64 ex, .int .i64 ey]))
      have RA3 := Lib.hid (HW.out.alloc (.cells #[.int .i64 ex, .int .i64 ey] 64))
      have hsz3 : w.heap.size ≤ (wr.alloc (.cells #[.int .i64 ex, .int .i64 ey] 64)).heap.size := RA3.out.size
      have HLen3 := Lib.hid (show out.length = N from HO.out)
      cases d with
      | true =>
        have HL3 := Lib.hid (show LaidR L (k, p) (j + 1) true (out ++ [(ex, ey)]) by have := laid_go HLd.out HJ.out (.inl rfl); rw [HX.out] at this; exact this)
        go_wp2_with (at_builtin; (refine wpList_onto15 64 29 i0 (.agg #[.int .i64 0, .int .i64 0]) 16 Try.underlying29 hi0 hz0 hz1 hz2 rfl (by decide) clH_len clH_one rfl _ _ rfl w.heap.size (.slice A2 N c2) out rfl HRow3.out (some ⟨wr.heap.size, 0, none⟩) 1 1 [(ex, ey)] rfl rfl HNew3.out (fun e => by cases e) (by rw [HLen3.out]; simp; omega) (by rw [HLen3.out]; simp; unfold maxLen; omega) hsz3 ?_); intro v3 w3 own3 gr3; obtain ⟨q3, hq3⟩ : ∃ q, (out ++ [(ex, ey)]).length = q := ⟨_, rfl⟩; obtain ⟨A3, c3, e3, _⟩ := own3.slice_of; rw [hq3] at e3; subst e3; have HB3 := Lib.hid (show q3 = N + 1 by rw [← hq3, List.length_append, HLen3.out]; rfl); have HQ3 := Lib.hid hq3; have O3 := Lib.hid own3; have G3 := Lib.hid gr3; clear own3 gr3 hq3)
        go_roundw
        case rel => exact ⟨j + 1, q3, c3, A3, out ++ [(ex, ey)], true, rfl, rfl, by go_num, by omega, by have := HB3.out; omega, HQ3, HL3, O3, Lib.hid (RA3.out.grown G3.out (fun q hq => (World.ownsRow.lt HRow3.out.row q hq).1))⟩
        case measure => simp [RowKit.intOf]; omega
      | false =>
        by_cases hgt : k < ex
        · have HL5 := Lib.hid (show LaidR L (k, p) (j + 1) true (out ++ [(k, p)] ++ [(ex, ey)]) by have := laid_in HLd.out HJ.out (by rw [HX.out]; exact hgt); rw [HX.out] at this; exact this)
          have HGt := Lib.hid hgt
          have HRow4 := Lib.hid (show RowOwn 64 clH 2 (wr.alloc (.cells #[.int .i64 k, .int .i64 p] 64)) w.heap.size (.slice A2 N c2) out from HRow.out.rel (HW.out.self.alloc (.cells #[.int .i64 k, .int .i64 p] 64)))
          have HNew4 := Lib.hid (show RowAt clH 2 (wr.alloc (.cells #[.int .i64 k, .int .i64 p] 64)) (some ⟨wr.heap.size, 0, none⟩) [(k, p)] from RowAt.of_bk (cl := clH) (k := 2) clH_len (T := 64) (xs := [(k, p)]) (Bk.new wr 64 #[.int .i64 k, .int .i64 p]))
          have RA4 := Lib.hid (HW.out.alloc (.cells #[.int .i64 k, .int .i64 p] 64))
          have hsz4 : w.heap.size ≤ (wr.alloc (.cells #[.int .i64 k, .int .i64 p] 64)).heap.size := RA4.out.size
          have HLen4 := Lib.hid (show out.length = N from HO.out)
          go_upto_region 13 with (at_builtin; (refine wpList_onto15 64 29 i0 (.agg #[.int .i64 0, .int .i64 0]) 16 Try.underlying29 hi0 hz0 hz1 hz2 rfl (by decide) clH_len clH_one rfl _ _ rfl w.heap.size (.slice A2 N c2) out rfl HRow4.out (some ⟨wr.heap.size, 0, none⟩) 1 1 [(k, p)] rfl rfl HNew4.out (fun e => by cases e) (by rw [HLen4.out]; simp; omega) (by rw [HLen4.out]; simp; unfold maxLen; omega) hsz4 ?_); intro v4 w4 own4 gr4; obtain ⟨q4, hq4⟩ : ∃ q, (out ++ [(k, p)]).length = q := ⟨_, rfl⟩; obtain ⟨A4, c4, e4, _⟩ := own4.slice_of; rw [hq4] at e4; subst e4; have HB4 := Lib.hid (show q4 = N + 1 by rw [← hq4, List.length_append, HLen4.out]; rfl); have HQ4 := Lib.hid hq4; have O4 := Lib.hid own4; have G4 := Lib.hid gr4; clear own4 gr4 hq4)
          have R4 := Lib.hid (RA4.out.grown G4.out (fun q hq => (World.ownsRow.lt HRow4.out.row q hq).1))
          have HI4 := Lib.hid (HA.out.rel R4.out)
          clear x0 x1 a0 a1
          obtain ⟨x0, x1⟩ := HI4.out.2.1.two.1
          have hc4 : w4.cell? ⟨g1, off + j * 2, none⟩ = some (.int .i64 ex) ∧ w4.cell? ⟨g1, off + j * 2 + 1, none⟩ = some (.int .i64 ey) := by
            obtain ⟨g2, off2, e, hc⟩ := row17_at HI4.out.2.2.1 (by have := HJ.out; omega)
            injection e with e
            injection e with e1 e2
            subst e1; subst e2
            have := hc j HJ.out
            rw [HX.out] at this
            exact this
          obtain ⟨a0, a1⟩ := hc4
          have hN4' : q4 ≤ N + 1 := by rw [HB4.out]; exact Nat.le_refl _
          have HRow5 := Lib.hid (show RowOwn 64 clH 2 (w4.alloc (.cells #[.int .i64 ex, .int .i64 ey] 64)) w.heap.size (.slice A4 q4 c4) (out ++ [(k, p)]) from O4.out.rel (R4.out.self.alloc (.cells #[.int .i64 ex, .int .i64 ey] 64)))
          have HNew5 := Lib.hid (show RowAt clH 2 (w4.alloc (.cells #[.int .i64 ex, .int .i64 ey] 64)) (some ⟨w4.heap.size, 0, none⟩) [(ex, ey)] from RowAt.of_bk (cl := clH) (k := 2) clH_len (T := 64) (xs := [(ex, ey)]) (Bk.new w4 64 #[.int .i64 ex, .int .i64 ey]))
          have RA5 := Lib.hid (R4.out.alloc (.cells #[.int .i64 ex, .int .i64 ey] 64))
          have hsz5 : w.heap.size ≤ (w4.alloc (.cells #[.int .i64 ex, .int .i64 ey] 64)).heap.size := RA5.out.size
          have HLen5 := Lib.hid (show (out ++ [(k, p)]).length = q4 from HQ4.out)
          go_wp2_with (at_builtin; (refine wpList_onto15 64 29 i0 (.agg #[.int .i64 0, .int .i64 0]) 16 Try.underlying29 hi0 hz0 hz1 hz2 rfl (by decide) clH_len clH_one rfl _ _ rfl w.heap.size (.slice A4 q4 c4) (out ++ [(k, p)]) rfl HRow5.out (some ⟨w4.heap.size, 0, none⟩) 1 1 [(ex, ey)] rfl rfl HNew5.out (fun e => by cases e) (by rw [HLen5.out]; simp; omega) (by rw [HLen5.out]; simp; unfold maxLen; omega) hsz5 ?_); intro v5 w5 own5 gr5; obtain ⟨q5, hq5⟩ : ∃ q, ((out ++ [(k, p)]) ++ [(ex, ey)]).length = q := ⟨_, rfl⟩; obtain ⟨A5, c5, e5, _⟩ := own5.slice_of; rw [hq5] at e5; subst e5; have HB5 := Lib.hid (show q5 = q4 + 1 by rw [← hq5, List.length_append, HLen5.out]; rfl); have HQ5 := Lib.hid hq5; have O5 := Lib.hid own5; have G5 := Lib.hid gr5; clear own5 gr5 hq5)
          go_roundw
          case rel => exact ⟨j + 1, q5, c5, A5, out ++ [(k, p)] ++ [(ex, ey)], true, rfl, rfl, by go_num, by omega, by have := laid_len HL5.out HJ.out; rw [HQ5.out] at this; omega, HQ5, HL5, O5, Lib.hid (RA5.out.grown G5.out (fun q hq => (World.ownsRow.lt HRow5.out.row q hq).1))⟩
          case measure => simp [RowKit.intOf]; omega
        · have HL3 := Lib.hid (show LaidR L (k, p) (j + 1) false (out ++ [(ex, ey)]) by have := laid_go HLd.out HJ.out (.inr (by rw [HX.out]; exact hgt)); rw [HX.out] at this; exact this)
          go_wp2_with (at_builtin; (refine wpList_onto15 64 29 i0 (.agg #[.int .i64 0, .int .i64 0]) 16 Try.underlying29 hi0 hz0 hz1 hz2 rfl (by decide) clH_len clH_one rfl _ _ rfl w.heap.size (.slice A2 N c2) out rfl HRow3.out (some ⟨wr.heap.size, 0, none⟩) 1 1 [(ex, ey)] rfl rfl HNew3.out (fun e => by cases e) (by rw [HLen3.out]; simp; omega) (by rw [HLen3.out]; simp; unfold maxLen; omega) hsz3 ?_); intro v3 w3 own3 gr3; obtain ⟨q3, hq3⟩ : ∃ q, (out ++ [(ex, ey)]).length = q := ⟨_, rfl⟩; obtain ⟨A3, c3, e3, _⟩ := own3.slice_of; rw [hq3] at e3; subst e3; have HB3 := Lib.hid (show q3 = N + 1 by rw [← hq3, List.length_append, HLen3.out]; rfl); have HQ3 := Lib.hid hq3; have O3 := Lib.hid own3; have G3 := Lib.hid gr3; clear own3 gr3 hq3)
          go_roundw
          case rel => exact ⟨j + 1, q3, c3, A3, out ++ [(ex, ey)], false, rfl, rfl, by go_num, by omega, by have := HB3.out; omega, HQ3, HL3, O3, Lib.hid (RA3.out.grown G3.out (fun q hq => (World.ownsRow.lt HRow3.out.row q hq).1))⟩
          case measure => simp [RowKit.intOf]; omega
    · obtain rfl : j = n := by omega
      have hEnd : LaidR L (k, p) L.length d out := by rw [HN.out]; exact HLd.out
      have HEn := Lib.hid (laid_end hEnd)
      clear hEnd
      obtain ⟨f0, f1⟩ := HI2.out.2.1.two.2
      cases d with
      | true =>
        have HEq := Lib.hid (HEn.out.1 rfl)
        clear HEn
        have HF := Lib.hid (Rb.put HB.out HW.out HRow.out (by rw [HEq.out]; exact HPW.out.2.1) (by rw [HEq.out]; exact HPW.out.2.2.1) (by rw [HEq.out]; exact HPW.out.2.2.2))
        go_wp2_with (fail)
        go_ret
        exact ⟨rfl, _, by have := HF.out.1; rw [HEq.out] at this; exact this, HF.out.2⟩
      | false =>
        have HEq := Lib.hid (HEn.out.2 rfl)
        clear HEn
        have HRow4 := Lib.hid (show RowOwn 64 clH 2 (wr.alloc (.cells #[.int .i64 k, .int .i64 p] 64)) w.heap.size (.slice A2 N c2) out from HRow.out.rel (HW.out.self.alloc (.cells #[.int .i64 k, .int .i64 p] 64)))
        have HNew4 := Lib.hid (show RowAt clH 2 (wr.alloc (.cells #[.int .i64 k, .int .i64 p] 64)) (some ⟨wr.heap.size, 0, none⟩) [(k, p)] from RowAt.of_bk (cl := clH) (k := 2) clH_len (T := 64) (xs := [(k, p)]) (Bk.new wr 64 #[.int .i64 k, .int .i64 p]))
        have RA4 := Lib.hid (HW.out.alloc (.cells #[.int .i64 k, .int .i64 p] 64))
        have hsz4 : w.heap.size ≤ (wr.alloc (.cells #[.int .i64 k, .int .i64 p] 64)).heap.size := RA4.out.size
        have HLen4 := Lib.hid (show out.length = N from HO.out)
        go_upto_region 16 with (at_builtin; (refine wpList_onto15 64 29 i0 (.agg #[.int .i64 0, .int .i64 0]) 16 Try.underlying29 hi0 hz0 hz1 hz2 rfl (by decide) clH_len clH_one rfl _ _ rfl w.heap.size (.slice A2 N c2) out rfl HRow4.out (some ⟨wr.heap.size, 0, none⟩) 1 1 [(k, p)] rfl rfl HNew4.out (fun e => by cases e) (by rw [HLen4.out]; simp; omega) (by rw [HLen4.out]; simp; unfold maxLen; omega) hsz4 ?_); intro v4 w4 own4 gr4; obtain ⟨q4, hq4⟩ : ∃ q, (out ++ [(k, p)]).length = q := ⟨_, rfl⟩; obtain ⟨A4, c4, e4, _⟩ := own4.slice_of; rw [hq4] at e4; subst e4; have HB4 := Lib.hid (show q4 = N + 1 by rw [← hq4, List.length_append, HLen4.out]; rfl); have HQ4 := Lib.hid hq4; have O4 := Lib.hid own4; have G4 := Lib.hid gr4; clear own4 gr4 hq4)
        have R4 := Lib.hid (RA4.out.grown G4.out (fun q hq => (World.ownsRow.lt HRow4.out.row q hq).1))
        have HI4 := Lib.hid (HA.out.rel R4.out)
        clear x0 x1 f0 f1
        obtain ⟨⟨x0, x1⟩, f0, f1⟩ := HI4.out.2.1.two
        have HF := Lib.hid (Rb.put HB.out R4.out O4.out (by rw [HEq.out]; exact HPW.out.2.1) (by rw [HEq.out]; exact HPW.out.2.2.1) (by rw [HEq.out]; exact HPW.out.2.2.2))
        go_wp2_with (fail)
        go_ret
        exact ⟨rfl, _, by have := HF.out.1; rw [HEq.out] at this; exact this, HF.out.2⟩
end Go.Proofs.Ytndmnlgancnbkaa
