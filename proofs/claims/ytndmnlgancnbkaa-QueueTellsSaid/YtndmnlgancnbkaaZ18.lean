/- The document's own answers of layer 16: Push, whatever comes; Remove. -/
import Derived.Test.YtndmnlgancnbkaaZL
import Derived.Test.YtndmnlgancnbkaaZ00
import Derived.Test.YtndmnlgancnbkaaZ01
import Derived.Test.YtndmnlgancnbkaaZ02
import Derived.Test.YtndmnlgancnbkaaZ03
import Derived.Test.YtndmnlgancnbkaaZ05
import Derived.Test.YtndmnlgancnbkaaZ11
import Derived.Test.YtndmnlgancnbkaaZ14
import Derived.Test.YtndmnlgancnbkaaZ16
import Derived.Test.YtndmnlgancnbkaaZ17
namespace Go.Proofs.Ytndmnlgancnbkaa
open Go.RowKit Go.Lib
set_option linter.unusedVariables false
set_option linter.unusedSimpArgs false
variable {t : TypeId} {rs : List Value}
theorem RHp.rel {w w' : World} {v : Value} {S : Nat → Prop} {m : Int} {L : List It} (h : RHp t rs w v S m L) (hr : Rel w w') : RHp t rs w' v S m L := by
  obtain ⟨g, u, h1, h2, h3⟩ := h
  exact ⟨g, u, h1, h2, h3.rel hr⟩
theorem RHp.lt {w : World} {v : Value} {S : Nat → Prop} {m : Int} {L : List It} (h : RHp t rs w v S m L) : ∀ k, S k → k < w.heap.size := by
  obtain ⟨g, u, _, rfl, h3⟩ := h
  exact h3.lt
theorem RHp.keep {w w' : World} {v : Value} {S : Nat → Prop} {m : Int} {L : List It} (h : RHp t rs w v S m L) (hb : ∀ k, S k → w'.heap[k]? = w.heap[k]?) : RHp t rs w' v S m L := by
  obtain ⟨g, u, h1, rfl, h3⟩ := h
  exact ⟨g, u, h1, rfl, h3.keep hb⟩
theorem rpush16 {w : World} {v : Value} {S : Nat → Prop} {m : Int} {L : List It} (k p : Int) (hr : Rel w w) (h : RHp t rs w v S m L) (hm : m ≤ 1000) (hk : i64 k) (hp : i64 p) :
    Calls Try.prog 32 #[v, .int .i64 k, .int .i64 p] w fun e w' => e = .returned (.int .i64 (pushE m L k)) ∧ ∃ S', RHp t rs w' v S' m (pushL m L k p) ∧ St S S' w w' := by
  have h0 := h
  obtain ⟨g, u, rfl, rfl, hb⟩ := h
  by_cases hh : hasH L k = true
  · have e1 : pushE m L k = 1 := by unfold pushE; rw [if_pos hh]
    have e2 : pushL m L k p = L := by unfold pushL; rw [e1]; rfl
    rw [e1, e2]
    exact (rpush_has hr hb k p hh).mono fun e w' q => ⟨q.1, _, h0.rel q.2, St.of_rel17 q.2⟩
  · have hh' : hasH L k = false := by simpa using hh
    by_cases hf : m ≤ (L.length : Int)
    · have e1 : pushE m L k = 50 := by unfold pushE; rw [if_neg hh, if_pos hf]
      have e2 : pushL m L k p = L := by unfold pushL; rw [e1]; rfl
      rw [e1, e2]
      exact (rpush_full hr hb k p hh' hf).mono fun e w' q => ⟨q.1, _, h0.rel q.2, St.of_rel17 q.2⟩
    · have e1 : pushE m L k = 0 := by unfold pushE; rw [if_neg hh, if_neg hf]
      have e2 : pushL m L k p = insH L (k, p) := by unfold pushL; rw [e1]; rfl
      rw [e1, e2]
      refine (rpush_main hr hb k p hk hp hh' hf hm).mono ?_
      rintro e w' ⟨he, u', a1, a2⟩
      exact ⟨he, SoR g u', ⟨g, u', rfl, rfl, a1⟩, a2⟩
/-- Where a key's item is; below 0: it has none. -/
def AtK (L : List It) (k r : Int) : Prop := (∃ (i : Nat) (hi : i < L.length), r = (i : Int) ∧ L[i].1 = k) ∨ (r = -1 ∧ hasH L k = false)
theorem atk_has {L : List It} {k r : Int} (h : AtK L k r) : hasH L k = decide (0 ≤ r) := by
  rcases h with ⟨i, hi, rfl, hk⟩ | ⟨rfl, hn⟩
  · rw [has_iff.2 ⟨_, List.getElem_mem hi, hk⟩, decide_eq_true (Int.natCast_nonneg i)]
  · rw [hn]; rfl
theorem atk_ne {L : List It} (hs : Srt L) {k r : Int} (h : AtK L k r) {j : Nat} (hj : j < L.length) : ((j : Int) = r) ↔ L[j].1 = k := by
  rcases h with ⟨i, hi, rfl, hk⟩ | ⟨rfl, hn⟩
  · constructor
    · intro e
      have : j = i := by omega
      subst this
      exact hk
    · intro e
      rcases Nat.lt_trichotomy j i with hlt | he | hlt
      · have := List.pairwise_iff_getElem.1 hs j i hj hi hlt
        omega
      · rw [he]
      · have := List.pairwise_iff_getElem.1 hs i j hi hj hlt
        omega
  · constructor
    · intro e; omega
    · intro e
      have : hasH L k = true := has_iff.2 ⟨_, List.getElem_mem hj, e⟩
      rw [hn] at this; cases this
theorem rem_take {L : List It} {k : Int} {j : Nat} (hj : j < L.length) : remH (L.take (j + 1)) k = if L[j].1 = k then remH (L.take j) k else remH (L.take j) k ++ [L[j]] := by
  rw [take_snoc hj]
  unfold remH
  rw [List.filter_append]
  split
  · rename_i e; simp [e]
  · rename_i e; simp [e]
set_option maxRecDepth 100000 in
set_option maxHeartbeats 8000000 in
theorem rremove_any {w : World} {g : Nat} {u : Value} {m : Int} {L : List It} (hr : Rel w w) (h : Rb t rs w g u m L) (k : Int) :
    Calls Try.prog 39 #[.pointer (some ⟨g, 0, none⟩), .int .i64 k] w fun e w' => e = .returned (.bool (hasH L k)) ∧ ∃ u', Rb t rs w' g u' m (remH L k) ∧ St (SoR g u) (SoR g u') w w' := by
  obtain ⟨A, c, rfl, ha⟩ := h.at
  obtain ⟨n, hn⟩ : ∃ n, L.length = n := ⟨_, rfl⟩
  obtain ⟨i0, hi0, hz⟩ := Option.map_eq_some_iff.1 item_info17
  simp only [Prod.mk.injEq] at hz
  obtain ⟨hz0, hz1, hz2⟩ := hz
  have HPW := Lib.hid (show Srt (remH L k) ∧ (∀ z ∈ remH L k, i64 z.1 ∧ i64 z.2) ∧ (remH L k).length ≤ 1000 from
    ⟨rem_srt h.srt k, fun z hz => h.fit z (rem_mem.1 hz).1, Nat.le_trans (List.length_filter_le _ _) h.cap⟩)
  have HS := Lib.hid h.srt
  have hcap := h.cap
  have HB := Lib.hid h
  rw [hn] at ha HB hcap ⊢
  have hc0 := ha.2.2.2.1
  have hc1 := ha.2.2.2.2
  unfold maxLen at hc1
  have HA := Lib.hid ha
  have HN := Lib.hid hn
  have HT := Lib.hid (show Calls Try.prog 46 #[.pointer (some ⟨g, 0, none⟩), .int .i64 k] w fun e w' => ∃ r : Int, e = .returned (.int .i64 r) ∧ Rel w w' ∧ AtK L k r from (rat16_any g m L A n c k w hr ha).mono (by
    rintro e w' ⟨r, he, h1, h2⟩
    exact ⟨r, he, h1.out, h2.out⟩))
  obtain ⟨bb, hbb⟩ : ∃ b, hasH L k = b := ⟨_, rfl⟩
  rw [hbb]
  have HBB := Lib.hid hbb
  clear h ha hr hn hbb
  go_enter Try.func39, Try.ntmps39
  go_wp2_with (go_at_call 46; (with_reducible refine HT.out.mono ?_); rintro e w1 ⟨r, rfl, r1, r2⟩; have R1 := Lib.hid r1; have R2 := Lib.hid r2; clear r1 r2)
  go_loopw [6, 7] (fun o i wr => ∃ (j N c2 : Nat) (A2 : Option Addr) (out : List It), o = .slice A2 N c2 ∧ i = .int .i64 (j : Int) ∧ j ≤ n ∧ N ≤ j ∧ Hid (out.length = N) ∧ Hid (out = remH (L.take j) k) ∧ Hid (RowOwn 64 clH 2 wr w.heap.size (.slice A2 N c2) out) ∧ Hid (Rel w wr)) (fun _ i _ => n - (RowKit.intOf i).toNat)
  case atStart => exact ⟨0, 0, 0, none, [], rfl, rfl, by omega, by omega, Lib.hid rfl, Lib.hid rfl, Lib.hid (RowOwn.nil _ _ _), R1⟩
  case round =>
    obtain ⟨j, N, c2, A2, out, rfl, rfl, hj, hNj, HO, HLd, HRow, HW⟩ := hrel
    have HI2 := Lib.hid (HA.out.rel HW.out)
    obtain ⟨x0, x1⟩ := HI2.out.2.1.two.1
    by_cases hlt : j < n
    · have hij : (j : Int) < (n : Int) := by omega
      have hij0 : (0 : Int) ≤ (j : Int) := by omega
      have hjL : j < L.length := by rw [HN.out]; exact hlt
      obtain ⟨g1, off, rfl, hc⟩ := row17_at HI2.out.2.2.1 (by omega)
      obtain ⟨a0, a1⟩ := hc j hjL
      have hkn := atk_ne HS.out R2.out hjL
      have hrt := rem_take (k := k) hjL
      obtain ⟨⟨ex, ey⟩, hx⟩ : ∃ x, L[j] = x := ⟨_, rfl⟩
      rw [hx] at a0 a1 hkn hrt
      replace a0 : wr.cell? ⟨g1, off + j * 2, none⟩ = some (.int .i64 ex) := a0
      replace a1 : wr.cell? ⟨g1, off + j * 2 + 1, none⟩ = some (.int .i64 ey) := a1
      have HRt := Lib.hid hrt
      have HKn := Lib.hid hkn
      clear hc hx hrt hkn
      by_cases he : (j : Int) = r
      · have HLn := Lib.hid (show out = remH (L.take (j + 1)) k by rw [HRt.out, if_pos (HKn.out.1 he)]; exact HLd.out)
        have hb1 : ((j : Int) == r) = true := by rw [he]; simp
        have HE := Lib.hid he
        clear he
        go_wp2_with (fail)
        go_roundw
        case rel => exact ⟨j + 1, N, c2, A2, out, rfl, by go_num, by omega, by omega, HO, HLn, HRow, HW⟩
        case measure => simp [RowKit.intOf]; omega
      · have HLn := Lib.hid (show out ++ [(ex, ey)] = remH (L.take (j + 1)) k by rw [HRt.out, if_neg (fun q => he (HKn.out.2 q)), ← HLd.out])
        have hb1 : ((j : Int) == r) = false := by simpa using he
        have HRow3 := Lib.hid (show RowOwn 64 clH 2 (wr.alloc (.cells #[.int .i64 ex, .int .i64 ey] 64)) w.heap.size (.slice A2 N c2) out from HRow.out.rel (HW.out.self.alloc (.cells #[.int .i64 ex, .int .i64 ey] 64)))
        have HNew3 := Lib.hid (show RowAt clH 2 (wr.alloc (.cells #[.int .i64 ex, .int .i64 ey] 64)) (some ⟨wr.heap.size, 0, none⟩) [(ex, ey)] from RowAt.of_bk (cl := clH) (k := 2) clH_len (T := 64) (xs := [(ex, ey)]) (Bk.new wr 64 #[.int .i64 ex, .int .i64 ey]))
        have RA3 := Lib.hid (HW.out.alloc (.cells #[.int .i64 ex, .int .i64 ey] 64))
        have hsz3 : w.heap.size ≤ (wr.alloc (.cells #[.int .i64 ex, .int .i64 ey] 64)).heap.size := RA3.out.size
        have HLen3 := Lib.hid (show out.length = N from HO.out)
        go_wp2_with (at_builtin; (refine wpList_onto15 64 29 i0 (.agg #[.int .i64 0, .int .i64 0]) 16 Try.underlying29 hi0 hz0 hz1 hz2 rfl (by decide) clH_len clH_one rfl _ _ rfl w.heap.size (.slice A2 N c2) out rfl HRow3.out (some ⟨wr.heap.size, 0, none⟩) 1 1 [(ex, ey)] rfl rfl HNew3.out (fun e => by cases e) (by rw [HLen3.out]; simp; omega) (by rw [HLen3.out]; simp; unfold maxLen; omega) hsz3 ?_); intro v3 w3 own3 gr3; obtain ⟨q3, hq3⟩ : ∃ q, (out ++ [(ex, ey)]).length = q := ⟨_, rfl⟩; obtain ⟨A3, c3, e3, _⟩ := own3.slice_of; rw [hq3] at e3; subst e3; have HB3 := Lib.hid (show q3 = N + 1 by rw [← hq3, List.length_append, HLen3.out]; rfl); have HQ3 := Lib.hid hq3; have O3 := Lib.hid own3; have G3 := Lib.hid gr3; clear own3 gr3 hq3)
        go_roundw
        case rel => exact ⟨j + 1, q3, c3, A3, out ++ [(ex, ey)], rfl, by go_num, by omega, by have := HB3.out; omega, HQ3, HLn, O3, Lib.hid (RA3.out.grown G3.out (fun q hq => (World.ownsRow.lt HRow3.out.row q hq).1))⟩
        case measure => simp [RowKit.intOf]; omega
    · obtain rfl : j = n := by omega
      have hEnd : out = remH L k := by have := HLd.out; rw [List.take_of_length_le (by rw [HN.out]; exact Nat.le_refl _)] at this; exact this
      have HEq := Lib.hid hEnd
      have HHs := Lib.hid (atk_has R2.out)
      clear hEnd
      obtain ⟨f0, f1⟩ := HI2.out.2.1.two.2
      have HF := Lib.hid (Rb.put HB.out HW.out HRow.out (by rw [HEq.out]; exact HPW.out.1) (by rw [HEq.out]; exact HPW.out.2.1) (by rw [HEq.out]; exact HPW.out.2.2))
      have HFi := Lib.hid (show decide (0 ≤ r) = bb by rw [← HHs.out]; exact HBB.out)
      go_wp2_with (fail)
      go_ret
      exact ⟨by first | (rw [← HFi.out]; rfl) | (have := HFi.out; simp_all), _, by have := HF.out.1; rw [HEq.out] at this; exact this, HF.out.2⟩
theorem rremove16 {w : World} {v : Value} {S : Nat → Prop} {m : Int} {L : List It} (k : Int) (hr : Rel w w) (h : RHp t rs w v S m L) :
    Calls Try.prog 39 #[v, .int .i64 k] w fun e w' => e = .returned (.bool (hasH L k)) ∧ ∃ S', RHp t rs w' v S' m (remH L k) ∧ St S S' w w' := by
  obtain ⟨g, u, rfl, rfl, hb⟩ := h
  refine (rremove_any hr hb k).mono ?_
  rintro e w' ⟨he, u', a1, a2⟩
  exact ⟨he, SoR g u', ⟨g, u', rfl, rfl, a1⟩, a2⟩
end Go.Proofs.Ytndmnlgancnbkaa
