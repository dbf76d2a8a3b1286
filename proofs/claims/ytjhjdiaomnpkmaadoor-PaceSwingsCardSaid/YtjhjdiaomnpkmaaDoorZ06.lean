/- The landed parser: the end, a number, a name; what begins; A load taken first, more: two operations that may come up; what stands behind all that waits for the load; The landed parser: an expression being built; its number, its name taken. -/
import Derived.Test.YtjhjdiaomnpkmaaDoorZL
import Derived.Test.YtjhjdiaomnpkmaaDoorZ00
import Derived.Test.YtjhjdiaomnpkmaaDoorZ01
import Derived.Test.YtjhjdiaomnpkmaaDoorZ02
import Derived.Test.YtjhjdiaomnpkmaaDoorZ03
import Derived.Test.YtjhjdiaomnpkmaaDoorZ04
import Derived.Test.YtjhjdiaomnpkmaaDoorZ05
namespace Go.Proofs.YtjhjdiaomnpkmaaDoor
open Go.RowKit Go.Lib
set_option linter.unusedVariables false
set_option linter.unusedSimpArgs false
set_option maxRecDepth 100000 in
set_option maxHeartbeats 2000000 in
theorem pend_yes (V : World) (g a : Nat) (ts : List Tok) (w : World) (h : StP V w g ts a) (hc : (hdT ts).1 = 5) :
    Calls Tryd.prog 30 #[.pointer (some ⟨g, 0, none⟩)] w fun e w' => e = .returned (.tuple #[]) ∧ w.grownBy w' (some g) := by
  have HN := Lib.hid (pnext_any V g a ts w h)
  have HV := Lib.hid h.V
  obtain ⟨⟨k, x, n, p⟩, ht⟩ : ∃ t, hdT ts = t := ⟨_, rfl⟩
  rw [ht] at HN hc
  obtain rfl : k = 5 := hc
  clear h ht
  go_enter Tryd.func30, Tryd.ntmps30
  go_wp2_with (go_at_call 46; (with_reducible refine HN.out.mono ?_); rintro e w2 ⟨rfl, s2, g2, _⟩; have G2 := Lib.hid g2; clear s2 g2)
  go_end0
  exact ⟨rfl, grown_trans G2.out (grown_rel (some g) ((HV.out.1.grown G2.out (fun k e => by cases e; exact HV.out.2)).self.alloc _))⟩
set_option maxRecDepth 100000 in
set_option maxHeartbeats 2000000 in
theorem pend_not (V : World) (g a : Nat) (ts : List Tok) (w : World) (h : StP V w g ts a) (hc : (hdT ts).1 ≠ 5) :
    Calls Tryd.prog 30 #[.pointer (some ⟨g, 0, none⟩)] w fun e w' => e = FLT 80 (atT ts) ∧ w.grownBy w' (some g) := by
  have HN := Lib.hid (pnext_any V g a ts w h)
  have HV := Lib.hid h.V
  obtain ⟨t, ht⟩ : ∃ t, hdT ts = t := ⟨_, rfl⟩
  have HA := Lib.hid (show atT ts = t.2.2.2 by unfold atT; rw [ht])
  rw [ht] at HN hc
  have hb : (t.1 == 5) = false := by simpa using hc
  have hb' : (t.1 != 5) = true := by simpa using hc
  clear h ht hc
  go_enter Tryd.func30, Tryd.ntmps30
  go_wp2_with (first
    | (go_at_call 46; (with_reducible refine HN.out.mono ?_); rintro e w2 ⟨rfl, s2, g2, _⟩; have G2 := Lib.hid g2; clear s2 g2)
    | (go_at_call 45; (with_reducible refine (pwrong_any t _).mono ?_); rintro e w3 ⟨rfl, rfl⟩))
  exact ⟨rfl, by rw [HA.out], fail_grown G2.out V (HV.out.1.grown G2.out (fun k e => by cases e; exact HV.out.2)) _ _ _⟩
set_option maxRecDepth 100000 in
set_option maxHeartbeats 2000000 in
theorem pnum_yes (V : World) (g a : Nat) (ts : List Tok) (k m n : Int) (w : World) (h : StP V w g ts a) (hk : k ≠ 5) (hn : numP k m ts = .ok (n, ts.tail)) :
    Calls Tryd.prog 61 #[.pointer (some ⟨g, 0, none⟩), .int .i64 k, .int .i64 m] w fun e w' => e = .returned (.int .i64 n) ∧ StP V w' g ts.tail a ∧ w.grownBy w' (some g) := by
  have HN := Lib.hid (pnext_any V g a ts w h)
  have hq : (hdT ts).1 = k ∧ (hdT ts).2.2.1 ≤ m ∧ (hdT ts).2.2.1 = n := by
    unfold numP at hn
    split at hn
    · rename_i hh; injection hn with hn; injection hn with e _; exact ⟨hh.1, hh.2, e⟩
    · cases hn
  have HT := Lib.hid (h.fine.last (.inl (by rw [hq.1]; exact hk)))
  obtain ⟨⟨k', x, n', p⟩, ht⟩ : ∃ t, hdT ts = t := ⟨_, rfl⟩
  rw [ht] at HN hq
  obtain ⟨q1, q2, q3⟩ := hq
  obtain rfl : k' = k := q1
  obtain rfl : n' = n := q3
  have hb : decide (m < n') = false := by simpa using q2
  clear h ht hn hk q2
  go_enter Tryd.func61, Tryd.ntmps61
  go_wp2_with (go_at_call 46; (with_reducible refine HN.out.mono ?_); rintro e w2 ⟨rfl, s2, g2, _⟩; have S2 := Lib.hid s2; have G2 := Lib.hid g2; clear s2 g2)
  go_ret
  have R := (S2.out HT.out).V.1.self.alloc (.cells #[.int .i64 k', .string (B x), .int .i64 n', .int .i64 p] 65)
  exact ⟨rfl, (S2.out HT.out).rel R, grown_trans G2.out (grown_rel (some g) R)⟩
set_option maxRecDepth 100000 in
set_option maxHeartbeats 2000000 in
theorem pnum_not (V : World) (g a : Nat) (ts : List Tok) (k m : Int) (w : World) (h : StP V w g ts a) (hn : numP k m ts = .error (80, atT ts)) :
    Calls Tryd.prog 61 #[.pointer (some ⟨g, 0, none⟩), .int .i64 k, .int .i64 m] w fun e w' => e = FLT 80 (atT ts) ∧ w.grownBy w' (some g) := by
  have HN := Lib.hid (pnext_any V g a ts w h)
  have HV := Lib.hid h.V
  have hq : (hdT ts).1 ≠ k ∨ ((hdT ts).1 = k ∧ m < (hdT ts).2.2.1) := by
    unfold numP at hn
    split at hn
    · cases hn
    · rename_i hh
      by_cases e : (hdT ts).1 = k
      · exact .inr ⟨e, by have := fun h' => hh ⟨e, h'⟩; omega⟩
      · exact .inl e
  obtain ⟨t, ht⟩ : ∃ t, hdT ts = t := ⟨_, rfl⟩
  have HA := Lib.hid (show atT ts = t.2.2.2 by unfold atT; rw [ht])
  rw [ht] at HN hq
  clear h ht hn
  rcases hq with hq | ⟨hq, hm⟩
  · have hb : (t.1 == k) = false := by simpa using hq
    have hb' : (t.1 != k) = true := by simpa using hq
    clear hq
    go_enter Tryd.func61, Tryd.ntmps61
    go_wp2_with (first
      | (go_at_call 46; (with_reducible refine HN.out.mono ?_); rintro e w2 ⟨rfl, s2, g2, _⟩; have G2 := Lib.hid g2; clear s2 g2)
      | (go_at_call 45; (with_reducible refine (pwrong_any t _).mono ?_); rintro e w3 ⟨rfl, rfl⟩))
    exact ⟨rfl, by rw [HA.out], fail_grown G2.out V (HV.out.1.grown G2.out (fun k e => by cases e; exact HV.out.2)) _ _ _⟩
  · obtain ⟨k', x, n', p⟩ := t
    obtain rfl : k' = k := hq
    have hb : decide (m < n') = true := by simpa using hm
    clear hm
    go_enter Tryd.func61, Tryd.ntmps61
    go_wp2_with (first
      | (go_at_call 46; (with_reducible refine HN.out.mono ?_); rintro e w2 ⟨rfl, s2, g2, _⟩; have G2 := Lib.hid g2; clear s2 g2)
      | (go_at_call 45; (with_reducible refine (pwrong_any (k', x, n', p) _).mono ?_); rintro e w3 ⟨rfl, rfl⟩))
    exact ⟨rfl, by rw [HA.out], fail_grown G2.out V (HV.out.1.grown G2.out (fun k e => by cases e; exact HV.out.2)) _ _ _⟩
set_option maxRecDepth 100000 in
set_option maxHeartbeats 2000000 in
/-- What an expression or a condition begins with, taken: there is room for it. -/
theorem pbegin_yes (V : World) (g a : Nat) (ts : List Tok) (w : World) (h : StP V w g ts a) (ha : a < 32) :
    Calls Tryd.prog 38 #[.pointer (some ⟨g, 0, none⟩)] w fun e w' => e = .returned (TK (hdT ts)) ∧ (ts.tail ≠ [] → StP V w' g ts.tail a) ∧ w.grownBy w' (some g) := by
  have hA := h.V.1.self.alloc (.cells #[.int .i64 0, .string ⟨#[]⟩, .int .i64 0, .int .i64 0] 65)
  have HN := Lib.hid (pnext_any V g a ts _ (h.rel hA))
  have HA := Lib.hid hA
  have HV := Lib.hid h.V
  have hgl := h.lt
  have HX := Lib.hid (Bk.new w 65 #[.int .i64 0, .string ⟨#[]⟩, .int .i64 0, .int .i64 0])
  obtain ⟨t, ht⟩ : ∃ t, hdT ts = t := ⟨_, rfl⟩
  rw [ht] at HN ⊢
  have hb : decide (32 ≤ (a : Int)) = false := by simp; omega
  clear h ht hA
  go_enter Tryd.func38, Tryd.ntmps38
  go_wp2_with (go_at_call 46; (with_reducible refine HN.out.mono ?_); rintro e w2 ⟨rfl, s2, g2, S, b2⟩; have S2 := Lib.hid s2; have G2 := Lib.hid g2; have X2 := HX.out.grown g2 (fun e => by injection e; omega); obtain ⟨⟨_, c1⟩, _⟩ := b2.two; obtain ⟨⟨d0, d1, d2, d3⟩, u0, u1, u2, u3⟩ := X2.four; have hz2 := g2.size; simp only [World.size_alloc] at hz2; have hgl2 : g < w2.heap.size := (by omega); have hgl3 : w.heap.size < w2.heap.size := (by omega); have HX2 := Lib.hid X2; clear s2 g2 X2)
  have gp := put4_grown w2 w.heap.size (.int .i64 t.1) (.string (B t.2.1)) (.int .i64 t.2.2.1) (.int .i64 t.2.2.2)
  have RV := (HV.out.1.trans HA.out).grown G2.out (fun k e => by cases e; exact HV.out.2)
  have RP := RV.grown gp (fun k e => by cases e; exact HV.out.1.size)
  have R := RP.self.alloc (.cells #[.int .i64 t.1, .string (B t.2.1), .int .i64 t.2.2.1, .int .i64 t.2.2.2] 65)
  obtain ⟨⟨y0, y1, y2, y3⟩, _⟩ := ((HX2.out.put4 (.int .i64 t.1) (.string (B t.2.1)) (.int .i64 t.2.2.1) (.int .i64 t.2.2.2)).rel R).four
  obtain ⟨W, hW⟩ : ∃ W, (((((w2.setCell ⟨w.heap.size, 0, none⟩ (.int .i64 t.1)).setCell ⟨w.heap.size, 1, none⟩ (.string (B t.2.1))).setCell ⟨w.heap.size, 2, none⟩ (.int .i64 t.2.2.1)).setCell ⟨w.heap.size, 3, none⟩ (.int .i64 t.2.2.2)).alloc (.cells #[.int .i64 t.1, .string (B t.2.1), .int .i64 t.2.2.1, .int .i64 t.2.2.2] 65)) = W := ⟨_, rfl⟩
  rw [hW] at y0 y1 y2 y3 R ⊢
  refine bodyPost_ret (v := TK t) (by simp [results, Tryd.results38, go_sem, y0, y1, y2, y3]) rfl ⟨rfl, fun hn => ?_, ?_⟩
  · exact ((S2.out hn).grown gp (fun e => by injection e; omega) (fun k e => by cases e; exact HV.out.1.size)).rel R
  · exact grown_of (grown_of (grown_trans (grown_rel (some g) HA.out) G2.out) gp (fun k e => by cases e; exact Nat.le_refl _)) (grown_rel none R) (fun k e => by cases e)
set_option maxRecDepth 100000 in
set_option maxHeartbeats 2000000 in
/-- There is none. -/
theorem pbegin_not (V : World) (g a : Nat) (ts : List Tok) (w : World) (h : StP V w g ts a) (ha : 32 ≤ a) :
    Calls Tryd.prog 38 #[.pointer (some ⟨g, 0, none⟩)] w fun e w' => e = FLT 81 (atT ts) ∧ w.grownBy w' (some g) := by
  have hA := h.V.1.self.alloc (.cells #[.int .i64 0, .string ⟨#[]⟩, .int .i64 0, .int .i64 0] 65)
  have HN := Lib.hid (pnext_any V g a ts _ (h.rel hA))
  have HA := Lib.hid hA
  have HV := Lib.hid h.V
  have hgl := h.lt
  obtain ⟨t, ht⟩ : ∃ t, hdT ts = t := ⟨_, rfl⟩
  have HAt := Lib.hid (show atT ts = t.2.2.2 by unfold atT; rw [ht])
  rw [ht] at HN
  have hb : decide (32 ≤ (a : Int)) = true := by simp; omega
  clear h ht hA
  go_enter Tryd.func38, Tryd.ntmps38
  go_wp2_with (go_at_call 46; (with_reducible refine HN.out.mono ?_); rintro e w2 ⟨rfl, s2, g2, S, b2⟩; have G2 := Lib.hid g2; obtain ⟨⟨_, c1⟩, _⟩ := b2.two; have hz2 := g2.size; simp only [World.size_alloc] at hz2; have hgl2 : g < w2.heap.size := (by omega); clear s2 g2)
  have RV := (HV.out.1.trans HA.out).grown G2.out (fun k e => by cases e; exact HV.out.2)
  exact ⟨rfl, by rw [HAt.out], grown_trans (grown_trans (grown_rel (some g) HA.out) G2.out) (grown_rel (some g) (RV.self.alloc _))⟩
end Go.Proofs.YtjhjdiaomnpkmaaDoor

namespace Go.Proofs.YtjhjdiaomnpkmaaDoor
open Go
set_option linter.unusedVariables false
set_option linter.unusedSimpArgs false
section
variable {P : Program} {ops : Array Oper} {Q : Exit → Act → World → Prop} {md : Region.Mode} {S : World → Prop}
/-- Two operations may come up: neither waits for i, so S is shown behind each. -/
theorem till_two {i j k : Nat} {o o' : Oper} {fuel : Nat} {listed : Array Bool} {a : Act} {w : World} (hr : Region.ready md ops listed = [j, k]) (ho : ops[j]? = some o) (ho' : ops[k]? = some o')
    (h : ∀ K' : Act → World → Prop, Shut (∀ a w, S w → wpTill P md ops Q S i fuel (listed.setIfInBounds j true) a w → K' a w) → if Region.wanted o (yielded ops a.tmps) = true then Oper.wp P o a w K' Q else K' (a.put o.dst undef) w)
    (h' : ∀ K' : Act → World → Prop, Shut (∀ a w, S w → wpTill P md ops Q S i fuel (listed.setIfInBounds k true) a w → K' a w) → if Region.wanted o' (yielded ops a.tmps) = true then Oper.wp P o' a w K' Q else K' (a.put o'.dst undef) w) : wpTill P md ops Q S i (fuel + 1) listed a w :=
  ⟨(fun h0 => by rw [hr] at h0; cases h0), fun q hq => by
    rw [hr] at hq
    rcases List.mem_cons.1 hq with rfl | hq
    · exact wpOp_step ho (fun K' hK => h K' (fun a w hS hW => hK a w ⟨fun _ => hS, hW⟩))
    · rw [List.mem_singleton] at hq; subst hq
      exact wpOp_step ho' (fun K' hK => h' K' (fun a w hS hW => hK a w ⟨fun _ => hS, hW⟩))⟩
/-- What asks nothing of the world, and waits for i, is taken first. -/
theorem till_quiet {q i : Nat} {oi : Oper} {v : Value} (hi : ops[q]? = some oi) (hsel : ∀ (j : Nat) (o : Oper) cs b, ops[j]? = some o → o.op ≠ .select cs b)
    (hQ : ∀ c a w, Q (.panic c) (a.put oi.dst v) w → Q (.panic c) a w) (hwq : waitsB md ops q i = true) :
    ∀ (fuel : Nat) (listed : Array Bool) (a : Act) (w : World),
      (∀ j oj, ops[j]? = some oj → j ≠ q → listed.getD j true = false → (∀ e ∈ oj.after, Region.binds md e = true → e.on ≠ q) → oi.apart ops oj = true) →
      q ∈ Region.ready md ops listed → YieldsIf P ops (fun _ => True) oi v a →
      wpTill P md ops Q S i fuel (listed.setIfInBounds q true) (a.put oi.dst v) w → wpTill P md ops Q S i (fuel + 1) listed a w := by
  intro fuel
  induction fuel with
  | zero =>
    intro listed a w hap hir hy h
    refine ⟨(fun e => by rw [e] at hir; cases hir), fun j hj => ?_⟩
    by_cases hji : j = q
    · subst hji; exact hy.wpOp hi trivial ⟨(fun e => by rw [hwq] at e; cases e), h⟩
    · have := ready_set hj hji
      rw [h.1] at this; cases this
  | succ f ih =>
    intro listed a w hap hir hy h
    refine ⟨(fun e => by rw [e] at hir; cases hir), fun j hj => ?_⟩
    by_cases hji : j = q
    · subst hji; exact hy.wpOp hi trivial ⟨(fun e => by rw [hwq] at e; cases e), h⟩
    · have hw := ready_waits hir hj
      obtain ⟨_, hjl, oj, hoj, hjw⟩ := ready_iff.1 hj
      have hnot : ∀ e ∈ oj.after, Region.binds md e = true → e.on ≠ q := by
        intro e he hb hc
        unfold waitsB at hw
        rw [hoj] at hw
        simp only [Option.map_some, Option.getD_some] at hw
        rw [Array.any_eq_false'] at hw
        exact hw e he (by simp [hb, hc])
      have h1 := wpOp_putIf hoj (hap j oj hoj hji hjl hnot) (fun cs b => hsel q oi cs b hi) (fun cs b => hsel j oj cs b hoj) hQ hy (h.2 j (ready_set hj hji))
      refine wpOp_mono (fun a' w' h' => ?_) h1
      obtain ⟨hy', hS', ht⟩ := h'
      refine ⟨hS', ih (listed.setIfInBounds j true) a' w' (fun p oq hq hqi hql hqe => hap p oq hq hqi ?_ hqe) (ready_set hir (Ne.symm hji)) hy' ?_⟩
      · by_cases e : p = j
        · subst e; exact hjl
        · rw [set_get e] at hql; exact hql
      · rw [Array.setIfInBounds_comm _ _ (Ne.symm hji)] at ht
        exact ht
theorem till_move {q i : Nat} {oi : Oper} {v : Value} (d : Option Tmp) {fuel : Nat} {listed : Array Bool} {a : Act} {w : World} (hi : ops[q]? = some oi) (hd : oi.dst = d) (hwq : waitsB md ops q i = true)
    (hs : Region.noSelect ops = true) (hf : Region.free md ops listed q = true) (hr : (Region.ready md ops listed).contains q = true)
    (hQ : ∀ c a w, Q (.panic c) (a.put d v) w → Q (.panic c) a w) (hy : Yields P ops oi v a)
    (h : wpTill P md ops Q S i fuel (listed.setIfInBounds q true) (a.put d v) w) : wpTill P md ops Q S i (fuel + 1) listed a w := by
  subst hd
  exact till_quiet hi (Region.noSelect_spec hs) hQ hwq fuel listed a w (Region.free_spec hi hf) (by simpa using hr) hy.yieldsIf h
/-- All that is left waits for i: it is walked as any region. -/
theorem till_any {i : Nat} : ∀ (fuel : Nat) (listed : Array Bool) (a : Act) (w : World), (∀ j ∈ List.range ops.size, listed.getD j true = false → waitsB md ops j i = true) → wpAny P md ops Q fuel listed a w → wpTill P md ops Q S i fuel listed a w
  | 0, _, _, _, _, h => h
  | fuel + 1, listed, a, w, hw, h => ⟨h.1, fun j hj => wpOp_mono (fun a' w' h' => by
      obtain ⟨h1, h2, _⟩ := ready_iff.1 hj
      refine ⟨fun e => ?_, till_any fuel _ a' w' (fun q hq hl => hw q hq ?_) h'⟩
      · rw [hw j (List.mem_range.2 h1) h2] at e
        cases e
      · by_cases e : q = j
        · subst e; exact h2
        · rw [set_get e] at hl; exact hl) (h.2 j hj)⟩
theorem till_rest {i fuel : Nat} {listed : Array Bool} {a : Act} {w : World} (hw : ((List.range ops.size).all fun j => listed.getD j true || waitsB md ops j i) = true) (h : wpAny P md ops Q fuel listed a w) : wpTill P md ops Q S i fuel listed a w :=
  till_any fuel listed a w (fun j hj hl => by
    have := List.all_eq_true.1 hw j hj
    rw [hl, Bool.false_or] at this
    exact this) h
theorem any_one {j : Nat} {o : Oper} {fuel : Nat} {listed : Array Bool} {a : Act} {w : World} (hr : Region.ready md ops listed = [j]) (ho : ops[j]? = some o)
    (h : ∀ K' : Act → World → Prop, Shut (∀ a w, wpAny P md ops Q fuel (listed.setIfInBounds j true) a w → K' a w) → if Region.wanted o (yielded ops a.tmps) = true then Oper.wp P o a w K' Q else K' (a.put o.dst undef) w) : wpAny P md ops Q (fuel + 1) listed a w :=
  ⟨(fun h0 => by rw [hr] at h0; cases h0), fun q hq => by rw [hr, List.mem_singleton] at hq; subst hq; exact wpOp_step ho (fun K' hK => h K' (fun a w hW => hK a w hW))⟩
theorem any_two {j k : Nat} {o o' : Oper} {fuel : Nat} {listed : Array Bool} {a : Act} {w : World} (hr : Region.ready md ops listed = [j, k]) (ho : ops[j]? = some o) (ho' : ops[k]? = some o')
    (h : ∀ K' : Act → World → Prop, Shut (∀ a w, wpAny P md ops Q fuel (listed.setIfInBounds j true) a w → K' a w) → if Region.wanted o (yielded ops a.tmps) = true then Oper.wp P o a w K' Q else K' (a.put o.dst undef) w)
    (h' : ∀ K' : Act → World → Prop, Shut (∀ a w, wpAny P md ops Q fuel (listed.setIfInBounds k true) a w → K' a w) → if Region.wanted o' (yielded ops a.tmps) = true then Oper.wp P o' a w K' Q else K' (a.put o'.dst undef) w) : wpAny P md ops Q (fuel + 1) listed a w :=
  ⟨(fun h0 => by rw [hr] at h0; cases h0), fun q hq => by
    rw [hr] at hq
    rcases List.mem_cons.1 hq with rfl | hq
    · exact wpOp_step ho (fun K' hK => h K' (fun a w hW => hK a w hW))
    · rw [List.mem_singleton] at hq; subst hq
      exact wpOp_step ho' (fun K' hK => h' K' (fun a w hW => hK a w hW))⟩
theorem any_done {listed : Array Bool} {a : Act} {w : World} (hr : Region.ready md ops listed = []) (h : Q .normal a w) : ∀ fuel, wpAny P md ops Q fuel listed a w
  | 0 => ⟨hr, h⟩
  | _ + 1 => ⟨fun _ => h, by rw [hr]; simp⟩
end
end Go.Proofs.YtjhjdiaomnpkmaaDoor

namespace Go.Proofs.YtjhjdiaomnpkmaaDoor
open Go.RowKit Go.Lib
set_option linter.unusedVariables false
set_option linter.unusedSimpArgs false
/-- In this world the box at gx is the expression that is being built; its arguments are the call's own. -/
def XP (gx : Nat) (w : World) (x : Ex) (A : Option Addr) (c : Nat) (es : List El) : Prop :=
  Bk w gx 46 #[.int .i64 x.k, .int .i64 x.n, .string (B x.nm), .slice A es.length c] ∧ w.ownsRow (gx + 1) 46 4 (.slice A es.length c) es.length (cellsEs es) ∧ es.length = x.l.length ∧
    (∀ i (h : i < es.length) (h' : i < x.l.length), ExAt (fun q => gx < q ∧ some q ≠ (Value.slice A es.length c).ownBlock) w es[i] x.l[i]) ∧ i64 x.k ∧ i64 x.n ∧ x.nm.length ≤ 100 ∧ x.l.length ≤ 3
theorem XP.grown {gx g : Nat} {w w' : World} {x : Ex} {A : Option Addr} {c : Nat} {es : List El} (h : XP gx w x A c es) (hg : w.grownBy w' (some g)) (hl : g < gx) : XP gx w' x A c es := by
  obtain ⟨h1, h2, h3, h4, h5⟩ := h
  refine ⟨h1.grown hg (fun e => by injection e; omega), World.ownsRow.kept h2 hg ?_, h3, fun i hi hi' => (h4 i hi hi').grown hg (fun q hq => ⟨hq, fun e => by injection e; omega⟩), h5⟩
  cases hv : (Value.slice A es.length c).ownBlock with
  | none => exact .inl rfl
  | some q => exact .inr (fun e => by have := (h2.lt q hv).1; injection e; omega)
theorem XP.set {gx : Nat} {w : World} {x : Ex} {A : Option Addr} {c : Nat} {es : List El} (h : XP gx w x A c es) (o : Nat) (v : Value) (y : Ex) (hy : (#[.int .i64 x.k, .int .i64 x.n, .string (B x.nm), .slice A es.length c] : Array Value).setIfInBounds o v = #[.int .i64 y.k, .int .i64 y.n, .string (B y.nm), .slice A es.length c])
    (hl : y.l = x.l) (hk : i64 y.k) (hn : i64 y.n) (hm : y.nm.length ≤ 100) : XP gx (w.setCell ⟨gx, o, none⟩ v) y A c es := by
  obtain ⟨h1, h2, h3, h4, h5⟩ := h
  have gs := set_grown w gx o v
  refine ⟨by rw [← hy]; exact h1.set_ o v, own_set h2 (fun e => by have := (h2.lt _ e.symm).1; simp only at this; omega) v, by rw [hl]; exact h3, fun i hi hi' => ?_, hk, hn, hm, by rw [hl]; exact h5.2.2.2⟩
  simp only [hl]
  exact (h4 i hi (by rw [← hl]; exact hi')).grown gs (fun q hq => ⟨hq, fun e => by injection e; omega⟩)
theorem XP.lt {gx : Nat} {w : World} {x : Ex} {A : Option Addr} {c : Nat} {es : List El} (h : XP gx w x A c es) : gx < w.heap.size := h.1.lt
/-- Where a call stands: the parser at g, the expression at gx; U: the world that it began in. -/
def InP (V U w : World) (g gx a : Nat) (x : Ex) (ts : List Tok) : Prop := StP V w g ts a ∧ g < U.heap.size ∧ U.heap.size ≤ gx ∧ U.grownBy w (some g) ∧ ∃ A c es, XP gx w x A c es
/-- What a piece leaves. -/
def PcPost (V U : World) (g gx a : Nat) (r : Told Ex) (e : Ending) (w' : World) : Prop := match r with
  | .ok (y, ts) => e = .returned (.tuple #[]) ∧ InP V U w' g gx a y ts
  | .error E => e = FLT E.1 E.2 ∧ U.grownBy w' (some g)
theorem PcPost.yes {V U : World} {g gx a : Nat} {r : Told Ex} {y : Ex} {ts : List Tok} (h : r = .ok (y, ts)) {e : Ending} {w' : World} (he : e = .returned (.tuple #[])) (hi : InP V U w' g gx a y ts) : PcPost V U g gx a r e w' := by subst h; exact ⟨he, hi⟩
theorem PcPost.no {V U : World} {g gx a : Nat} {r : Told Ex} {E : Int × Int} (h : r = .error E) {e : Ending} {w' : World} (he : e = FLT E.1 E.2) (hi : U.grownBy w' (some g)) : PcPost V U g gx a r e w' := by subst h; exact ⟨he, hi⟩
theorem InP.step {V U w w' : World} {g gx a a' : Nat} {x : Ex} {ts ts' : List Tok} (h : InP V U w g gx a x ts) (hg : w.grownBy w' (some g)) (hs : StP V w' g ts' a') : InP V U w' g gx a' x ts' := by
  obtain ⟨h1, h2, h3, h4, A, c, es, h5⟩ := h
  exact ⟨hs, h2, h3, grown_trans h4 hg, A, c, es, h5.grown hg (by omega)⟩
theorem InP.set {V U w : World} {g gx a : Nat} {x y : Ex} {ts : List Tok} (h : InP V U w g gx a x ts) (o : Nat) (v : Value) (hy : ∀ A n c, (#[.int .i64 x.k, .int .i64 x.n, .string (B x.nm), .slice A n c] : Array Value).setIfInBounds o v = #[.int .i64 y.k, .int .i64 y.n, .string (B y.nm), .slice A n c])
    (hl : y.l = x.l) (hk : i64 y.k) (hn : i64 y.n) (hm : y.nm.length ≤ 100) : InP V U (w.setCell ⟨gx, o, none⟩ v) g gx a y ts := by
  obtain ⟨h1, h2, h3, h4, A, c, es, h5⟩ := h
  have gs := set_grown w gx o v
  exact ⟨h1.grown gs (fun e => by injection e; omega) (fun k e => by cases e; have := h1.V.2; omega), h2, h3, grown_of h4 gs (fun k e => by cases e; exact h3), A, c, es, h5.set o v y (hy _ _ _) hl hk hn hm⟩
theorem InP.box {V U w : World} {g gx a : Nat} {x : Ex} {ts : List Tok} (h : InP V U w g gx a x ts) : ∃ A n c, Bk w gx 46 #[.int .i64 x.k, .int .i64 x.n, .string (B x.nm), .slice A n c] := by
  obtain ⟨h1, h2, h3, h4, A, c, es, h5⟩ := h
  exact ⟨A, _, c, h5.1⟩
set_option maxRecDepth 100000 in
set_option maxHeartbeats 2000000 in
theorem pamount_any (V U : World) (g gx a : Nat) (x : Ex) (ts : List Tok) (f : Bool → List Tok → Told Ex) (w : World) (h : InP V U w g gx a x ts) :
    Calls Tryd.prog 42 #[.pointer (some ⟨g, 0, none⟩), .pointer (some ⟨gx, 0, none⟩)] w (PcPost V U g gx a (stepP f .am x ts)) := by
  have hs := h.1
  have hq : (∃ N, numP 3 1000000000000 ts = .ok (N, ts.tail)) ∨ numP 3 1000000000000 ts = .error (80, atT ts) := by
    unfold numP
    split
    · exact .inl ⟨_, rfl⟩
    · exact .inr rfl
  rcases hq with ⟨N, hN⟩ | hN
  · have HI := Lib.hid h
    have HC := Lib.hid (pnum_yes V g a ts 3 1000000000000 N w hs (by decide) hN)
    have HR := Lib.hid (show stepP f .am x ts = .ok (x.num N, ts.tail) by unfold stepP; rw [hN])
    have HNi : Hid (i64 N) := Lib.hid (by
      unfold numP at hN
      split at hN
      · injection hN with hN; injection hN with e _; rw [← e]; exact hs.fine.head.2.2.1
      · cases hN)
    clear h hs hN
    go_enter Tryd.func42, Tryd.ntmps42
    go_wp2_with (go_at_call 61; (with_reducible refine HC.out.mono ?_); rintro e w2 ⟨rfl, s2, g2⟩; have HI2 := Lib.hid (HI.out.step g2 s2); obtain ⟨A, n, c, hb⟩ := HI2.out.box; obtain ⟨⟨c0, c1, c2, c3⟩, f0, f1, f2, f3⟩ := hb.four; clear s2 g2 hb)
    go_end0
    refine PcPost.yes HR.out rfl (HI2.out.set 1 _ (fun _ _ _ => rfl) rfl ?_ HNi.out ?_)
    · obtain ⟨_, _, _, _, A, c, es, hx⟩ := HI.out; exact hx.2.2.2.2.1
    · obtain ⟨_, _, _, _, A, c, es, hx⟩ := HI.out; exact hx.2.2.2.2.2.2.1
  · have HC := Lib.hid (pnum_not V g a ts 3 1000000000000 w hs hN)
    have HR := Lib.hid (show stepP f .am x ts = .error (80, atT ts) by unfold stepP; rw [hN])
    have HG := Lib.hid h.2.2.2.1
    clear h hs hN
    go_enter Tryd.func42, Tryd.ntmps42
    go_wp2_with (go_at_call 61; (with_reducible refine HC.out.mono ?_); rintro e w2 ⟨rfl, g2⟩)
    exact ⟨rfl, PcPost.no HR.out rfl (grown_trans HG.out g2)⟩
set_option maxRecDepth 100000 in
set_option maxHeartbeats 2000000 in
theorem ppart_any (V U : World) (g gx a : Nat) (x : Ex) (ts : List Tok) (f : Bool → List Tok → Told Ex) (w : World) (h : InP V U w g gx a x ts) :
    Calls Tryd.prog 43 #[.pointer (some ⟨g, 0, none⟩), .pointer (some ⟨gx, 0, none⟩)] w (PcPost V U g gx a (stepP f .pa x ts)) := by
  have hs := h.1
  have hq : (∃ N, numP 2 100000 ts = .ok (N, ts.tail)) ∨ numP 2 100000 ts = .error (80, atT ts) := by
    unfold numP
    split
    · exact .inl ⟨_, rfl⟩
    · exact .inr rfl
  rcases hq with ⟨N, hN⟩ | hN
  · have HI := Lib.hid h
    have HC := Lib.hid (pnum_yes V g a ts 2 100000 N w hs (by decide) hN)
    have HR := Lib.hid (show stepP f .pa x ts = .ok (x.num N, ts.tail) by unfold stepP; rw [hN])
    have HNi : Hid (i64 N) := Lib.hid (by
      unfold numP at hN
      split at hN
      · injection hN with hN; injection hN with e _; rw [← e]; exact hs.fine.head.2.2.1
      · cases hN)
    clear h hs hN
    go_enter Tryd.func43, Tryd.ntmps43
    go_wp2_with (go_at_call 61; (with_reducible refine HC.out.mono ?_); rintro e w2 ⟨rfl, s2, g2⟩; have HI2 := Lib.hid (HI.out.step g2 s2); obtain ⟨A, n, c, hb⟩ := HI2.out.box; obtain ⟨⟨c0, c1, c2, c3⟩, f0, f1, f2, f3⟩ := hb.four; clear s2 g2 hb)
    go_end0
    refine PcPost.yes HR.out rfl (HI2.out.set 1 _ (fun _ _ _ => rfl) rfl ?_ HNi.out ?_)
    · obtain ⟨_, _, _, _, A, c, es, hx⟩ := HI.out; exact hx.2.2.2.2.1
    · obtain ⟨_, _, _, _, A, c, es, hx⟩ := HI.out; exact hx.2.2.2.2.2.2.1
  · have HC := Lib.hid (pnum_not V g a ts 2 100000 w hs hN)
    have HR := Lib.hid (show stepP f .pa x ts = .error (80, atT ts) by unfold stepP; rw [hN])
    have HG := Lib.hid h.2.2.2.1
    clear h hs hN
    go_enter Tryd.func43, Tryd.ntmps43
    go_wp2_with (go_at_call 61; (with_reducible refine HC.out.mono ?_); rintro e w2 ⟨rfl, g2⟩)
    exact ⟨rfl, PcPost.no HR.out rfl (grown_trans HG.out g2)⟩
set_option maxRecDepth 100000 in
set_option maxHeartbeats 2000000 in
theorem pcount_any (V U : World) (g gx a : Nat) (x : Ex) (ts : List Tok) (f : Bool → List Tok → Told Ex) (w : World) (h : InP V U w g gx a x ts) :
    Calls Tryd.prog 75 #[.pointer (some ⟨g, 0, none⟩), .pointer (some ⟨gx, 0, none⟩)] w (PcPost V U g gx a (stepP f .co x ts)) := by
  have hs := h.1
  have hq : (∃ N, numP 2 1000 ts = .ok (N, ts.tail)) ∨ numP 2 1000 ts = .error (80, atT ts) := by
    unfold numP
    split
    · exact .inl ⟨_, rfl⟩
    · exact .inr rfl
  rcases hq with ⟨N, hN⟩ | hN
  · have HI := Lib.hid h
    have HC := Lib.hid (pnum_yes V g a ts 2 1000 N w hs (by decide) hN)
    have HR := Lib.hid (show stepP f .co x ts = .ok (x.num N, ts.tail) by unfold stepP; rw [hN])
    have HNi : Hid (i64 N) := Lib.hid (by
      unfold numP at hN
      split at hN
      · injection hN with hN; injection hN with e _; rw [← e]; exact hs.fine.head.2.2.1
      · cases hN)
    clear h hs hN
    go_enter Tryd.func75, Tryd.ntmps75
    go_wp2_with (go_at_call 61; (with_reducible refine HC.out.mono ?_); rintro e w2 ⟨rfl, s2, g2⟩; have HI2 := Lib.hid (HI.out.step g2 s2); obtain ⟨A, n, c, hb⟩ := HI2.out.box; obtain ⟨⟨c0, c1, c2, c3⟩, f0, f1, f2, f3⟩ := hb.four; clear s2 g2 hb)
    go_end0
    refine PcPost.yes HR.out rfl (HI2.out.set 1 _ (fun _ _ _ => rfl) rfl ?_ HNi.out ?_)
    · obtain ⟨_, _, _, _, A, c, es, hx⟩ := HI.out; exact hx.2.2.2.2.1
    · obtain ⟨_, _, _, _, A, c, es, hx⟩ := HI.out; exact hx.2.2.2.2.2.2.1
  · have HC := Lib.hid (pnum_not V g a ts 2 1000 w hs hN)
    have HR := Lib.hid (show stepP f .co x ts = .error (80, atT ts) by unfold stepP; rw [hN])
    have HG := Lib.hid h.2.2.2.1
    clear h hs hN
    go_enter Tryd.func75, Tryd.ntmps75
    go_wp2_with (go_at_call 61; (with_reducible refine HC.out.mono ?_); rintro e w2 ⟨rfl, g2⟩)
    exact ⟨rfl, PcPost.no HR.out rfl (grown_trans HG.out g2)⟩
set_option maxRecDepth 100000 in
set_option maxHeartbeats 2000000 in
theorem pname_any (V U : World) (g gx a : Nat) (x : Ex) (ts : List Tok) (f : Bool → List Tok → Told Ex) (w : World) (h : InP V U w g gx a x ts) :
    Calls Tryd.prog 40 #[.pointer (some ⟨g, 0, none⟩), .pointer (some ⟨gx, 0, none⟩)] w (PcPost V U g gx a (stepP f .na x ts)) := by
  have hs := h.1
  have HI := Lib.hid h
  have HN := Lib.hid (pnext_any V g a ts w hs)
  obtain ⟨t, ht⟩ : ∃ t, hdT ts = t := ⟨_, rfl⟩
  have hz : t.2.1.length ≤ 100 := by rw [← ht]; exact hs.fine.head.2.2.2.2
  have HA := Lib.hid (show atT ts = t.2.2.2 by unfold atT; rw [ht])
  rw [ht] at HN
  have HV := Lib.hid hs.V
  have HZ := Lib.hid hz
  have hsz : (B t.2.1).size ≤ 9223372036854775807 := by rw [B_size]; omega
  cases hn : isName t.2.1
  · have HR := Lib.hid (show stepP f .na x ts = .error (80, atT ts) by unfold stepP nameP; rw [ht, hn]; rfl)
    have HNm := Lib.hid (show isName (B t.2.1).data.toList = false by rw [B_list]; exact hn)
    clear h hs ht hn hz
    go_enter Tryd.func40, Tryd.ntmps40
    go_wp2_with (first
      | (go_at_call 46; (with_reducible refine HN.out.mono ?_); rintro e w2 ⟨rfl, s2, g2, _⟩; have G2 := Lib.hid g2; have R2 := Lib.hid (HV.out.1.grown g2 (fun k e => by cases e; exact HV.out.2)); have R3 := Lib.hid (R2.out.alloc (.cells #[.int .i64 t.1, .string (B t.2.1), .int .i64 t.2.2.1, .int .i64 t.2.2.2] 65)); have HB := Lib.hid (Bk.new w2 65 #[.int .i64 t.1, .string (B t.2.1), .int .i64 t.2.2.1, .int .i64 t.2.2.2]); clear s2 g2)
      | (go_at_call 55; (with_reducible refine (bool_at false (lname_any (B t.2.1) hsz _ _ R3.out.self) HNm).mono ?_); rintro e w4 ⟨rfl, h4⟩; have H4 := Lib.hid h4; obtain ⟨⟨c0, c1, c2, c3⟩, _⟩ := (HB.out.rel h4).four; clear h4)
      | (go_at_call 45; (with_reducible refine (pwrong_any t _).mono ?_); rintro e w3 ⟨rfl, rfl⟩))
    refine ⟨rfl, PcPost.no HR.out (by rw [HA.out]) (grown_trans HI.out.2.2.2.1 (grown_trans G2.out (grown_rel (some g) ?_)))⟩
    exact (((R2.out.self.alloc _).trans H4.out).alloc _).alloc _
  · have HR := Lib.hid (show stepP f .na x ts = .ok (x.name t.2.1, ts.tail) by unfold stepP nameP; rw [ht, hn]; rfl)
    have HNm := Lib.hid (show isName (B t.2.1).data.toList = true by rw [B_list]; exact hn)
    have HT := Lib.hid (hs.fine.last (.inr (by rw [ht]; rintro e; rw [e] at hn; exact absurd hn (by decide))))
    clear h hs ht hn hz
    go_enter Tryd.func40, Tryd.ntmps40
    go_wp2_with (first
      | (go_at_call 46; (with_reducible refine HN.out.mono ?_); rintro e w2 ⟨rfl, s2, g2, _⟩; have G2 := Lib.hid g2; have R2 := Lib.hid (HV.out.1.grown g2 (fun k e => by cases e; exact HV.out.2)); have R3 := Lib.hid (R2.out.alloc (.cells #[.int .i64 t.1, .string (B t.2.1), .int .i64 t.2.2.1, .int .i64 t.2.2.2] 65)); have HB := Lib.hid (Bk.new w2 65 #[.int .i64 t.1, .string (B t.2.1), .int .i64 t.2.2.1, .int .i64 t.2.2.2]); have S2 := Lib.hid (s2 HT.out); clear s2 g2)
      | (go_at_call 55; (with_reducible refine (bool_at true (lname_any (B t.2.1) hsz _ _ R3.out.self) HNm).mono ?_); rintro e w4 ⟨rfl, h4⟩; have R4 := (R2.out.self.alloc (.cells #[.int .i64 t.1, .string (B t.2.1), .int .i64 t.2.2.1, .int .i64 t.2.2.2] 65)).trans h4; have HI4 := Lib.hid (HI.out.step (grown_trans G2.out (grown_rel (some g) R4)) (S2.out.rel R4)); obtain ⟨A, n, c, hb⟩ := HI4.out.box; obtain ⟨⟨b0, b1, b2, b3⟩, f0, f1, f2, f3⟩ := hb.four; obtain ⟨⟨c0, c1, c2, c3⟩, _⟩ := (HB.out.rel h4).four; clear h4 R4 hb))
    go_end0
    refine PcPost.yes HR.out rfl (HI4.out.set 2 _ (fun _ _ _ => rfl) rfl ?_ ?_ HZ.out)
    · obtain ⟨_, _, _, _, A, c, es, hx⟩ := HI.out; exact hx.2.2.2.2.1
    · obtain ⟨_, _, _, _, A, c, es, hx⟩ := HI.out; exact hx.2.2.2.2.2.1
end Go.Proofs.YtjhjdiaomnpkmaaDoor
