/- The law's Strategy. -/
import Derived.Test.YtlflfffjaodhpaaDoorTreeExprB
namespace Go.Proofs.YtlflfffjaodhpaaDoor
open Go.RowKit Go.Lib
set_option linter.unusedVariables false
set_option linter.unusedSimpArgs false

theorem expr_all : ∀ d, d ≤ 10 → ExprAt d := by
  intro d
  induction d with
  | zero =>
    intro _ c L g w0 w hr hg hs
    cases c with
    | true => exact expr_cond 0 (by omega) (fun d' h => by omega) L g w0 w hr hg hs
    | false => exact expr_tree 0 (by omega) (fun d' h => by omega) L g w0 w hr hg hs
  | succ d ih =>
    intro hd c L g w0 w hr hg hs
    have H : ∀ d', d + 1 = d' + 1 → ExprAt d' := fun d' h => by
      have : d' = d := by omega
      subst this; exact ih (by omega)
    cases c with
    | true => exact expr_cond (d + 1) hd H L g w0 w hr hg hs
    | false => exact expr_tree (d + 1) hd H L g w0 w hr hg hs
theorem expr5 (L : List Int) (x : Ex) (L' : List Int) (hx : Hid (gen 5 false L = (x, L'))) (g : Nat) (w0 w : World) (hr : Rel w0 w) (hg : w0.heap.size ≤ g) (hs : SrcAt w g L) :
    Calls Tryd.prog 26 #[.pointer (some ⟨g, 0, none⟩), .int .i64 5, .bool false] w fun e w' => ∃ v : El, e = .returned (EV v) ∧ ExAt (fun k => w.heap.size ≤ k) w' v x ∧ SrcAt w' g L' ∧ w.grownBy w' (some g) :=
  expr_as (d := 4) (expr_all 4 (by omega)) false L x L' hx g w0 w hr hg hs
/-- Raw numbers as an argument. -/
def IntsIn (w : World) (A : Option Addr) (c : Nat) (L : List Int) : Prop := L.length ≤ c ∧ c ≤ maxLen ∧ (∀ z ∈ L, i64 z) ∧ ∀ i (h : i < L.length), ∃ a : Addr, A = some a ∧ a.block < w.heap.size ∧ w.cell? (a.add i) = some (.int .i64 L[i])
theorem IntsIn.rel {w w' : World} {A : Option Addr} {c : Nat} {L : List Int} (h : IntsIn w A c L) (hr : Rel w w') : IntsIn w' A c L := by
  obtain ⟨h1, h2, h3, h4⟩ := h
  refine ⟨h1, h2, h3, fun i hi => ?_⟩
  obtain ⟨a, e, hl, hc⟩ := h4 i hi
  have := hr.size
  exact ⟨a, e, by omega, (hr.2.cell (p := a.add i) (by rw [block_add]; exact hl)).trans hc⟩
set_option maxHeartbeats 2000000 in
theorem strat_any (A : Option Addr) (c : Nat) (L : List Int) (w0 w : World) (hr : Rel w0 w) (h : IntsIn w A c L) :
    Calls Tryd.prog 10 #[.slice A L.length c] w fun e w' => ∃ v : El, e = .returned (EV v) ∧ ExAt (fun k => w.heap.size ≤ k) w' v (strat L) ∧ Rel w0 w' := by
  have HR := Lib.hid hr
  have HS := Lib.hid hr.self
  have HB := Lib.hid (Bk.new w 26 #[.int .i64 0, .int .i64 0, .string ⟨#[]⟩, .slice none 0 0])
  have h1 := h.1
  have h2 := h.2.1
  have HI := Lib.hid h
  have key : ∀ (L' : List Int) (c' : Nat), IntsIn w A c' L' → Hid (SrcAt ((w.alloc (.cells #[.int .i64 0, .int .i64 0, .string ⟨#[]⟩, .slice none 0 0] 26)).alloc (.cells #[.slice A L'.length c'] 46)) (w.heap.size + 1) L') := fun L' c' hi => Lib.hid ⟨A, c', Bk.snd w _ _ _ _, hi.1, hi.2.1, hi.2.2.1, fun i hi' => by
    obtain ⟨a, e, hl, hc⟩ := hi.2.2.2 i hi'
    exact ⟨a, e, by omega, (((HS.out.alloc _).alloc _).2.cell (p := a.add i) (by rw [block_add]; exact hl)).trans hc⟩⟩
  by_cases hl : L.length ≤ 100
  · have HSr := key L c h
    obtain ⟨⟨x, L3⟩, hx⟩ : ∃ p, gen 5 false L = p := ⟨_, rfl⟩
    have HX := Lib.hid hx
    have HF := Lib.hid (show strat L = x by unfold strat; rw [List.take_of_length_le hl, hx])
    have HRW := Lib.hid ((HS.out.alloc (.cells #[.int .i64 0, .int .i64 0, .string ⟨#[]⟩, .slice none 0 0] 26)).alloc (.cells #[.slice A L.length c] 46))
    have HB1 := Lib.hid (HB.out.alloc (.cells #[.slice A L.length c] 46))
    have hzz : ((w.alloc (.cells #[.int .i64 0, .int .i64 0, .string ⟨#[]⟩, .slice none 0 0] 26)).alloc (.cells #[.slice A L.length c] 46)).heap.size = w.heap.size + 2 := by rw [World.size_alloc, World.size_alloc]
    have HZ := Lib.hid hzz
    have hlen : (L.length : Int) ≤ 100 := by omega
    clear key h hx hzz
    go_enter Tryd.func10, Tryd.ntmps10
    go_wp2_with (go_at_call 26; (with_reducible refine (expr5 L x L3 HX (w.heap.size + 1) _ _ HRW.out (by omega) HSr.out).mono ?_); rintro e w2 ⟨vx, rfl, ex, s2, g2⟩; obtain ⟨⟨c0, c1, c2, c3⟩, f0, f1, f2, f3⟩ := (HB1.out.grown g2 (fun e => by injection e; omega)).four)
    have gp := put4_grown w2 w.heap.size (.int .i64 vx.1) (.int .i64 vx.2.1) (.string (B vx.2.2.1)) (.slice vx.2.2.2.1 vx.2.2.2.2.1 vx.2.2.2.2.2)
    obtain ⟨⟨t0, t1, t2, t3⟩, _⟩ := ((HB1.out.grown g2 (fun e => by injection e; omega)).put4 (.int .i64 vx.1) (.int .i64 vx.2.1) (.string (B vx.2.2.1)) (.slice vx.2.2.2.1 vx.2.2.2.2.1 vx.2.2.2.2.2)).four
    have hz2 := g2.size
    have hz := HZ.out
    refine bodyPost_ret (v := EV vx) (by simp [results, Tryd.results10, go_sem, t0, t1, t2, t3]) rfl ⟨vx, rfl, ?_, ?_⟩
    · rw [HF.out]; exact ex.grown gp (fun q hq => ⟨by omega, fun e => by injection e; omega⟩)
    · exact HR.out.trans (Rel.grown (Rel.grown HRW.out g2 (fun k e => by cases e; omega)) gp (fun k e => by cases e; exact Nat.le_refl _))
  · have e100 : (L.take 100).length = 100 := by rw [List.length_take]; omega
    have HSr := key (L.take 100) c ⟨by omega, h2, fun z hz => h.2.2.1 z (List.mem_of_mem_take hz), fun i hi => by
      obtain ⟨a, e, hl, hc⟩ := h.2.2.2 i (by rw [List.length_take] at hi; omega)
      exact ⟨a, e, hl, by rw [List.getElem_take]; exact hc⟩⟩
    rw [e100] at HSr
    obtain ⟨⟨x, L3⟩, hx⟩ : ∃ p, gen 5 false (L.take 100) = p := ⟨_, rfl⟩
    have HX := Lib.hid hx
    have HF := Lib.hid (show strat L = x by unfold strat; rw [hx])
    have HRW := Lib.hid ((HS.out.alloc (.cells #[.int .i64 0, .int .i64 0, .string ⟨#[]⟩, .slice none 0 0] 26)).alloc (.cells #[.slice A 100 c] 46))
    have HB1 := Lib.hid (HB.out.alloc (.cells #[.slice A 100 c] 46))
    have hzz : ((w.alloc (.cells #[.int .i64 0, .int .i64 0, .string ⟨#[]⟩, .slice none 0 0] 26)).alloc (.cells #[.slice A 100 c] 46)).heap.size = w.heap.size + 2 := by rw [World.size_alloc, World.size_alloc]
    have HZ := Lib.hid hzz
    have hlen : (100 : Int) < (L.length : Int) := by omega
    clear key h hx hzz
    go_enter Tryd.func10, Tryd.ntmps10
    go_wp2_with (go_at_call 26; (with_reducible refine (expr5 (L.take 100) x L3 HX (w.heap.size + 1) _ _ HRW.out (by omega) HSr.out).mono ?_); rintro e w2 ⟨vx, rfl, ex, s2, g2⟩; obtain ⟨⟨c0, c1, c2, c3⟩, f0, f1, f2, f3⟩ := (HB1.out.grown g2 (fun e => by injection e; omega)).four)
    have gp := put4_grown w2 w.heap.size (.int .i64 vx.1) (.int .i64 vx.2.1) (.string (B vx.2.2.1)) (.slice vx.2.2.2.1 vx.2.2.2.2.1 vx.2.2.2.2.2)
    obtain ⟨⟨t0, t1, t2, t3⟩, _⟩ := ((HB1.out.grown g2 (fun e => by injection e; omega)).put4 (.int .i64 vx.1) (.int .i64 vx.2.1) (.string (B vx.2.2.1)) (.slice vx.2.2.2.1 vx.2.2.2.2.1 vx.2.2.2.2.2)).four
    have hz2 := g2.size
    have hz := HZ.out
    refine bodyPost_ret (v := EV vx) (by simp [results, Tryd.results10, go_sem, t0, t1, t2, t3]) rfl ⟨vx, rfl, ?_, ?_⟩
    · rw [HF.out]; exact ex.grown gp (fun q hq => ⟨by omega, fun e => by injection e; omega⟩)
    · exact HR.out.trans (Rel.grown (Rel.grown HRW.out g2 (fun k e => by cases e; omega)) gp (fun k e => by cases e; exact Nat.le_refl _))
end Go.Proofs.YtlflfffjaodhpaaDoor
