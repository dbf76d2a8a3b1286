/- The walk of the program's spelled. -/
import Derived.Test.YtjbbfcomgglhiaaDoorSpellEnd
import Derived.Deep.RegionHeld3
namespace Go.Proofs.YtjbbfcomgglhiaaDoor
open Go.RowKit
open Go.Lib hiding intOf
set_option linter.unusedVariables false
set_option linter.unusedSimpArgs false
attribute [local go_sem] Oper.semAt_some

theorem heap_new_ne (W : World) (k : Nat) (o : Obj) (h : k < W.heap.size) : (W.alloc o).heap[k]? = W.heap[k]? := Below.heap_alloc W o k h
/-- The one way out: a return. -/
def OnlyRet (R : Act → World → Prop) : Exit → Act → World → Prop
  | .ret, a, w => R a w
  | _, _, _ => False
/-- Behind the last stores. -/
theorem last_stores {W w3 : World} {rb D : Nat} {K : Int} {V : Value} {tx : ByteArray} {b : Bool} {w : World} (hw : w.heap.size = rb) (hr : Rel w W) (hr3 : Rel W w3) (hD : rb + 1 < D) (hDl : D < W.heap.size) (hdef : W.heap[D]? = some (.deferred (some [])))
    (hb : Bk W rb 24 #[.int .i64 0, .slice none 0 0, .string ⟨#[]⟩]) (hc : Boxed W (rb + 1) 4 (.bool false)) :
    ((((w3.setCell ⟨rb, 0, none⟩ (.int .i64 K)).setCell ⟨rb, 1, none⟩ V).setCell ⟨rb, 2, none⟩ (.string tx)).setCell ⟨rb + 1, 0, none⟩ (.bool b)).heap[D]? = some (.deferred (some [])) ∧
    Bk ((((w3.setCell ⟨rb, 0, none⟩ (.int .i64 K)).setCell ⟨rb, 1, none⟩ V).setCell ⟨rb, 2, none⟩ (.string tx)).setCell ⟨rb + 1, 0, none⟩ (.bool b)) rb 24 #[.int .i64 K, V, .string tx] ∧
    Boxed ((((w3.setCell ⟨rb, 0, none⟩ (.int .i64 K)).setCell ⟨rb, 1, none⟩ V).setCell ⟨rb, 2, none⟩ (.string tx)).setCell ⟨rb + 1, 0, none⟩ (.bool b)) (rb + 1) 4 (.bool b) ∧
    Rel w ((((w3.setCell ⟨rb, 0, none⟩ (.int .i64 K)).setCell ⟨rb, 1, none⟩ V).setCell ⟨rb, 2, none⟩ (.string tx)).setCell ⟨rb + 1, 0, none⟩ (.bool b)) := by
  have hc3 : Bk w3 (rb + 1) 4 #[.bool false] := (hr3.2.block _ hc.lt).trans hc
  refine ⟨?_, ((hb.rel hr3).put3 _ _ _).far (p := ⟨rb + 1, 0, none⟩) (by simp) _, ?_, ?_⟩
  · refine (Below.heap_setCell _ ⟨rb + 1, 0, none⟩ _ D (by simp only; omega)).trans ((Below.heap_setCell _ ⟨rb, 2, none⟩ _ D (by simp only; omega)).trans ((Below.heap_setCell _ ⟨rb, 1, none⟩ _ D (by simp only; omega)).trans ((Below.heap_setCell _ ⟨rb, 0, none⟩ _ D (by simp only; omega)).trans ((hr3.2.block D hDl).trans hdef))))
  · exact Boxed.set _ (Bk.far (p := ⟨rb, 2, none⟩) (Bk.far (p := ⟨rb, 1, none⟩) (Bk.far (p := ⟨rb, 0, none⟩) hc3 (by simp) _) (by simp) _) (by simp) _)
  · exact ((((hr.trans hr3).setCell (p := ⟨rb, 0, none⟩) (by simp only; omega) _).setCell (p := ⟨rb, 1, none⟩) (by simp only; omega) _).setCell (p := ⟨rb, 2, none⟩) (by simp only; omega) _).setCell (p := ⟨rb + 1, 0, none⟩) (by simp only; omega) _
theorem row_last {W w3 : World} {rb D b g cap : Nat} {K : Int} {V : Value} {tx : ByteArray} {bb : Bool} {xs : List Int} (hr3 : Rel W w3) (hb : rb + 1 < b) (hDb : D < b) (f : W.ownsRow b 3 1 (.slice (some ⟨g, 0, none⟩) (xs.length + 1) cap) (xs.length + 1) ((K :: xs).map (Value.int .i64))) (A : Option Addr) (hA : A = some ⟨g, 1, none⟩ ∨ xs = []) (o : Obj) :
    NumsOwn (((((w3.setCell ⟨rb, 0, none⟩ (.int .i64 K)).setCell ⟨rb, 1, none⟩ V).setCell ⟨rb, 2, none⟩ (.string tx)).setCell ⟨rb + 1, 0, none⟩ (.bool bb)).putObj D o) A xs := by
  rcases hA with rfl | h
  · refine .inr ⟨g, cap, [K], rfl, ?_⟩
    have hg := (f.lt g rfl).1
    have f1 := own_rel f hr3
    have f2 := own_set (own_set (own_set (own_set f1 (p := ⟨rb, 0, none⟩) (fun e => by injection e with e; simp only at e; omega) (.int .i64 K)) (p := ⟨rb, 1, none⟩) (fun e => by injection e with e; simp only at e; omega) V) (p := ⟨rb, 2, none⟩) (fun e => by injection e with e; simp only at e; omega) (.string tx)) (p := ⟨rb + 1, 0, none⟩) (fun e => by injection e with e; simp only at e; omega) (.bool bb)
    have f3 := own_zero (row_put f2 hDb o)
    have e : ([K] ++ xs).length = xs.length + 1 := by simp
    rw [e]
    exact f3
  · exact .inl h
set_option maxRecDepth 100000 in
set_option maxHeartbeats 8000000 in
theorem spelled_any (l : List UInt8) (hl : l.length ≤ 1000000) (w0 w : World) (hr : Rel w0 w) : Calls Tryd.prog 40 #[.string (B l)] w (SpellPost l w0) := by
  obtain ⟨i0, hi, hz0, hz1, hz2⟩ := info_parts int_info
  have HR := Lib.hid hr
  obtain ⟨h, hh⟩ : ∃ h, h = hd 58 l := ⟨_, rfl⟩
  obtain ⟨t, ht⟩ : ∃ t, t = tl 58 l := ⟨_, rfl⟩
  have hcut := cut_any l (by omega)
  rw [← hh, ← ht] at hcut
  have hhl : h.length ≤ l.length := by rw [hh]; exact hd_le _ _
  have htl : t.length ≤ l.length := by rw [ht]; unfold tl; rw [List.length_drop]; omega
  have HH := Lib.hid hh
  have HT := Lib.hid ht
  have HC := Lib.hid hcut
  clear hh ht hcut hr
  refine (callsIn_wide (n := 6)).1 ?_
  refine callsIn_of_wp_marks Tryd.func40 rfl trivial ?_ rfl
  simp only [Tryd.ntmps40, List.size_toArray, List.length_cons, List.length_nil, Nat.reduceAdd, Nat.reduceSub, Array.replicate_succ, Array.replicate_zero, List.push_toArray, List.append_toArray, List.nil_append, List.cons_append]
  have hR1 := Lib.hid ((HR.out.self.alloc (.cells #[.int .i64 0, .slice none 0 0, .string ⟨#[]⟩] 24)).alloc (.cells #[.bool false] 4))
  have hK0 := (Bk.new w 24 #[.int .i64 0, .slice none 0 0, .string ⟨#[]⟩]).alloc (.cells #[.bool false] 4)
  have hK1 := Boxed.new (w.alloc (.cells #[.int .i64 0, .slice none 0 0, .string ⟨#[]⟩] 24)) 4 (.bool false)
  rw [World.size_alloc] at hK1
  have HK0 := Lib.hid hK0
  have HK1 := Lib.hid hK1
  have hS1 := Lib.hid hR1.out.self
  clear hK0 hK1
  gi_wp2_with (first
    | (refine ⟨trivial, ?_⟩; gi_at_call 43; refine (callsIn_wide.2 (HC.out _ _ hS1.out)).mono ?_; rintro e w1 ⟨⟨cc, rfl⟩, hr1⟩)
    | (refine ⟨trivial, ?_⟩; gi_at_call 44; refine (callsIn_wide.2 (seq_any (B h) _)).mono ?_; rintro e w2 ⟨rfl, rfl⟩))
  rename_i K0 a0
  have hz : w.heap.size + 2 ≤ w1.heap.size := by have := hr1.size; simp only [World.size_alloc] at this; omega
  have k0 := HK0.out.rel hr1
  have k1 : Boxed w1 (w.heap.size + 1) 4 (.bool false) := (hr1.2.block _ HK1.out.lt).trans HK1.out
  have kn := (((Boxed.new w1 22 (.slice none 0 0)).alloc (.cells #[.string (B h)] 9)).alloc (.cells #[.string ⟨#[32]⟩] 9)).alloc (.cells #[.int .i64 0] 3)
  have ks := ((Boxed.new (w1.alloc (.cells #[.slice none 0 0] 22)) 9 (.string (B h))).alloc (.cells #[.string ⟨#[32]⟩] 9)).alloc (.cells #[.int .i64 0] 3)
  have kp := (Boxed.new ((w1.alloc (.cells #[.slice none 0 0] 22)).alloc (.cells #[.string (B h)] 9)) 9 (.string ⟨#[32]⟩)).alloc (.cells #[.int .i64 0] 3)
  have kz := Boxed.new (((w1.alloc (.cells #[.slice none 0 0] 22)).alloc (.cells #[.string (B h)] 9)).alloc (.cells #[.string ⟨#[32]⟩] 9)) 3 (.int .i64 0)
  have k0' := (((k0.alloc (.cells #[.slice none 0 0] 22)).alloc (.cells #[.string (B h)] 9)).alloc (.cells #[.string ⟨#[32]⟩] 9)).alloc (.cells #[.int .i64 0] 3)
  have k1' := (((k1.alloc (.cells #[.slice none 0 0] 22)).alloc (.cells #[.string (B h)] 9)).alloc (.cells #[.string ⟨#[32]⟩] 9)).alloc (.cells #[.int .i64 0] 3)
  have hr2 := ((((hR1.out.trans hr1).alloc (.cells #[.slice none 0 0] 22)).alloc (.cells #[.string (B h)] 9)).alloc (.cells #[.string ⟨#[32]⟩] 9)).alloc (.cells #[.int .i64 0] 3)
  simp only [World.size_alloc] at kn ks kp kz
  have hsz : ((((w1.alloc (.cells #[.slice none 0 0] 22)).alloc (.cells #[.string (B h)] 9)).alloc (.cells #[.string ⟨#[32]⟩] 9)).alloc (.cells #[.int .i64 0] 3)).heap.size = w1.heap.size + 4 := by simp only [World.size_alloc]
  obtain ⟨W2, hW2⟩ : ∃ W2, (((w1.alloc (.cells #[.slice none 0 0] 22)).alloc (.cells #[.string (B h)] 9)).alloc (.cells #[.string ⟨#[32]⟩] 9)).alloc (.cells #[.int .i64 0] 3) = W2 := ⟨_, rfl⟩
  rw [hW2] at kn ks kp kz k0' k1' hr2 hsz ⊢
  obtain ⟨N, hN⟩ : ∃ N, w1.heap.size = N := ⟨_, rfl⟩
  rw [hN] at hz hsz kn ks kp kz ⊢
  clear hW2 hN k0 k1 hr1
  have HKS := Lib.hid (And.intro k0' (And.intro k1' (And.intro kn hr2)))
  have hD : W2.heap.size + 2 = N + 6 := by omega
  clear k0' k1' kn hr2
  refine wpIn_split (n := 6) (by omega) (N + 1 + 1) (N + 1) (N + 1 + 1 + 1) rfl rfl h (by omega) (by omega) (by omega) ks kp kz (SpellI w W2.heap.size w.heap.size N (N + 1)) (SpellX w w.heap.size h) ?Is ?Il ?Ixl ?h0
    (fun x => { tmps := #[.string (B l), undef, .pointer (some ⟨w.heap.size, 0, none⟩), .pointer (some ⟨w.heap.size + 1, 0, none⟩), .string (B h), .string (B t), .bool cc, .pointer (some ⟨N, 0, none⟩), .string (B x), undef, undef,
      .tuple #[.string (B h), .string (B t), .bool cc], .string (B l), .tuple #[.string (B h), .string (B t), .bool cc], .string (B h), .string (B t), .bool cc, .string (B h),
      .func (.func 58) #[] #[.pointer (some ⟨N + 1 + 1, 0, none⟩), .pointer (some ⟨N + 1, 0, none⟩), .pointer (some ⟨N + 1 + 1 + 1, 0, none⟩)], .string (B x), undef, undef, undef, undef, undef, undef, undef, undef, undef, undef, undef, undef, undef, undef, undef, undef, undef, undef, undef, undef], defers := [] })
    ?assign ?body ?done ?stop
  case Is => exact fun pre W u hI => hI.set (by omega) (by omega) (by omega) (by omega) (by omega) _
  case Il => exact fun pre W o hI => hI.put (by omega) (by omega) (by omega) o
  case Ixl => exact fun W o hI => hI.put (by omega) (by omega) o
  case h0 =>
    intro o o'
    obtain ⟨a, b, c, d⟩ := HKS.out
    exact ⟨(d.alloc o).alloc o', (a.alloc o).alloc o', (b.alloc o).alloc o', .slice none 0 0, [], rfl, (c.alloc o).alloc o', World.ownsRow_nil _ _ _ _⟩
  case assign =>
    intro l' x W K hK
    gi_wp2
    exact hK
  case body =>
    rintro l' pre x W ⟨a, b, c, v, ns, d, e, f⟩ ⟨rest, hrest⟩ ⟨s, hs⟩ hlt
    have hln := flds_len h.length h (Nat.le_refl _)
    have hpl : pre.length + 1 ≤ h.length + 1 := by have := congrArg List.length hrest; rw [List.length_append, List.length_cons] at this; omega
    have hxl := flds_part h.length h (Nat.le_refl _) x (by rw [hrest]; simp)
    have hnl : ns.length ≤ h.length := by have := d.len; omega
    have ec := e.cell
    have hown0 : ∀ k, v.ownBlock = some k → W2.heap.size + 2 ≤ k := fun k hk => (f.lt k hk).1
    have HS := Lib.hid a.self
    have HB := Lib.hid b
    have HCc := Lib.hid c
    have HE := Lib.hid e
    have HF := Lib.hid f
    have HO := Lib.hid hown0
    have HX := Lib.hid hrest
    clear b c e f hown0 hrest hs
    by_cases hv : ∃ u, atoiAll x = .ok u
    · obtain ⟨u, hu⟩ := hv
      have hR4 := d.more hu
      gi_wp2_with (first
        | (refine ⟨trivial, ?_⟩; gi_at_call 45; refine (CallsIn.inRound l' (callsIn_wide.2 (atoi_yes x (by omega) u hu _ _ HS.out))).mono ?_; rintro e' w3 ⟨rfl, hr3⟩; have hb3 : Boxed w3 N 22 v := (hr3.2.block _ HE.out.lt).trans HE.out; have hc3 := hb3.cell; have hz3 := hr3.size)
        | (gi_at_builtin; refine wpListIn_append_own _ rfl _ _ 22 rfl (W2.heap.size + 2) 3 i0 (.int .i64 0) 1 8 Tryd.underlying22 hi hz0 hz1 hz2 rfl (by decide) _ _ _ rfl ((own_rel HF.out hr3).alloc _) ⟨w3.heap.size, 0, none⟩ 1 1 [.int .i64 u] rfl rfl (cell_one_new _ _ _) (one_cell u) (by unfold maxLen; omega) (by omega) (by simp; omega) ?_; intro v' w4 hown' hgrow _; obtain ⟨g', cap', rfl⟩ := ownsRow_succ hown'; have hb4 : Boxed w4 N 22 v := (hgrow.block N (by simp; have := hb3.lt; omega) (fun e => by have := HO.out _ e.symm; omega)).trans ((heap_new_ne _ _ _ hb3.lt).trans hb3); have hc4 := hb4.cell; have hf4 := hb4.frozen))
      have hk : ∀ k, k < W2.heap.size + 2 → k ≠ N → (w4.setCell ⟨N, 0, none⟩ (.slice (some ⟨g', 0, none⟩) (ns.length + 1) cap')).heap[k]? = W.heap[k]? := fun k h1 h2 =>
        (heap_set_ne _ _ _ _ h2).trans ((hgrow.block k (by simp; omega) (fun e => by have := HO.out _ e.symm; omega)).trans ((heap_new_ne _ _ _ (by omega)).trans (hr3.2.block k (by omega))))
      refine ⟨⟨hk _ (by omega) (by omega), hk _ (by omega) (by omega), hk _ (by omega) (by omega), hk _ (by omega) (by omega), hk _ (by omega) (by omega)⟩, ?_, (hk _ (by omega) (by omega)).trans HB.out, (hk _ (by omega) (by omega)).trans HCc.out, _, ns ++ [u], hR4, hb4.set _, ?_⟩
      · exact ((((a.trans hr3).alloc _).grown hgrow (fun k hk => by have := HO.out k hk; omega)).setCell (p := ⟨N, 0, none⟩) (by simp only; omega) _)
      · have := row_set (k := N) hown' (by omega) (.slice (some ⟨g', 0, none⟩) (ns.length + 1) cap')
        simpa using this
    · have hno : ∀ u, atoiAll x ≠ .ok u := fun u hu => hv ⟨u, hu⟩
      gi_wp2_with (first
        | (refine ⟨trivial, ?_⟩; gi_at_call 45; refine (CallsIn.inRound l' (callsIn_wide.2 (atoi_no x (by omega) hno _ _ HS.out))).mono ?_; rintro e' w3 ⟨vv, tt, pp, rfl, hr3⟩; obtain ⟨⟨g0, g1, g2⟩, f0, f1, f2⟩ := (HB.out.rel hr3).three; have hb3 : Boxed w3 (w.heap.size + 1) 4 (.bool false) := (hr3.2.block _ HCc.out.lt).trans HCc.out; have hc3 := hb3.cell; have hf3 := hb3.frozen; have hz3 := hr3.size))
      have hk : ∀ k, k < W.heap.size → k ≠ w.heap.size → k ≠ w.heap.size + 1 → ((((w3.setCell ⟨w.heap.size, 0, none⟩ (.int .i64 0)).setCell ⟨w.heap.size, 1, none⟩ (.slice none 0 0)).setCell ⟨w.heap.size, 2, none⟩ (.string ⟨#[]⟩)).setCell ⟨w.heap.size + 1, 0, none⟩ (.bool false)).heap[k]? = W.heap[k]? := fun k h1 h2 h3 =>
        (Below.heap_setCell _ ⟨w.heap.size + 1, 0, none⟩ _ k h3).trans ((Below.heap_setCell _ ⟨w.heap.size, 2, none⟩ _ k h2).trans ((Below.heap_setCell _ ⟨w.heap.size, 1, none⟩ _ k h2).trans ((Below.heap_setCell _ ⟨w.heap.size, 0, none⟩ _ k h2).trans (hr3.2.block k h1))))
      have hb5 := Bk.far (p := ⟨w.heap.size, 2, none⟩) (Bk.far (p := ⟨w.heap.size, 1, none⟩) (Bk.far (p := ⟨w.heap.size, 0, none⟩) (show Bk w3 (w.heap.size + 1) 4 #[.bool false] from hb3) (by simp) (.int .i64 0)) (by simp) (.slice none 0 0)) (by simp) (.string ⟨#[]⟩)
      refine ⟨⟨hk _ (by omega) (by omega) (by omega), hk _ (by omega) (by omega) (by omega), hk _ (by omega) (by omega) (by omega), hk _ (by omega) (by omega) (by omega), hk _ (by omega) (by omega) (by omega)⟩, ?_, ((HB.out.rel hr3).put3 _ _ _).far (p := ⟨w.heap.size + 1, 0, none⟩) (by simp) _, Boxed.set _ hb5, x, by rw [HX.out]; simp, hno⟩
      exact ((((a.trans hr3).setCell (p := ⟨w.heap.size, 0, none⟩) (Nat.le_refl _) _).setCell (p := ⟨w.heap.size, 1, none⟩) (Nat.le_refl _) _).setCell (p := ⟨w.heap.size, 2, none⟩) (Nat.le_refl _) _).setCell (p := ⟨w.heap.size + 1, 0, none⟩) (by simp) _
  case done =>
    rintro W ⟨a, b, c, v, ns, d, e, f⟩ hdef
    have hln := flds_len h.length h (Nat.le_refl _)
    have hnl := d.len
    obtain ⟨K, xs, rfl⟩ : ∃ K xs, ns = K :: xs := by
      cases ns with
      | nil => rw [List.length_nil] at hnl; omega
      | cons K xs => exact ⟨K, xs, rfl⟩
    have hxl : xs.length ≤ l.length := by rw [List.length_cons] at hnl; omega
    clear hnl
    rw [List.length_cons] at f
    obtain ⟨g, cap, rfl⟩ := ownsRow_succ f
    have c0 : W.cell? ⟨g, 0, none⟩ = some (.int .i64 K) := f.cells (g := g) rfl 0 _ rfl
    have cN := e.cell
    obtain ⟨⟨g0, g1, g2⟩, f0, f1, f2⟩ := b.three
    have q0 := c.cell
    have q1 := c.frozen
    have HF := Lib.hid f
    have HB := Lib.hid b
    have HCb := Lib.hid c
    have HDf := Lib.hid hdef
    have HA := Lib.hid a
    have HS := Lib.hid a.self
    have HRd := Lib.hid d
    have hW := Lib.hid a.size
    clear f b c hdef a d hln
    show K0 _ W
    refine a0 _ _ ?_
    refine (wpIn_wide (n := 6)).2 (wp_mono (Q := OnlyRet (bodyPostM Fence.wide 6 Tryd.prog Tryd.f40 (SpellPost l w0) .ret)) ?_ (fun e a w hq => by cases e <;> first | exact hq | exact hq.elim))
    have hg : W2.heap.size + 2 ≤ g := (HF.out.lt g rfl).1
    have hD4 : W2.heap.size = N + 4 := hsz
    have hlt4 : N + 4 < W.heap.size := by
      rcases Nat.lt_or_ge (N + 4) W.heap.size with h' | h'
      · exact h'
      · have h9 := HDf.out
        rw [hD4, Array.getElem?_eq_none h'] at h9
        cases h9
    have nN : ∀ i j, (⟨w.heap.size + i, j, none⟩ : Addr) ≠ ⟨N, 0, none⟩ ∨ 2 ≤ i := fun i j => by
      by_cases h2 : 2 ≤ i
      · exact .inr h2
      · refine .inl fun e => ?_
        injection e with e; omega
    have hcap : xs.length + 1 ≤ cap := by
      rcases HF.out.2 with ⟨h0, _⟩ | ⟨g', cap', cur, h0, _, _, h1, _⟩
      · cases h0
      · injection h0 with _ _ h0; omega
    by_cases hc2 : cap = 1
    · subst hc2
      obtain rfl : xs = [] := List.eq_nil_of_length_eq_zero (by omega)
      simp only [List.length_nil] at *
      go_wp2_with (fail)
      go_region_held3 (fun w' => w'.cell? ⟨N, 0, none⟩ = some (.slice (some ⟨g, 0, none⟩) 1 1) ∧ w'.cell? ⟨g, 0, none⟩ = some (.int .i64 K))
      (first
        | go_keep
        | exact ⟨N3, c3⟩
        | (go_split_ands
           refine ⟨?_, ?_⟩
           · (repeat rw [World.cell?_setCell_other _ _ _ _ (fun e => by have := congrArg Addr.block e; simp only at this; omega)])
             assumption
           · (repeat rw [World.cell?_setCell_other _ _ _ _ (fun e => by have := congrArg Addr.block e; simp only at this; omega)])
             assumption))
      ((go_at_call 46; (with_reducible refine (clone_any (B t) (by rw [B_size]; omega) _ _ HS.out.drew).mono ?_); rintro e3 w3 ⟨rfl, hr3⟩; obtain ⟨⟨g3, g4, g5⟩, f3, f4, f5⟩ := (HB.out.rel hr3).three; have C3 : Boxed w3 (w.heap.size + 1) 4 (.bool false) := (hr3.2.block _ HCb.out.lt).trans HCb.out; have q3 := C3.cell; have q4 := C3.frozen; have N3 := (hr3.2.cell (p := ⟨N, 0, none⟩) (blk_of_cell cN)).trans cN; have c3 := (hr3.2.cell (p := ⟨g, 0, none⟩) (blk_of_cell c0)).trans c0))
      all_goals
        go_wp2_with (fail)
        obtain ⟨L1, L2, L3, L4⟩ := last_stores (K := K) (V := (.slice (some ⟨g, 0, none⟩) 0 0)) (tx := B t) (b := true) rfl HA.out hr3 (by omega) hlt4 (by rw [← hD4]; exact HDf.out) HB.out HCb.out
        refine spell_end rfl rfl rfl (by omega) L1 L2 L3 ?_
        refine ⟨K, _, _, [], B t, true, rfl, HR.out.trans (rel_put L4 (by omega) _), row_last hr3 (by omega) (by omega) HF.out _ (.inr rfl) _, by simp only [List.length_nil]; omega, by rw [B_size]; omega, fun r hr1 hr2 => ⟨rfl, ?_⟩⟩
        rw [B_list, HT.out]
        exact red_yes (by rw [← HH.out]; exact HRd.out) r hr1 hr2
    have hc3 : 2 ≤ cap := by omega
    have q1 : (1 : Int) ≤ (xs.length : Int) + 1 := by omega
    have q2 : (1 : Int) ≤ ((xs.length + 1 : Nat) : Int) := by omega
    have q3 : decide (cap = 1) = false := decide_eq_false hc2
    have q4 : (cap == 1) = false := beq_eq_false_iff_ne.2 hc2
    go_wp2_with (fail)
    go_region_held3 (fun w' => w'.cell? ⟨N, 0, none⟩ = some (.slice (some ⟨g, 0, none⟩) (xs.length + 1) cap) ∧ w'.cell? ⟨g, 0, none⟩ = some (.int .i64 K))
      (first
        | go_keep
        | exact ⟨N3, c3⟩
        | (go_split_ands
           refine ⟨?_, ?_⟩
           · (repeat rw [World.cell?_setCell_other _ _ _ _ (fun e => by have := congrArg Addr.block e; simp only at this; omega)])
             assumption
           · (repeat rw [World.cell?_setCell_other _ _ _ _ (fun e => by have := congrArg Addr.block e; simp only at this; omega)])
             assumption))
      ((go_at_call 46; (with_reducible refine (clone_any (B t) (by rw [B_size]; omega) _ _ HS.out.drew).mono ?_); rintro e3 w3 ⟨rfl, hr3⟩; obtain ⟨⟨g3, g4, g5⟩, f3, f4, f5⟩ := (HB.out.rel hr3).three; have C3 : Boxed w3 (w.heap.size + 1) 4 (.bool false) := (hr3.2.block _ HCb.out.lt).trans HCb.out; have q3 := C3.cell; have q4 := C3.frozen; have N3 := (hr3.2.cell (p := ⟨N, 0, none⟩) (blk_of_cell cN)).trans cN; have c3 := (hr3.2.cell (p := ⟨g, 0, none⟩) (blk_of_cell c0)).trans c0))
    all_goals
      go_wp2_with (fail)
      obtain ⟨L1, L2, L3, L4⟩ := last_stores (K := K) (V := (.slice (some ⟨g, 1, none⟩) xs.length (cap - 1))) (tx := B t) (b := true) rfl HA.out hr3 (by omega) hlt4 (by rw [← hD4]; exact HDf.out) HB.out HCb.out
      refine spell_end rfl rfl rfl (by omega) L1 L2 L3 ?_
      refine ⟨K, _, _, xs, B t, true, rfl, HR.out.trans (rel_put L4 (by omega) _), row_last hr3 (by omega) (by omega) HF.out _ (.inl rfl) _, by omega, by rw [B_size]; omega, fun r hr1 hr2 => ⟨rfl, ?_⟩⟩
      rw [B_list, HT.out]
      exact red_yes (by rw [← HH.out]; exact HRd.out) r hr1 hr2
  case stop =>
    rintro W ⟨a, b, c, x, hx, hno⟩ hdef
    gi_wp2
    refine spell_end rfl rfl rfl (by omega) hdef b c ?_
    refine ⟨0, none, 0, [], ⟨#[]⟩, false, rfl, HR.out.trans (rel_put a (by omega) _), .inl rfl, Nat.zero_le _, Nat.zero_le _, fun r hr1 hr2 => absurd hr2 (red_no (by rw [← HH.out]; exact hx) hno r hr1)⟩
end Go.Proofs.YtjbbfcomgglhiaaDoor
