/- A loop over SplitSeq: from the iterator's contract and one walk of the body. -/
import Derived.Test.YtjbbfcomgglhiaaDoorSplitSeq
namespace Go.Proofs.YtjbbfcomgglhiaaDoor
open Go.RowKit
open Go.Lib hiding intOf
set_option linter.unusedVariables false
set_option linter.unusedSimpArgs false
attribute [local go_sem] Oper.semAt_some

/-- These five blocks lie as they lay. -/
def Five (a b c d e : Nat) (W W' : World) : Prop := W'.heap[a]? = W.heap[a]? ∧ W'.heap[b]? = W.heap[b]? ∧ W'.heap[c]? = W.heap[c]? ∧ W'.heap[d]? = W.heap[d]? ∧ W'.heap[e]? = W.heap[e]?
/-- How the body of a round may be left. -/
def roundEnds (a b c d e : Nat) (I : World → Prop) (Ix : World → Prop) (W : World) : Exit → Act → World → Prop
  | .normal, _, W' => Five a b c d e W W' ∧ I W'
  | .ret, _, W' => Five a b c d e W W' ∧ Ix W'
  | .exit _, _, _ => False
  | .goto _, _, _ => False
  | .panic _, _, _ => False
  | .outgrown, _, _ => False
theorem heap_set_ne (W : World) (b k : Nat) (u : Value) (h : k ≠ b) : (W.setCell ⟨b, 0, none⟩ u).heap[k]? = W.heap[k]? := Below.heap_setCell W ⟨b, 0, none⟩ u k h

theorem wpIn_split {n : Nat} {g : Operand} {ps : Array Tmp} {assign body : Code} {Q : Exit → Act → World → Prop} {a : Act} {w : World} (h1 : 2 ≤ n) (bp bs bz : Nat)
    (hg : a.eval g = .func (.func 58) #[] #[.pointer (some ⟨bp, 0, none⟩), .pointer (some ⟨bs, 0, none⟩), .pointer (some ⟨bz, 0, none⟩)]) (hps : ps.size = 1) (xs : List UInt8) (hxs : xs.length ≤ 1000000000)
    (hnp : bp ≠ bs) (hnz : bz ≠ bs) (hbs : Boxed w bs 9 (.string (B xs))) (hbp : Boxed w bp 9 (.string ⟨#[32]⟩)) (hbz : Boxed w bz 3 (.int .i64 0))
    (I : List (List UInt8) → World → Prop) (Ix : World → Prop)
    (hIs : ∀ pre W u, I pre W → I pre (W.setCell ⟨bs, 0, none⟩ (.string u))) (hIl : ∀ pre W o, I pre W → I pre (W.putObj (w.heap.size + 1) o)) (hIxl : ∀ W o, Ix W → Ix (W.putObj (w.heap.size + 1) o))
    (h0 : ∀ o o', I [] ((w.alloc o).alloc o')) (a₁ : List UInt8 → Act)
    (hassign : ∀ (l : Nat) (x : List UInt8) (W : World) (K : Act → World → Prop), K (a₁ x) W →
      assign.wpIn (Fence.wide.inRound l) (n - 1 - 1) Tryd.prog (Exit.then K (fun _ _ _ => False)) { tmps := (ps.zip #[.string (B x)]).foldl (fun t (p, v) => t.setIfInBounds p v) a.tmps, defers := [] } W)
    (hbody : ∀ (l : Nat) (pre : List (List UInt8)) (x : List UInt8) (W : World), I pre W → (∃ rest, flds xs = pre ++ x :: rest) → (∃ s, Boxed W bs 9 s) → w.heap.size + 1 < W.heap.size →
      body.wpIn (Fence.wide.inRound l) (n - 1 - 1) Tryd.prog (roundEnds bs bp bz w.heap.size (w.heap.size + 1) (I (pre ++ [x])) Ix W) (a₁ x) W)
    (hdone : ∀ W, I (flds xs) W → W.heap[w.heap.size]? = some (.deferred (some [])) → Q .normal { a with defers := { target := .collected w.heap.size, args := #[] } :: a.defers } W)
    (hstop : ∀ W, Ix W → W.heap[w.heap.size]? = some (.deferred (some [])) → Code.ret.wpIn Fence.wide n Tryd.prog Q { a with defers := { target := .collected w.heap.size, args := #[] } :: a.defers } W) :
    (Code.rangeFunc g ps assign body).wpIn Fence.wide n Tryd.prog Q a w := by
  have ls := hbs.lt
  have lp := hbp.lt
  have lz := hbz.lt
  refine wpIn_rangeFunc ?_
  intro fn _
  obtain ⟨D, hD⟩ : ∃ D, D = w.heap.size := ⟨_, rfl⟩
  obtain ⟨mk, hmk⟩ : ∃ mk : LoopState → Option Code → Loop, mk = fun st pe => { state := st, pending := pe, fn, tmps := a.tmps, params := ps, assign, body, defers := w.heap.size } := ⟨_, rfl⟩
  obtain ⟨W1, hW1⟩ : ∃ W1, (w.alloc (.deferred (some []))).alloc (.loop (mk .ready none)) = W1 := ⟨_, rfl⟩
  have hL1 : W1.heap[D + 1]? = some (.loop (mk .ready none)) := by
    rw [← hW1, hD]
    have := World.alloc_heap_new (w.alloc (.deferred (some []))) (.loop (mk .ready none))
    rwa [World.size_alloc] at this
  have hK1 : W1.heap[D]? = some (.deferred (some [])) := by
    rw [← hW1, hD]; exact (Below.heap_alloc _ _ _ (by simp)).trans (World.alloc_heap_new w _)
  have hI1 : I [] W1 := by rw [← hW1]; exact h0 _ _
  rw [← hD] at hIl hIxl hbody hdone hstop ls lp lz
  refine ⟨D + 1, [{ target := .collected D, args := #[] }], W1, { target := .fn (.func 58) #[.pointer (some ⟨bp, 0, none⟩), .pointer (some ⟨bs, 0, none⟩), .pointer (some ⟨bz, 0, none⟩)], args := #[.func (.yield (D + 1)) #[] #[]] }, W1, 58,
    #[.func (.yield (D + 1)) #[] #[]] ++ #[.pointer (some ⟨bp, 0, none⟩), .pointer (some ⟨bs, 0, none⟩), .pointer (some ⟨bz, 0, none⟩)], W1, ?_, ?_, fun _ _ => trivial, ?_, fun _ => by omega, ?_⟩
  · rw [← hW1, hmk, hD]; exact run_enterLoop_outer _ _ _ _ _
  · simp only [resolve, hg]
    simp [go_sem]
  · have eg : ∀ args w, (callFunc 58 args).run Tryd.prog w = .ok (.enter 58 args) w := enters_of Tryd.func58 (by kernel_rfl) rfl
    simp [invoke, go_sem, eg]
  · refine (split_in (n - 1) (by omega) (D + 1) bp bs bz hnp hnz xs hxs
      (fun pre W => I pre W ∧ W.heap[D + 1]? = some (.loop (mk .ready none)) ∧ W.heap[D]? = some (.deferred (some [])) ∧ Boxed W bp 9 (.string ⟨#[32]⟩) ∧ Boxed W bz 3 (.int .i64 0))
      (fun W => Ix W ∧ W.heap[D + 1]? = some (.loop (mk .done (some .ret))) ∧ W.heap[D]? = some (.deferred (some [])))
      ?_ ?_ ?_ W1 ⟨hI1, hL1, hK1, ?_, ?_⟩ ?_).mono ?_
    · rintro pre W u ⟨k1, k2, k3, k4, k5⟩
      exact ⟨hIs _ _ _ k1, (heap_set_ne W bs _ _ (by omega)).trans k2, (heap_set_ne W bs _ _ (by omega)).trans k3, (heap_set_ne W bs _ _ hnp).trans k4, (heap_set_ne W bs _ _ hnz).trans k5⟩
    · rintro pre W ⟨_, _, _, k4, k5⟩
      exact ⟨k4, k5⟩
    · rintro pre x s W ⟨k1, k2, k3, k4, k5⟩ ks hrest
      have hlt : D + 1 < W.heap.size := (Array.getElem?_eq_some_iff.1 k2).1
      have hy := run_yield (P := Tryd.prog) (args := #[.string (B x)]) k2 (by rw [hmk]; exact hps.symm)
      refine ⟨_, _, _, _, hy, ?_⟩
      have e1 : (mk .ready none).fn = fn := by rw [hmk]
      have e2 : (mk .ready none).tmps = a.tmps := by rw [hmk]
      have e3 : (mk .ready none).assign = assign := by rw [hmk]
      have e4 : (mk .ready none).body = body := by rw [hmk]
      have e5 : (mk .ready none).params = ps := by rw [hmk]
      rw [e1, e2, e3, e4, e5]
      refine roundIn_of_wpIn trivial (hassign _ x W _ ⟨_, run_beginRound k2 (by rw [hmk]), ?_⟩)
      have m1 : { mk .ready none with state := .busy } = mk .busy none := by rw [hmk]
      rw [m1]
      have k2' : (W.putObj (D + 1) (.loop (mk .busy none))).heap[D + 1]? = some (.loop (mk .busy none)) := World.putObj_heap_same hlt
      have ot : ∀ k, k ≠ D + 1 → (W.putObj (D + 1) (.loop (mk .busy none))).heap[k]? = W.heap[k]? := fun k hk => World.putObj_heap_other hk
      have k3' := (ot D (by omega)).trans k3
      have k4' : Boxed (W.putObj (D + 1) (.loop (mk .busy none))) bp 9 (.string ⟨#[32]⟩) := (ot bp (by omega)).trans k4
      have k5' : Boxed (W.putObj (D + 1) (.loop (mk .busy none))) bz 3 (.int .i64 0) := (ot bz (by omega)).trans k5
      have ks' : Boxed (W.putObj (D + 1) (.loop (mk .busy none))) bs 9 s := (ot bs (by omega)).trans ks
      refine wpIn_mono (hbody _ pre x _ (hIl _ _ _ k1) hrest ⟨s, ks'⟩ (by rw [World.putObj_size]; exact hlt)) ?_
      have fin : ∀ (jump : Option Code) (W3 : World), W3.heap[D + 1]? = (W.putObj (D + 1) (.loop (mk .busy none))).heap[D + 1]? →
          (Instr.endRound (D + 1) jump).run Tryd.prog W3 = .ok (.bool jump.isNone) (W3.putObj (D + 1) (.loop (mk (if jump.isNone then .ready else .done) jump))) ∧ D + 1 < W3.heap.size := fun jump W3 hk => by
        have h3 := hk.trans k2'
        have := run_endRound (P := Tryd.prog) jump h3
        have m2 : { mk .busy none with state := (if jump.isNone then LoopState.ready else .done), pending := jump } = mk (if jump.isNone then .ready else .done) jump := by rw [hmk]
        rw [m2] at this
        exact ⟨this, (Array.getElem?_eq_some_iff.1 h3).1⟩
      rintro e a3 W3 hp
      cases e with
      | normal =>
        obtain ⟨⟨j1, j2, j3, j4, j5⟩, hi3⟩ := hp
        obtain ⟨hr, hl3⟩ := fin none W3 j5
        have ot3 : ∀ k, k ≠ D + 1 → (W3.putObj (D + 1) (.loop (mk .ready none))).heap[k]? = W3.heap[k]? := fun k hk => World.putObj_heap_other hk
        exact ⟨_, _, hr, .inl ⟨rfl, ⟨hIl _ _ _ hi3, World.putObj_heap_same hl3, (ot3 D (by omega)).trans (j4.trans k3'), (ot3 bp (by omega)).trans (j2.trans k4'), (ot3 bz (by omega)).trans (j3.trans k5')⟩, (ot3 bs (by omega)).trans (j1.trans ks')⟩⟩
      | ret =>
        obtain ⟨⟨j1, j2, j3, j4, j5⟩, hi3⟩ := hp
        obtain ⟨hr, hl3⟩ := fin (some .ret) W3 j5
        exact ⟨_, _, hr, .inr ⟨rfl, hIxl _ _ hi3, World.putObj_heap_same hl3, (World.putObj_heap_other (by omega)).trans (j4.trans k3')⟩⟩
      | exit id => exact hp.elim
      | goto t => exact hp.elim
      | panic ch => exact hp.elim
      | outgrown => exact hp.elim
    · rw [← hW1]; exact (hbp.alloc _).alloc _
    · rw [← hW1]; exact (hbz.alloc _).alloc _
    · rw [← hW1]; exact (hbs.alloc _).alloc _
    · rintro e W2 ⟨⟨v, rfl⟩, (⟨hi, hl, hk, _, _⟩ | ⟨hi, hl, hk⟩)⟩
      · have hend := run_endLoop (P := Tryd.prog) hl (by rw [hmk]; simp)
        have m3 : (mk .ready none).pending = none := by rw [hmk]
        rw [m3] at hend
        exact ⟨none, _, hend, hdone _ (hIl _ _ _ hi) ((World.putObj_heap_other (by omega)).trans hk)⟩
      · have hend := run_endLoop (P := Tryd.prog) hl (by rw [hmk]; simp)
        have m3 : (mk .done (some .ret)).pending = some .ret := by rw [hmk]
        rw [m3] at hend
        exact ⟨some .ret, _, hend, hstop _ (hIxl _ _ hi) ((World.putObj_heap_other (by omega)).trans hk)⟩
end Go.Proofs.YtjbbfcomgglhiaaDoor
