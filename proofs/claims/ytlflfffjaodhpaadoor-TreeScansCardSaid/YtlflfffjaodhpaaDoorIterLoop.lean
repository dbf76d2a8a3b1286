/- A loop over a function, whose iterator reads boxes of its own behind a yield: from the iterator's contract and one walk of the body. -/
import Derived.Test.YtlflfffjaodhpaaDoorLexBlk
import Derived.OwnWalkIn
import Derived.TacticsInMore
import Derived.RegionIn
import Derived.RangeFuncCalls
import Derived.LoopNIn
import Derived.LoopIn
import Derived.RangeFuncBound
import Derived.RangeFuncLeaves
import Derived.RangeFuncNested
namespace Go.Proofs.YtlflfffjaodhpaaDoor
open Go.RowKit
open Go.Lib
set_option linter.unusedVariables false
set_option linter.unusedSimpArgs false
attribute [local go_sem] Oper.semAt_some

theorem put_ne (W : World) (k j : Nat) (o : Obj) (h : j ≠ k) : (W.putObj k o).heap[j]? = W.heap[j]? := World.putObj_heap_other h
theorem rel_put {w W : World} (h : Rel w W) {k : Nat} (hk : w.heap.size ≤ k) (o : Obj) : Rel w (W.putObj k o) := h.grown (grownBy_putObj' W k o) (fun j e => by cases e; exact hk)
theorem heap_rel {W W' : World} (h : Rel W W') {k : Nat} {o : Obj} (hk : W.heap[k]? = some o) : W'.heap[k]? = some o := by
  have hl : k < W.heap.size := (Array.getElem?_eq_some_iff.1 hk).1
  exact (h.2.block k hl).trans hk
/-- How the body of a round may be left: the two blocks of the loop lie as they lay. -/
def roundEnds (d e : Nat) (I : World → Prop) (Ix : World → Prop) (W : World) : Exit → Act → World → Prop
  | .normal, _, W' => (W'.heap[d]? = W.heap[d]? ∧ W'.heap[e]? = W.heap[e]?) ∧ I W'
  | .ret, _, W' => (W'.heap[d]? = W.heap[d]? ∧ W'.heap[e]? = W.heap[e]?) ∧ Ix W'
  | .exit _, _, _ => False
  | .goto _, _, _ => False
  | .panic _, _, _ => False
  | .outgrown, _, _ => False
/-- The blocks from m on that lay in W lie as they lay. -/
def Keep (m : Nat) (W W' : World) : Prop := W.heap.size ≤ W'.heap.size ∧ ∀ k, m ≤ k → k < W.heap.size → W'.heap[k]? = W.heap[k]?
theorem Keep.trans {m : Nat} {W W' W'' : World} (h : Keep m W W') (h' : Keep m W' W'') : Keep m W W'' :=
  ⟨Nat.le_trans h.1 h'.1, fun k hk hl => (h'.2 k hk (Nat.lt_of_lt_of_le hl h.1)).trans (h.2 k hk hl)⟩
theorem Keep.rel {m : Nat} {W W' : World} (h : Rel W W') : Keep m W W' := ⟨h.size, fun k _ hl => h.2.block k hl⟩
theorem Keep.put {m : Nat} (W : World) {j : Nat} (hj : j < m) (o : Obj) : Keep m W (W.putObj j o) :=
  ⟨by rw [World.putObj_size]; exact Nat.le_refl _, fun k hk _ => World.putObj_heap_other (by omega)⟩
theorem Keep.set {m : Nat} (W : World) {j : Nat} (hj : j < m) (i : Nat) (v : Value) : Keep m W (W.setCell ⟨j, i, none⟩ v) :=
  ⟨by rw [World.size_setCell]; exact Nat.le_refl _, fun k hk _ => Below.heap_setCell W ⟨j, i, none⟩ v _ (by simp only; omega)⟩
theorem Keep.drew {m : Nat} {W W' : World} (h : Keep m W W') : Keep m W W'.drew := h
theorem Keep.bk {m : Nat} {W W' : World} (h : Keep m W W') {g : Nat} {t : TypeId} {cs : Array Value} (hb : Bk W g t cs) (hg : m ≤ g) : Bk W' g t cs := (h.2 g hg (Bk.lt hb)).trans hb
/-- An iterator's contract: what it yields, one behind the other, with whatever J keeps of the world ('Cap': what the iterator itself wants of it); J's number: from there on all blocks are the iterator's own till it yields again. -/
def IterOk (n : Nat) (f : FuncId) (caps : Array Value) (ys : List (Array Value)) (Cap : World → Prop) : Prop :=
  ∀ (l : Nat) (J : List (Array Value) → Nat → World → Prop) (Jx : World → Prop),
    (∀ pre m W W', J pre m W → Rel W W' → J pre m W') →
    (∀ pre m W, J pre m W → Cap W ∧ m ≤ W.heap.size) →
    (∀ pre m y W, J pre m W → (∃ rest, ys = pre ++ y :: rest) → YieldAt Fence.wide (n - 1) Tryd.prog l y W fun e W' => (e = .returned (.bool true) ∧ J (pre ++ [y]) W'.heap.size W' ∧ Keep m W W') ∨ (e = .returned (.bool false) ∧ Jx W')) →
    ∀ m W, J [] m W → CallsIn Fence.wide n Tryd.prog f (#[.func (.yield l) #[] #[]] ++ caps) W fun e W' => (∃ v, e = .returned v) ∧ ((∃ m', J ys m' W') ∨ Jx W')

theorem wpIn_iter {n : Nat} {g : Operand} {ps : Array Tmp} {assign body : Code} {Q : Exit → Act → World → Prop} {a : Act} {w : World} (h1 : 2 ≤ n) (f : FuncId) (fnc : Func) (hfn : Tryd.prog.funcs[f]? = some fnc) (henter : ∀ args w, (callFunc f args).run Tryd.prog w = .ok (.enter f args) w)
    (caps : Array Value) (ys : List (Array Value)) (Cap : World → Prop)
    (hg : a.eval g = .func (.func f) #[] caps) (hps : ∀ y ∈ ys, y.size = ps.size)
    (hIter : IterOk (n - 1) f caps ys Cap)
    (I : List (Array Value) → Nat → World → Prop) (Ix : World → Prop)
    (hIrel : ∀ pre m W W', I pre m W → Rel W W' → I pre m W') (hIw : ∀ pre m W, I pre m W → Cap W)
    (hIl : ∀ pre m W o, I pre m W → I pre m (W.putObj (w.heap.size + 1) o)) (hIxl : ∀ W o, Ix W → Ix (W.putObj (w.heap.size + 1) o))
    (h0 : ∀ o o', I [] (w.heap.size + 2) ((w.alloc o).alloc o')) (P1 : List (Array Value) → Array Value → Act → World → Prop) (hP1 : ∀ pre y a' W o, P1 pre y a' W → P1 pre y a' (W.putObj (w.heap.size + 1) o))
    (hassign : ∀ (l : Nat) (pre : List (Array Value)) (m : Nat) (y : Array Value) (W : World) (K : Act → World → Prop), I pre m W → (∃ rest, ys = pre ++ y :: rest) → w.heap.size + 1 < W.heap.size → (∀ a' W', Rel W W' → P1 pre y a' W' → K a' W') →
      assign.wpIn (Fence.wide.inRound l) (n - 1 - 1) Tryd.prog (Exit.then K (fun _ _ _ => False)) { tmps := (ps.zip y).foldl (fun t (p, v) => t.setIfInBounds p v) a.tmps, defers := [] } W)
    (hbody : ∀ (l : Nat) (pre : List (Array Value)) (m : Nat) (y : Array Value) (a' : Act) (W : World), I pre m W → w.heap.size + 1 < m → P1 pre y a' W → (∃ rest, ys = pre ++ y :: rest) → m ≤ W.heap.size →
      body.wpIn (Fence.wide.inRound l) (n - 1 - 1) Tryd.prog (roundEnds w.heap.size (w.heap.size + 1) (fun W' => I (pre ++ [y]) W'.heap.size W' ∧ Keep m W W') Ix W) a' W)
    (hdone : ∀ m W, I ys m W → W.heap[w.heap.size]? = some (.deferred (some [])) → Q .normal { a with defers := { target := .collected w.heap.size, args := #[] } :: a.defers } W)
    (hstop : ∀ W, Ix W → W.heap[w.heap.size]? = some (.deferred (some [])) → Code.ret.wpIn Fence.wide n Tryd.prog Q { a with defers := { target := .collected w.heap.size, args := #[] } :: a.defers } W) :
    (Code.rangeFunc g ps assign body).wpIn Fence.wide n Tryd.prog Q a w := by
  refine wpIn_rangeFunc ?_
  intro fn _
  obtain ⟨D, hD⟩ : ∃ D, D = w.heap.size := ⟨_, rfl⟩
  obtain ⟨mk, hmk⟩ : ∃ mk : LoopState → Option Code → Loop, mk = fun st pe => { state := st, pending := pe, fn, tmps := a.tmps, params := ps, assign, body, defers := w.heap.size } := ⟨_, rfl⟩
  obtain ⟨W1, hW1⟩ : ∃ W1, (w.alloc (.deferred (some []))).alloc (.loop (mk .ready none)) = W1 := ⟨_, rfl⟩
  have hL1 : W1.heap[D + 1]? = some (.loop (mk .ready none)) := by
    rw [← hW1, hD]
    have := World.alloc_heap_new (w.alloc (.deferred (some []))) (.loop (mk .ready none))
    rwa [World.size_alloc] at this
  have hK1 : W1.heap[D]? = some (.deferred (some [])) := by
    rw [← hW1, hD]; exact (Below.heap_alloc _ _ _ (by simp)).trans (World.alloc_heap_new w _)
  have hI1 : I [] (D + 2) W1 := by rw [← hW1, hD]; exact h0 _ _
  have hS1 : D + 2 ≤ W1.heap.size := by have := (Array.getElem?_eq_some_iff.1 hL1).1; omega
  rw [← hD] at hIl hIxl hP1 hassign hbody hdone hstop
  refine ⟨D + 1, [{ target := .collected D, args := #[] }], W1, { target := .fn (.func f) caps, args := #[.func (.yield (D + 1)) #[] #[]] }, W1, f,
    #[.func (.yield (D + 1)) #[] #[]] ++ caps, W1, ?_, ?_, fun _ _ => trivial, ?_, fun _ => by omega, ?_⟩
  · rw [← hW1, hmk, hD]; exact run_enterLoop_outer _ _ _ _ _
  · simp only [resolve, hg]
    simp [go_sem]
  · simp [invoke, go_sem, henter]
  · refine (hIter (D + 1)
      (fun pre m W => I pre m W ∧ (D + 1 < m ∧ m ≤ W.heap.size) ∧ W.heap[D + 1]? = some (.loop (mk .ready none)) ∧ W.heap[D]? = some (.deferred (some [])))
      (fun W => Ix W ∧ W.heap[D + 1]? = some (.loop (mk .done (some .ret))) ∧ W.heap[D]? = some (.deferred (some [])))
      ?_ ?_ ?_ (D + 2) W1 ⟨hI1, ⟨by omega, hS1⟩, hL1, hK1⟩).mono ?_
    · rintro pre m W W' ⟨k1, km, k2, k3⟩ hr
      exact ⟨hIrel _ _ _ _ k1 hr, ⟨km.1, Nat.le_trans km.2 hr.size⟩, heap_rel hr k2, heap_rel hr k3⟩
    · rintro pre m W ⟨k1, km, _, _⟩
      exact ⟨hIw _ _ _ k1, km.2⟩
    · rintro pre m y W ⟨k1, km, k2, k3⟩ hrest
      have hlt : D + 1 < W.heap.size := (Array.getElem?_eq_some_iff.1 k2).1
      have hyp : ps.size = y.size := (hps y (by obtain ⟨rest, e⟩ := hrest; rw [e]; simp)).symm
      have hy := run_yield (P := Tryd.prog) (args := y) k2 (by rw [hmk]; exact hyp.symm)
      refine ⟨_, _, _, _, hy, ?_⟩
      have e1 : (mk .ready none).fn = fn := by rw [hmk]
      have e2 : (mk .ready none).tmps = a.tmps := by rw [hmk]
      have e3 : (mk .ready none).assign = assign := by rw [hmk]
      have e4 : (mk .ready none).body = body := by rw [hmk]
      have e5 : (mk .ready none).params = ps := by rw [hmk]
      rw [e1, e2, e3, e4, e5]
      refine roundIn_of_wpIn trivial (hassign _ pre m y W _ k1 hrest hlt fun a' Wa hra hp1 => ⟨_, run_beginRound (heap_rel hra k2) (by rw [hmk]), ?_⟩)
      have m1 : { mk .ready none with state := .busy } = mk .busy none := by rw [hmk]
      rw [m1]
      have k1a := hIrel _ _ _ _ k1 hra
      have k2a := heap_rel hra k2
      have k3a := heap_rel hra k3
      have hlta : D + 1 < Wa.heap.size := (Array.getElem?_eq_some_iff.1 k2a).1
      have k2' : (Wa.putObj (D + 1) (.loop (mk .busy none))).heap[D + 1]? = some (.loop (mk .busy none)) := World.putObj_heap_same hlta
      have k3' := (World.putObj_heap_other (w := Wa) (o := .loop (mk .busy none)) (show D ≠ D + 1 by omega)).trans k3a
      have kk := (Keep.rel (m := m) hra).trans (Keep.put Wa km.1 (.loop (mk .busy none)))
      refine wpIn_mono (hbody _ pre m y a' _ (hIl _ _ _ _ k1a) km.1 (hP1 _ _ _ _ _ hp1) hrest (by rw [World.putObj_size]; exact Nat.le_trans km.2 hra.size)) ?_
      have fin : ∀ (jump : Option Code) (W3 : World), W3.heap[D + 1]? = (Wa.putObj (D + 1) (.loop (mk .busy none))).heap[D + 1]? →
          (Instr.endRound (D + 1) jump).run Tryd.prog W3 = .ok (.bool jump.isNone) (W3.putObj (D + 1) (.loop (mk (if jump.isNone then .ready else .done) jump))) ∧ D + 1 < W3.heap.size := fun jump W3 hk => by
        have h3 := hk.trans k2'
        have := run_endRound (P := Tryd.prog) jump h3
        have m2 : { mk .busy none with state := (if jump.isNone then LoopState.ready else .done), pending := jump } = mk (if jump.isNone then .ready else .done) jump := by rw [hmk]
        rw [m2] at this
        exact ⟨this, (Array.getElem?_eq_some_iff.1 h3).1⟩
      rintro e a3 W3 hp
      cases e with
      | normal =>
        obtain ⟨⟨j4, j5⟩, hi3, hk3⟩ := hp
        obtain ⟨hr, hl3⟩ := fin none W3 j5
        exact ⟨_, _, hr, .inl ⟨rfl, ⟨by rw [World.putObj_size]; exact hIl _ _ _ _ hi3, ⟨by rw [World.putObj_size]; exact hl3, Nat.le_refl _⟩, World.putObj_heap_same hl3, (World.putObj_heap_other (by omega)).trans (j4.trans k3')⟩, (kk.trans hk3).trans (Keep.put W3 km.1 _)⟩⟩
      | ret =>
        obtain ⟨⟨j4, j5⟩, hi3⟩ := hp
        obtain ⟨hr, hl3⟩ := fin (some .ret) W3 j5
        exact ⟨_, _, hr, .inr ⟨rfl, hIxl _ _ hi3, World.putObj_heap_same hl3, (World.putObj_heap_other (by omega)).trans (j4.trans k3')⟩⟩
      | exit id => exact hp.elim
      | goto t => exact hp.elim
      | panic ch => exact hp.elim
      | outgrown => exact hp.elim
    · rintro e W2 ⟨⟨v, rfl⟩, (⟨m', hi, _, hl, hk⟩ | ⟨hi, hl, hk⟩)⟩
      · have hend := run_endLoop (P := Tryd.prog) hl (by rw [hmk]; simp)
        have m3 : (mk .ready none).pending = none := by rw [hmk]
        rw [m3] at hend
        exact ⟨none, _, hend, hdone _ _ (hIl _ _ _ _ hi) ((World.putObj_heap_other (by omega)).trans hk)⟩
      · have hend := run_endLoop (P := Tryd.prog) hl (by rw [hmk]; simp)
        have m3 : (mk .done (some .ret)).pending = some .ret := by rw [hmk]
        rw [m3] at hend
        exact ⟨some .ret, _, hend, hstop _ (hIxl _ _ hi) ((World.putObj_heap_other (by omega)).trans hk)⟩
end Go.Proofs.YtlflfffjaodhpaaDoor
