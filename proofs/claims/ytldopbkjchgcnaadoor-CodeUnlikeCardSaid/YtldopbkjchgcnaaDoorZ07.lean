/- Instructions in memory: to be read, and of the call's own; appending them; Plain mathematics of layer 10: unlike strategies have unlike code. No program in this text; Plain mathematics of layer 10: unlike strategies have unlike code, and unlike lines. No program in this text; A drawn region walked by hand: what is taken first, under a condition that the region keeps; what alone may come up. -/
import Derived.Test.YtldopbkjchgcnaaDoorZ01
import Derived.Test.YtldopbkjchgcnaaDoorZ06
import Derived.Test.YtldopbkjchgcnaaDoorZ03
import Derived.Maps.AppendAt
import Derived.Laws.OwnMore
import Derived.Test.YtldopbkjchgcnaaDoorProg
import Derived.Deep.RegionHeld
namespace Go.Proofs.YtldopbkjchgcnaaDoor
open Go.RowKit Go.Lib
set_option linter.unusedVariables false
set_option linter.unusedSimpArgs false

abbrev NV (t : In) : Value := .agg #[.int .i64 t.1, .int .i64 t.2.1, .string (B t.2.2)]
def cellsN (t : In) : List Value := [.int .i64 t.1, .int .i64 t.2.1, .string (B t.2.2)]
def cellsI (l : List In) : List Value := l.flatMap cellsN
theorem cellsI_cons (o : In) (t : List In) : cellsI (o :: t) = cellsN o ++ cellsI t := rfl
theorem cellsI_append (a b : List In) : cellsI (a ++ b) = cellsI a ++ cellsI b := by simp [cellsI]
theorem cellsI_snoc (l : List In) (o : In) : cellsI (l ++ [o]) = cellsI l ++ cellsN o := by simp [cellsI]
theorem cellsI_len (l : List In) : (cellsI l).length = l.length * 3 := by
  induction l with
  | nil => rfl
  | cons e t ih => rw [cellsI_cons, List.length_append, ih]; simp [cellsN]; omega
theorem cellsI_at (l : List In) (i : Nat) (h : i < l.length) : (cellsI l)[i * 3]? = some (.int .i64 l[i].1) ∧ (cellsI l)[i * 3 + 1]? = some (.int .i64 l[i].2.1) ∧ (cellsI l)[i * 3 + 2]? = some (.string (B l[i].2.2)) := by
  induction l generalizing i with
  | nil => simp at h
  | cons e t ih =>
    rw [cellsI_cons]
    cases i with
    | zero => exact ⟨rfl, rfl, rfl⟩
    | succ i =>
      obtain ⟨h1, h2, h3⟩ := ih i (by simpa using h)
      have l2 : (cellsN e).length = 3 := rfl
      refine ⟨?_, ?_, ?_⟩
      · rw [List.getElem?_append_right (by omega), show (i + 1) * 3 - (cellsN e).length = i * 3 by omega]; exact h1
      · rw [List.getElem?_append_right (by omega), show (i + 1) * 3 + 1 - (cellsN e).length = i * 3 + 1 by omega]; exact h2
      · rw [List.getElem?_append_right (by omega), show (i + 1) * 3 + 2 - (cellsN e).length = i * 3 + 2 by omega]; exact h3
/-- The cells from A on are these instructions. -/
def InsAt (w : World) (A : Option Addr) (l : List In) : Prop :=
  ∀ i (h : i < l.length), ∃ (g off : Nat), A = some ⟨g, off, none⟩ ∧ g < w.heap.size ∧ w.cell? ⟨g, off + i * 3, none⟩ = some (.int .i64 l[i].1) ∧ w.cell? ⟨g, off + i * 3 + 1, none⟩ = some (.int .i64 l[i].2.1) ∧ w.cell? ⟨g, off + i * 3 + 2, none⟩ = some (.string (B l[i].2.2))
theorem InsAt.nil (w : World) (A : Option Addr) : InsAt w A [] := fun i h => absurd h (by simp)
theorem InsAt.below {w w' : World} {A : Option Addr} {l : List In} (h : InsAt w A l) (hb : Below w.heap.size w w') : InsAt w' A l := by
  intro i hi
  obtain ⟨g, off, e, hl, h0, h1, h2⟩ := h i hi
  have hk : ∀ j, w'.cell? ⟨g, j, none⟩ = w.cell? ⟨g, j, none⟩ := fun j => hb.cell (p := ⟨g, j, none⟩) hl
  exact ⟨g, off, e, by have := hb.size; omega, by rw [hk]; exact h0, by rw [hk]; exact h1, by rw [hk]; exact h2⟩
theorem InsAt.rel {w w' : World} {A : Option Addr} {l : List In} (h : InsAt w A l) (hr : Rel w w') : InsAt w' A l := h.below hr.2
theorem InsAt.take {w : World} {A : Option Addr} {l : List In} (h : InsAt w A l) (k : Nat) : InsAt w A (l.take k) := by
  intro i hi
  rw [List.length_take] at hi
  obtain ⟨g, off, e, hl, h0, h1, h2⟩ := h i (by omega)
  refine ⟨g, off, e, hl, ?_, ?_, ?_⟩
  · rw [List.getElem_take]; exact h0
  · rw [List.getElem_take]; exact h1
  · rw [List.getElem_take]; exact h2
theorem InsAt.of_bk {w : World} {g : Nat} {l : List In} (h : Bk w g 44 (cellsI l).toArray) : InsAt w (some ⟨g, 0, none⟩) l := by
  intro i hi
  obtain ⟨c0, c1, c2⟩ := cellsI_at l i hi
  refine ⟨g, 0, rfl, h.lt, ?_, ?_, ?_⟩
  · rw [Nat.zero_add, h.cell, List.getElem?_toArray]; exact c0
  · rw [Nat.zero_add, h.cell, List.getElem?_toArray]; exact c1
  · rw [Nat.zero_add, h.cell, List.getElem?_toArray]; exact c2
/-- Instructions whose fields fit a machine. -/
def InsFit (l : List In) : Prop := ∀ o ∈ l, i64 o.1 ∧ i64 o.2.1 ∧ o.2.2.length ≤ 9223372036854775807
/-- Instructions as an argument. -/
def InsArg (w : World) (A : Option Addr) (c : Nat) (l : List In) : Prop := l.length ≤ c ∧ c ≤ maxLen ∧ InsFit l ∧ InsAt w A l
theorem InsArg.rel {w w' : World} {A : Option Addr} {c : Nat} {l : List In} (h : InsArg w A c l) (hr : Rel w w') : InsArg w' A c l := ⟨h.1, h.2.1, h.2.2.1, h.2.2.2.rel hr⟩
theorem insArg_nil (w : World) : InsArg w none 0 [] := ⟨Nat.le_refl _, Nat.zero_le _, fun o h => (by cases h), InsAt.nil _ _⟩
theorem ins_fit {l : List In} (h : codeOk l = true) : InsFit l := fun o ho => by
  obtain ⟨i, hi, rfl⟩ := List.mem_iff_getElem.1 ho
  have hl := (codeOk_iff.1 h).1
  have := (codeOk_iff.1 h).2 i hi
  obtain ⟨p1, p2, p3, p4, _⟩ := inOk_parts this
  unfold inOk mostO at this
  simp only [Bool.and_eq_true, decide_eq_true_eq] at this
  have hm := this.1.2.2
  refine ⟨⟨by omega, by omega⟩, ⟨by omega, ?_⟩, ?_⟩
  · split at hm
    · omega
    · split at hm
      · omega
      · split at hm
        · omega
        · split at hm <;> omega
  · by_cases e : l[i].1 = 4
    · have := (name_parts (p3 e)).2.2.1; omega
    · rw [p4 e]; simp
/-- A slice of instructions of the call's own. -/
def InsOwn (w : World) (base : Nat) (v : Value) (l : List In) : Prop := w.ownsRow base 44 3 v l.length (cellsI l)
theorem InsOwn.row {w : World} {base : Nat} {v : Value} {l : List In} (h : InsOwn w base v l) : w.ownsRow base 44 3 v l.length (cellsI l) := h
theorem InsOwn.nil (w : World) (base : Nat) : InsOwn w base (.slice none 0 0) [] := World.ownsRow_nil _ _ _ _
theorem InsOwn.rel {w w' : World} {base : Nat} {v : Value} {l : List In} (h : InsOwn w base v l) (hr : Rel w w') : InsOwn w' base v l := own_rel h hr
theorem InsOwn.at {w : World} {base : Nat} {A : Option Addr} {n c : Nat} {l : List In} (h : InsOwn w base (.slice A n c) l) (hn : n = l.length) : InsAt w A l := by
  intro i hi
  have h : w.ownsRow base 44 3 (.slice A n c) l.length (cellsI l) := h
  rcases h.2 with ⟨h0, h1⟩ | ⟨g, cap, cur, hv, hb, hh, _⟩
  · omega
  · have hA : A = some ⟨g, 0, none⟩ := by injection hv
    obtain ⟨c0, c1, c2⟩ := cellsI_at l i hi
    have hc := h.cells (g := g) (by rw [hA]; rfl)
    have q0 := hc _ _ c0
    have q1 := hc _ _ c1
    have q2 := hc _ _ c2
    rw [addr_at] at q0 q1 q2
    refine ⟨g, 0, hA, Bk.lt (t := 44) hh, ?_, ?_, ?_⟩
    · exact q0
    · rw [Nat.add_assoc]; exact q1
    · rw [Nat.add_assoc]; exact q2
theorem InsOwn.more {w1 : World} {base g cap : Nat} {l : List In} {o : In}
    (hown1 : w1.ownsRow base 44 3 (.slice (some ⟨g, 0, none⟩) (l.length + 1) cap) (l.length + 1) (cellsI l ++ cellsN o)) : InsOwn w1 base (.slice (some ⟨g, 0, none⟩) (l.length + 1) cap) (l ++ [o]) := by
  unfold InsOwn
  rw [cellsI_snoc, show (l ++ [o]).length = l.length + 1 by simp]; exact hown1
theorem ins_info : (Tryd.prog.info? 44).map (fun i => (i.zero, i.size, i.bytes)) = some (some (.agg #[.int .i64 0, .int .i64 0, .string ⟨#[]⟩]), 3, 32) := by kernel_rfl
theorem cellsN_one (o : In) : ∀ u ∈ cellsN o, u.oneCell' = true := by
  intro u hu
  simp only [cellsN, List.mem_cons, List.not_mem_nil, or_false] at hu
  rcases hu with rfl | rfl | rfl <;> rfl
theorem cellsI_one (l : List In) : ∀ u ∈ cellsI l, u.oneCell' = true := by
  intro u hu
  obtain ⟨o, _, h⟩ := List.mem_flatMap.1 hu
  exact cellsN_one o u h
theorem InsOwn.slice_of {w : World} {base : Nat} {v : Value} {l : List In} (h : InsOwn w base v l) : ∃ A c, v = .slice A l.length c := by
  obtain ⟨A, c, e, _⟩ := own_slice h.row
  exact ⟨A, c, e⟩
theorem InsOwn.form {w : World} {base : Nat} {A : Option Addr} {c : Nat} {l : List In} (h : InsOwn w base (.slice A l.length c) l) : (A = none ∧ c = 0 ∧ l = []) ∨ ∃ g, A = some ⟨g, 0, none⟩ ∧ base ≤ g ∧ g < w.heap.size := by
  rcases h.2 with ⟨h0, h1⟩ | ⟨g, cap, cur, hv, hb, hh, _⟩
  · injection h0 with e1 e2 e3
    exact .inl ⟨e1, e3, List.length_eq_zero_iff.1 h1⟩
  · injection hv with e1 e2 e3
    exact .inr ⟨g, e1, hb, Bk.lt (t := 44) hh⟩
theorem InsOwn.cap {w : World} {base : Nat} {A : Option Addr} {c : Nat} {l : List In} (h : InsOwn w base (.slice A l.length c) l) : l.length ≤ c ∧ c ≤ maxLen := by
  rcases h.2 with ⟨h0, h1⟩ | ⟨g, cap, cur, hv, hb, hh, h3, h4, _⟩
  · injection h0 with e1 e2 e3
    omega
  · injection hv with e1 e2 e3
    subst e3
    exact ⟨h3, h4⟩
theorem InsOwn.arg {w : World} {base : Nat} {A : Option Addr} {c : Nat} {l : List In} (h : InsOwn w base (.slice A l.length c) l) (hf : InsFit l) : InsArg w A c l := ⟨h.cap.1, h.cap.2, hf, h.at rfl⟩
theorem InsOwn.grown_rel {w0 w w' : World} {base : Nat} {v : Value} {l : List In} (h : Rel w0 w) (ho : InsOwn w base v l) (hb : w0.heap.size ≤ base) (hg : w.grownBy w' v.ownBlock) : Rel w0 w' :=
  h.grown hg (fun k hk => by have := (ho.row.lt k hk).1; omega)
/-- Two rows in unlike blocks. -/
def Apt (v u : Value) : Prop := ∀ k, u.ownBlock = some k → v.ownBlock ≠ some k
theorem Apt.of {w1 w2 : World} {b1 : Nat} {v u : Value} {l1 l2 : List In} (h1 : InsOwn w1 b1 v l1) (h2 : InsOwn w2 w1.heap.size u l2) : Apt v u := fun k hk e => by
  have a := (h2.row.lt k hk).1
  have b := (h1.row.lt k e).2
  omega
theorem Apt.grow {w : World} {base : Nat} {v v' u : Value} {l : List In} (h : Apt v u) (hu : InsOwn w base u l) (hb : v'.ownBlock = v.ownBlock ∨ v'.ownBlock = some w.heap.size) : Apt v' u := fun k hk e => by
  rcases hb with hb | hb
  · exact h k hk (hb.symm.trans e)
  · have a := (hu.row.lt k hk).2
    rw [hb] at e
    injection e with e
    omega
/-- Own instructions stay where another row grows. -/
theorem InsOwn.kept {w w' : World} {base : Nat} {v u : Value} {l : List In} (h : InsOwn w base u l) (ha : Apt v u) (hg : w.grownBy w' v.ownBlock) : InsOwn w' base u l :=
  World.ownsRow.kept h.row hg (by
    cases e : u.ownBlock with
    | none => exact .inl rfl
    | some k => exact .inr fun e2 => ha k e e2.symm)
theorem InsOwn.base {w : World} {b b' : Nat} {v : Value} {l : List In} (h : InsOwn w b v l) (hb : b' ≤ b) : InsOwn w b' v l := by
  refine ⟨h.1, ?_⟩
  rcases h.2 with h | ⟨g, cap, cur, h1, h2, h3⟩
  · exact .inl h
  · exact .inr ⟨g, cap, cur, h1, by omega, h3⟩
theorem ins_news {w : World} {g off : Nat} {l : List In} (h : InsAt w (some ⟨g, off, none⟩) l) : ∀ j u, (cellsI l)[j]? = some u → w.cell? ((⟨g, off, none⟩ : Addr).add j) = some u := by
  intro j u hu
  have hj : j < (cellsI l).length := (List.getElem?_eq_some_iff.1 hu).1
  rw [cellsI_len] at hj
  have hi : j / 3 < l.length := by omega
  obtain ⟨g', off', e, _, h0, h1, h2⟩ := h (j / 3) hi
  injection e with e; injection e with e1 e2; subst e1; subst e2
  obtain ⟨c0, c1, c2⟩ := cellsI_at l (j / 3) hi
  rw [addr_at]
  have hm : j % 3 = 0 ∨ j % 3 = 1 ∨ j % 3 = 2 := by omega
  rcases hm with e | e | e
  · have ej : j = j / 3 * 3 := by omega
    rw [ej] at hu ⊢
    rw [c0] at hu
    rw [← hu]; exact h0
  · have ej : j = j / 3 * 3 + 1 := by omega
    rw [ej] at hu ⊢
    rw [c1] at hu
    rw [← hu, ← Nat.add_assoc]; exact h1
  · have ej : j = j / 3 * 3 + 2 := by omega
    rw [ej] at hu ⊢
    rw [c2] at hu
    rw [← hu, ← Nat.add_assoc]; exact h2
set_option maxRecDepth 100000 in
theorem iapp_run {w : World} {base : Nat} {v : Value} {os : List In} (hown : InsOwn w base v os) {A : Option Addr} {c : Nat} {l : List In} (hA : A = none → c = 0) (h : InsAt w A l) (h1 : l.length ≤ 100000) (h2 : os.length ≤ 100000) (hb : base ≤ w.heap.size) (ty : TypeId) :
    ∃ v' w', (Builtin.append_ #[23, 23] ty #[v, .slice A l.length c]).run Tryd.prog w = .ok v' w' ∧ InsOwn w' base v' (os ++ l) ∧ w.grownBy w' v.ownBlock ∧ (v'.ownBlock = v.ownBlock ∨ v'.ownBlock = some w.heap.size) := by
  obtain ⟨i0, hi0, hz0, hz1, hz2⟩ := info_parts ins_info
  cases A with
  | none =>
    obtain rfl := hA rfl
    have hl : l = [] := by
      cases l with
      | nil => rfl
      | cons o t => obtain ⟨_, _, e, _⟩ := h 0 (by simp); cases e
    subst hl
    refine ⟨v, w, run_append_owned_none (P := Tryd.prog) w base _ ty 44 i0 3 Tryd.underlying23 hi0 v os.length (cellsI os) hown, ?_, ⟨rfl, rfl, rfl, Nat.le_refl _, fun _ _ _ => rfl⟩, .inl rfl⟩
    rw [List.append_nil]; exact hown
  | some a =>
    have hnews : ∀ j u, (cellsI l)[j]? = some u → w.cell? (a.add j) = some u := by
      cases l with
      | nil => intro j u hu; simp [cellsI] at hu
      | cons o t =>
        obtain ⟨g, off, e, _⟩ := h 0 (by simp)
        injection e with e; subst e
        exact ins_news h
    obtain ⟨v', w', hr, g1, g2, _, g4⟩ := run_append_own_at (P := Tryd.prog) w base 23 ty 44 i0 (.agg #[.int .i64 0, .int .i64 0, .string ⟨#[]⟩]) 3 32 Tryd.underlying23 hi0 hz0 hz1 hz2 rfl (by decide) v os.length (cellsI os) hown a l.length c (cellsI l) (cellsI_len l) hnews (cellsI_one l) (by unfold maxLen; omega) (by omega) hb
    refine ⟨v', w', hr, ?_, g2, g4⟩
    unfold InsOwn
    rw [cellsI_append, List.length_append]; exact g1
/-- At the operation. -/
theorem wp_iapp {w : World} {o : Oper} {a : Act} {K : Act → World → Prop} {Q : Exit → Act → World → Prop} (s x : Operand) (ho : o.op = .call { callee := .builtin .append, args := #[s, x], argTypes := #[23, 23] })
    {base : Nat} {v : Value} {os : List In} (hs : a.eval s = v) (hown : InsOwn w base v os) {A : Option Addr} {c n : Nat} {l : List In} (hx : a.eval x = .slice A n c) (hn : l.length = n) (hA : A = none → c = 0) (h : InsAt w A l) (h1 : l.length ≤ 100000) (h2 : os.length ≤ 100000) (hb : base ≤ w.heap.size)
    (hk : ∀ v' w', InsOwn w' base v' (os ++ l) → w.grownBy w' v.ownBlock → (v'.ownBlock = v.ownBlock ∨ v'.ownBlock = some w.heap.size) → K (a.put o.dst v') w') : Oper.wp Tryd.prog o a w K Q := by
  subst hn
  obtain ⟨v', w', hr, g1, g2, g3⟩ := iapp_run hown hA h h1 h2 hb o.type
  unfold Oper.wp execOp
  simp only [ho, resolve, invoke, builtin, Sem.run_bind, Sem.run_pure, Result.andThen_ok, List.map_toArray, List.map_cons, List.map_nil, hs, hx, hr]
  exact hk v' w' g1 g2 g3
end Go.Proofs.YtldopbkjchgcnaaDoor

namespace Go.Proofs.YtldopbkjchgcnaaDoor
open Go.Lib
set_option linter.unusedVariables false
set_option linter.unusedSimpArgs false

/-- What an operation leaves on a stack, less what it takes. -/
def wt (o : Int) : Int := if o = 1 ∨ o = 2 ∨ o = 3 ∨ o = 4 ∨ o = 10 then 1 else if o = 5 ∨ o = 6 then 0 else -1
def sumW : List In → Int
  | [] => 0
  | t :: r => wt t.1 + sumW r
theorem sumW_append (a b : List In) : sumW (a ++ b) = sumW a + sumW b := by
  induction a with
  | nil => simp [sumW]
  | cons t r ih => rw [List.cons_append, sumW, sumW, ih]; omega
/-- On no beginning is less than nothing left; behind what leads nowhere, something. -/
def PreW (base : Int) (l : List In) : Prop := ∀ t u, l = t ++ u → 0 ≤ base + sumW t ∧ ∀ t' z, t = t' ++ [z] → isTo z.1 = false → 1 ≤ base + sumW t
theorem PreW.mono {b b' : Int} {l : List In} (h : PreW b l) (hb : b ≤ b') : PreW b' l := fun t u e => by
  obtain ⟨h1, h2⟩ := h t u e
  exact ⟨by omega, fun t' z e' hz => by have := h2 t' z e' hz; omega⟩
theorem PreW.nil {b : Int} (h : 0 ≤ b) : PreW b [] := fun t u e => by
  obtain ⟨rfl, _⟩ := List.append_eq_nil_iff.1 e.symm
  exact ⟨by simpa [sumW] using h, fun t' z e' => by simp at e'⟩
theorem PreW.append {b : Int} {A C : List In} (hA : PreW b A) (hC : PreW (b + sumW A) C) : PreW b (A ++ C) := fun t u e => by
  rcases List.append_eq_append_iff.1 e with ⟨a', e1, e2⟩ | ⟨c', e1, e2⟩
  · obtain ⟨h1, h2⟩ := hC a' u e2
    rw [e1, sumW_append]
    refine ⟨by omega, fun t' z e' hz => ?_⟩
    rcases List.eq_nil_or_concat a' with rfl | ⟨a'', y, rfl⟩
    · rw [List.append_nil] at e'
      have := (hA A [] (by simp)).2 t' z e' hz
      simp only [sumW]; omega
    · rw [List.concat_eq_append, ← List.append_assoc] at e'
      obtain ⟨_, e3⟩ := List.append_inj' e' rfl
      injection e3 with e3
      subst e3
      rw [List.concat_eq_append] at h2 ⊢
      have := h2 a'' y rfl hz
      omega
  · exact hA t c' e1
theorem PreW.one {b : Int} {z : In} (h0 : 0 ≤ b) (h : 0 ≤ b + wt z.1) (h' : isTo z.1 = false → 1 ≤ b + wt z.1) : PreW b [z] := fun t u e => by
  cases t with
  | nil => exact ⟨by simpa [sumW] using h0, fun t' y e' => by simp at e'⟩
  | cons y r =>
    injection e with e1 e2
    subst e1
    obtain ⟨rfl, _⟩ := List.append_eq_nil_iff.1 e2.symm
    refine ⟨by simpa [sumW] using h, fun t' y e' hz => ?_⟩
    have : y = z := by
      have := List.append_inj' (s₁ := []) (t₁ := [z]) (s₂ := t') (t₂ := [y]) e' rfl
      injection this.2 with this
      exact this.symm
    subst this
    simpa [sumW] using h' hz
theorem wt_op {d : Nat} {k n : Int} {nm : List UInt8} {l : List Ex} (h : fine (d + 1) (.mk k n nm l) = true) (h9 : k ≠ 9) (h10 : k ≠ 10) : wt (opK k) = 1 - (l.length : Int) := by
  have hp := (fine_parts h).1
  have hk : k = 1 ∨ k = 2 ∨ k = 3 ∨ k = 4 ∨ k = 5 ∨ k = 6 ∨ k = 7 ∨ k = 8 ∨ k = 11 ∨ k = 12 := by
    unfold argsN at hp
    split at hp
    · omega
    · split at hp
      · omega
      · split at hp
        · omega
        · first | omega | (split at hp <;> omega)
  rcases hk with rfl | rfl | rfl | rfl | rfl | rfl | rfl | rfl | rfl | rfl <;> (simp [argsN] at hp; simp [opK, wt]; omega)
theorem cod_wt : ∀ d x, fine d x = true → ∀ at_, sumW (cod x at_) = 1 ∧ PreW 0 (cod x at_) := fine_ind
  (fun d k n nm l h h9 h10 ih at_ => by
    have hs : ∀ (at_ : Nat) (b : Int), 0 ≤ b → sumW (cods l at_) = (l.length : Int) ∧ PreW b (cods l at_) := by
      clear h
      induction l with
      | nil => intro _ b hb; rw [cods_nil]; exact ⟨rfl, PreW.nil hb⟩
      | cons x t ih2 =>
        intro p b hb
        obtain ⟨g1, g2⟩ := ih x (List.mem_cons_self ..) p
        obtain ⟨g3, g4⟩ := ih2 (fun y hy => ih y (List.mem_cons_of_mem _ hy)) (p + clen x) (b + sumW (cod x p)) (by omega)
        rw [cods_cons, sumW_append, List.length_cons]
        exact ⟨by omega, (g2.mono hb).append g4⟩
    obtain ⟨g1, g2⟩ := hs at_ 0 (Int.le_refl _)
    have hw := wt_op h h9 h10
    rw [cod_op h9 h10, sumW_append]
    refine ⟨by simp only [sumW]; omega, g2.append (PreW.one (by omega) (by simp only; omega) (fun _ => by simp only; omega))⟩)
  (fun d n nm a b h ha hb at_ => by
    obtain ⟨a1, a2⟩ := ha at_
    obtain ⟨b1, b2⟩ := hb (at_ + clen a + 1)
    rw [cod_else]
    unfold joinE
    rw [show (9, ((at_ + (cod a at_).length + 1 + (cod b (at_ + clen a + 1)).length : Nat) : Int), ([] : List UInt8)) :: cod b (at_ + clen a + 1) = [(9, ((at_ + (cod a at_).length + 1 + (cod b (at_ + clen a + 1)).length : Nat) : Int), [])] ++ cod b (at_ + clen a + 1) from rfl]
    have w9 : wt 9 = -1 := by decide
    refine ⟨by rw [sumW_append, sumW_append]; simp only [sumW]; omega, a2.append ((PreW.one (by omega) (by simp only; omega) (fun e => by cases e)).append (b2.mono (by simp only [sumW]; omega)))⟩)
  (fun d n nm c a b h hc ha hb at_ => by
    obtain ⟨c1, c2⟩ := hc at_
    obtain ⟨a1, a2⟩ := ha (at_ + clen c + 1)
    obtain ⟨b1, b2⟩ := hb (at_ + clen c + 2 + clen a)
    rw [cod_if]
    unfold joinI
    generalize (at_ + (cod c at_).length + (cod a (at_ + clen c + 1)).length + 2 : Nat) = N1
    generalize (N1 + (cod b (at_ + clen c + 2 + clen a)).length : Nat) = N2
    rw [show cod c at_ ++ (12, (N1 : Int), []) :: (cod a (at_ + clen c + 1) ++ (13, (N2 : Int), []) :: cod b (at_ + clen c + 2 + clen a)) = cod c at_ ++ ([(12, (N1 : Int), [])] ++ (cod a (at_ + clen c + 1) ++ ([(13, (N2 : Int), [])] ++ cod b (at_ + clen c + 2 + clen a)))) from rfl]
    have w12 : wt 12 = -1 := by decide
    have w13 : wt 13 = -1 := by decide
    refine ⟨by rw [sumW_append, sumW_append, sumW_append, sumW_append]; simp only [sumW]; omega, c2.append ((PreW.one (by omega) (by simp only; omega) (fun e => by cases e)).append ((a2.mono (by simp only [sumW]; omega)).append ((PreW.one (by simp only [sumW]; omega) (by simp only [sumW]; omega) (fun e => by cases e)).append (b2.mono (by simp only [sumW]; omega)))))⟩)
/-- Code ends with what leads nowhere. -/
theorem cod_last : ∀ d x, fine d x = true → ∀ at_, ∃ t z, cod x at_ = t ++ [z] ∧ isTo z.1 = false := fine_ind
  (fun d k n nm l h h9 h10 ih at_ => ⟨_, _, cod_op h9 h10 at_, (opK_to h h9 h10).1⟩)
  (fun d n nm a b h ha hb at_ => by
    obtain ⟨t, z, e, hz⟩ := hb (at_ + clen a + 1)
    rw [cod_else]
    unfold joinE
    rw [e]
    exact ⟨_, z, by rw [← List.cons_append, ← List.append_assoc], hz⟩)
  (fun d n nm c a b h hc ha hb at_ => by
    obtain ⟨t, z, e, hz⟩ := hb (at_ + clen c + 2 + clen a)
    rw [cod_if]
    unfold joinI
    rw [e]
    exact ⟨_, z, by rw [← List.cons_append, ← List.append_assoc, ← List.cons_append, ← List.append_assoc], hz⟩)
theorem two_split {d d' e e' : Nat} {a b a' b' : Ex} (ha : fine d a = true) (ha' : fine d' a' = true) (hb' : fine e' b' = true) (hb : fine e b = true) {p q r s : Nat} (h : cod a p ++ cod b q = cod a' r ++ cod b' s) (hlt : (cod a' r).length ≤ (cod a p).length) : cod a p = cod a' r ∧ cod b q = cod b' s := by
  rcases List.append_eq_append_iff.1 h with ⟨t, e1, e2⟩ | ⟨t, e1, e2⟩
  · have : t = [] := by
      have := congrArg List.length e1
      rw [List.length_append] at this
      exact List.length_eq_zero_iff.1 (by omega)
    subst this
    exact ⟨by rw [e1, List.append_nil], by rw [e2, List.nil_append]⟩
  · rcases List.eq_nil_or_concat t with rfl | ⟨t', z, rfl⟩
    · exact ⟨by rw [e1, List.append_nil], by rw [e2, List.nil_append]⟩
    · exfalso
      rw [List.concat_eq_append] at e1 e2
      have w1 := (cod_wt d a ha p).1
      have w2 := (cod_wt d' a' ha' r).1
      have w3 := (cod_wt e' b' hb' s).2 (t' ++ [z]) (cod b q) e2
      rw [e1, sumW_append] at w1
      obtain ⟨u, y, el, hy⟩ := cod_last d a ha p
      have : z = y := by
        rw [e1, ← List.append_assoc] at el
        obtain ⟨_, e3⟩ := List.append_inj' el rfl
        injection e3
      subst this
      have := w3.2 t' z rfl hy
      omega
/-- The first of a kind parts a list. -/
theorem first_split {Q : In → Prop} {A A' B B' : List In} {z z' : In} (h : A ++ z :: B = A' ++ z' :: B') (hA : ∀ t ∈ A, ¬ Q t) (hA' : ∀ t ∈ A', ¬ Q t) (hz : Q z) (hz' : Q z') : A = A' ∧ z = z' ∧ B = B' := by
  induction A generalizing A' with
  | nil =>
    cases A' with
    | nil => injection h with h1 h2; exact ⟨rfl, h1, h2⟩
    | cons y r => injection h with h1 h2; subst h1; exact absurd hz (hA' z (List.mem_cons_self ..))
  | cons x t ih =>
    cases A' with
    | nil => injection h with h1 h2; subst h1; exact absurd hz' (hA x (List.mem_cons_self ..))
    | cons y r =>
      injection h with h1 h2
      obtain ⟨g1, g2, g3⟩ := ih h2 (fun u hu => hA u (List.mem_cons_of_mem _ hu)) (fun u hu => hA' u (List.mem_cons_of_mem _ hu))
      exact ⟨by rw [h1, g1], g2, g3⟩
def Tg (N : Int) (t : In) : Prop := isTo t.1 = true ∧ t.2.1 = N
/-- Where code leads: no further than behind it. -/
theorem cod_tg {d : Nat} {x : Ex} (h : fine d x = true) {at_ : Nat} {N : Int} (hN : ((at_ + clen x : Nat) : Int) < N) : ∀ t ∈ cod x at_, ¬ Tg N t := by
  rintro t ht ⟨h1, h2⟩
  obtain ⟨i, hi, rfl⟩ := List.mem_iff_getElem.1 ht
  have := cod_good d x h (at_ + clen x) at_ (Nat.le_refl _) i hi
  unfold inOk mostO at this
  simp only [Bool.and_eq_true, decide_eq_true_eq, h1, if_true] at this
  omega
theorem cods_tg {d : Nat} {l : List Ex} (h : ∀ x ∈ l, fine d x = true) : ∀ {at_ : Nat} {N : Int}, ((at_ + clens l : Nat) : Int) < N → ∀ t ∈ cods l at_, ¬ Tg N t := by
  induction l with
  | nil => intro at_ N _ t ht; rw [cods_nil] at ht; cases ht
  | cons x r ih =>
    intro at_ N hN t ht
    rw [cods_cons] at ht
    rw [clens_cons] at hN
    rcases List.mem_append.1 ht with ht | ht
    · exact cod_tg (h x (List.mem_cons_self ..)) (by omega) t ht
    · exact ih (fun y hy => h y (List.mem_cons_of_mem _ hy)) (by omega) t ht
end Go.Proofs.YtldopbkjchgcnaaDoor

namespace Go.Proofs.YtldopbkjchgcnaaDoor
open Go.Lib
set_option linter.unusedVariables false
set_option linter.unusedSimpArgs false

theorem fine_shape {d : Nat} {x : Ex} (h : fine d x = true) : ∃ d', d = d' + 1 ∧ ((∃ k n nm l, x = .mk k n nm l ∧ k ≠ 9 ∧ k ≠ 10 ∧ (l = [] ∨ (∃ a, l = [a]) ∨ ∃ a b, l = [a, b])) ∨ (∃ a b, x = .mk 9 0 [] [a, b]) ∨ ∃ c a b, x = .mk 10 0 [] [c, a, b]) := by
  cases d with
  | zero => cases h
  | succ d =>
    refine ⟨d, rfl, ?_⟩
    cases x with
    | mk k n nm l =>
      obtain ⟨hp, hn, hm, _, _⟩ := fine_parts h
      have hnm : k ≠ 3 → nm = [] := fun e => by
        cases nm with
        | nil => rfl
        | cons c t => exact absurd (hm.1 (by simp)) e
      by_cases h9 : k = 9
      · subst h9
        have hn0 : n = 0 := by have : mostN 9 = 0 := by decide
                               omega
        rw [hnm (by decide), hn0]
        match l, hp with
        | [a, b], _ => exact .inr (.inl ⟨a, b, rfl⟩)
        | [], hp => simp [argsN] at hp
        | [_], hp => simp [argsN] at hp
        | _ :: _ :: _ :: _, hp => simp [argsN] at hp; omega
      · by_cases h10 : k = 10
        · subst h10
          have hn0 : n = 0 := by have : mostN 10 = 0 := by decide
                                 omega
          rw [hnm (by decide), hn0]
          match l, hp with
          | [c, a, b], _ => exact .inr (.inr ⟨c, a, b, rfl⟩)
          | [], hp => simp [argsN] at hp
          | [_], hp => simp [argsN] at hp
          | [_, _], hp => simp [argsN] at hp
          | _ :: _ :: _ :: _ :: _, hp => simp [argsN] at hp; omega
        · refine .inl ⟨k, n, nm, l, rfl, h9, h10, ?_⟩
          have hl : l.length ≤ 2 := by
            unfold argsN at hp
            split at hp
            · omega
            · split at hp
              · omega
              · split at hp
                · omega
                · first | omega | (split at hp <;> omega)
          match l, hl with
          | [], _ => exact .inl rfl
          | [a], _ => exact .inr (.inl ⟨a, rfl⟩)
          | [a, b], _ => exact .inr (.inr ⟨a, b, rfl⟩)
          | _ :: _ :: _ :: _, hl => simp at hl
theorem opK_inj {d e : Nat} {k k' n n' : Int} {nm nm' : List UInt8} {l l' : List Ex} (h : fine (d + 1) (.mk k n nm l) = true) (h' : fine (e + 1) (.mk k' n' nm' l') = true) (h9 : k ≠ 9) (h10 : k ≠ 10) (h9' : k' ≠ 9) (h10' : k' ≠ 10) (eq : opK k = opK k') : k = k' := by
  have key : ∀ {d : Nat} {k n : Int} {nm : List UInt8} {l : List Ex}, fine (d + 1) (.mk k n nm l) = true → k ≠ 9 → k ≠ 10 → k = 1 ∨ k = 2 ∨ k = 3 ∨ k = 4 ∨ k = 5 ∨ k = 6 ∨ k = 7 ∨ k = 8 ∨ k = 11 ∨ k = 12 := by
    intro d k n nm l h h9 h10
    have hp := (fine_parts h).1
    unfold argsN at hp
    split at hp
    · omega
    · split at hp
      · omega
      · split at hp
        · omega
        · first | omega | (split at hp <;> omega)
  rcases key h h9 h10 with rfl | rfl | rfl | rfl | rfl | rfl | rfl | rfl | rfl | rfl <;> rcases key h' h9' h10' with rfl | rfl | rfl | rfl | rfl | rfl | rfl | rfl | rfl | rfl <;> first | rfl | (exfalso; revert eq; decide)
theorem else_tg {d : Nat} {a b : Ex} (h : fine (d + 1) (.mk 9 0 [] [a, b]) = true) (at_ : Nat) : ∃ N : Int, N = ((at_ + clen (.mk 9 0 [] [a, b]) : Nat) : Int) ∧ cod (.mk 9 0 [] [a, b]) at_ = cod a at_ ++ (9, N, []) :: cod b (at_ + clen a + 1) ∧ ∀ t ∈ cod a at_, ¬ Tg N t := by
  have fa := fine_mem h (y := a) (by simp)
  have fb := fine_mem h (y := b) (by simp)
  have e : clen (.mk 9 0 [] [a, b]) = clen a + 1 + clen b := by rw [clen_mk, clens_cons, clens_cons, clens_nil, if_neg (by decide)]; omega
  have hb := clen_pos b
  refine ⟨_, rfl, ?_, cod_tg fa (by rw [e]; omega)⟩
  rw [cod_else]
  unfold joinE
  rw [cod_len d a fa, cod_len d b fb, e, show at_ + clen a + 1 + clen b = at_ + (clen a + 1 + clen b) by omega]
theorem if_tg {d : Nat} {c a b : Ex} (h : fine (d + 1) (.mk 10 0 [] [c, a, b]) = true) (at_ : Nat) : ∃ N M : Int, N = ((at_ + clen (.mk 10 0 [] [c, a, b]) : Nat) : Int) ∧ M = ((at_ + clen c + clen a + 2 : Nat) : Int) ∧ M < N ∧
    cod (.mk 10 0 [] [c, a, b]) at_ = (cod c at_ ++ (12, M, []) :: cod a (at_ + clen c + 1)) ++ (13, N, []) :: cod b (at_ + clen c + 2 + clen a) ∧ (∀ t ∈ cod c at_ ++ (12, M, []) :: cod a (at_ + clen c + 1), ¬ Tg N t) ∧ (∀ t ∈ cod c at_, ¬ Tg M t) ∧ (∀ t ∈ cod a (at_ + clen c + 1), ¬ Tg M t) := by
  have fc := fine_mem h (y := c) (by simp)
  have fa := fine_mem h (y := a) (by simp)
  have fb := fine_mem h (y := b) (by simp)
  have e : clen (.mk 10 0 [] [c, a, b]) = clen c + clen a + 2 + clen b := by rw [clen_mk, clens_cons, clens_cons, clens_cons, clens_nil, if_pos rfl]; omega
  have hb := clen_pos b
  refine ⟨_, _, rfl, rfl, by rw [e]; omega, ?_, ?_, cod_tg fc (by omega), cod_tg fa (by omega)⟩
  · rw [cod_if]
    unfold joinI
    rw [cod_len d c fc, cod_len d a fa, cod_len d b fb, e, List.append_assoc, List.cons_append]
    congr 4
    congr 2
    omega
  · intro t ht
    rcases List.mem_append.1 ht with ht | ht
    · exact cod_tg fc (by rw [e]; omega) t ht
    · rcases List.mem_cons.1 ht with rfl | ht
      · rintro ⟨_, h2⟩
        simp only at h2
        rw [e] at h2; omega
      · exact cod_tg fa (by rw [e]; omega) t ht
theorem op_tg {d : Nat} {k n : Int} {nm : List UInt8} {l : List Ex} (h : fine (d + 1) (.mk k n nm l) = true) (h9 : k ≠ 9) (h10 : k ≠ 10) (at_ : Nat) : ∀ t ∈ cod (.mk k n nm l) at_, ¬ Tg ((at_ + clen (.mk k n nm l) : Nat) : Int) t := by
  intro t ht
  rw [cod_op h9 h10] at ht
  rw [clen_mk, if_neg h10]
  rcases List.mem_append.1 ht with ht | ht
  · exact cods_tg (fun x hx => fine_mem h hx) (by omega) t ht
  · simp only [List.mem_cons, List.not_mem_nil, or_false] at ht
    subst ht
    rintro ⟨h1, _⟩
    have := (opK_to h h9 h10).1
    simp only at h1
    rw [this] at h1; cases h1
set_option maxHeartbeats 1000000 in
theorem cod_inj : ∀ (m : Nat) (x y : Ex) (d e at_ : Nat), size x ≤ m → fine d x = true → fine e y = true → cod x at_ = cod y at_ → x = y := by
  intro m
  induction m with
  | zero => intro x y d e at_ hm; have := size_pos x; omega
  | succ m ih =>
    intro x y d e at_ hm hx hy heq
    have hlen : clen x = clen y := by rw [← cod_len d x hx at_, ← cod_len e y hy at_, heq]
    obtain ⟨d, rfl, sx⟩ := fine_shape hx
    obtain ⟨e, rfl, sy⟩ := fine_shape hy
    have noE : ∀ {d e : Nat} {k n : Int} {nm : List UInt8} {l : List Ex} {a b : Ex}, fine (d + 1) (.mk k n nm l) = true → k ≠ 9 → k ≠ 10 → fine (e + 1) (.mk 9 0 [] [a, b]) = true → clen (.mk k n nm l) = clen (.mk 9 0 [] [a, b]) → cod (.mk k n nm l) at_ = cod (.mk 9 0 [] [a, b]) at_ → False := fun h1 h2 h3 h4 h5 h6 => by
      obtain ⟨N, hN, hc, _⟩ := else_tg h4 at_
      refine op_tg h1 h2 h3 at_ (9, N, []) (by rw [h6, hc]; simp) ⟨rfl, by rw [h5]; exact hN⟩
    have noI : ∀ {d e : Nat} {k n : Int} {nm : List UInt8} {l : List Ex} {c a b : Ex}, fine (d + 1) (.mk k n nm l) = true → k ≠ 9 → k ≠ 10 → fine (e + 1) (.mk 10 0 [] [c, a, b]) = true → clen (.mk k n nm l) = clen (.mk 10 0 [] [c, a, b]) → cod (.mk k n nm l) at_ = cod (.mk 10 0 [] [c, a, b]) at_ → False := fun h1 h2 h3 h4 h5 h6 => by
      obtain ⟨N, M, hN, _, _, hc, _⟩ := if_tg h4 at_
      refine op_tg h1 h2 h3 at_ (13, N, []) (by rw [h6, hc]; simp) ⟨rfl, by rw [h5]; exact hN⟩
    have noEI : ∀ {d e : Nat} {a b c' a' b' : Ex}, fine (d + 1) (.mk 9 0 [] [a, b]) = true → fine (e + 1) (.mk 10 0 [] [c', a', b']) = true → clen (.mk 9 0 [] [a, b]) = clen (.mk 10 0 [] [c', a', b']) → cod (.mk 9 0 [] [a, b]) at_ = cod (.mk 10 0 [] [c', a', b']) at_ → False := fun h1 h2 h3 h4 => by
      obtain ⟨N, hN, hc, hA⟩ := else_tg h1 at_
      obtain ⟨N', M, hN', _, _, hc', hA', _⟩ := if_tg h2 at_
      have : N = N' := by rw [hN, hN', h3]
      subst this
      rw [hc, hc'] at h4
      obtain ⟨_, e2, _⟩ := first_split h4 hA hA' ⟨rfl, rfl⟩ ⟨rfl, rfl⟩
      injection e2 with e2
      exact absurd e2 (by decide)
    rcases sx with ⟨k, n, nm, l, rfl, h9, h10, hl⟩ | ⟨a, b, rfl⟩ | ⟨c, a, b, rfl⟩
    · rcases sy with ⟨k', n', nm', l', rfl, h9', h10', hl'⟩ | ⟨a', b', rfl⟩ | ⟨c', a', b', rfl⟩
      · rw [cod_op h9 h10, cod_op h9' h10'] at heq
        obtain ⟨e1, e2⟩ := List.append_inj' heq rfl
        injection e2 with e2
        injection e2 with e2 e3
        injection e3 with e3 e4
        have ek := opK_inj hx hy h9 h10 h9' h10' e2
        subst ek; subst e3; subst e4
        have ll : l.length = l'.length := by
          have h1 := (fine_parts hx).1
          have h2 := (fine_parts hy).1
          omega
        rw [size_mk] at hm
        rcases hl with rfl | ⟨a, rfl⟩ | ⟨a, b, rfl⟩
        · obtain rfl := List.length_eq_zero_iff.1 ll.symm
          rfl
        · obtain ⟨a', rfl⟩ := List.length_eq_one_iff.1 ll.symm
          rw [cods_cons, cods_cons, cods_nil, cods_nil, List.append_nil, List.append_nil] at e1
          rw [ih a a' d e at_ (by rw [sizes_cons, sizes_nil] at hm; omega) (fine_mem hx (by simp)) (fine_mem hy (by simp)) e1]
        · rcases hl' with rfl | ⟨a', rfl⟩ | ⟨a', b', rfl⟩
          · simp at ll
          · simp at ll
          · rw [cods_cons, cods_cons, cods_cons, cods_cons, cods_nil, cods_nil, List.append_nil, List.append_nil] at e1
            rw [sizes_cons, sizes_cons, sizes_nil] at hm
            have fa := fine_mem hx (y := a) (by simp)
            have fb := fine_mem hx (y := b) (by simp)
            have fa' := fine_mem hy (y := a') (by simp)
            have fb' := fine_mem hy (y := b') (by simp)
            have key : cod a at_ = cod a' at_ ∧ cod b (at_ + clen a) = cod b' (at_ + clen a') := by
              rcases Nat.le_total (cod a' at_).length (cod a at_).length with hle | hle
              · exact two_split fa fa' fb' fb e1 hle
              · obtain ⟨g1, g2⟩ := two_split fa' fa fb fb' e1.symm hle
                exact ⟨g1.symm, g2.symm⟩
            have ea := ih a a' d e at_ (by omega) fa fa' key.1
            subst ea
            rw [ih b b' d e _ (by omega) fb fb' key.2]
      · exact (noE hx h9 h10 hy hlen heq).elim
      · exact (noI hx h9 h10 hy hlen heq).elim
    · rcases sy with ⟨k', n', nm', l', rfl, h9', h10', hl'⟩ | ⟨a', b', rfl⟩ | ⟨c', a', b', rfl⟩
      · exact (noE hy h9' h10' hx hlen.symm heq.symm).elim
      · obtain ⟨N, hN, hc, hA⟩ := else_tg hx at_
        obtain ⟨N', hN', hc', hA'⟩ := else_tg hy at_
        have : N = N' := by rw [hN, hN', hlen]
        subst this
        rw [hc, hc'] at heq
        obtain ⟨e1, _, e3⟩ := first_split heq hA hA' ⟨rfl, rfl⟩ ⟨rfl, rfl⟩
        rw [size_mk, sizes_cons, sizes_cons, sizes_nil] at hm
        have ea := ih a a' d e at_ (by omega) (fine_mem hx (by simp)) (fine_mem hy (by simp)) e1
        subst ea
        rw [ih b b' d e _ (by omega) (fine_mem hx (by simp)) (fine_mem hy (by simp)) e3]
      · exact (noEI hx hy hlen heq).elim
    · rcases sy with ⟨k', n', nm', l', rfl, h9', h10', hl'⟩ | ⟨a', b', rfl⟩ | ⟨c', a', b', rfl⟩
      · exact (noI hy h9' h10' hx hlen.symm heq.symm).elim
      · exact (noEI hy hx hlen.symm heq.symm).elim
      · obtain ⟨N, M, hN, hM, _, hc, hA, hC, _⟩ := if_tg hx at_
        obtain ⟨N', M', hN', hM', _, hc', hA', hC', _⟩ := if_tg hy at_
        have : N = N' := by rw [hN, hN', hlen]
        subst this
        rw [hc, hc'] at heq
        obtain ⟨e1, _, e3⟩ := first_split heq hA hA' ⟨rfl, rfl⟩ ⟨rfl, rfl⟩
        have fc := fine_mem hx (y := c) (by simp)
        have fa := fine_mem hx (y := a) (by simp)
        have fc' := fine_mem hy (y := c') (by simp)
        have fa' := fine_mem hy (y := a') (by simp)
        have hMM : M = M' := by
          have := congrArg List.length e1
          simp only [List.length_append, List.length_cons, cod_len d c fc, cod_len d a fa, cod_len e c' fc', cod_len e a' fa'] at this
          rw [hM, hM']; omega
        subst hMM
        obtain ⟨e4, _, e5⟩ := first_split e1 hC hC' ⟨rfl, rfl⟩ ⟨rfl, rfl⟩
        rw [size_mk, sizes_cons, sizes_cons, sizes_cons, sizes_nil] at hm
        have ec := ih c c' d e at_ (by omega) fc fc' e4
        subst ec
        have ea := ih a a' d e _ (by omega) fa fa' e5
        subst ea
        rw [ih b b' d e _ (by omega) (fine_mem hx (by simp)) (fine_mem hy (by simp)) e3]
/-- Unlike strategies have unlike code, and unlike lines. -/
theorem code_inj {x y : Ex} (hx : rightX x = true) (hy : rightX y = true) : (cod x 0 = cod y 0 ↔ x = y) ∧ (textC (cod x 0) = textC (cod y 0) ↔ x = y) := by
  have gx := codeOk_good (right_code hx).1
  have gy := codeOk_good (right_code hy).1
  unfold rightX at hx hy
  simp only [Bool.and_eq_true] at hx hy
  have k : cod x 0 = cod y 0 ↔ x = y := ⟨fun h => cod_inj _ x y 32 32 0 (Nat.le_refl _) hx.1.1.1 hy.1.1.1 h, fun h => by rw [h]⟩
  exact ⟨k, ⟨fun h => k.1 (textC_inj gx gy h), fun h => by rw [h]⟩⟩
end Go.Proofs.YtldopbkjchgcnaaDoor

namespace Go.Proofs.YtldopbkjchgcnaaDoor
open Go
set_option linter.unusedVariables false
set_option linter.unusedSimpArgs false
section
variable {P : Program} {ops : Array Oper} {Q : Exit → Act → World → Prop} {md : Region.Mode} {S : World → Prop}

theorem held_take {i : Nat} {oi : Oper} {v : Value} (d : Option Tmp) {fuel : Nat} {listed : Array Bool} {a : Act} {w : World} (hi : ops[i]? = some oi) (hd : oi.dst = d)
    (hs : Region.noSelect ops = true) (hf : Region.free md ops listed i = true) (hr : (Region.ready md ops listed).contains i = true)
    (hQ : ∀ c a w, Q (.panic c) (a.put d v) w → Q (.panic c) a w) (hy : YieldsIf P ops S oi v a) (hS : S w)
    (h : wpAnyH P md ops Q S fuel (listed.setIfInBounds i true) (a.put d v) w) : wpAnyH P md ops Q S (fuel + 1) listed a w := by
  subst hd
  exact wpAnyH_take hi hs hf hr hQ hy hS h
theorem held_one {j : Nat} {o : Oper} {fuel : Nat} {listed : Array Bool} {a : Act} {w : World} (hr : Region.ready md ops listed = [j]) (ho : ops[j]? = some o)
    (h : ∀ K' : Act → World → Prop, Shut (∀ a w, S w → (S w → wpAnyH P md ops Q S fuel (listed.setIfInBounds j true) a w) → K' a w) → if Region.wanted o (yielded ops a.tmps) = true then Oper.wp P o a w K' Q else K' (a.put o.dst undef) w) : wpAnyH P md ops Q S (fuel + 1) listed a w :=
  wpAnyH_ready hr (by simp) (AllReadyH.cons ho h AllReadyH.nil)
theorem held_two {j k : Nat} {o o' : Oper} {fuel : Nat} {listed : Array Bool} {a : Act} {w : World} (hr : Region.ready md ops listed = [j, k]) (ho : ops[j]? = some o) (ho' : ops[k]? = some o')
    (h : ∀ K' : Act → World → Prop, Shut (∀ a w, S w → (S w → wpAnyH P md ops Q S fuel (listed.setIfInBounds j true) a w) → K' a w) → if Region.wanted o (yielded ops a.tmps) = true then Oper.wp P o a w K' Q else K' (a.put o.dst undef) w)
    (h' : ∀ K' : Act → World → Prop, Shut (∀ a w, S w → (S w → wpAnyH P md ops Q S fuel (listed.setIfInBounds k true) a w) → K' a w) → if Region.wanted o' (yielded ops a.tmps) = true then Oper.wp P o' a w K' Q else K' (a.put o'.dst undef) w) : wpAnyH P md ops Q S (fuel + 1) listed a w :=
  wpAnyH_ready hr (by simp) (AllReadyH.cons ho h (AllReadyH.cons ho' h' AllReadyH.nil))
end
end Go.Proofs.YtldopbkjchgcnaaDoor
