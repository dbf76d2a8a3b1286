/- Slices of records of the call's own. -/
import Derived.Test.YtjbbfcomgglhiaaDoorRecBlk
namespace Go.Proofs.YtjbbfcomgglhiaaDoor
open Go.RowKit Go.Lib
set_option linter.unusedVariables false
set_option linter.unusedSimpArgs false

/-- The three cells of one record. -/
def cells3 (e : (Int × List Int × ByteArray) × Option Addr × Nat) : List Value := [.int .i64 e.1.1, .slice e.2.1 e.1.2.1.length e.2.2, .string e.1.2.2]
def cellsOf (es : List ((Int × List Int × ByteArray) × Option Addr × Nat)) : List Value := es.flatMap cells3
theorem cellsOf_snoc (es : List ((Int × List Int × ByteArray) × Option Addr × Nat)) (e : (Int × List Int × ByteArray) × Option Addr × Nat) : cellsOf (es ++ [e]) = cellsOf es ++ cells3 e := by
  simp [cellsOf]
theorem cellsOf_len (es : List ((Int × List Int × ByteArray) × Option Addr × Nat)) : (cellsOf es).length = es.length * 3 := by
  induction es with
  | nil => rfl
  | cons e t ih => simp only [cellsOf, List.flatMap_cons, List.length_append, List.length_cons] at ih ⊢; simp only [cells3, List.length_cons, List.length_nil]; omega
theorem cellsOf_at (es : List ((Int × List Int × ByteArray) × Option Addr × Nat)) (i : Nat) (h : i < es.length) :
    (cellsOf es)[i * 3]? = some (.int .i64 es[i].1.1) ∧ (cellsOf es)[i * 3 + 1]? = some (.slice es[i].2.1 es[i].1.2.1.length es[i].2.2) ∧ (cellsOf es)[i * 3 + 2]? = some (.string es[i].1.2.2) := by
  induction es generalizing i with
  | nil => simp at h
  | cons e t ih =>
    have hc : cellsOf (e :: t) = cells3 e ++ cellsOf t := rfl
    cases i with
    | zero => rw [hc]; exact ⟨rfl, rfl, rfl⟩
    | succ i =>
      obtain ⟨h1, h2, h3⟩ := ih i (by simpa using h)
      have l3 : (cells3 e).length = 3 := rfl
      refine ⟨?_, ?_, ?_⟩
      · rw [hc, List.getElem?_append_right (by omega), show (i + 1) * 3 - (cells3 e).length = i * 3 by omega]; exact h1
      · rw [hc, List.getElem?_append_right (by omega), show (i + 1) * 3 + 1 - (cells3 e).length = i * 3 + 1 by omega]; exact h2
      · rw [hc, List.getElem?_append_right (by omega), show (i + 1) * 3 + 2 - (cells3 e).length = i * 3 + 2 by omega]; exact h3
/-- A slice of records of the call's own: the row, and each record's numbers. -/
def ElsOwn (w : World) (base : Nat) (v : Value) (es : List ((Int × List Int × ByteArray) × Option Addr × Nat)) : Prop :=
  w.ownsRow base 24 3 v es.length (cellsOf es) ∧ ∀ e ∈ es, NumsOwn w e.2.1 e.1.2.1
theorem ElsOwn.nil (w : World) (base : Nat) : ElsOwn w base (.slice none 0 0) [] := ⟨World.ownsRow_nil _ _ _ _, fun e h => by cases h⟩
theorem ElsOwn.rel {w w' : World} {base : Nat} {v : Value} {es : List ((Int × List Int × ByteArray) × Option Addr × Nat)} (h : ElsOwn w base v es) (hr : Rel w w') : ElsOwn w' base v es :=
  ⟨own_rel h.1 hr, fun e he => (h.2 e he).rel hr⟩
theorem ElsOwn.recs {w : World} {base : Nat} {A : Option Addr} {n c : Nat} {es : List ((Int × List Int × ByteArray) × Option Addr × Nat)} (h : ElsOwn w base (.slice A n c) es) (hn : n = es.length) : RecsAt w A (es.map (·.1)) := by
  intro i hi
  have hi' : i < es.length := by simpa using hi
  rcases h.1.2 with ⟨h0, h1⟩ | ⟨g, cap, cur, hv, hb, hh, _⟩
  · omega
  · have hA : A = some ⟨g, 0, none⟩ := by injection hv
    obtain ⟨c0, c1, c2⟩ := cellsOf_at es i hi'
    have hc := h.1.cells (g := g) (by rw [hA]; rfl)
    have ha : ∀ k, (⟨g, 0, none⟩ : Addr).add k = ⟨g, 0 + k, none⟩ := fun k => by unfold Addr.add; split <;> simp_all
    have q0 := hc _ _ c0
    have q1 := hc _ _ c1
    have q2 := hc _ _ c2
    rw [ha] at q0 q1 q2
    have e1 : (es.map (·.1))[i] = es[i].1 := List.getElem_map ..
    refine ⟨g, 0, es[i].2.1, es[i].2.2, hA, Bk.lt (t := 24) hh, ?_, ?_, ?_, ?_⟩
    · rw [e1]; exact q0
    · rw [e1, Nat.add_assoc]; exact q1
    · rw [e1, Nat.add_assoc]; exact q2
    · rw [e1]; exact (h.2 es[i] (List.getElem_mem hi')).ints
/-- Behind an append of one record. -/
theorem ElsOwn.more {w w1 : World} {base g cap : Nat} {v : Value} {es : List ((Int × List Int × ByteArray) × Option Addr × Nat)} {e : (Int × List Int × ByteArray) × Option Addr × Nat} (h : ElsOwn w base v es)
    (he : NumsOwn w e.2.1 e.1.2.1)
    (hown1 : w1.ownsRow base 24 3 (.slice (some ⟨g, 0, none⟩) (es.length + 1) cap) (es.length + 1) (cellsOf es ++ cells3 e)) (hgrow : w.grownBy w1 v.ownBlock) : ElsOwn w1 base (.slice (some ⟨g, 0, none⟩) (es.length + 1) cap) (es ++ [e]) := by
  refine ⟨?_, fun x hx => ?_⟩
  · rw [cellsOf_snoc, show (es ++ [e]).length = es.length + 1 by simp]; exact hown1
  · rcases List.mem_append.1 hx with hx | hx
    · exact (h.2 x hx).grow h.1 (by decide) hgrow
    · rw [List.mem_singleton.1 hx]
      exact he.grow h.1 (by decide) hgrow
theorem rec_info : (Tryd.prog.info? 24).map (fun i => (i.zero, i.size, i.bytes)) = some (some (.agg #[.int .i64 0, .slice none 0 0, .string ⟨#[]⟩]), 3, 48) := by kernel_rfl
theorem cells3_one (e : (Int × List Int × ByteArray) × Option Addr × Nat) : ∀ u ∈ cells3 e, u.oneCell' = true := by
  intro u hu
  simp only [cells3, List.mem_cons, List.not_mem_nil, or_false] at hu
  rcases hu with rfl | rfl | rfl <;> rfl
end Go.Proofs.YtjbbfcomgglhiaaDoor
