/- The law's raw pieces of layer 13: triples of raw numbers, pick, a raw book. -/
import Derived.Test.YtfplhpkolcgpiaaZL
import Derived.Test.YtfplhpkolcgpiaaZ00
import Derived.Test.YtfplhpkolcgpiaaZ01
import Derived.Test.YtfplhpkolcgpiaaZ12
namespace Go.Proofs.Ytfplhpkolcgpiaa
open Go.RowKit Go.Lib
set_option linter.unusedVariables false
set_option linter.unusedSimpArgs false
theorem add13 (a : Addr) (n k : Nat) : a.add (n + (k + 1)) = ⟨(a.add n).block, (a.add n).off + (k + 1), none⟩ := by
  unfold Addr.add
  by_cases h : n = 0
  · subst h; simp
  · simp [h]; omega
theorem trips_at {w : World} {A : Option Addr} {n : Nat} {zs : List Tr} (h : TripsIn w A n zs) {w' : World} (hr : Rel w w') (j : Nat) (hj : j < zs.length) :
    ∃ (a : Addr) (x y z : Int), A = some a ∧ (a.add (j * 3)).block < w.heap.size ∧ w'.cell? (a.add (j * 3)) = some (.int .i64 x) ∧ w'.cell? ⟨(a.add (j * 3)).block, (a.add (j * 3)).off + 1, none⟩ = some (.int .i64 y) ∧ w'.cell? ⟨(a.add (j * 3)).block, (a.add (j * 3)).off + 2, none⟩ = some (.int .i64 z) ∧ zs[j] = (x, y, z) ∧ in64 x ∧ in64 y ∧ in64 z := by
  obtain ⟨_, _, hb, hp⟩ := h
  obtain ⟨a, e, hl0, _⟩ := hp j hj
  obtain ⟨a', e', hl, c0, c1, c2⟩ := (hp.rel hr) j hj
  rw [e] at e'
  injection e' with e'
  subst e'
  have := hb zs[j] (List.getElem_mem hj)
  rw [show j * 3 + 1 = j * 3 + (0 + 1) from rfl, add13] at c1
  rw [show j * 3 + 2 = j * 3 + (1 + 1) from rfl, add13] at c2
  exact ⟨a, zs[j].1, zs[j].2.1, zs[j].2.2, e, by rw [block_add]; exact hl0, c0, c1, c2, rfl, this.1, this.2.1, this.2.2⟩
/-- A raw step. -/
def stepB (b : List Sl) (i : Nat) (z : Tr) : List Sl :=
  if pk z.1 8 = 0 then dropB b (sellerL (pk z.2.1 60)) else if pk z.1 8 = 1 then expB b i (pk z.2.2 12) else
    if putE b (sellerL (pk z.2.1 60)) (1 + pk z.2.2 2500) i = 0 then putV b (sellerL (pk z.2.1 60)) (1 + pk z.2.2 2500) i else b
def bookTo (zs : List Tr) : Nat → List Sl
  | 0 => []
  | j + 1 => match zs[j]? with | some z => stepB (bookTo zs j) j z | none => bookTo zs j
def bookS (zs : List Tr) : List Sl := bookTo zs (min zs.length 30)
theorem bookTo_next {zs : List Tr} {j : Nat} (hj : j < zs.length) : bookTo zs (j + 1) = stepB (bookTo zs j) j zs[j] := by
  rw [bookTo, List.getElem?_eq_getElem hj]
theorem step_ok {b : List Sl} (h : bookOk b) (i : Nat) (z : Tr) : bookOk (stepB b i z) := by
  unfold stepB
  split
  · exact book_drop h _
  · split
    · exact book_exp h _ _
    · split
      · rename_i he
        cases hp : putB b (sellerL (pk z.2.1 60)) (1 + pk z.2.2 2500) i with
        | ok c =>
          have : putV b (sellerL (pk z.2.1 60)) (1 + pk z.2.2 2500) i = c := by unfold putV; rw [hp]
          rw [this]; exact book_put h hp
        | error e =>
          have : putV b (sellerL (pk z.2.1 60)) (1 + pk z.2.2 2500) i = [] := by unfold putV; rw [hp]
          rw [this]; exact book_nil
      · exact h
theorem bookTo_ok (zs : List Tr) : ∀ j, bookOk (bookTo zs j)
  | 0 => book_nil
  | j + 1 => by
    rw [bookTo]
    split
    · exact step_ok (bookTo_ok zs j) _ _
    · exact bookTo_ok zs j
end Go.Proofs.Ytfplhpkolcgpiaa
