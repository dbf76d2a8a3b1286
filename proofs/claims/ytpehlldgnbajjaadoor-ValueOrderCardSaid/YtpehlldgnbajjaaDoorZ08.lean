/- The document's own answers of layer 1 that layer 9 asks for; The document's own readings of an expression: how many, how deep, which are the same; The document's own answers of layer 9: what an expression tells, kind by kind, over what its arguments tell; The document's own Same. -/
import Derived.Test.YtpehlldgnbajjaaDoorZ06
import Derived.Test.YtpehlldgnbajjaaDoorZ03
import Derived.Test.YtpehlldgnbajjaaDoorZ07
namespace Go.Proofs.YtpehlldgnbajjaaDoor
open Go.RowKit Go.Lib
set_option linter.unusedVariables false
set_option linter.unusedSimpArgs false

theorem m9rt_iff {a : Int} : rt a = true ↔ -1000000000000 ≤ a ∧ a ≤ 1000000000000 := by simp [rt]
theorem m9prod_bd {a b A B : Int} (h1 : -A ≤ a) (h2 : a ≤ A) (h3 : -B ≤ b) (h4 : b ≤ B) : -(A * B) ≤ a * b ∧ a * b ≤ A * B := by
  have h : a.natAbs * b.natAbs ≤ A.natAbs * B.natAbs := Nat.mul_le_mul (by omega) (by omega)
  have e : (a * b).natAbs = a.natAbs * b.natAbs := Int.natAbs_mul a b
  have e2 : (A * B).natAbs = A.natAbs * B.natAbs := Int.natAbs_mul A B
  have hp : 0 ≤ A * B := Int.mul_nonneg (by omega) (by omega)
  omega
theorem m9fl_lt {p : Int} : fl p * 10000 ≤ p ∧ p < fl p * 10000 + 10000 := by
  have := tdt p 10000 (by omega)
  unfold fl; split <;> omega
theorem m9ret_two {a b c d : Int} (h : a = c) (h' : b = d) : Two (Ending.returned (.tuple #[.int .i64 a, .int .i64 b])) c d := by subst h; subst h'; rfl
theorem m9prt_up (p : Int) : -(fl (-p)) = if 0 < p.tmod 10000 then p.tdiv 10000 + 1 else p.tdiv 10000 := by
  have := tdt p 10000 (by omega)
  have h1 := @m9fl_lt (-p)
  generalize fl (-p) = q at *
  split <;> omega
end Go.Proofs.YtpehlldgnbajjaaDoor

namespace Go.Proofs.YtpehlldgnbajjaaDoor
open Go.RowKit Go.Lib
set_option linter.unusedVariables false
set_option linter.unusedSimpArgs false

theorem sizes_take (l : List Ex) (j : Nat) (h : j < l.length) : sizes (l.take (j + 1)) = sizes (l.take j) + size l[j] := by
  rw [List.take_succ_eq_append_getElem h, sizes_append, sizes_cons, sizes_nil]; omega
theorem deeps_take (l : List Ex) (j : Nat) (h : j < l.length) : deeps (l.take (j + 1)) = max (deeps (l.take j)) (deep l[j]) := by
  rw [List.take_succ_eq_append_getElem h, deeps_append, deeps_cons, deeps_nil]; omega
/-- An argument, in the world of a round. -/
theorem ExAt.arg {S : Nat → Prop} {w wr : World} {A : Option Addr} {es : List El} {l : List Ex} (hrow : RowE S w A es) (hsub : ∀ i (h : i < es.length) (h' : i < l.length), ExAt S w es[i] l[i]) (hl : es.length = l.length) (hr : Rel w wr) (j : Nat) (hj : j < l.length) :
    ∃ (g off : Nat) (k n : Int) (nm : List UInt8) (A' : Option Addr) (m c : Nat), A = some ⟨g, off, none⟩ ∧ wr.cell? ⟨g, off + j * 4, none⟩ = some (.int .i64 k) ∧ wr.cell? ⟨g, off + j * 4 + 1, none⟩ = some (.int .i64 n) ∧ wr.cell? ⟨g, off + j * 4 + 2, none⟩ = some (.string (B nm)) ∧ wr.cell? ⟨g, off + j * 4 + 3, none⟩ = some (.slice A' m c) ∧ ExAt S wr (k, n, nm, A', m, c) l[j] := by
  obtain ⟨g, off, e, hl2, _, h0, h1, h2, h3⟩ := hrow j (by omega)
  have hs := (hsub j (by omega) hj).rel hr
  generalize es[j] = e0 at *
  obtain ⟨k, n, nm, A', m, c⟩ := e0
  have hk : ∀ i, wr.cell? ⟨g, i, none⟩ = w.cell? ⟨g, i, none⟩ := fun i => hr.2.cell (p := ⟨g, i, none⟩) hl2
  exact ⟨g, off, k, n, nm, A', m, c, e, by rw [hk]; exact h0, by rw [hk]; exact h1, by rw [hk]; exact h2, by rw [hk]; exact h3, hs⟩
theorem fine_arg {l : List Ex} {P : Ex → Prop} (h : ∀ x ∈ l, P x) (j : Nat) (hj : j < l.length) : P l[j] := h _ (List.getElem_mem hj)
end Go.Proofs.YtpehlldgnbajjaaDoor

namespace Go.Proofs.YtpehlldgnbajjaaDoor
open Go.RowKit Go.Lib
set_option linter.unusedVariables false
set_option linter.unusedSimpArgs false

abbrev RV (r : Rs) : Value := .tuple #[.int .i64 (rsV r), .bool (rsB r), .int .i64 (rsE r)]
abbrev CV (r : Except Int Bool) : Value := .tuple #[.bool (cdB r), .int .i64 (cdE r)]
theorem Rel.right2 {w w' : World} (h : Rel w w') : Rel w' w' := h.self
theorem ret_tri {r r' : Rs} (h : r = r') : Ending.returned (RV r) = .returned (RV r') := by rw [h]
theorem ret_mm {a b : Int} (h : a = b) : Ending.returned (.tuple #[.int .i64 a, .bool true, .int .i64 0]) = .returned (RV (.ok (some b))) := by rw [h]; rfl
theorem ret_cv {r r' : Except Int Bool} (h : r = r') : Ending.returned (CV r) = .returned (CV r') := by rw [h]
/-- An element of a row, whole. -/
def KidAt (W : World) (A' : Option Addr) (i : Nat) (el : El) : Prop := ∃ g off, A' = some ⟨g, off, none⟩ ∧ g < W.heap.size ∧ W.cell? ⟨g, off + i, none⟩ = some (.int .i64 el.1) ∧ W.cell? ⟨g, off + i + 1, none⟩ = some (.int .i64 el.2.1) ∧ W.cell? ⟨g, off + i + 2, none⟩ = some (.string (B el.2.2.1)) ∧ W.cell? ⟨g, off + i + 3, none⟩ = some (.slice el.2.2.2.1 el.2.2.2.2.1 el.2.2.2.2.2)
theorem KidAt.rel {W W' : World} {A' : Option Addr} {i : Nat} {el : El} (h : KidAt W A' i el) (hr : Rel W W') : KidAt W' A' i el := by
  obtain ⟨g, off, e, hl, h0, h1, h2, h3⟩ := h
  have hk : ∀ j, W'.cell? ⟨g, j, none⟩ = W.cell? ⟨g, j, none⟩ := fun j => hr.2.cell (p := ⟨g, j, none⟩) hl
  exact ⟨g, off, e, by have := hr.size; omega, by rw [hk]; exact h0, by rw [hk]; exact h1, by rw [hk]; exact h2, by rw [hk]; exact h3⟩
theorem kid_of {S : Nat → Prop} {w W : World} {A' : Option Addr} {es : List El} {l : List Ex} (hrow : RowE S w A' es) (hsub : ∀ i (h : i < es.length) (h' : i < l.length), ExAt S w es[i] l[i]) (hl : es.length = l.length) (hr : Rel w W) (j : Nat) (hj : j < l.length) : ∃ el : El, KidAt W A' (j * 4) el ∧ ExAt S W el l[j] := by
  obtain ⟨g, off, k, n, nm, A2, m, c, hA, h0, h1, h2, h3, ha⟩ := ExAt.arg hrow hsub hl hr j hj
  exact ⟨(k, n, nm, A2, m, c), ⟨g, off, hA, blk_of_cell h0, h0, h1, h2, h3⟩, ha⟩
theorem KidAt.at0 {W : World} {g off : Nat} {el : El} (h : KidAt W (some ⟨g, off, none⟩) 0 el) : W.cell? ⟨g, off, none⟩ = some (.int .i64 el.1) ∧ W.cell? ⟨g, off + 1, none⟩ = some (.int .i64 el.2.1) ∧ W.cell? ⟨g, off + 2, none⟩ = some (.string (B el.2.2.1)) ∧ W.cell? ⟨g, off + 3, none⟩ = some (.slice el.2.2.2.1 el.2.2.2.2.1 el.2.2.2.2.2) := by
  obtain ⟨g', off', e, _, h0, h1, h2, h3⟩ := h
  injection e with e; injection e with e1 e2; subst e1; subst e2
  exact ⟨h0, h1, h2, h3⟩
theorem KidAt.at {W : World} {g off i : Nat} {el : El} (h : KidAt W (some ⟨g, off, none⟩) i el) : W.cell? ⟨g, off + i, none⟩ = some (.int .i64 el.1) ∧ W.cell? ⟨g, off + i + 1, none⟩ = some (.int .i64 el.2.1) ∧ W.cell? ⟨g, off + i + 2, none⟩ = some (.string (B el.2.2.1)) ∧ W.cell? ⟨g, off + i + 3, none⟩ = some (.slice el.2.2.2.1 el.2.2.2.2.1 el.2.2.2.2.2) := by
  obtain ⟨g', off', e, _, h0, h1, h2, h3⟩ := h
  injection e with e; injection e with e1 e2; subst e1; subst e2
  exact ⟨h0, h1, h2, h3⟩
theorem KidAt.some {W : World} {A' : Option Addr} {i : Nat} {el : El} (h : KidAt W A' i el) : ∃ g off, A' = some ⟨g, off, none⟩ := by
  obtain ⟨g, off, e, _⟩ := h; exact ⟨g, off, e⟩
theorem sub_tri (v n : Int) : RV (subR v n) = .tuple #[.int .i64 (two1 v n (v - n)), .bool (two2 v n (v - n) == 0), .int .i64 (two2 v n (v - n))] := by
  unfold subR
  by_cases h : two2 v n (v - n) = 0
  · rw [if_pos h, h]; rfl
  · rw [if_neg h]
    have : two1 v n (v - n) = 0 := by
      unfold two1 told1
      unfold two2 told2 at h
      by_cases h1 : (rt v && rt n) = true
      · rw [if_pos h1] at h ⊢
        by_cases h2 : rt (v - n) = true
        · rw [if_pos h2] at h; exact absurd rfl h
        · rw [if_neg h2]
      · rw [if_neg h1]
    rw [this, show (two2 v n (v - n) == 0) = false by simpa using h]; rfl
end Go.Proofs.YtpehlldgnbajjaaDoor

namespace Go.Proofs.YtpehlldgnbajjaaDoor
open Go.RowKit Go.Lib
set_option linter.unusedVariables false
set_option linter.unusedSimpArgs false

theorem str_bne (a b : List UInt8) : ((B a).toList != (B b).toList) = !(decide (a = b)) := by
  rw [B_toList, B_toList]
  by_cases h : a = b <;> simp [h]
theorem lists_eq {l l' : List Ex} (hl : l.length = l'.length) (h : ∀ i (h : i < l.length) (h' : i < l'.length), l[i] = l'[i]) : l = l' := List.ext_getElem hl h
end Go.Proofs.YtpehlldgnbajjaaDoor
