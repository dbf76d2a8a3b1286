/- Tokens in memory, pairs of raw numbers; which tokens are the same. -/
import Derived.Test.YtlflfffjaodhpaaDoorLexBlk
import Derived.Test.YtlflfffjaodhpaaDoorLexMathB
namespace Go.Proofs.YtlflfffjaodhpaaDoor
open Go.RowKit Go.Lib
set_option linter.unusedVariables false
set_option linter.unusedSimpArgs false

abbrev TK (t : Tok) : Value := .agg #[.int .i64 t.1, .string (B t.2.1), .int .i64 t.2.2.1, .int .i64 t.2.2.2]
def cells4 (t : Tok) : List Value := [.int .i64 t.1, .string (B t.2.1), .int .i64 t.2.2.1, .int .i64 t.2.2.2]
def cellsOf (ts : List Tok) : List Value := ts.flatMap cells4
theorem cellsOf_snoc (ts : List Tok) (t : Tok) : cellsOf (ts ++ [t]) = cellsOf ts ++ cells4 t := by simp [cellsOf]
theorem cellsOf_len (ts : List Tok) : (cellsOf ts).length = ts.length * 4 := by
  induction ts with
  | nil => rfl
  | cons e t ih => simp only [cellsOf, List.flatMap_cons, List.length_append, List.length_cons] at ih ⊢; simp only [cells4, List.length_cons, List.length_nil]; omega
theorem cellsOf_at (ts : List Tok) (i : Nat) (h : i < ts.length) :
    (cellsOf ts)[i * 4]? = some (.int .i64 ts[i].1) ∧ (cellsOf ts)[i * 4 + 1]? = some (.string (B ts[i].2.1)) ∧ (cellsOf ts)[i * 4 + 2]? = some (.int .i64 ts[i].2.2.1) ∧ (cellsOf ts)[i * 4 + 3]? = some (.int .i64 ts[i].2.2.2) := by
  induction ts generalizing i with
  | nil => simp at h
  | cons e t ih =>
    have hc : cellsOf (e :: t) = cells4 e ++ cellsOf t := rfl
    cases i with
    | zero => rw [hc]; exact ⟨rfl, rfl, rfl, rfl⟩
    | succ i =>
      obtain ⟨h1, h2, h3, h4⟩ := ih i (by simpa using h)
      have l4 : (cells4 e).length = 4 := rfl
      refine ⟨?_, ?_, ?_, ?_⟩
      · rw [hc, List.getElem?_append_right (by omega), show (i + 1) * 4 - (cells4 e).length = i * 4 by omega]; exact h1
      · rw [hc, List.getElem?_append_right (by omega), show (i + 1) * 4 + 1 - (cells4 e).length = i * 4 + 1 by omega]; exact h2
      · rw [hc, List.getElem?_append_right (by omega), show (i + 1) * 4 + 2 - (cells4 e).length = i * 4 + 2 by omega]; exact h3
      · rw [hc, List.getElem?_append_right (by omega), show (i + 1) * 4 + 3 - (cells4 e).length = i * 4 + 3 by omega]; exact h4
/-- The cells from A on are these tokens. -/
def ToksAt (w : World) (A : Option Addr) (ts : List Tok) : Prop :=
  ∀ i (h : i < ts.length), ∃ (g off : Nat), A = some ⟨g, off, none⟩ ∧ g < w.heap.size ∧ w.cell? ⟨g, off + i * 4, none⟩ = some (.int .i64 ts[i].1) ∧ w.cell? ⟨g, off + i * 4 + 1, none⟩ = some (.string (B ts[i].2.1)) ∧
    w.cell? ⟨g, off + i * 4 + 2, none⟩ = some (.int .i64 ts[i].2.2.1) ∧ w.cell? ⟨g, off + i * 4 + 3, none⟩ = some (.int .i64 ts[i].2.2.2)
theorem ToksAt.nil (w : World) (A : Option Addr) : ToksAt w A [] := fun i h => absurd h (by simp)
theorem ToksAt.below {w w' : World} {A : Option Addr} {ts : List Tok} (h : ToksAt w A ts) (hb : Below w.heap.size w w') : ToksAt w' A ts := by
  intro i hi
  obtain ⟨g, off, e, hl, h0, h1, h2, h3⟩ := h i hi
  have hk : ∀ j, w'.cell? ⟨g, j, none⟩ = w.cell? ⟨g, j, none⟩ := fun j => hb.cell (p := ⟨g, j, none⟩) hl
  exact ⟨g, off, e, by have := hb.size; omega, by rw [hk]; exact h0, by rw [hk]; exact h1, by rw [hk]; exact h2, by rw [hk]; exact h3⟩
theorem ToksAt.rel {w w' : World} {A : Option Addr} {ts : List Tok} (h : ToksAt w A ts) (hr : Rel w w') : ToksAt w' A ts := h.below hr.2
/-- A slice of tokens of the call's own. -/
def TokOwn (w : World) (base : Nat) (v : Value) (ts : List Tok) : Prop := w.ownsRow base 65 4 v ts.length (cellsOf ts)
theorem TokOwn.nil (w : World) (base : Nat) : TokOwn w base (.slice none 0 0) [] := World.ownsRow_nil _ _ _ _
theorem TokOwn.rel {w w' : World} {base : Nat} {v : Value} {ts : List Tok} (h : TokOwn w base v ts) (hr : Rel w w') : TokOwn w' base v ts := own_rel h hr
theorem TokOwn.toks {w : World} {base : Nat} {A : Option Addr} {n c : Nat} {ts : List Tok} (h : TokOwn w base (.slice A n c) ts) (hn : n = ts.length) : ToksAt w A ts := by
  intro i hi
  have h : w.ownsRow base 65 4 (.slice A n c) ts.length (cellsOf ts) := h
  rcases h.2 with ⟨h0, h1⟩ | ⟨g, cap, cur, hv, hb, hh, _⟩
  · omega
  · have hA : A = some ⟨g, 0, none⟩ := by injection hv
    obtain ⟨c0, c1, c2, c3⟩ := cellsOf_at ts i hi
    have hc := h.cells (g := g) (by rw [hA]; rfl)
    have q0 := hc _ _ c0
    have q1 := hc _ _ c1
    have q2 := hc _ _ c2
    have q3 := hc _ _ c3
    rw [addr_at] at q0 q1 q2 q3
    refine ⟨g, 0, hA, Bk.lt (t := 65) hh, ?_, ?_, ?_, ?_⟩
    · exact q0
    · rw [Nat.add_assoc]; exact q1
    · rw [Nat.add_assoc]; exact q2
    · rw [Nat.add_assoc]; exact q3
theorem TokOwn.more {w1 : World} {base g cap : Nat} {ts : List Tok} {t : Tok}
    (hown1 : w1.ownsRow base 65 4 (.slice (some ⟨g, 0, none⟩) (ts.length + 1) cap) (ts.length + 1) (cellsOf ts ++ cells4 t)) : TokOwn w1 base (.slice (some ⟨g, 0, none⟩) (ts.length + 1) cap) (ts ++ [t]) := by
  unfold TokOwn
  rw [cellsOf_snoc, show (ts ++ [t]).length = ts.length + 1 by simp]; exact hown1
theorem tok_info : (Tryd.prog.info? 65).map (fun i => (i.zero, i.size, i.bytes)) = some (some (.agg #[.int .i64 0, .string ⟨#[]⟩, .int .i64 0, .int .i64 0]), 4, 40) := by kernel_rfl
theorem cells4_one (t : Tok) : ∀ u ∈ cells4 t, u.oneCell' = true := by
  intro u hu
  simp only [cells4, List.mem_cons, List.not_mem_nil, or_false] at hu
  rcases hu with rfl | rfl | rfl | rfl <;> rfl
/-- The cells from A on are these pairs of numbers. -/
def PairsAt (w : World) (A : Option Addr) (zs : List (Int × Int)) : Prop :=
  ∀ i (h : i < zs.length), ∃ (a : Addr), A = some a ∧ a.block < w.heap.size ∧ w.cell? (a.add (i * 2)) = some (.int .i64 zs[i].1) ∧ w.cell? (a.add (i * 2 + 1)) = some (.int .i64 zs[i].2)
theorem PairsAt.below {w w' : World} {A : Option Addr} {zs : List (Int × Int)} (h : PairsAt w A zs) (hb : Below w.heap.size w w') : PairsAt w' A zs := by
  intro i hi
  obtain ⟨a, e, hl, h0, h1⟩ := h i hi
  have hk : ∀ j, w'.cell? (a.add j) = w.cell? (a.add j) := fun j => hb.cell (p := a.add j) (by rw [block_add]; exact hl)
  exact ⟨a, e, by have := hb.size; omega, by rw [hk]; exact h0, by rw [hk]; exact h1⟩
theorem PairsAt.rel {w w' : World} {A : Option Addr} {zs : List (Int × Int)} (h : PairsAt w A zs) (hr : Rel w w') : PairsAt w' A zs := h.below hr.2
/-- Pairs of raw numbers as an argument. -/
def PairsIn (w : World) (A : Option Addr) (n : Nat) (zs : List (Int × Int)) : Prop := zs.length = n ∧ n ≤ 9223372036854775807 ∧ (∀ z ∈ zs, (-9223372036854775808 ≤ z.1 ∧ z.1 ≤ 9223372036854775807) ∧ (-9223372036854775808 ≤ z.2 ∧ z.2 ≤ 9223372036854775807)) ∧ PairsAt w A zs
theorem Bk.four {w : World} {g : Nat} {t : TypeId} {x y z u : Value} (h : Bk w g t #[x, y, z, u]) :
    (w.cell? ⟨g, 0, none⟩ = some x ∧ w.cell? ⟨g, 1, none⟩ = some y ∧ w.cell? ⟨g, 2, none⟩ = some z ∧ w.cell? ⟨g, 3, none⟩ = some u) ∧ (w.frozen? ⟨g, 0, none⟩ = false ∧ w.frozen? ⟨g, 1, none⟩ = false ∧ w.frozen? ⟨g, 2, none⟩ = false ∧ w.frozen? ⟨g, 3, none⟩ = false) :=
  ⟨⟨h.cell 0, h.cell 1, h.cell 2, h.cell 3⟩, ⟨h.frozen 0, h.frozen 1, h.frozen 2, h.frozen 3⟩⟩
theorem Bk.put4 {w : World} {g : Nat} {t : TypeId} {x y z u : Value} (h : Bk w g t #[x, y, z, u]) (a b c d : Value) : Bk ((((w.setCell ⟨g, 0, none⟩ a).setCell ⟨g, 1, none⟩ b).setCell ⟨g, 2, none⟩ c).setCell ⟨g, 3, none⟩ d) g t #[a, b, c, d] :=
  (((h.set_ 0 a).set_ 1 b).set_ 2 c).set_ 3 d
theorem Bk.snd (w : World) (cs cs' : Array Value) (t t' : TypeId) : Bk ((w.alloc (.cells cs t)).alloc (.cells cs' t')) (w.heap.size + 1) t' cs' := by
  have h := Bk.new (w.alloc (.cells cs t)) t' cs'
  rw [World.size_alloc] at h
  exact h
theorem Rel.put4 {w0 w : World} (h : Rel w0 w) {g : Nat} (hg : w0.heap.size ≤ g) (a b c d : Value) : Rel w0 ((((w.setCell ⟨g, 0, none⟩ a).setCell ⟨g, 1, none⟩ b).setCell ⟨g, 2, none⟩ c).setCell ⟨g, 3, none⟩ d) :=
  (((h.setCell hg a).setCell hg b).setCell hg c).setCell hg d
abbrev TB (w : World) (g : Nat) (t : Tok) : Prop := Bk w g 65 #[.int .i64 t.1, .string (B t.2.1), .int .i64 t.2.2.1, .int .i64 t.2.2.2]
set_option maxHeartbeats 1000000 in
theorem same_any (A A' : Option Addr) (c c' : Nat) (ts : List Tok) (hl : ts.length ≤ 9223372036854775807) (w0 w : World) (hr : Rel w0 w) (hx : Hid (ToksAt w A ts)) (hy : Hid (ToksAt w A' ts)) :
    Calls Tryd.prog 24 #[.slice A ts.length c, .slice A' ts.length c'] w fun e w' => e = .returned (.bool true) ∧ Rel w0 w' := by
  have hR := Lib.hid hr
  have HW := Lib.hid hr.self
  go_enter Tryd.func24, Tryd.ntmps24
  go_wp2_with (fail)
  go_loopw [5] (fun i wr => ∃ j : Nat, j ≤ ts.length ∧ i = .int .i64 j ∧ Rel w wr) (fun i _ => ts.length - (intOf i).toNat)
  case atStart => exact ⟨0, by omega, rfl, HW.out⟩
  case round =>
    obtain ⟨j, hj, rfl, hR2⟩ := hrel
    by_cases hlt : j < ts.length
    · obtain ⟨g, off, rfl, hb, h0, h1, h2, h3⟩ := (hx.out.rel hR2) j hlt
      obtain ⟨g', off', rfl, hb', h0', h1', h2', h3'⟩ := (hy.out.rel hR2) j hlt
      generalize ts[j] = t at *
      go_wp2_with (fail)
      go_quiet (fail)
      go_wp2_with (fail)
      go_roundw
      case rel => exact ⟨j + 1, by omega, by go_num, hR2.drewN _⟩
      case measure => simp [intOf]; omega
    · obtain rfl : j = ts.length := by omega
      go_wp2_with (fail)
      go_ret
      exact ⟨rfl, hR.out.trans hR2⟩
end Go.Proofs.YtlflfffjaodhpaaDoor
