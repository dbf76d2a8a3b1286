/- ValueCuts, over what the program is asked; ValueBare, over what the program is asked. -/
import Derived.Test.YtpehlldgnbajjaaGreatDoorZ15
import Derived.Test.YtpehlldgnbajjaaGreatDoorZ10
namespace Go.Proofs.YtpehlldgnbajjaaGreatDoor
open Go.RowKit Go.Lib
set_option linter.unusedVariables false
set_option linter.unusedSimpArgs false

theorem lw_eq : exLw = exLow := rfl
theorem lw_size9 : size exLow ≤ 90000 := by unfold exLow; rw [size_mk, sizes_nil]; omega
theorem one_size (k n : Int) : size (.mk k n [] [exLow]) ≤ 90000 := by unfold exLow; rw [size_mk, sizes_cons, sizes_nil, size_mk, sizes_nil]; omega
/-- An expression with one argument, the lowest offer, in a block that was just made. -/
theorem one_at (k n : Int) (hk : i64 k) (hn : i64 n) (w : World) : ExAt (fun _ => True) (w.alloc (.cells #[.int .i64 1, .int .i64 0, .string ⟨#[]⟩, .slice none 0 0] 31)) (k, n, [], some ⟨w.heap.size, 0, none⟩, 1, 1) (.mk k n [] [exLow]) :=
  ExAt.one (a := (1, 0, [], none, 0, 0)) hk hn (Nat.zero_le _) (Bk.new w _ _) trivial (ExAt.leaf _ _ 1 0 [] none 0 ⟨by decide, by decide⟩ ⟨by decide, by decide⟩ (Nat.zero_le _))
theorem low_at (w : World) : ExAt (fun _ => True) w (1, 0, [], none, 0, 0) exLow := ExAt.leaf _ _ 1 0 [] none 0 ⟨by decide, by decide⟩ ⟨by decide, by decide⟩ (Nat.zero_le _)
theorem one_drew (k n : Int) (hk : i64 k) (hn : i64 n) (w0 w : World) (h : Rel w0 w) : ExAt (fun _ => True) (w.alloc (.cells #[.int .i64 1, .int .i64 0, .string ⟨#[]⟩, .slice none 0 0] 31)).drew (k, n, [], some ⟨w.heap.size, 0, none⟩, 1, 1) (.mk k n [] [exLow]) := (one_at k n hk hn w).rel ((h.alloc _).self.drew)
/-- What the law's five calls tell. -/
theorem cuts_tell {os : List Of} (hok : offsOk os = true) {N M : Int} (hN : 0 ≤ N ∧ N < 10001) (hM : 0 ≤ M ∧ M < 5000) : ∃ (t : Bool) (a b c d : Int),
    RV (evalS os exLow) = .tuple #[.int .i64 a, .bool t, .int .i64 0] ∧ RV (evalS os (.mk 6 N [] [exLow])) = .tuple #[.int .i64 b, .bool t, .int .i64 0] ∧ RV (evalS os (.mk 5 M [] [exLow])) = .tuple #[.int .i64 c, .bool t, .int .i64 0] ∧
    RV (evalS os (.mk 6 0 [] [exLow])) = .tuple #[.int .i64 d, .bool t, .int .i64 0] ∧ RV (evalS os (.mk 6 10000 [] [exLow])) = .tuple #[.int .i64 0, .bool t, .int .i64 0] ∧ (t = true → 0 ≤ b ∧ b ≤ a ∧ a ≤ 1000000000000 ∧ c = a - M ∧ d = a) := by
  obtain ⟨r2, e2, n2, s2⟩ := eval_cutLow hok (n := N) hN.1 (by omega)
  obtain ⟨r4, e4, n4, s4⟩ := eval_cutLow hok (n := 0) (by omega) (by omega)
  obtain ⟨r5, e5, n5, s5⟩ := eval_cutLow hok (n := 10000) (by omega) (by omega)
  have e1 : evalS os exLow = .ok (rk os 0) := eval_low hok
  have e3 := eval_lessLow hok (n := M) hM.1 (by omega)
  unfold exCut at e2 e4 e5
  unfold exLess at e3
  rw [lw_eq] at e2 e3 e4 e5
  rw [e1, e2, e3, e4, e5]
  cases h : rk os 0 with
  | none =>
    rw [n2 h, n4 h, n5 h]
    exact ⟨false, 0, 0, 0, 0, rfl, rfl, rfl, rfl, rfl, fun h => by cases h⟩
  | some a =>
    obtain ⟨b2, rfl, p1, p2, _, _⟩ := s2 a h
    obtain ⟨b4, rfl, _, _, p3, _⟩ := s4 a h
    obtain ⟨b5, rfl, _, _, _, p4⟩ := s5 a h
    obtain rfl := p3 rfl
    obtain rfl := p4 rfl
    have := rk_mon hok h
    exact ⟨true, b4, b2, b4 - M, b4, rfl, rfl, rfl, rfl, rfl, fun _ => ⟨p1, p2, this.2, rfl, rfl⟩⟩
end Go.Proofs.YtpehlldgnbajjaaGreatDoor

namespace Go.Proofs.YtpehlldgnbajjaaGreatDoor
open Go.RowKit Go.Lib
set_option linter.unusedVariables false
set_option linter.unusedSimpArgs false

theorem bare_eval {s : List UInt8} (hs : isName s = true) : evalS [] (.mk 3 0 s []) = .ok none := by rw [eval_from offsOk_nil hs]; rfl
theorem from_size (s : List UInt8) : size (.mk 3 0 s []) ≤ 90000 := by rw [size_mk, sizes_nil]; omega
theorem fix_size (n : Int) : size (.mk 4 n [] []) ≤ 90000 := by rw [size_mk, sizes_nil]; omega
theorem cutfix_size (n : Int) : size (.mk 6 10000 [] [.mk 4 n [] []]) ≤ 90000 := by rw [size_mk, sizes_cons, sizes_nil, size_mk, sizes_nil]; omega
theorem cutfix_at (n : Int) (hn : i64 n) (w : World) : ExAt (fun _ => True) (w.alloc (.cells #[.int .i64 4, .int .i64 n, .string ⟨#[]⟩, .slice none 0 0] 31)) (6, 10000, [], some ⟨w.heap.size, 0, none⟩, 1, 1) (.mk 6 10000 [] [.mk 4 n [] []]) :=
  ExAt.one (a := (4, n, [], none, 0, 0)) ⟨by decide, by decide⟩ ⟨by decide, by decide⟩ (Nat.zero_le _) (Bk.new w _ _) trivial (ExAt.leaf _ _ 4 n [] none 0 ⟨by decide, by decide⟩ hn (Nat.zero_le _))
/-- Where a seller stands: at q, or nowhere. -/
def Found (os : List Of) (s : List UInt8) (q : Int) : Prop := (q = -1 ∧ fromO os s = none) ∨ ∃ p, ∃ h : p < os.length, q = (p : Int) ∧ os[p].1 = s ∧ fromO os s = some os[p].2
def FoundTo (os : List Of) (s : List UInt8) (j : Nat) (q : Int) : Prop := (q = -1 ∧ ∀ k (h : k < os.length), k < j → os[k].1 ≠ s) ∨ ∃ p, ∃ h : p < os.length, q = (p : Int) ∧ os[p].1 = s
theorem found_end {os : List Of} (hok : offsOk os = true) {s : List UInt8} {q : Int} (h : FoundTo os s os.length q) : Found os s q := by
  rcases h with ⟨h, hn⟩ | ⟨p, hp, h, e⟩
  · exact .inl ⟨h, from_none fun i hi => hn i hi hi⟩
  · exact .inr ⟨p, hp, h, e, by rw [← e]; exact from_one hok hp⟩
theorem eval_one {os : List Of} (hok : offsOk os = true) {p : Nat} (hp : p < os.length) {s : List UInt8} (hs : isName s = true) (h : os[p].1 = s) : evalS [os[p]] (.mk 3 0 s []) = .ok (some os[p].2) := by
  have h1 := one_ok hok hp
  rw [eval_from h1 hs]
  congr 1
  rw [← h]
  exact (from_some (l := [os[p]]) (by simp)).2 (by simp)
end Go.Proofs.YtpehlldgnbajjaaGreatDoor
