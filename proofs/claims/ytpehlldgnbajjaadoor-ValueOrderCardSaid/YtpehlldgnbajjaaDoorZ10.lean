/- The document's own text; A drawn region walked by hand: what is taken first, under a condition that the region keeps; what alone may come up. -/
import Derived.Test.YtpehlldgnbajjaaDoorZ09
import Derived.Test.YtpehlldgnbajjaaDoorProg
import Derived.Deep.RegionHeld
namespace Go.Proofs.YtpehlldgnbajjaaDoor
open Go.RowKit Go.Lib
set_option linter.unusedVariables false
set_option linter.unusedSimpArgs false

theorem mores_append (a b : List Ex) : mores (a ++ b) = mores a ++ mores b := by
  induction a with
  | nil => simp [mores_nil]
  | cons x t ih => rw [List.cons_append, mores_cons, mores_cons, ih]; simp
theorem texts_snoc (a : List Ex) (x : Ex) : texts (a ++ [x]) = texts a ++ ((if a = [] then [] else [44, 32]) ++ text x) := by
  cases a with
  | nil => simp [texts_nil, texts_cons, mores_nil]
  | cons y t => rw [List.cons_append, texts_cons, texts_cons, mores_append, mores_cons, mores_nil]; simp
theorem texts_take (l : List Ex) (j : Nat) (h : j < l.length) : texts (l.take (j + 1)) = texts (l.take j) ++ ((if j = 0 then [] else [44, 32]) ++ text l[j]) := by
  rw [List.take_succ_eq_append_getElem h, texts_snoc]
  congr 2
  by_cases e : j = 0
  · subst e; simp
  · rw [if_neg e, if_neg (by intro h'; have := congrArg List.length h'; rw [List.length_take, List.length_nil] at this; omega)]
theorem B_lit2 (l : List UInt8) : B l ++ (⟨#[44, 32]⟩ : ByteArray) = B (l ++ [44, 32]) := by rw [show (⟨#[44, 32]⟩ : ByteArray) = B [44, 32] from rfl, B_append]
theorem B_lit40 (l : List UInt8) : B l ++ (⟨#[40]⟩ : ByteArray) = B (l ++ [40]) := by rw [show (⟨#[40]⟩ : ByteArray) = B [40] from rfl, B_append]
theorem B_lit41 (l : List UInt8) : B l ++ (⟨#[41]⟩ : ByteArray) = B (l ++ [41]) := by rw [show (⟨#[41]⟩ : ByteArray) = B [41] from rfl, B_append]
end Go.Proofs.YtpehlldgnbajjaaDoor

namespace Go.Proofs.YtpehlldgnbajjaaDoor
open Go
set_option linter.unusedVariables false
set_option linter.unusedSimpArgs false
section
variable {P : Program} {ops : Array Oper} {Q : Exit → Act → World → Prop} {md : Region.Mode} {S : World → Prop}

theorem held_take {i : Nat} {oi : Oper} {v : Value} (d : Option Tmp) {fuel : Nat} {listed : Array Bool} {a : Act} {w : World} (hi : ops[i]? = some oi) (hd : oi.dst = d)
    (hs : Region.noSelect ops = true) (hf : Region.free md ops listed i = true) (hr : (Region.ready md ops listed).contains i = true)
    (hQ : ∀ c a w, Q (.panic c) (a.put d v) w → Q (.panic c) a w) (hy : YieldsIf P ops S oi v a) (hS : S w)
    (h : wpAnyH P md ops Q S fuel (listed.setIfInBounds i true) (a.put d v) w) : wpAnyH P md ops Q S (fuel + 1) listed a w := by
  subst hd
  exact wpAnyH_take hi hs hf hr hQ hy hS h
theorem held_one {j : Nat} {o : Oper} {fuel : Nat} {listed : Array Bool} {a : Act} {w : World} (hr : Region.ready md ops listed = [j]) (ho : ops[j]? = some o)
    (h : ∀ K' : Act → World → Prop, Shut (∀ a w, S w → (S w → wpAnyH P md ops Q S fuel (listed.setIfInBounds j true) a w) → K' a w) → if Region.wanted o (yielded ops a.tmps) = true then Oper.wp P o a w K' Q else K' (a.put o.dst undef) w) : wpAnyH P md ops Q S (fuel + 1) listed a w :=
  wpAnyH_ready hr (by simp) (AllReadyH.cons ho h AllReadyH.nil)
theorem held_two {j k : Nat} {o o' : Oper} {fuel : Nat} {listed : Array Bool} {a : Act} {w : World} (hr : Region.ready md ops listed = [j, k]) (ho : ops[j]? = some o) (ho' : ops[k]? = some o')
    (h : ∀ K' : Act → World → Prop, Shut (∀ a w, S w → (S w → wpAnyH P md ops Q S fuel (listed.setIfInBounds j true) a w) → K' a w) → if Region.wanted o (yielded ops a.tmps) = true then Oper.wp P o a w K' Q else K' (a.put o.dst undef) w)
    (h' : ∀ K' : Act → World → Prop, Shut (∀ a w, S w → (S w → wpAnyH P md ops Q S fuel (listed.setIfInBounds k true) a w) → K' a w) → if Region.wanted o' (yielded ops a.tmps) = true then Oper.wp P o' a w K' Q else K' (a.put o'.dst undef) w) : wpAnyH P md ops Q S (fuel + 1) listed a w :=
  wpAnyH_ready hr (by simp) (AllReadyH.cons ho h (AllReadyH.cons ho' h' AllReadyH.nil))
end
end Go.Proofs.YtpehlldgnbajjaaDoor
