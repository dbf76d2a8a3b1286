/- Plain mathematics of layer 11: code of raw numbers; what is first cut off. No program in this text. -/
import Derived.Test.YtcckemhelockaaaGreatDoorZL
import Derived.Test.YtcckemhelockaaaGreatDoorZ00
import Derived.Test.YtcckemhelockaaaGreatDoorZ01
import Derived.Test.YtcckemhelockaaaGreatDoorZ20
import Derived.Test.YtcckemhelockaaaGreatDoorZ21
namespace Go.Proofs.YtcckemhelockaaaGreatDoor
open Go.Lib
set_option linter.unusedVariables false
set_option linter.unusedSimpArgs false
def nameR (k : Int) : List UInt8 := if k = 0 then [97, 48] else if k = 1 then [98, 111, 98, 48] else [120, 49, 48]
def someAt (n i : Nat) (z : Int × Int) : In :=
  if isTo (1 + pk z.1 13) then (1 + pk z.1 13, (i : Int) + 1 + pk z.2 ((n : Int) - (i : Int)), [])
  else if 1 + pk z.1 13 = 1 ∨ 1 + pk z.1 13 = 5 then (1 + pk z.1 13, if z.2.tmod 7 = 0 then 1000000000000 else pk z.2 900, [])
  else if 1 + pk z.1 13 = 6 then (1 + pk z.1 13, pk z.2 100001, [])
  else if 1 + pk z.1 13 = 10 then (1 + pk z.1 13, pk z.2 9, [])
  else if 1 + pk z.1 13 = 4 then (1 + pk z.1 13, 0, nameR (pk z.2 3))
  else (1 + pk z.1 13, 0, [])
def someTo (zs : List (Int × Int)) (n : Nat) : Nat → List In
  | 0 => []
  | j + 1 => someTo zs n j ++ [someAt n j (zs.getD j (0, 0))]
def someL (zs : List (Int × Int)) : List In := someTo zs (min zs.length 12) (min zs.length 12)
theorem some_len (zs : List (Int × Int)) (n j : Nat) : (someTo zs n j).length = j := by
  induction j with
  | zero => rfl
  | succ j ih => rw [someTo, List.length_append, ih]; rfl
theorem someAt_ok {n i : Nat} (h : i < n) (z : Int × Int) : inOk n i (someAt n i z) = true := by
  have ho := pk_bd z.1 13 (by omega)
  have h1 := pk_bd z.2 900 (by omega)
  have h2 := pk_bd z.2 100001 (by omega)
  have h3 := pk_bd z.2 9 (by omega)
  have h7 := pk_bd z.2 ((n : Int) - (i : Int)) (by omega)
  have h5 := pk_bd z.2 3 (by omega)
  unfold someAt
  generalize hO : 1 + pk z.1 13 = o
  have b1 : 1 ≤ o := by omega
  have b2 : o ≤ 13 := by omega
  by_cases ht : isTo o = true
  · rw [if_pos ht]
    have h9 : o = 9 ∨ o = 12 ∨ o = 13 := by
      unfold isTo at ht
      simp only [Bool.or_eq_true, beq_iff_eq] at ht
      omega
    have e : (i : Int) + 1 + pk z.2 ((n : Int) - (i : Int)) = ((i + 1 + (pk z.2 ((n : Int) - (i : Int))).toNat : Nat) : Int) := by omega
    rw [e]
    exact inOk_to h9 (by omega) (by omega)
  · have ht : isTo o = false := by simpa using ht
    rw [ht, if_neg (by decide)]
    have e1 : leastO i o = 0 := by unfold leastO; rw [ht]; rfl
    have hin : ∀ (N : Int) (nm : List UInt8), 0 ≤ N → N ≤ mostO n o → (if o = 4 then isName nm else decide (nm = [])) = true → inOk n i (o, N, nm) = true := fun N nm a1 a2 a3 => by
      show (decide (1 ≤ o ∧ o ≤ 13) && decide (leastO i o ≤ N ∧ N ≤ mostO n o) && (if o = 4 then isName nm else decide (nm = []))) = true
      rw [e1, a3, decide_eq_true ⟨b1, b2⟩, decide_eq_true ⟨a1, a2⟩]; rfl
    have m15 : (o = 1 ∨ o = 5) → mostO n o = 1000000000000 := fun e => by unfold mostO; rw [ht, if_neg (by decide), if_pos e]
    by_cases h15 : o = 1 ∨ o = 5
    · rw [if_pos h15]
      refine hin _ _ ?_ ?_ (by rw [if_neg (by omega)]; rfl)
      · split <;> omega
      · rw [m15 h15]; split <;> omega
    rw [if_neg h15]
    by_cases h6 : o = 6
    · rw [if_pos h6]
      refine hin _ _ (by omega) ?_ (by rw [if_neg (by omega)]; rfl)
      subst h6
      show pk z.2 100001 ≤ 100000
      omega
    rw [if_neg h6]
    by_cases h10 : o = 10
    · rw [if_pos h10]
      refine hin _ _ (by omega) ?_ (by rw [if_neg (by omega)]; rfl)
      subst h10
      show pk z.2 9 ≤ 1000
      omega
    rw [if_neg h10]
    have m0 : 0 ≤ mostO n o := by unfold mostO; rw [ht, if_neg (by decide), if_neg h15, if_neg h6, if_neg h10]; exact Int.le_refl _
    by_cases h4 : o = 4
    · rw [if_pos h4]
      refine hin _ _ (by omega) m0 ?_
      rw [if_pos h4]
      unfold nameR
      split
      · decide
      split <;> decide
    · rw [if_neg h4]
      exact hin _ _ (by omega) m0 (by rw [if_neg h4]; rfl)
theorem some_get (zs : List (Int × Int)) (n : Nat) : ∀ (j i : Nat), i < j → (someTo zs n j)[i]? = some (someAt n i (zs.getD i (0, 0))) := by
  intro j
  induction j with
  | zero => intro i h; omega
  | succ j ih =>
    intro i h
    rw [someTo]
    by_cases e : i < j
    · rw [List.getElem?_append_left (by rw [some_len]; exact e), ih i e]
    · obtain rfl : i = j := by omega
      rw [List.getElem?_append_right (by rw [some_len]; omega), some_len, Nat.sub_self]; rfl
theorem some_ok (zs : List (Int × Int)) : codeOk (someL zs) = true ∧ (someL zs).length ≤ 12 := by
  have hl : (someL zs).length = min zs.length 12 := some_len _ _ _
  refine ⟨good_ok (fun i hi => ?_) (by rw [hl]; omega), by rw [hl]; omega⟩
  rw [Nat.zero_add]
  rw [hl] at hi ⊢
  have h1 := some_get zs (min zs.length 12) (min zs.length 12) i hi
  have h2 : (someL zs)[i]? = some (someL zs)[i] := List.getElem?_eq_getElem (by rw [hl]; exact hi)
  unfold someL at h2
  rw [h1] at h2
  have h3 := Option.some.inj h2
  unfold someL
  rw [← h3]
  exact someAt_ok hi _
end Go.Proofs.YtcckemhelockaaaGreatDoor
