/- Plain mathematics of layer 17: one that is wanted many times, and another one (QueueOnce). No program in this text. -/
import Derived.Test.YtndmnlgancnbkaaZL
import Derived.Test.YtndmnlgancnbkaaZ00
import Derived.Test.YtndmnlgancnbkaaZ03
import Derived.Test.YtndmnlgancnbkaaZ15
namespace Go.Proofs.Ytndmnlgancnbkaa
open Go.Lib
set_option linter.unusedVariables false
set_option linter.unusedSimpArgs false
/-- Wanted as mo asks, or not at all. -/
def OnceL (mo : Int) (L : List It) : Prop := (mo = -1 ∧ L = []) ∨ (0 ≤ mo ∧ mo < 100 ∧ L = [(3, mo * 10 - 7)])
theorem once_nil : OnceL (-1) [] := .inl ⟨rfl, rfl⟩
theorem once_bd {mo : Int} {L : List It} (h : OnceL mo L) : -1 ≤ mo ∧ mo < 100 := by rcases h with ⟨rfl, _⟩ | ⟨h1, h2, _⟩ <;> omega
theorem once_step {mo p : Int} {L : List It} (h : OnceL mo L) (hp : 0 ≤ p ∧ p < 100) : wantE 5 10 L 3 p 7 = 0 ∧ OnceL (max mo p) (wantL 5 10 L 3 p 7) ∧ wantD 5 10 L [] 3 p 7 = [] := by
  have hv : wantV 10 3 p 7 = true := wantV_iff.2 ⟨by omega, by omega, by omega, by omega, by omega⟩
  rcases h with ⟨rfl, rfl⟩ | ⟨h1, h2, rfl⟩
  · obtain ⟨e1, e2, e3⟩ := want_in (m := 5) (D := []) hv (L := []) rfl (by simp)
    refine ⟨e1, ?_, e3⟩
    rw [e2]
    refine .inr ⟨by omega, by omega, ?_⟩
    show [((3 : Int), wgt 10 p 7)] = [((3 : Int), max (-1) p * 10 - 7)]
    unfold wgt
    rw [show max (-1) p = p by omega]
  · obtain ⟨e1, e2, e3⟩ := want_up (m := 5) (D := []) hv (L := [(3, mo * 10 - 7)]) rfl
    refine ⟨e1, ?_, e3⟩
    rw [e2]
    refine .inr ⟨by omega, by omega, ?_⟩
    show [((3 : Int), max (mo * 10 - 7) (wgt 10 p 7))] = _
    unfold wgt
    congr 2
    omega
theorem once_two {mo o : Int} {L : List It} (h : OnceL mo L) (ho : 0 ≤ o ∧ o < 100) : wantE 5 10 L 4 o 7 = 0 ∧ wantL 5 10 L 4 o 7 = L ++ [(4, o * 10 - 7)] ∧ wantD 5 10 L [] 4 o 7 = [] := by
  have hv : wantV 10 4 o 7 = true := wantV_iff.2 ⟨by omega, by omega, by omega, by omega, by omega⟩
  rcases h with ⟨rfl, rfl⟩ | ⟨h1, h2, rfl⟩
  · obtain ⟨e1, e2, e3⟩ := want_in (m := 5) (D := []) hv (L := []) rfl (by simp)
    exact ⟨e1, e2, e3⟩
  · obtain ⟨e1, e2, e3⟩ := want_in (m := 5) (D := []) hv (L := [(3, mo * 10 - 7)]) rfl (by simp)
    exact ⟨e1, e2, e3⟩
/-- What is told of it: first, second, and none. -/
theorem once_told {mo o : Int} {L : List It} (h : OnceL mo L) (ho : 0 ≤ o ∧ o < 100) :
    ∃ (L1 : List It), popH (L ++ [(4, o * 10 - 7)]) = L1 ∧ popH (popH L1) = [] ∧ topH (popH L1) = none ∧
      ((mo = -1 ∧ topH (L ++ [(4, o * 10 - 7)]) = some (4, o * 10 - 7) ∧ topH L1 = none) ∨
       (o ≤ mo ∧ topH (L ++ [(4, o * 10 - 7)]) = some (3, mo * 10 - 7) ∧ topH L1 = some (4, o * 10 - 7)) ∨
       (0 ≤ mo ∧ mo < o ∧ topH (L ++ [(4, o * 10 - 7)]) = some (4, o * 10 - 7) ∧ topH L1 = some (3, mo * 10 - 7))) := by
  rcases h with ⟨rfl, rfl⟩ | ⟨h1, h2, rfl⟩
  · exact ⟨[], rfl, rfl, rfl, .inl ⟨rfl, rfl, rfl⟩⟩
  · by_cases hc : mo < o
    · have ht : topH [(3, mo * 10 - 7), (4, o * 10 - 7)] = some (4, o * 10 - 7) := by
        show some (if mo * 10 - 7 < o * 10 - 7 then ((4, o * 10 - 7) : It) else (3, mo * 10 - 7)) = _
        rw [if_pos (by omega)]
      have hp : popH [(3, mo * 10 - 7), (4, o * 10 - 7)] = [(3, mo * 10 - 7)] := by unfold popH; rw [ht]; rfl
      exact ⟨[(3, mo * 10 - 7)], hp, rfl, rfl, .inr (.inr ⟨h1, hc, ht, rfl⟩)⟩
    · have ht : topH [(3, mo * 10 - 7), (4, o * 10 - 7)] = some (3, mo * 10 - 7) := by
        show some (if mo * 10 - 7 < o * 10 - 7 then ((4, o * 10 - 7) : It) else (3, mo * 10 - 7)) = _
        rw [if_neg (by omega)]
      have hp : popH [(3, mo * 10 - 7), (4, o * 10 - 7)] = [(4, o * 10 - 7)] := by unfold popH; rw [ht]; rfl
      exact ⟨[(4, o * 10 - 7)], hp, rfl, rfl, .inr (.inl ⟨by omega, ht, rfl⟩)⟩
end Go.Proofs.Ytndmnlgancnbkaa
