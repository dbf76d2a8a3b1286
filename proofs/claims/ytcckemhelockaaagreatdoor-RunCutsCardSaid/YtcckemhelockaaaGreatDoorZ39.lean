/- Plain mathematics of layer 11: what is compiled tells what the strategy tells. No program in this text; Plain mathematics of layer 11: what the laws say of code. No program in this text. -/
import Derived.Test.YtcckemhelockaaaGreatDoorZL
import Derived.Test.YtcckemhelockaaaGreatDoorZ00
import Derived.Test.YtcckemhelockaaaGreatDoorZ01
import Derived.Test.YtcckemhelockaaaGreatDoorZ02
import Derived.Test.YtcckemhelockaaaGreatDoorZ32
namespace Go.Proofs.YtcckemhelockaaaGreatDoor
open Go.Lib
set_option linter.unusedVariables false
set_option linter.unusedSimpArgs false
theorem lies_pre (a b : List In) : Lies (a ++ b) 0 a := fun i hi => by
  rw [Nat.zero_add, List.getElem?_append_left hi, List.getElem?_eq_getElem hi]
end Go.Proofs.YtcckemhelockaaaGreatDoor

namespace Go.Proofs.YtcckemhelockaaaGreatDoor
open Go.Lib
set_option linter.unusedVariables false
set_option linter.unusedSimpArgs false
/-- A piece that is first, then more. -/
theorem run_then {l : List Of} {x : Ex} (h : rightX x = true) (ho : offsOk l = true) (t : List In) (hc : codeOk (cod x 0 ++ t) = true) :
    match evalS l x with
    | .error e => runS l (cod x 0 ++ t) = .error e
    | .ok v => ∃ n, runS l (cod x 0 ++ t) = endR (goM l (cod x 0 ++ t) (clen x) ([v], 0) n).1 := by
  obtain ⟨h1, h2⟩ := rt_fine h
  have hs := seg_code (l := l) (fwd_of hc) 32 x h1 0 [] (lies_pre _ _) (by simp)
  rw [anyR_told h2, Nat.zero_add, ← eval_yes ho h] at hs
  rw [(run_yes ho hc).1]
  cases he : evalS l x with
  | error e =>
    rw [he] at hs
    obtain ⟨h0, hs⟩ := hs
    obtain ⟨S', n', e1⟩ := hs 0
    simp only
    rw [e1]; unfold endR; rw [if_neg h0]
  | ok v =>
    rw [he] at hs
    obtain ⟨n', e1⟩ := (hs : SegOk l (cod x 0 ++ t) 0 (clen x) [] v) 0
    exact ⟨n', by rw [e1]; rfl⟩
theorem clen_text : ∀ (x : Ex) (d : Nat), fine d x = true → clen x ≤ (text x).length := ex_ind fun k n nm l ih d hx => by
  obtain ⟨d, rfl⟩ : ∃ e, d = e + 1 := by
    cases d with
    | zero => rw [fine_zero] at hx; cases hx
    | succ d => exact ⟨d, rfl⟩
  obtain ⟨a1, a2, a3, a4, a5⟩ := fine_parts hx
  have hm : ∀ l : List Ex, (∀ x ∈ l, clen x ≤ (text x).length) → clens l ≤ (mores l).length := by
    intro l
    induction l with
    | nil => intro _; rw [clens_nil]; omega
    | cons x t ih2 =>
      intro h
      have h1 := h x (List.mem_cons_self ..)
      have h2 := ih2 fun y hy => h y (List.mem_cons_of_mem _ hy)
      rw [mores_cons, clens_cons]
      simp only [List.length_append, List.length_cons, List.length_nil]
      omega
  have ht : clens l ≤ (texts l).length := by
    cases l with
    | nil => rw [clens_nil]; omega
    | cons x t =>
      have h1 := ih x (List.mem_cons_self ..) d (fine_mem hx (List.mem_cons_self ..))
      have h2 := hm t fun y hy => ih y (List.mem_cons_of_mem _ hy) d (fine_mem hx (List.mem_cons_of_mem _ hy))
      rw [texts_cons, clens_cons, List.length_append]; omega
  have h1 := text_more (.mk k n nm l) (d + 1) hx
  have h2 := size_pos (.mk k n nm l)
  by_cases h10 : k = 10
  · subst h10
    rw [clen_mk, if_pos rfl, text_mk, if_neg (by decide), if_neg (by decide)]
    simp only [List.length_append, List.length_cons, List.length_nil]
    omega
  · rw [clen_mk, if_neg h10]
    by_cases h4 : k = 4
    · subst h4
      have : l = [] := List.length_eq_zero_iff.1 (by simp [argsN] at a1; omega)
      subst this
      rw [clens_nil]; omega
    · by_cases h12 : k = 1 ∨ k = 2
      · have : l = [] := List.length_eq_zero_iff.1 (by rcases h12 with rfl | rfl <;> simp [argsN] at a1 <;> omega)
        subst this
        rw [clens_nil]; omega
      · rw [text_mk, if_neg h4, if_neg h12]
        simp only [List.length_append, List.length_cons, List.length_nil]
        omega
theorem clen_right {x : Ex} (h : rightX x = true) : clen x ≤ 2000 := by
  have h1 := clen_text x 32 (rt_fine h).1
  unfold rightX at h
  simp only [Bool.and_eq_true, decide_eq_true_eq] at h
  omega
end Go.Proofs.YtcckemhelockaaaGreatDoor
