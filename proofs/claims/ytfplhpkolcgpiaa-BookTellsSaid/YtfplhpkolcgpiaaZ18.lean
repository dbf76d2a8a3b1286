/- Expressions in memory, and the law's source of raw numbers; Offers in memory: to be read, and of the call's own. -/
import Derived.Test.YtfplhpkolcgpiaaZL
import Derived.Test.YtfplhpkolcgpiaaZ00
import Derived.Test.YtfplhpkolcgpiaaZ01
import Derived.Test.YtfplhpkolcgpiaaZ07
namespace Go.Proofs.Ytfplhpkolcgpiaa
open Go.RowKit Go.Lib
set_option linter.unusedVariables false
set_option linter.unusedSimpArgs false
theorem ExAt.rel {S : Nat → Prop} {w w' : World} {e : El} {x : Ex} (h : ExAt S w e x) (hr : Rel w w') : ExAt S w' e x := h.mono hr.size fun g hS hl => ⟨hS, hr.2.block g hl⟩
end Go.Proofs.Ytfplhpkolcgpiaa

namespace Go.Proofs.Ytfplhpkolcgpiaa
open Go.RowKit Go.Lib
set_option linter.unusedVariables false
set_option linter.unusedSimpArgs false
theorem OffsAt.below {w w' : World} {A : Option Addr} {os : List Of} (h : OffsAt w A os) (hb : Below w.heap.size w w') : OffsAt w' A os := by
  intro i hi
  obtain ⟨g, off, e, hl, h0, h1⟩ := h i hi
  have hk : ∀ j, w'.cell? ⟨g, j, none⟩ = w.cell? ⟨g, j, none⟩ := fun j => hb.cell (p := ⟨g, j, none⟩) hl
  exact ⟨g, off, e, by have := hb.size; omega, by rw [hk]; exact h0, by rw [hk]; exact h1⟩
theorem OffsAt.rel {w w' : World} {A : Option Addr} {os : List Of} (h : OffsAt w A os) (hr : Rel w w') : OffsAt w' A os := h.below hr.2
/-- Part of a slice. -/
theorem OffsAt.from {w : World} {g off : Nat} {os : List Of} (h : OffsAt w (some ⟨g, off, none⟩) os) (k : Nat) : OffsAt w (some ⟨g, off + k * 2, none⟩) (os.drop k) := by
  intro i hi
  rw [List.length_drop] at hi
  obtain ⟨g', off', e, hl, h0, h1⟩ := h (k + i) (by omega)
  injection e with e
  injection e with e1 e2
  subst e1; subst e2
  refine ⟨g, off + k * 2, rfl, hl, ?_, ?_⟩
  · rw [List.getElem_drop, show off + k * 2 + i * 2 = off + (k + i) * 2 by omega]; exact h0
  · rw [List.getElem_drop, show off + k * 2 + i * 2 + 1 = off + (k + i) * 2 + 1 by omega]; exact h1
/-- Offers whose fields fit a machine. -/
def OffsFit (os : List Of) : Prop := ∀ o ∈ os, o.1.length ≤ 9223372036854775807 ∧ i64 o.2
/-- Offers as an argument. -/
def OffArg (w : World) (A : Option Addr) (c : Nat) (os : List Of) : Prop := os.length ≤ c ∧ c ≤ maxLen ∧ OffsFit os ∧ OffsAt w A os
theorem OffArg.rel {w w' : World} {A : Option Addr} {c : Nat} {os : List Of} (h : OffArg w A c os) (hr : Rel w w') : OffArg w' A c os := ⟨h.1, h.2.1, h.2.2.1, h.2.2.2.rel hr⟩
theorem OffOwn.rel {w w' : World} {base : Nat} {v : Value} {os : List Of} (h : OffOwn w base v os) (hr : Rel w w') : OffOwn w' base v os := own_rel h hr
end Go.Proofs.Ytfplhpkolcgpiaa
