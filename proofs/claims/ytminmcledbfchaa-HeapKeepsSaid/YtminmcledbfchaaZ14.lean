/- Layer 16: what is popped, until there are none, is all that was there, the most urgent first. -/
import Derived.Test.YtminmcledbfchaaZL
import Derived.Test.YtminmcledbfchaaZ00
import Derived.Test.YtminmcledbfchaaZ01
import Derived.Test.YtminmcledbfchaaZ06
namespace Go.Proofs.Ytminmcledbfchaa
open Go.RowKit Go.Lib
set_option linter.unusedVariables false
set_option linter.unusedSimpArgs false
theorem ro16_at {S : Nat → Prop} {w : World} {A : Option Addr} {l : List It} (h : Ro S w A l) (h0 : 0 < l.length) : ∃ g off : Nat, A = some ⟨g, off, none⟩ ∧ ∀ i (hi : i < l.length), w.cell? ⟨g, off + i * 2, none⟩ = some (.int .i64 l[i].1) ∧ w.cell? ⟨g, off + i * 2 + 1, none⟩ = some (.int .i64 l[i].2) := by
  obtain ⟨g, off, rfl, _, _⟩ := h.1 0 h0
  refine ⟨g, off, rfl, fun i hi => ?_⟩
  obtain ⟨g', off', e, _, hc⟩ := h.1 i hi
  injection e with e
  injection e with e1 e2
  subst e1; subst e2
  exact ⟨hc 0 (by decide), hc 1 (by decide)⟩
end Go.Proofs.Ytminmcledbfchaa
