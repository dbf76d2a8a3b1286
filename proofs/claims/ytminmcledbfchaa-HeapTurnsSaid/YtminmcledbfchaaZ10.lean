/- Plain mathematics of layer 16: of raw items, a heap's; popped one behind the other. No program in this text. -/
import Derived.Test.YtminmcledbfchaaZL
import Derived.Test.YtminmcledbfchaaZ00
import Derived.Test.YtminmcledbfchaaZ01
namespace Go.Proofs.Ytminmcledbfchaa
open Go.Lib
set_option linter.unusedVariables false
set_option linter.unusedSimpArgs false
theorem top_some {L : List It} (h : 0 < L.length) : ∃ x, topH L = some x := by
  cases L with
  | nil => simp at h
  | cons b t => exact ⟨_, rfl⟩
end Go.Proofs.Ytminmcledbfchaa
