/- The document's own answers of layer 13: are books the same?. -/
import Derived.Test.YtfplhpkolcgpiaaZL

namespace Go.Proofs.Ytfplhpkolcgpiaa
open Go.RowKit Go.Lib
set_option linter.unusedVariables false
set_option linter.unusedSimpArgs false
theorem same_step {α : Type} {a b : List α} {j : Nat} (ha : j < a.length) (hb : j < b.length) (h : ∀ k (h1 : k < a.length) (h2 : k < b.length), k < j → a[k] = b[k]) (e : a[j] = b[j]) : ∀ k (h1 : k < a.length) (h2 : k < b.length), k < j + 1 → a[k] = b[k] := fun k h1 h2 hk => by
  rcases Nat.lt_or_ge k j with h3 | h3
  · exact h k h1 h2 h3
  · obtain rfl : k = j := by omega
    exact e
end Go.Proofs.Ytfplhpkolcgpiaa
