/- What the landed package tree tells of sizes and depths. -/
import Derived.Test.YtldopbkjchgcnaaDoorZ08
namespace Go.Proofs.YtldopbkjchgcnaaDoor
open Go.RowKit Go.Lib
set_option linter.unusedVariables false
set_option linter.unusedSimpArgs false

theorem len_le : ∀ l : List Ex, l.length ≤ sizes l := fun l => by
  induction l with
  | nil => simp
  | cons x t ih => rw [sizes_cons, List.length_cons]; have := size_pos x; omega
end Go.Proofs.YtldopbkjchgcnaaDoor
