/- The document's own fine: its arguments, one by one. -/
import Derived.Test.YtpehlldgnbajjaaDoorZ11
namespace Go.Proofs.YtpehlldgnbajjaaDoor
open Go.RowKit Go.Lib
set_option linter.unusedVariables false
set_option linter.unusedSimpArgs false

theorem ExAt.kind {S : Nat → Prop} {w : World} {e : El} {x : Ex} (h : ExAt S w e x) : x.k = e.1 := by cases h; rfl
/-- May argument i be there? -/
def okA (d : Nat) (k : Int) (l : List Ex) (i : Nat) (h : i < l.length) : Prop := isCond l[i].k = (decide (k = 10) && decide (i = 0)) ∧ fine d l[i] = true
end Go.Proofs.YtpehlldgnbajjaaDoor
