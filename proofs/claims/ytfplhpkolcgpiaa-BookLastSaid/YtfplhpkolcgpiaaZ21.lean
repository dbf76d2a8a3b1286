/- The document's own answers of layer 13: what a book offers. -/
import Derived.Test.YtfplhpkolcgpiaaZL
import Derived.Test.YtfplhpkolcgpiaaZ00
namespace Go.Proofs.Ytfplhpkolcgpiaa
open Go.RowKit Go.Lib
set_option linter.unusedVariables false
set_option linter.unusedSimpArgs false
theorem off_len (b : List Sl) : (offB b).length = b.length := by unfold offB; rw [List.length_map]
end Go.Proofs.Ytfplhpkolcgpiaa
