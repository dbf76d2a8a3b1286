/- The law's raw pieces of layer 13: triples of raw numbers, pick, a raw book. -/
import Derived.Test.YtfplhpkolcgpiaaZL
import Derived.Test.YtfplhpkolcgpiaaZ00
import Derived.Test.YtfplhpkolcgpiaaZ01
import Derived.Test.YtfplhpkolcgpiaaZ14
namespace Go.Proofs.Ytfplhpkolcgpiaa
open Go.RowKit Go.Lib
set_option linter.unusedVariables false
set_option linter.unusedSimpArgs false
theorem bookS_ok (zs : List Tr) : bookOk (bookS zs) := bookTo_ok _ _
end Go.Proofs.Ytfplhpkolcgpiaa
