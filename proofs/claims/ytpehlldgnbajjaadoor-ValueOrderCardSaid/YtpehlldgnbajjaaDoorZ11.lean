/- The document's own fine: its head, which draws its order. -/
import Derived.Test.YtpehlldgnbajjaaDoorZ10
namespace Go.Proofs.YtpehlldgnbajjaaDoor
open Go.RowKit Go.Lib
set_option linter.unusedVariables false
set_option linter.unusedSimpArgs false

end Go.Proofs.YtpehlldgnbajjaaDoor
