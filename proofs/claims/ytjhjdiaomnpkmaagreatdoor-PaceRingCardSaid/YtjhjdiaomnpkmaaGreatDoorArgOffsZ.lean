/- Offers as an argument, opened. -/
import Derived.Test.YtjhjdiaomnpkmaaGreatDoorArgPairsZ
import Derived.ChangeArms
import Derived.Test.YtjhjdiaomnpkmaaGreatDoorZL
set_option maxRecDepth 100000
set_option maxHeartbeats 8000000
set_option linter.unusedVariables false
set_option linter.unusedSimpArgs false
namespace Go.Proofs.YtjhjdiaomnpkmaaGreatDoor
open Go.RowKit Go.ChangeShapes Go.WideShapes
open Go.Lib
set_option linter.unusedVariables false
set_option linter.unusedSimpArgs false

section
variable {H:Type} {enc:TypeId×Value→H} {w:World} {base:Nat} {held:Bool}
end
end Go.Proofs.YtjhjdiaomnpkmaaGreatDoor
