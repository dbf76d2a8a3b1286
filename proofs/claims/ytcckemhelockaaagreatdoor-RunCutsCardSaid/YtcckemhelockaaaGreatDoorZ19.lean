/- Raw numbers as an argument, opened. -/
import Derived.Test.YtcckemhelockaaaGreatDoorZL
import Derived.Test.YtcckemhelockaaaGreatDoorZ01
namespace Go.Proofs.YtcckemhelockaaaGreatDoor
open Go.RowKit Go.Lib
set_option linter.unusedVariables false
set_option linter.unusedSimpArgs false
theorem wf64 {a : Int} (h : (Lit.int .i64 a).wf = true) : i64 a := by
  have := bounds_i64 h; exact ⟨by omega, by omega⟩
end Go.Proofs.YtcckemhelockaaaGreatDoor
