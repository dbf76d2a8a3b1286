/- Plain mathematics of layer 11: what the laws say of code. No program in this text. -/
import Derived.Test.YtcckemhelockaaaGreatDoorZL
import Derived.Test.YtcckemhelockaaaGreatDoorZ00
import Derived.Test.YtcckemhelockaaaGreatDoorZ01
namespace Go.Proofs.YtcckemhelockaaaGreatDoor
open Go.Lib
set_option linter.unusedVariables false
set_option linter.unusedSimpArgs false
theorem good_ok {c : List In} (h : GoodC c.length 0 c) (hl : c.length ≤ 5000) : codeOk c = true := codeOk_iff.2 ⟨hl, fun i hi => by
  have := h i hi
  rwa [Nat.zero_add] at this⟩
end Go.Proofs.YtcckemhelockaaaGreatDoor
