/- Plain mathematics of layer 10: which code may be; what is compiled may; where it leads. No program in this text. -/
import Derived.Test.YtcckemhelockaaaGreatDoorZL
import Derived.Test.YtcckemhelockaaaGreatDoorZ00
import Derived.Test.YtcckemhelockaaaGreatDoorZ01
namespace Go.Proofs.YtcckemhelockaaaGreatDoor
open Go.Lib
set_option linter.unusedVariables false
set_option linter.unusedSimpArgs false
theorem inOk_to {len i : Nat} {o : Int} (ho : o = 9 ∨ o = 12 ∨ o = 13) {n : Nat} (h1 : i < n) (h2 : n ≤ len) : inOk len i (o, (n : Int), []) = true := by
  have e : isTo o = true := by rcases ho with rfl | rfl | rfl <;> rfl
  unfold inOk leastO mostO
  simp only [e, if_true]
  rcases ho with rfl | rfl | rfl <;> simp <;> omega
end Go.Proofs.YtcckemhelockaaaGreatDoor
