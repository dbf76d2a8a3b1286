/- Plain mathematics of layer 11: what is compiled tells what the strategy tells. No program in this text; A place that is filled in by a closure; What the landed Compile tells. -/
import Derived.Test.YtcckemhelockaaaGreatDoorZL
import Derived.Test.YtcckemhelockaaaGreatDoorZ00
import Derived.Test.YtcckemhelockaaaGreatDoorZ01
import Derived.Test.YtcckemhelockaaaGreatDoorZ02
import Derived.Test.YtcckemhelockaaaGreatDoorZ03
import Derived.Test.YtcckemhelockaaaGreatDoorZ04
import Derived.Test.YtcckemhelockaaaGreatDoorZ09
import Derived.Test.YtcckemhelockaaaGreatDoorZ15
namespace Go.Proofs.YtcckemhelockaaaGreatDoor
open Go.Lib
set_option linter.unusedVariables false
set_option linter.unusedSimpArgs false
theorem step_two {l : List Of} {o n : Int} {nm : List UInt8} {t : Nat} {S : List Ce} (ho : o = 7 ∨ o = 8 ∨ o = 11) (a b : Ce) : stepM l (o, n, nm) t (S ++ [a] ++ [b], 0) = (t + 1, putM (S, 0) (twoC o a b)) := by
  have e : twoM o (S ++ [a] ++ [b], 0) = putM (S, 0) (twoC o a b) := by unfold twoM; rw [take_last]; simp only; rw [take_last]
  rcases ho with rfl | rfl | rfl <;> exact congrArg (Prod.mk (t + 1)) e
end Go.Proofs.YtcckemhelockaaaGreatDoor

namespace Go.Proofs.YtcckemhelockaaaGreatDoor
open Go.RowKit Go.Lib
set_option linter.unusedVariables false
set_option linter.unusedSimpArgs false
theorem Cm.alloc {w : World} {C b m : Nat} {l : List In} (h : Cm w C b m l) (o : Obj) : Cm (w.alloc o) C b m l := by
  obtain ⟨hC, A, c, h1, h2, h3⟩ := h
  exact ⟨hC, A, c, h1.alloc o, h2.row.alloc o, h3.alloc o⟩
end Go.Proofs.YtcckemhelockaaaGreatDoor

namespace Go.Proofs.YtcckemhelockaaaGreatDoor
open Go.RowKit Go.Lib
set_option linter.unusedVariables false
set_option linter.unusedSimpArgs false
theorem Cm.new {w0 w : World} {m : Nat} (hr : Rel w0 w) (hm : MapIs w m kindsL) : Cm (w.alloc (.cells #[.map (some m), .slice none 0 0] 77)) w0.heap.size w.heap.size m [] :=
  ⟨hr.size, none, 0, Bk.new w _ _, InsOwn.nil _ _, hm.alloc _⟩
end Go.Proofs.YtcckemhelockaaaGreatDoor
