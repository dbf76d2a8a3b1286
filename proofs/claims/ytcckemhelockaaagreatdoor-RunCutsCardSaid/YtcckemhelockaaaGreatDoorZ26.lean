/- Plain mathematics of layer 6: words, names, tokens, and what of a text is scanned. No program in this text; What is scanned: the document's own Lex; Plain mathematics of layer 6, third part: what is told one token behind the other, up to an error. No program in this text; A place that is filled in by a closure; What the landed Compile tells. -/
import Derived.Test.YtcckemhelockaaaGreatDoorZL
import Derived.Test.YtcckemhelockaaaGreatDoorZ00
import Derived.Test.YtcckemhelockaaaGreatDoorZ01
import Derived.Test.YtcckemhelockaaaGreatDoorZ03
import Derived.Test.YtcckemhelockaaaGreatDoorZ04
import Derived.Test.YtcckemhelockaaaGreatDoorZ07
import Derived.Test.YtcckemhelockaaaGreatDoorZ09
import Derived.Test.YtcckemhelockaaaGreatDoorZ15
namespace Go.Proofs.YtcckemhelockaaaGreatDoor
open Go.Lib
set_option linter.unusedVariables false
set_option linter.unusedSimpArgs false
theorem lx_nil (p : Nat) : lx p [] = .ok [(5, [], 0, (p : Int))] := by rw [lx]
end Go.Proofs.YtcckemhelockaaaGreatDoor

namespace Go.Proofs.YtcckemhelockaaaGreatDoor
open Go.RowKit Go.Lib
set_option linter.unusedVariables false
set_option linter.unusedSimpArgs false
theorem At.done {s : ByteArray} {ts : List Tok} (h : At s.data.toList s.size ts) : lx 0 s.data.toList = .ok (ts ++ [(5, [], 0, (s.size : Int))]) := by
  have el : s.data.toList.length = s.size := by simp
  rw [h.1, List.drop_of_length_le (by omega), lx_nil]; rfl
end Go.Proofs.YtcckemhelockaaaGreatDoor

namespace Go.Proofs.YtcckemhelockaaaGreatDoor
open Go.Lib
set_option linter.unusedVariables false
set_option linter.unusedSimpArgs false
theorem lxP_nil (p : Nat) : lxP p [] = ([(5, [], 0, (p : Int))], none) := by rw [lxP]
theorem AtP.done {l : List UInt8} {ts : List Tok} (h : AtP l l.length ts) : lxP 0 l = (ts ++ [(5, [], 0, (l.length : Int))], none) := by
  rw [h.1, List.drop_length, lxP_nil]
end Go.Proofs.YtcckemhelockaaaGreatDoor

namespace Go.Proofs.YtcckemhelockaaaGreatDoor
open Go.RowKit Go.Lib
set_option linter.unusedVariables false
set_option linter.unusedSimpArgs false
theorem Cm.drew {w : World} {C b m : Nat} {l : List In} (h : Cm w C b m l) : Cm w.drew C b m l := by
  obtain ⟨hC, A, c, h1, h2, h3⟩ := h
  exact ⟨hC, A, c, h1, h2, h3⟩
end Go.Proofs.YtcckemhelockaaaGreatDoor

namespace Go.Proofs.YtcckemhelockaaaGreatDoor
open Go.RowKit Go.Lib
set_option linter.unusedVariables false
set_option linter.unusedSimpArgs false
theorem Cm.done {w : World} {C b m : Nat} {l : List In} (h : Cm w C b m l) : ∃ A c, w.cell? ⟨b, 1, none⟩ = some (.slice A l.length c) ∧ InsOwn w C (.slice A l.length c) l := by
  obtain ⟨hC, A, c, h1, h2, h3⟩ := h
  exact ⟨A, c, by rw [h1.cell]; rfl, h2⟩
end Go.Proofs.YtcckemhelockaaaGreatDoor
