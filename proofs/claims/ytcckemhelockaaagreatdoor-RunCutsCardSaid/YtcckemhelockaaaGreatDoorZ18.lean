/- Instructions in memory: to be read, and of the call's own; appending them. -/
import Derived.Test.YtcckemhelockaaaGreatDoorZL
import Derived.Test.YtcckemhelockaaaGreatDoorZ00
import Derived.Test.YtcckemhelockaaaGreatDoorZ01
namespace Go.Proofs.YtcckemhelockaaaGreatDoor
open Go.RowKit Go.Lib
set_option linter.unusedVariables false
set_option linter.unusedSimpArgs false
theorem InsOwn.form {w : World} {base : Nat} {A : Option Addr} {c : Nat} {l : List In} (h : InsOwn w base (.slice A l.length c) l) : (A = none ∧ c = 0 ∧ l = []) ∨ ∃ g, A = some ⟨g, 0, none⟩ ∧ base ≤ g ∧ g < w.heap.size := by
  rcases h.2 with ⟨h0, h1⟩ | ⟨g, cap, cur, hv, hb, hh, _⟩
  · injection h0 with e1 e2 e3
    exact .inl ⟨e1, e3, List.length_eq_zero_iff.1 h1⟩
  · injection hv with e1 e2 e3
    exact .inr ⟨g, e1, hb, Bk.lt (t := 45) hh⟩
end Go.Proofs.YtcckemhelockaaaGreatDoor
