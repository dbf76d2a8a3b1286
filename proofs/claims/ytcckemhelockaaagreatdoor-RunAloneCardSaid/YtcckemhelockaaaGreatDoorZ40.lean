/- Appending a slice of offers, whatever its length, to offers of the call's own; a price of one's own changed. -/
import Derived.Test.YtcckemhelockaaaGreatDoorZL
import Derived.Test.YtcckemhelockaaaGreatDoorZ00
import Derived.Test.YtcckemhelockaaaGreatDoorZ01
import Derived.Test.YtcckemhelockaaaGreatDoorZ02
import Derived.Test.YtcckemhelockaaaGreatDoorZ03
import Derived.Test.YtcckemhelockaaaGreatDoorZ04
import Derived.Test.YtcckemhelockaaaGreatDoorZ09
import Derived.Test.YtcckemhelockaaaGreatDoorZ15
import Derived.Test.YtcckemhelockaaaGreatDoorZ18
import Derived.Test.YtcckemhelockaaaGreatDoorZ22
namespace Go.Proofs.YtcckemhelockaaaGreatDoor
open Go.RowKit Go.Lib
set_option linter.unusedVariables false
set_option linter.unusedSimpArgs false
/-- What a slice of offers of one's own looks like. -/
theorem OffOwn.form {w : World} {base : Nat} {A : Option Addr} {c : Nat} {l : List Of} (h : OffOwn w base (.slice A l.length c) l) : (A = none ∧ c = 0 ∧ l = []) ∨ ∃ g, A = some ⟨g, 0, none⟩ ∧ base ≤ g ∧ g < w.heap.size := by
  rcases h.2 with ⟨h0, h1⟩ | ⟨g, cap, cur, hv, hb, hh, _⟩
  · injection h0 with e1 e2 e3
    exact .inl ⟨e1, e3, List.length_eq_zero_iff.1 h1⟩
  · injection hv with e1 e2 e3
    exact .inr ⟨g, e1, hb, Bk.lt (t := 53) hh⟩
theorem OffOwn.slice_of {w : World} {base : Nat} {v : Value} {l : List Of} (h : OffOwn w base v l) : ∃ A c, v = .slice A l.length c := by
  obtain ⟨A, c, e, _⟩ := own_slice h.row9
  exact ⟨A, c, e⟩
end Go.Proofs.YtcckemhelockaaaGreatDoor
