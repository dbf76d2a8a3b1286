/-
  DERIVED. GIVEN WITH THE SEED: THE CARDS: each row of YtjhjdiaomnpkmaaDoorRows.lean that lists a variable, with what it lists TIED to the program's text (the seventh form; the later family's looks); each row that meets fmt, with fmt's text TOLD by the authors' own Lean function (tested against real Go, not proved from fmt's source: count such statements apart). THE CARD IS WHAT COUNTS. Prove the row's statement (the work); the ties are given (YtjhjdiaomnpkmaaDoorTie.lean); close each card by the builder's one call (the guide's Derived/Test/ToyasCard.lean, 'card_holds'). Laid BY PROGRAM, IN A SANDBOX (cutbox-door.mjs). By AI agents, Wed Nov 11 2026. No macro, syntax, notation, axiom, sorry.
-/
import Derived.Test.YtjhjdiaomnpkmaaDoorRows
import GoSem.ClaimSeven
namespace Go.Proofs.YtjhjdiaomnpkmaaDoor
namespace Rows

/-- THE TIED CARD OF 'hagglerlaw15.PaceSwings'. -/
def paceSwingsCard : Claim7 := { stood := { row := paceSwingsRow, standIns := [], harness := (true, "fb587bdab2d586fdc5b1ff17ad06244ccb68bc3bf7eda54361fdb4651a99cf83"), looks := true }, kinds := [], alts := [], laidByText := true, laidKinds := [.data, .data, .data], laidTests := true, laidLooks := .later }
def PaceSwingsCardSaid : Prop := Claim7.holds Tryd.pinned (.plain (OpenSpec.ofChange paceSwingsSpec)) paceSwingsCard

/-- THE SECOND FORM's CARD OF 'hagglerlaw15.PaceSwings'. -/
def paceSwingsUptoCard : Claim7 := { stood := { row := paceSwingsUptoRow, standIns := [], harness := (true, "fb587bdab2d586fdc5b1ff17ad06244ccb68bc3bf7eda54361fdb4651a99cf83"), looks := true }, kinds := [], alts := [], laidByText := true, laidKinds := [.data, .data, .data], laidTests := true, laidLooks := .later }
def PaceSwingsUptoCardSaid : Prop := Claim7.holds Tryd.pinned (.plain (OpenSpec.upto paceSwingsSpec)) paceSwingsUptoCard
end Rows
end Go.Proofs.YtjhjdiaomnpkmaaDoor
