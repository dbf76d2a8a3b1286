/-
  DERIVED. GIVEN WITH THE SEED: THE CARDS: each row of YtjhjdiaomnpkmaaGreatDoorRows.lean that lists a variable, with what it lists TIED to the program's text (the seventh form; the later family's looks); each row that meets fmt, with fmt's text TOLD by the authors' own Lean function (tested against real Go, not proved from fmt's source: count such statements apart). THE CARD IS WHAT COUNTS. Prove the row's statement (the work); the ties are given (YtjhjdiaomnpkmaaGreatDoorTie.lean); close each card by the builder's one call (the guide's Derived/Test/ToyasCard.lean, 'card_holds'). Laid BY PROGRAM, IN A SANDBOX (cutbox-door.mjs). By AI agents, Wed Nov 11 2026. No macro, syntax, notation, axiom, sorry.
-/
import Derived.Test.YtjhjdiaomnpkmaaGreatDoorRows
import GoSem.ClaimSeven
namespace Go.Proofs.YtjhjdiaomnpkmaaGreatDoor
namespace Rows

/-- THE TIED CARD OF 'hagglerlaw15.PaceTells'. -/
def paceTellsCard : Claim7 := { stood := { row := paceTellsRow, standIns := [], harness := (true, "6cab1deb41f63b4efe0b9c0853617c1f5b6e39307a1d36167be9124e7241c310"), looks := true }, kinds := [], alts := [], laidByText := true, laidKinds := [.data, .data, .data], laidTests := true, laidLooks := .later }
def PaceTellsCardSaid : Prop := Claim7.holds Tryz.pinned (.plain (OpenSpec.ofChange paceTellsSpec)) paceTellsCard

/-- THE TIED CARD OF 'hagglerlaw15.PaceApart'. -/
def paceApartCard : Claim7 := { stood := { row := paceApartRow, standIns := [], harness := (true, "6cab1deb41f63b4efe0b9c0853617c1f5b6e39307a1d36167be9124e7241c310"), looks := true }, kinds := [], alts := [], laidByText := true, laidKinds := [.data, .data, .data], laidTests := true, laidLooks := .later }
def PaceApartCardSaid : Prop := Claim7.holds Tryz.pinned (.plain (OpenSpec.ofChange paceApartSpec)) paceApartCard

/-- THE TIED CARD OF 'hagglerlaw15.PaceOnce'. -/
def paceOnceCard : Claim7 := { stood := { row := paceOnceRow, standIns := [], harness := (true, "6cab1deb41f63b4efe0b9c0853617c1f5b6e39307a1d36167be9124e7241c310"), looks := true }, kinds := [], alts := [], laidByText := true, laidKinds := [.data, .data, .data], laidTests := true, laidLooks := .later }
def PaceOnceCardSaid : Prop := Claim7.holds Tryz.pinned (.plain (OpenSpec.ofChange paceOnceSpec)) paceOnceCard

/-- THE TIED CARD OF 'hagglerlaw15.PaceBand'. -/
def paceBandCard : Claim7 := { stood := { row := paceBandRow, standIns := [], harness := (true, "6cab1deb41f63b4efe0b9c0853617c1f5b6e39307a1d36167be9124e7241c310"), looks := true }, kinds := [], alts := [], laidByText := true, laidKinds := [.data, .data, .data], laidTests := true, laidLooks := .later }
def PaceBandCardSaid : Prop := Claim7.holds Tryz.pinned (.plain (OpenSpec.ofChange paceBandSpec)) paceBandCard

/-- THE TIED CARD OF 'hagglerlaw15.PaceRing'. -/
def paceRingCard : Claim7 := { stood := { row := paceRingRow, standIns := [], harness := (true, "6cab1deb41f63b4efe0b9c0853617c1f5b6e39307a1d36167be9124e7241c310"), looks := true }, kinds := [], alts := [], laidByText := true, laidKinds := [.data, .data, .data], laidTests := true, laidLooks := .later }
def PaceRingCardSaid : Prop := Claim7.holds Tryz.pinned (.plain (OpenSpec.ofChange paceRingSpec)) paceRingCard

/-- THE SECOND FORM's CARD OF 'hagglerlaw15.PaceTells'. -/
def paceTellsUptoCard : Claim7 := { stood := { row := paceTellsUptoRow, standIns := [], harness := (true, "6cab1deb41f63b4efe0b9c0853617c1f5b6e39307a1d36167be9124e7241c310"), looks := true }, kinds := [], alts := [], laidByText := true, laidKinds := [.data, .data, .data], laidTests := true, laidLooks := .later }
def PaceTellsUptoCardSaid : Prop := Claim7.holds Tryz.pinned (.plain (OpenSpec.upto paceTellsSpec)) paceTellsUptoCard

/-- THE SECOND FORM's CARD OF 'hagglerlaw15.PaceApart'. -/
def paceApartUptoCard : Claim7 := { stood := { row := paceApartUptoRow, standIns := [], harness := (true, "6cab1deb41f63b4efe0b9c0853617c1f5b6e39307a1d36167be9124e7241c310"), looks := true }, kinds := [], alts := [], laidByText := true, laidKinds := [.data, .data, .data], laidTests := true, laidLooks := .later }
def PaceApartUptoCardSaid : Prop := Claim7.holds Tryz.pinned (.plain (OpenSpec.upto paceApartSpec)) paceApartUptoCard

/-- THE SECOND FORM's CARD OF 'hagglerlaw15.PaceOnce'. -/
def paceOnceUptoCard : Claim7 := { stood := { row := paceOnceUptoRow, standIns := [], harness := (true, "6cab1deb41f63b4efe0b9c0853617c1f5b6e39307a1d36167be9124e7241c310"), looks := true }, kinds := [], alts := [], laidByText := true, laidKinds := [.data, .data, .data], laidTests := true, laidLooks := .later }
def PaceOnceUptoCardSaid : Prop := Claim7.holds Tryz.pinned (.plain (OpenSpec.upto paceOnceSpec)) paceOnceUptoCard

/-- THE SECOND FORM's CARD OF 'hagglerlaw15.PaceBand'. -/
def paceBandUptoCard : Claim7 := { stood := { row := paceBandUptoRow, standIns := [], harness := (true, "6cab1deb41f63b4efe0b9c0853617c1f5b6e39307a1d36167be9124e7241c310"), looks := true }, kinds := [], alts := [], laidByText := true, laidKinds := [.data, .data, .data], laidTests := true, laidLooks := .later }
def PaceBandUptoCardSaid : Prop := Claim7.holds Tryz.pinned (.plain (OpenSpec.upto paceBandSpec)) paceBandUptoCard

/-- THE SECOND FORM's CARD OF 'hagglerlaw15.PaceRing'. -/
def paceRingUptoCard : Claim7 := { stood := { row := paceRingUptoRow, standIns := [], harness := (true, "6cab1deb41f63b4efe0b9c0853617c1f5b6e39307a1d36167be9124e7241c310"), looks := true }, kinds := [], alts := [], laidByText := true, laidKinds := [.data, .data, .data], laidTests := true, laidLooks := .later }
def PaceRingUptoCardSaid : Prop := Claim7.holds Tryz.pinned (.plain (OpenSpec.upto paceRingSpec)) paceRingUptoCard
end Rows
end Go.Proofs.YtjhjdiaomnpkmaaGreatDoor
