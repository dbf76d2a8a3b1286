/-
  DERIVED. GIVEN WITH THE SEED: THE CARDS: each row of YtkpgplafcoabnaaDoorRows.lean that lists a variable, with what it lists TIED to the program's text (the seventh form; the later family's looks); each row that meets fmt, with fmt's text TOLD by the authors' own Lean function (tested against real Go, not proved from fmt's source: count such statements apart). THE CARD IS WHAT COUNTS. Prove the row's statement (the work); the ties are given (YtkpgplafcoabnaaDoorTie.lean); close each card by the builder's one call (the guide's Derived/Test/ToyasCard.lean, 'card_holds'). Laid BY PROGRAM, IN A SANDBOX (cutbox-door.mjs). By AI agents, Wed Nov 11 2026. No macro, syntax, notation, axiom, sorry.
-/
import Derived.Test.YtkpgplafcoabnaaDoorRows
import GoSem.ClaimSeven
namespace Go.Proofs.YtkpgplafcoabnaaDoor
namespace Rows

/-- THE TIED CARD OF 'hagglerlaw12.FeedTells'. -/
def feedTellsCard : Claim7 := { stood := { row := feedTellsRow, standIns := [], harness := (true, "b77bc0ceaabf8bb73a0462c421554ee8139b52730889965d3b97db0eb58a3e31"), looks := false }, kinds := [], alts := [], laidByText := true, laidKinds := [.data, .data, .data, .data, .pinned], laidTests := true, laidLooks := .later }
def FeedTellsCardSaid : Prop := Claim7.holds Tryd.pinned (.plain (OpenSpec.ofChange feedTellsSpec)) feedTellsCard

/-- THE TIED CARD OF 'hagglerlaw12.FeedBack'. -/
def feedBackCard : Claim7 := { stood := { row := feedBackRow, standIns := [], harness := (true, "b77bc0ceaabf8bb73a0462c421554ee8139b52730889965d3b97db0eb58a3e31"), looks := false }, kinds := [], alts := [], laidByText := true, laidKinds := [.data, .data, .data, .data, .pinned], laidTests := true, laidLooks := .later }
def FeedBackCardSaid : Prop := Claim7.holds Tryd.pinned (.plain (OpenSpec.ofChange feedBackSpec)) feedBackCard

/-- THE TIED CARD OF 'hagglerlaw12.FeedForth'. -/
def feedForthCard : Claim7 := { stood := { row := feedForthRow, standIns := [], harness := (true, "b77bc0ceaabf8bb73a0462c421554ee8139b52730889965d3b97db0eb58a3e31"), looks := false }, kinds := [], alts := [], laidByText := true, laidKinds := [.data, .data, .data, .data, .pinned], laidTests := true, laidLooks := .later }
def FeedForthCardSaid : Prop := Claim7.holds Tryd.pinned (.plain (OpenSpec.ofChange feedForthSpec)) feedForthCard

/-- THE TIED CARD OF 'hagglerlaw12.FeedField'. -/
def feedFieldCard : Claim7 := { stood := { row := feedFieldRow, standIns := [], harness := (true, "b77bc0ceaabf8bb73a0462c421554ee8139b52730889965d3b97db0eb58a3e31"), looks := false }, kinds := [], alts := [], laidByText := true, laidKinds := [.data, .data, .data, .data, .pinned], laidTests := true, laidLooks := .later }
def FeedFieldCardSaid : Prop := Claim7.holds Tryd.pinned (.plain (OpenSpec.ofChange feedFieldSpec)) feedFieldCard

/-- THE TIED CARD OF 'hagglerlaw12.FeedUnlike'. -/
def feedUnlikeCard : Claim7 := { stood := { row := feedUnlikeRow, standIns := [], harness := (true, "b77bc0ceaabf8bb73a0462c421554ee8139b52730889965d3b97db0eb58a3e31"), looks := false }, kinds := [], alts := [], laidByText := true, laidKinds := [.data, .data, .data, .data, .pinned], laidTests := true, laidLooks := .later }
def FeedUnlikeCardSaid : Prop := Claim7.holds Tryd.pinned (.plain (OpenSpec.ofChange feedUnlikeSpec)) feedUnlikeCard

/-- THE TIED CARD OF 'hagglerlaw12.FeedNumbers'. -/
def feedNumbersCard : Claim7 := { stood := { row := feedNumbersRow, standIns := [], harness := (true, "b77bc0ceaabf8bb73a0462c421554ee8139b52730889965d3b97db0eb58a3e31"), looks := false }, kinds := [], alts := [], laidByText := true, laidKinds := [.data, .data, .data, .data, .pinned], laidTests := true, laidLooks := .later }
def FeedNumbersCardSaid : Prop := Claim7.holds Tryd.pinned (.plain (OpenSpec.ofChange feedNumbersSpec)) feedNumbersCard

/-- THE SECOND FORM's CARD OF 'hagglerlaw12.FeedTells'. -/
def feedTellsUptoCard : Claim7 := { stood := { row := feedTellsUptoRow, standIns := [], harness := (true, "b77bc0ceaabf8bb73a0462c421554ee8139b52730889965d3b97db0eb58a3e31"), looks := false }, kinds := [], alts := [], laidByText := true, laidKinds := [.data, .data, .data, .data, .pinned], laidTests := true, laidLooks := .later }
def FeedTellsUptoCardSaid : Prop := Claim7.holds Tryd.pinned (.plain (OpenSpec.upto feedTellsSpec)) feedTellsUptoCard

/-- THE SECOND FORM's CARD OF 'hagglerlaw12.FeedBack'. -/
def feedBackUptoCard : Claim7 := { stood := { row := feedBackUptoRow, standIns := [], harness := (true, "b77bc0ceaabf8bb73a0462c421554ee8139b52730889965d3b97db0eb58a3e31"), looks := false }, kinds := [], alts := [], laidByText := true, laidKinds := [.data, .data, .data, .data, .pinned], laidTests := true, laidLooks := .later }
def FeedBackUptoCardSaid : Prop := Claim7.holds Tryd.pinned (.plain (OpenSpec.upto feedBackSpec)) feedBackUptoCard

/-- THE SECOND FORM's CARD OF 'hagglerlaw12.FeedForth'. -/
def feedForthUptoCard : Claim7 := { stood := { row := feedForthUptoRow, standIns := [], harness := (true, "b77bc0ceaabf8bb73a0462c421554ee8139b52730889965d3b97db0eb58a3e31"), looks := false }, kinds := [], alts := [], laidByText := true, laidKinds := [.data, .data, .data, .data, .pinned], laidTests := true, laidLooks := .later }
def FeedForthUptoCardSaid : Prop := Claim7.holds Tryd.pinned (.plain (OpenSpec.upto feedForthSpec)) feedForthUptoCard

/-- THE SECOND FORM's CARD OF 'hagglerlaw12.FeedField'. -/
def feedFieldUptoCard : Claim7 := { stood := { row := feedFieldUptoRow, standIns := [], harness := (true, "b77bc0ceaabf8bb73a0462c421554ee8139b52730889965d3b97db0eb58a3e31"), looks := false }, kinds := [], alts := [], laidByText := true, laidKinds := [.data, .data, .data, .data, .pinned], laidTests := true, laidLooks := .later }
def FeedFieldUptoCardSaid : Prop := Claim7.holds Tryd.pinned (.plain (OpenSpec.upto feedFieldSpec)) feedFieldUptoCard

/-- THE SECOND FORM's CARD OF 'hagglerlaw12.FeedUnlike'. -/
def feedUnlikeUptoCard : Claim7 := { stood := { row := feedUnlikeUptoRow, standIns := [], harness := (true, "b77bc0ceaabf8bb73a0462c421554ee8139b52730889965d3b97db0eb58a3e31"), looks := false }, kinds := [], alts := [], laidByText := true, laidKinds := [.data, .data, .data, .data, .pinned], laidTests := true, laidLooks := .later }
def FeedUnlikeUptoCardSaid : Prop := Claim7.holds Tryd.pinned (.plain (OpenSpec.upto feedUnlikeSpec)) feedUnlikeUptoCard

/-- THE SECOND FORM's CARD OF 'hagglerlaw12.FeedNumbers'. -/
def feedNumbersUptoCard : Claim7 := { stood := { row := feedNumbersUptoRow, standIns := [], harness := (true, "b77bc0ceaabf8bb73a0462c421554ee8139b52730889965d3b97db0eb58a3e31"), looks := false }, kinds := [], alts := [], laidByText := true, laidKinds := [.data, .data, .data, .data, .pinned], laidTests := true, laidLooks := .later }
def FeedNumbersUptoCardSaid : Prop := Claim7.holds Tryd.pinned (.plain (OpenSpec.upto feedNumbersSpec)) feedNumbersUptoCard
end Rows
end Go.Proofs.YtkpgplafcoabnaaDoor
