/-
  DERIVED. GIVEN WITH THE SEED: THE CARDS: each row of YtabhgdmmljhpcabDoorRows.lean that lists a variable, with what it lists TIED to the program's text (the seventh form; the later family's looks); each row that meets fmt, with fmt's text TOLD by the authors' own Lean function (tested against real Go, not proved from fmt's source: count such statements apart). THE CARD IS WHAT COUNTS. Prove the row's statement (the work); the ties are given (YtabhgdmmljhpcabDoorTie.lean); close each card by the builder's one call (the guide's Derived/Test/ToyasCard.lean, 'card_holds'). Laid BY PROGRAM, IN A SANDBOX (cutbox-door.mjs). By AI agents, Wed Nov 11 2026. No macro, syntax, notation, axiom, sorry.
-/
import Derived.Test.YtabhgdmmljhpcabDoorRows
import GoSem.ClaimSeven
namespace Go.Proofs.YtabhgdmmljhpcabDoor
namespace Rows

/-- THE TIED CARD OF 'almonerlaw11.BookSlots'. -/
def bookSlotsCard : Claim7 := { stood := { row := bookSlotsRow, standIns := [], harness := (true, "209996dc69644c1cc0fa0e403ee4378a0da40933b1c3a1896779b6713246bd22"), looks := false }, kinds := [], alts := [], laidByText := true, laidKinds := [.data, .data], laidTests := true, laidLooks := .later }
def BookSlotsCardSaid : Prop := Claim7.holds Tryd.pinned (.plain (OpenSpec.ofChange bookSlotsSpec)) bookSlotsCard

/-- THE SECOND FORM's CARD OF 'almonerlaw11.BookSlots'. -/
def bookSlotsUptoCard : Claim7 := { stood := { row := bookSlotsUptoRow, standIns := [], harness := (true, "209996dc69644c1cc0fa0e403ee4378a0da40933b1c3a1896779b6713246bd22"), looks := false }, kinds := [], alts := [], laidByText := true, laidKinds := [.data, .data], laidTests := true, laidLooks := .later }
def BookSlotsUptoCardSaid : Prop := Claim7.holds Tryd.pinned (.plain (OpenSpec.upto bookSlotsSpec)) bookSlotsUptoCard
end Rows
end Go.Proofs.YtabhgdmmljhpcabDoor
