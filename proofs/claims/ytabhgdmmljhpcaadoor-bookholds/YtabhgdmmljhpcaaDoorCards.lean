/-
  DERIVED. GIVEN WITH THE SEED: THE CARDS: each row of YtabhgdmmljhpcaaDoorRows.lean that lists a variable, with what it lists TIED to the program's text (the seventh form; the later family's looks); each row that meets fmt, with fmt's text TOLD by the authors' own Lean function (tested against real Go, not proved from fmt's source: count such statements apart). THE CARD IS WHAT COUNTS. Prove the row's statement (the work); the ties are given (YtabhgdmmljhpcaaDoorTie.lean); close each card by the builder's one call (the guide's Derived/Test/ToyasCard.lean, 'card_holds'). Laid BY PROGRAM, IN A SANDBOX (cutbox-door.mjs). By AI agents, Wed Nov 11 2026. No macro, syntax, notation, axiom, sorry.
-/
import Derived.Test.YtabhgdmmljhpcaaDoorRows
import GoSem.ClaimSeven
namespace Go.Proofs.YtabhgdmmljhpcaaDoor
namespace Rows

/-- THE TIED CARD OF 'almonerlaw11.BookLoads'. -/
def bookLoadsCard : Claim7 := { stood := { row := bookLoadsRow, standIns := [], harness := (true, "758d4d9adc06125b1973a117af95436e172ee2f8a2d15a174f094dabf6984766"), looks := false }, kinds := [], alts := [], laidByText := true, laidKinds := [.data, .data], laidTests := true, laidLooks := .later }
def BookLoadsCardSaid : Prop := Claim7.holds Tryd.pinned (.plain (OpenSpec.ofChange bookLoadsSpec)) bookLoadsCard

/-- THE TIED CARD OF 'almonerlaw11.BookSums'. -/
def bookSumsCard : Claim7 := { stood := { row := bookSumsRow, standIns := [], harness := (true, "758d4d9adc06125b1973a117af95436e172ee2f8a2d15a174f094dabf6984766"), looks := false }, kinds := [], alts := [], laidByText := true, laidKinds := [.data, .data], laidTests := true, laidLooks := .later }
def BookSumsCardSaid : Prop := Claim7.holds Tryd.pinned (.plain (OpenSpec.ofChange bookSumsSpec)) bookSumsCard

/-- THE TIED CARD OF 'almonerlaw11.BookNil'. -/
def bookNilCard : Claim7 := { stood := { row := bookNilRow, standIns := [], harness := (true, "758d4d9adc06125b1973a117af95436e172ee2f8a2d15a174f094dabf6984766"), looks := false }, kinds := [], alts := [], laidByText := true, laidKinds := [.data, .data], laidTests := true, laidLooks := .later }
def BookNilCardSaid : Prop := Claim7.holds Tryd.pinned (.plain (OpenSpec.ofChange bookNilSpec)) bookNilCard

/-- THE TIED CARD OF 'almonerlaw11.BookHolds'. -/
def bookHoldsCard : Claim7 := { stood := { row := bookHoldsRow, standIns := [], harness := (true, "758d4d9adc06125b1973a117af95436e172ee2f8a2d15a174f094dabf6984766"), looks := false }, kinds := [], alts := [], laidByText := true, laidKinds := [.data, .data], laidTests := true, laidLooks := .later }
def BookHoldsCardSaid : Prop := Claim7.holds Tryd.pinned (.plain (OpenSpec.ofChange bookHoldsSpec)) bookHoldsCard

/-- THE SECOND FORM's CARD OF 'almonerlaw11.BookLoads'. -/
def bookLoadsUptoCard : Claim7 := { stood := { row := bookLoadsUptoRow, standIns := [], harness := (true, "758d4d9adc06125b1973a117af95436e172ee2f8a2d15a174f094dabf6984766"), looks := false }, kinds := [], alts := [], laidByText := true, laidKinds := [.data, .data], laidTests := true, laidLooks := .later }
def BookLoadsUptoCardSaid : Prop := Claim7.holds Tryd.pinned (.plain (OpenSpec.upto bookLoadsSpec)) bookLoadsUptoCard

/-- THE SECOND FORM's CARD OF 'almonerlaw11.BookSums'. -/
def bookSumsUptoCard : Claim7 := { stood := { row := bookSumsUptoRow, standIns := [], harness := (true, "758d4d9adc06125b1973a117af95436e172ee2f8a2d15a174f094dabf6984766"), looks := false }, kinds := [], alts := [], laidByText := true, laidKinds := [.data, .data], laidTests := true, laidLooks := .later }
def BookSumsUptoCardSaid : Prop := Claim7.holds Tryd.pinned (.plain (OpenSpec.upto bookSumsSpec)) bookSumsUptoCard

/-- THE SECOND FORM's CARD OF 'almonerlaw11.BookNil'. -/
def bookNilUptoCard : Claim7 := { stood := { row := bookNilUptoRow, standIns := [], harness := (true, "758d4d9adc06125b1973a117af95436e172ee2f8a2d15a174f094dabf6984766"), looks := false }, kinds := [], alts := [], laidByText := true, laidKinds := [.data, .data], laidTests := true, laidLooks := .later }
def BookNilUptoCardSaid : Prop := Claim7.holds Tryd.pinned (.plain (OpenSpec.upto bookNilSpec)) bookNilUptoCard

/-- THE SECOND FORM's CARD OF 'almonerlaw11.BookHolds'. -/
def bookHoldsUptoCard : Claim7 := { stood := { row := bookHoldsUptoRow, standIns := [], harness := (true, "758d4d9adc06125b1973a117af95436e172ee2f8a2d15a174f094dabf6984766"), looks := false }, kinds := [], alts := [], laidByText := true, laidKinds := [.data, .data], laidTests := true, laidLooks := .later }
def BookHoldsUptoCardSaid : Prop := Claim7.holds Tryd.pinned (.plain (OpenSpec.upto bookHoldsSpec)) bookHoldsUptoCard
end Rows
end Go.Proofs.YtabhgdmmljhpcaaDoor
