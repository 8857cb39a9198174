/-
  DERIVED. GIVEN WITH THE SEED: THE CARDS: each row of YtdchnfggmkokhaaDoorRows.lean that lists a variable, with what it lists TIED to the program's text (the seventh form; the later family's looks); each row that meets fmt, with fmt's text TOLD by the authors' own Lean function (tested against real Go, not proved from fmt's source: count such statements apart). THE CARD IS WHAT COUNTS. Prove the row's statement (the work); the ties are given (YtdchnfggmkokhaaDoorTie.lean); close each card by the builder's one call (the guide's Derived/Test/ToyasCard.lean, 'card_holds'). Laid BY PROGRAM, IN A SANDBOX (cutbox-door.mjs). By AI agents, Wed Nov 11 2026. No macro, syntax, notation, axiom, sorry.
-/
import Derived.Test.YtdchnfggmkokhaaDoorRows
import GoSem.ClaimSeven
namespace Go.Proofs.YtdchnfggmkokhaaDoor
namespace Rows

/-- THE TIED CARD OF 'almonerlaw11.BookLoads'. -/
def bookLoadsCard : Claim7 := { stood := { row := bookLoadsRow, standIns := [], harness := (true, "0e54222acfc7331bc2d1aa09d39d83b24875987057030ed7530461bb91164af7"), looks := false }, kinds := [], alts := [], laidByText := true, laidKinds := [.data, .data], laidTests := true, laidLooks := .later }
def BookLoadsCardSaid : Prop := Claim7.holds Tryd.pinned (.plain (OpenSpec.ofChange bookLoadsSpec)) bookLoadsCard

/-- THE SECOND FORM's CARD OF 'almonerlaw11.BookLoads'. -/
def bookLoadsUptoCard : Claim7 := { stood := { row := bookLoadsUptoRow, standIns := [], harness := (true, "0e54222acfc7331bc2d1aa09d39d83b24875987057030ed7530461bb91164af7"), looks := false }, kinds := [], alts := [], laidByText := true, laidKinds := [.data, .data], laidTests := true, laidLooks := .later }
def BookLoadsUptoCardSaid : Prop := Claim7.holds Tryd.pinned (.plain (OpenSpec.upto bookLoadsSpec)) bookLoadsUptoCard
end Rows
end Go.Proofs.YtdchnfggmkokhaaDoor
