/-
  DERIVED. GIVEN WITH THE SEED: THE CARDS: each row of YtfdlgiomnmnhgabDoorRows.lean that lists a variable, with what it lists TIED to the program's text (the seventh form; the later family's looks); each row that meets fmt, with fmt's text TOLD by the authors' own Lean function (tested against real Go, not proved from fmt's source: count such statements apart). THE CARD IS WHAT COUNTS. Prove the row's statement (the work); the ties are given (YtfdlgiomnmnhgabDoorTie.lean); close each card by the builder's one call (the guide's Derived/Test/ToyasCard.lean, 'card_holds'). Laid BY PROGRAM, IN A SANDBOX (cutbox-door.mjs). By AI agents, Wed Nov 11 2026. No macro, syntax, notation, axiom, sorry.
-/
import Derived.Test.YtfdlgiomnmnhgabDoorRows
import GoSem.ClaimSeven
namespace Go.Proofs.YtfdlgiomnmnhgabDoor
namespace Rows

/-- THE TIED CARD OF 'almonerlaw02.CodecApart'. -/
def codecApartCard : Claim7 := { stood := { row := codecApartRow, standIns := [], harness := (true, "c6eee6c94658a2d3af0692f3d298c219e15c383c20b4eca59c41a8fa2168e495"), looks := false }, kinds := [], alts := [], laidByText := true, laidKinds := [.data, .data], laidTests := true, laidLooks := .later }
def CodecApartCardSaid : Prop := Claim7.holds Tryd.pinned (.plain (OpenSpec.ofChange codecApartSpec)) codecApartCard

/-- THE TIED CARD OF 'almonerlaw02.CodecStreams'. -/
def codecStreamsCard : Claim7 := { stood := { row := codecStreamsRow, standIns := [], harness := (true, "c6eee6c94658a2d3af0692f3d298c219e15c383c20b4eca59c41a8fa2168e495"), looks := false }, kinds := [], alts := [], laidByText := true, laidKinds := [.data, .data], laidTests := true, laidLooks := .later }
def CodecStreamsCardSaid : Prop := Claim7.holds Tryd.pinned (.plain (OpenSpec.ofChange codecStreamsSpec)) codecStreamsCard

/-- THE TIED CARD OF 'almonerlaw02.CodecErrors'. -/
def codecErrorsCard : Claim7 := { stood := { row := codecErrorsRow, standIns := [], harness := (true, "c6eee6c94658a2d3af0692f3d298c219e15c383c20b4eca59c41a8fa2168e495"), looks := false }, kinds := [], alts := [], laidByText := true, laidKinds := [.data, .data], laidTests := true, laidLooks := .later }
def CodecErrorsCardSaid : Prop := Claim7.holds Tryd.pinned (.plain (OpenSpec.ofChange codecErrorsSpec)) codecErrorsCard

/-- THE SECOND FORM's CARD OF 'almonerlaw02.CodecApart'. -/
def codecApartUptoCard : Claim7 := { stood := { row := codecApartUptoRow, standIns := [], harness := (true, "c6eee6c94658a2d3af0692f3d298c219e15c383c20b4eca59c41a8fa2168e495"), looks := false }, kinds := [], alts := [], laidByText := true, laidKinds := [.data, .data], laidTests := true, laidLooks := .later }
def CodecApartUptoCardSaid : Prop := Claim7.holds Tryd.pinned (.plain (OpenSpec.upto codecApartSpec)) codecApartUptoCard

/-- THE SECOND FORM's CARD OF 'almonerlaw02.CodecStreams'. -/
def codecStreamsUptoCard : Claim7 := { stood := { row := codecStreamsUptoRow, standIns := [], harness := (true, "c6eee6c94658a2d3af0692f3d298c219e15c383c20b4eca59c41a8fa2168e495"), looks := false }, kinds := [], alts := [], laidByText := true, laidKinds := [.data, .data], laidTests := true, laidLooks := .later }
def CodecStreamsUptoCardSaid : Prop := Claim7.holds Tryd.pinned (.plain (OpenSpec.upto codecStreamsSpec)) codecStreamsUptoCard

/-- THE SECOND FORM's CARD OF 'almonerlaw02.CodecErrors'. -/
def codecErrorsUptoCard : Claim7 := { stood := { row := codecErrorsUptoRow, standIns := [], harness := (true, "c6eee6c94658a2d3af0692f3d298c219e15c383c20b4eca59c41a8fa2168e495"), looks := false }, kinds := [], alts := [], laidByText := true, laidKinds := [.data, .data], laidTests := true, laidLooks := .later }
def CodecErrorsUptoCardSaid : Prop := Claim7.holds Tryd.pinned (.plain (OpenSpec.upto codecErrorsSpec)) codecErrorsUptoCard
end Rows
end Go.Proofs.YtfdlgiomnmnhgabDoor
