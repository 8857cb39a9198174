/-
  DERIVED. GIVEN WITH THE SEED: THE CARDS: each row of YtmdjgellmkjghaaDoorRows.lean that lists a variable, with what it lists TIED to the program's text (the seventh form; the later family's looks); each row that meets fmt, with fmt's text TOLD by the authors' own Lean function (tested against real Go, not proved from fmt's source: count such statements apart). THE CARD IS WHAT COUNTS. Prove the row's statement (the work); the ties are given (YtmdjgellmkjghaaDoorTie.lean); close each card by the builder's one call (the guide's Derived/Test/ToyasCard.lean, 'card_holds'). Laid BY PROGRAM, IN A SANDBOX (cutbox-door.mjs). By AI agents, Wed Nov 11 2026. No macro, syntax, notation, axiom, sorry.
-/
import Derived.Test.YtmdjgellmkjghaaDoorRows
import GoSem.ClaimSeven
namespace Go.Proofs.YtmdjgellmkjghaaDoor
namespace Rows

/-- THE TIED CARD OF 'almonerlaw02.CodecFrames'. -/
def codecFramesCard : Claim7 := { stood := { row := codecFramesRow, standIns := [], harness := (true, "61f6d123b9764d5a71f8c2e93015c1f3bff4f328b50ea3f11a1ea80a7f2ad0e3"), looks := false }, kinds := [], alts := [], laidByText := true, laidKinds := [.data, .data], laidTests := true, laidLooks := .later }
def CodecFramesCardSaid : Prop := Claim7.holds Tryd.pinned (.plain (OpenSpec.ofChange codecFramesSpec)) codecFramesCard

/-- THE TIED CARD OF 'almonerlaw02.CodecStreams'. -/
def codecStreamsCard : Claim7 := { stood := { row := codecStreamsRow, standIns := [], harness := (true, "61f6d123b9764d5a71f8c2e93015c1f3bff4f328b50ea3f11a1ea80a7f2ad0e3"), looks := false }, kinds := [], alts := [], laidByText := true, laidKinds := [.data, .data], laidTests := true, laidLooks := .later }
def CodecStreamsCardSaid : Prop := Claim7.holds Tryd.pinned (.plain (OpenSpec.ofChange codecStreamsSpec)) codecStreamsCard

/-- THE SECOND FORM's CARD OF 'almonerlaw02.CodecFrames'. -/
def codecFramesUptoCard : Claim7 := { stood := { row := codecFramesUptoRow, standIns := [], harness := (true, "61f6d123b9764d5a71f8c2e93015c1f3bff4f328b50ea3f11a1ea80a7f2ad0e3"), looks := false }, kinds := [], alts := [], laidByText := true, laidKinds := [.data, .data], laidTests := true, laidLooks := .later }
def CodecFramesUptoCardSaid : Prop := Claim7.holds Tryd.pinned (.plain (OpenSpec.upto codecFramesSpec)) codecFramesUptoCard

/-- THE SECOND FORM's CARD OF 'almonerlaw02.CodecStreams'. -/
def codecStreamsUptoCard : Claim7 := { stood := { row := codecStreamsUptoRow, standIns := [], harness := (true, "61f6d123b9764d5a71f8c2e93015c1f3bff4f328b50ea3f11a1ea80a7f2ad0e3"), looks := false }, kinds := [], alts := [], laidByText := true, laidKinds := [.data, .data], laidTests := true, laidLooks := .later }
def CodecStreamsUptoCardSaid : Prop := Claim7.holds Tryd.pinned (.plain (OpenSpec.upto codecStreamsSpec)) codecStreamsUptoCard
end Rows
end Go.Proofs.YtmdjgellmkjghaaDoor
