/-
  NARROWER THAN 'FOR EVERY INPUT', by the rows' own cells (each row's printed sentence says how): CrcSums: laid · CrcPieces: laid · CrcTells: laid · CrcAdds: laid · CrcNoughts: laid · CrcSlots: laid.
  DERIVED. THE GIVEN ROWS OF THIS SEAT. 6 by the template 'for every input the law returns true; each argument reads behind the call as it read before'; 0 by the template 'total and deterministic' (their statements: YtdohclbkdifafaaDoorTotals.lean).
  GIVEN WITH THE SEED: the statements are not yours to turn. If you find one false, say at which input.
  Laid BY PROGRAM, IN A SANDBOX (cutbox-rows.mjs): the forced cells as the released guide's own fill.sh prints them over the translation 3f072add1e4abe6c… (all of the seat's roots in one cut). By AI agents, Wed Nov 11 2026. No macro, syntax, notation, axiom, sorry.
-/
import Derived.Test.YtdohclbkdifafaaDoorChecked
import GoSem.Claim
import GoSem.ClaimJoined
import GoSem.ClaimMapViews
import Derived.JoinedTies
import Derived.KernelRfl
namespace Go.Proofs.YtdohclbkdifafaaDoor
/- THE CELL 'sum', in the pinned program and in every row, IS THE sha256 OF THE DUMP (.gsa) THAT YtdohclbkdifafaaDoorProg.lean LOADS. Nothing in Lean hashes anything: it is a label: what it is worth is what the hold of that sum in a sandbox is worth. -/
noncomputable def Tryd.pinned : Pinned := { name := "ytdohclbkdifafaadoor", sum := "3f072add1e4abe6c5598f6f901b934ccdfbd96c90c68f62461898fdcc4c9beeb", checked := Tryd.checked }
namespace Rows
def none {H : Type} : Left H := { results := [], args := [] }

/- WHAT THE LISTED PACKAGE-LEVEL VARIABLES READ AS WHEN THE CALL BEGINS. Each datum BY PROGRAM (the guide's laid-datum.mjs) off the statement by which the dump's own 'gosem.cut.vars' lays the variable. In a bare row this is a premise. The card (YtdohclbkdifafaaDoorCards.lean) ties it to the program's text. -/
def laid_almoner_crc_lowHalf {H : Type} : DataW H := .agg [.lit (.int .u32 0), .lit (.int .u32 4067132163), .lit (.int .u32 3778769143), .lit (.int .u32 324072436), .lit (.int .u32 3348797215), .lit (.int .u32 904991772), .lit (.int .u32 648144872), .lit (.int .u32 3570033899), .lit (.int .u32 2329499855), .lit (.int .u32 2024987596), .lit (.int .u32 1809983544), .lit (.int .u32 2575936315), .lit (.int .u32 1296289744), .lit (.int .u32 3207089363), .lit (.int .u32 2893594407), .lit (.int .u32 1578318884)]
def laid_almoner_crc_highHalf {H : Type} : DataW H := .agg [.lit (.int .u32 0), .lit (.int .u32 274646895), .lit (.int .u32 549293790), .lit (.int .u32 820201905), .lit (.int .u32 1098587580), .lit (.int .u32 1361435347), .lit (.int .u32 1640403810), .lit (.int .u32 1905808397), .lit (.int .u32 2197175160), .lit (.int .u32 2460548119), .lit (.int .u32 2722870694), .lit (.int .u32 2987750089), .lit (.int .u32 3280807620), .lit (.int .u32 3553878443), .lit (.int .u32 3811616794), .lit (.int .u32 4084100981)]

/-- 'almonerlaw01.CrcSums': WHATEVER THE INPUT: true; the input reads as it did. -/
def crcSumsSpec : ChangeSpec := { name := "crcSums", fn := fun _ => fun
  | [d1, d2, d3, d4, d5] => { results := [.lit (.bool true)], args := [d1, d2, d3, d4, d5] }
  | _ => none }
def crcSumsRow : OpenClaim := { program := "ytdohclbkdifafaadoor", sum := "3f072add1e4abe6c5598f6f901b934ccdfbd96c90c68f62461898fdcc4c9beeb", func := "almoner/almonerlaw01.CrcSums", spec := "crcSums", unfollowed := true, recurses := true, named := ["almoner/crc.lowHalf", "almoner/crc.highHalf"], apart := false, laid := [("almoner/crc.lowHalf", laid_almoner_crc_lowHalf), ("almoner/crc.highHalf", laid_almoner_crc_highHalf)] }
def CrcSumsSaid : Prop := crcSumsRow.holds Tryd.pinned (OpenSpec.ofChange crcSumsSpec)

/-- ITS FALSE NEIGHBOUR: 'it returns false'. Refute it at one input. -/
def crcSumsWrong : ChangeSpec := { name := "crcSums", fn := fun _ => fun
  | [d1, d2, d3, d4, d5] => { results := [.lit (.bool false)], args := [d1, d2, d3, d4, d5] }
  | _ => none }
def CrcSumsWrongFalsely : Prop := crcSumsRow.holds Tryd.pinned (OpenSpec.ofChange crcSumsWrong)

/-- 'almonerlaw01.CrcPieces': WHATEVER THE INPUT: true; the input reads as it did. -/
def crcPiecesSpec : ChangeSpec := { name := "crcPieces", fn := fun _ => fun
  | [d1, d2] => { results := [.lit (.bool true)], args := [d1, d2] }
  | _ => none }
def crcPiecesRow : OpenClaim := { program := "ytdohclbkdifafaadoor", sum := "3f072add1e4abe6c5598f6f901b934ccdfbd96c90c68f62461898fdcc4c9beeb", func := "almoner/almonerlaw01.CrcPieces", spec := "crcPieces", unfollowed := true, recurses := true, named := ["almoner/crc.lowHalf", "almoner/crc.highHalf"], apart := false, laid := [("almoner/crc.lowHalf", laid_almoner_crc_lowHalf), ("almoner/crc.highHalf", laid_almoner_crc_highHalf)] }
def CrcPiecesSaid : Prop := crcPiecesRow.holds Tryd.pinned (OpenSpec.ofChange crcPiecesSpec)

/-- ITS FALSE NEIGHBOUR: 'it returns false'. Refute it at one input. -/
def crcPiecesWrong : ChangeSpec := { name := "crcPieces", fn := fun _ => fun
  | [d1, d2] => { results := [.lit (.bool false)], args := [d1, d2] }
  | _ => none }
def CrcPiecesWrongFalsely : Prop := crcPiecesRow.holds Tryd.pinned (OpenSpec.ofChange crcPiecesWrong)

/-- 'almonerlaw01.CrcTells': WHATEVER THE INPUT: true; the input reads as it did. -/
def crcTellsSpec : ChangeSpec := { name := "crcTells", fn := fun _ => fun
  | [d1, d2, d3] => { results := [.lit (.bool true)], args := [d1, d2, d3] }
  | _ => none }
def crcTellsRow : OpenClaim := { program := "ytdohclbkdifafaadoor", sum := "3f072add1e4abe6c5598f6f901b934ccdfbd96c90c68f62461898fdcc4c9beeb", func := "almoner/almonerlaw01.CrcTells", spec := "crcTells", named := ["almoner/crc.lowHalf", "almoner/crc.highHalf"], apart := false, laid := [("almoner/crc.lowHalf", laid_almoner_crc_lowHalf), ("almoner/crc.highHalf", laid_almoner_crc_highHalf)] }
def CrcTellsSaid : Prop := crcTellsRow.holds Tryd.pinned (OpenSpec.ofChange crcTellsSpec)

/-- ITS FALSE NEIGHBOUR: 'it returns false'. Refute it at one input. -/
def crcTellsWrong : ChangeSpec := { name := "crcTells", fn := fun _ => fun
  | [d1, d2, d3] => { results := [.lit (.bool false)], args := [d1, d2, d3] }
  | _ => none }
def CrcTellsWrongFalsely : Prop := crcTellsRow.holds Tryd.pinned (OpenSpec.ofChange crcTellsWrong)

/-- 'almonerlaw01.CrcAdds': WHATEVER THE INPUT: true; the input reads as it did. -/
def crcAddsSpec : ChangeSpec := { name := "crcAdds", fn := fun _ => fun
  | [d1, d2, d3] => { results := [.lit (.bool true)], args := [d1, d2, d3] }
  | _ => none }
def crcAddsRow : OpenClaim := { program := "ytdohclbkdifafaadoor", sum := "3f072add1e4abe6c5598f6f901b934ccdfbd96c90c68f62461898fdcc4c9beeb", func := "almoner/almonerlaw01.CrcAdds", spec := "crcAdds", named := ["almoner/crc.lowHalf", "almoner/crc.highHalf"], apart := false, laid := [("almoner/crc.lowHalf", laid_almoner_crc_lowHalf), ("almoner/crc.highHalf", laid_almoner_crc_highHalf)] }
def CrcAddsSaid : Prop := crcAddsRow.holds Tryd.pinned (OpenSpec.ofChange crcAddsSpec)

/-- ITS FALSE NEIGHBOUR: 'it returns false'. Refute it at one input. -/
def crcAddsWrong : ChangeSpec := { name := "crcAdds", fn := fun _ => fun
  | [d1, d2, d3] => { results := [.lit (.bool false)], args := [d1, d2, d3] }
  | _ => none }
def CrcAddsWrongFalsely : Prop := crcAddsRow.holds Tryd.pinned (OpenSpec.ofChange crcAddsWrong)

/-- 'almonerlaw01.CrcNoughts': WHATEVER THE INPUT: true; the input reads as it did. -/
def crcNoughtsSpec : ChangeSpec := { name := "crcNoughts", fn := fun _ => fun
  | [d1, d2, d3] => { results := [.lit (.bool true)], args := [d1, d2, d3] }
  | _ => none }
def crcNoughtsRow : OpenClaim := { program := "ytdohclbkdifafaadoor", sum := "3f072add1e4abe6c5598f6f901b934ccdfbd96c90c68f62461898fdcc4c9beeb", func := "almoner/almonerlaw01.CrcNoughts", spec := "crcNoughts", unfollowed := true, recurses := true, named := ["almoner/crc.lowHalf", "almoner/crc.highHalf"], apart := false, laid := [("almoner/crc.lowHalf", laid_almoner_crc_lowHalf), ("almoner/crc.highHalf", laid_almoner_crc_highHalf)] }
def CrcNoughtsSaid : Prop := crcNoughtsRow.holds Tryd.pinned (OpenSpec.ofChange crcNoughtsSpec)

/-- ITS FALSE NEIGHBOUR: 'it returns false'. Refute it at one input. -/
def crcNoughtsWrong : ChangeSpec := { name := "crcNoughts", fn := fun _ => fun
  | [d1, d2, d3] => { results := [.lit (.bool false)], args := [d1, d2, d3] }
  | _ => none }
def CrcNoughtsWrongFalsely : Prop := crcNoughtsRow.holds Tryd.pinned (OpenSpec.ofChange crcNoughtsWrong)

/-- 'almonerlaw01.CrcSlots': WHATEVER THE INPUT: true; the input reads as it did. -/
def crcSlotsSpec : ChangeSpec := { name := "crcSlots", fn := fun _ => fun
  | [d1, d2] => { results := [.lit (.bool true)], args := [d1, d2] }
  | _ => none }
def crcSlotsRow : OpenClaim := { program := "ytdohclbkdifafaadoor", sum := "3f072add1e4abe6c5598f6f901b934ccdfbd96c90c68f62461898fdcc4c9beeb", func := "almoner/almonerlaw01.CrcSlots", spec := "crcSlots", named := ["almoner/crc.lowHalf", "almoner/crc.highHalf"], apart := false, laid := [("almoner/crc.lowHalf", laid_almoner_crc_lowHalf), ("almoner/crc.highHalf", laid_almoner_crc_highHalf)] }
def CrcSlotsSaid : Prop := crcSlotsRow.holds Tryd.pinned (OpenSpec.ofChange crcSlotsSpec)

/-- ITS FALSE NEIGHBOUR: 'it returns false'. Refute it at one input. -/
def crcSlotsWrong : ChangeSpec := { name := "crcSlots", fn := fun _ => fun
  | [d1, d2] => { results := [.lit (.bool false)], args := [d1, d2] }
  | _ => none }
def CrcSlotsWrongFalsely : Prop := crcSlotsRow.holds Tryd.pinned (OpenSpec.ofChange crcSlotsWrong)

/- THE SECOND FORM. 'bulk': how many values and letters a reading holds, each counted each time it is reached (what is shared counts as often as it is met; a slice's spare places count too). A statement '..UptoSaid' is the law's where the arguments, and the package variables that the reading takes, are together of bulk at most 1048576: NARROWER than '..Said'. Prove '..Said' where nothing that the law and all that it calls make is longer than what came in: it says more and counts as full. Else prove '..UptoSaid'. A law counts once. -/
mutual
def uptoBulk {H : Type} : DataW H → Nat
  | .lit (.string bytes) => bytes.length + 1
  | .lit _ => 1
  | .nil => 1
  | .ptr d => uptoBulk d + 1
  | .slice elems spare => uptoBulkAll elems + uptoBulkAll spare + 1
  | .agg parts => uptoBulkAll parts + 1
  | .iface _ d => uptoBulk d + 1
  | .map entries => uptoBulkEntries entries + 1
  | .held _ => 1
def uptoBulkAll {H : Type} : List (DataW H) → Nat
  | [] => 0
  | d :: r => uptoBulk d + uptoBulkAll r
def uptoBulkEntries {H : Type} : List (Lit × DataW H) → Nat
  | [] => 0
  | x :: r => uptoBulkEntry x + uptoBulkEntries r
def uptoBulkEntry {H : Type} : Lit × DataW H → Nat
  | (.string bytes, d) => bytes.length + uptoBulk d + 1
  | (_, d) => uptoBulk d + 1
 end
def uptoSmall : (H : Type) → List (DataW H) → Bool := fun _ ds => decide (uptoBulkAll ds ≤ 1048576)
def OpenSpec.upto (s : _root_.Go.ChangeSpec) : _root_.Go.OpenSpec := { _root_.Go.OpenSpec.ofChange s with cond := some uptoSmall }

/-- 'almonerlaw01.CrcSums', WHERE WHAT IT READS IS OF BULK AT MOST 1048576: true; the input reads as it did. -/
def crcSumsUptoRow : OpenClaim := { program := "ytdohclbkdifafaadoor", sum := "3f072add1e4abe6c5598f6f901b934ccdfbd96c90c68f62461898fdcc4c9beeb", func := "almoner/almonerlaw01.CrcSums", spec := "crcSums", unfollowed := true, recurses := true, named := ["almoner/crc.lowHalf", "almoner/crc.highHalf"], apart := false, laid := [("almoner/crc.lowHalf", laid_almoner_crc_lowHalf), ("almoner/crc.highHalf", laid_almoner_crc_highHalf)], narrowed := true }
def CrcSumsUptoSaid : Prop := crcSumsUptoRow.holds Tryd.pinned (OpenSpec.upto crcSumsSpec)

/-- 'almonerlaw01.CrcPieces', WHERE WHAT IT READS IS OF BULK AT MOST 1048576: true; the input reads as it did. -/
def crcPiecesUptoRow : OpenClaim := { program := "ytdohclbkdifafaadoor", sum := "3f072add1e4abe6c5598f6f901b934ccdfbd96c90c68f62461898fdcc4c9beeb", func := "almoner/almonerlaw01.CrcPieces", spec := "crcPieces", unfollowed := true, recurses := true, named := ["almoner/crc.lowHalf", "almoner/crc.highHalf"], apart := false, laid := [("almoner/crc.lowHalf", laid_almoner_crc_lowHalf), ("almoner/crc.highHalf", laid_almoner_crc_highHalf)], narrowed := true }
def CrcPiecesUptoSaid : Prop := crcPiecesUptoRow.holds Tryd.pinned (OpenSpec.upto crcPiecesSpec)

/-- 'almonerlaw01.CrcTells', WHERE WHAT IT READS IS OF BULK AT MOST 1048576: true; the input reads as it did. -/
def crcTellsUptoRow : OpenClaim := { program := "ytdohclbkdifafaadoor", sum := "3f072add1e4abe6c5598f6f901b934ccdfbd96c90c68f62461898fdcc4c9beeb", func := "almoner/almonerlaw01.CrcTells", spec := "crcTells", named := ["almoner/crc.lowHalf", "almoner/crc.highHalf"], apart := false, laid := [("almoner/crc.lowHalf", laid_almoner_crc_lowHalf), ("almoner/crc.highHalf", laid_almoner_crc_highHalf)], narrowed := true }
def CrcTellsUptoSaid : Prop := crcTellsUptoRow.holds Tryd.pinned (OpenSpec.upto crcTellsSpec)

/-- 'almonerlaw01.CrcAdds', WHERE WHAT IT READS IS OF BULK AT MOST 1048576: true; the input reads as it did. -/
def crcAddsUptoRow : OpenClaim := { program := "ytdohclbkdifafaadoor", sum := "3f072add1e4abe6c5598f6f901b934ccdfbd96c90c68f62461898fdcc4c9beeb", func := "almoner/almonerlaw01.CrcAdds", spec := "crcAdds", named := ["almoner/crc.lowHalf", "almoner/crc.highHalf"], apart := false, laid := [("almoner/crc.lowHalf", laid_almoner_crc_lowHalf), ("almoner/crc.highHalf", laid_almoner_crc_highHalf)], narrowed := true }
def CrcAddsUptoSaid : Prop := crcAddsUptoRow.holds Tryd.pinned (OpenSpec.upto crcAddsSpec)

/-- 'almonerlaw01.CrcNoughts', WHERE WHAT IT READS IS OF BULK AT MOST 1048576: true; the input reads as it did. -/
def crcNoughtsUptoRow : OpenClaim := { program := "ytdohclbkdifafaadoor", sum := "3f072add1e4abe6c5598f6f901b934ccdfbd96c90c68f62461898fdcc4c9beeb", func := "almoner/almonerlaw01.CrcNoughts", spec := "crcNoughts", unfollowed := true, recurses := true, named := ["almoner/crc.lowHalf", "almoner/crc.highHalf"], apart := false, laid := [("almoner/crc.lowHalf", laid_almoner_crc_lowHalf), ("almoner/crc.highHalf", laid_almoner_crc_highHalf)], narrowed := true }
def CrcNoughtsUptoSaid : Prop := crcNoughtsUptoRow.holds Tryd.pinned (OpenSpec.upto crcNoughtsSpec)

/-- 'almonerlaw01.CrcSlots', WHERE WHAT IT READS IS OF BULK AT MOST 1048576: true; the input reads as it did. -/
def crcSlotsUptoRow : OpenClaim := { program := "ytdohclbkdifafaadoor", sum := "3f072add1e4abe6c5598f6f901b934ccdfbd96c90c68f62461898fdcc4c9beeb", func := "almoner/almonerlaw01.CrcSlots", spec := "crcSlots", named := ["almoner/crc.lowHalf", "almoner/crc.highHalf"], apart := false, laid := [("almoner/crc.lowHalf", laid_almoner_crc_lowHalf), ("almoner/crc.highHalf", laid_almoner_crc_highHalf)], narrowed := true }
def CrcSlotsUptoSaid : Prop := crcSlotsUptoRow.holds Tryd.pinned (OpenSpec.upto crcSlotsSpec)

end Rows
end Go.Proofs.YtdohclbkdifafaaDoor
