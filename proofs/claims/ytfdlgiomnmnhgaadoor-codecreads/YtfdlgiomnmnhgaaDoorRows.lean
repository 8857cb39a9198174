/-
  NARROWER THAN 'FOR EVERY INPUT', by the rows' own cells (each row's printed sentence says how): CodecWrites: laid · CodecReads: laid · CodecFrames: laid · CodecBack: laid · CodecMessages: laid · CodecNumbers: laid.
  DERIVED. THE GIVEN ROWS OF THIS SEAT. 6 by the template 'for every input the law returns true; each argument reads behind the call as it read before'; 0 by the template 'total and deterministic' (their statements: YtfdlgiomnmnhgaaDoorTotals.lean).
  GIVEN WITH THE SEED: the statements are not yours to turn. If you find one false, say at which input.
  Laid BY PROGRAM, IN A SANDBOX (cutbox-rows.mjs): the forced cells as the released guide's own fill.sh prints them over the translation 712714533b69c868… (all of the seat's roots in one cut). By AI agents, Wed Nov 11 2026. No macro, syntax, notation, axiom, sorry.
-/
import Derived.Test.YtfdlgiomnmnhgaaDoorChecked
import GoSem.Claim
import GoSem.ClaimJoined
import GoSem.ClaimMapViews
import Derived.JoinedTies
import Derived.KernelRfl
namespace Go.Proofs.YtfdlgiomnmnhgaaDoor
/- THE CELL 'sum', in the pinned program and in every row, IS THE sha256 OF THE DUMP (.gsa) THAT YtfdlgiomnmnhgaaDoorProg.lean LOADS. Nothing in Lean hashes anything: it is a label: what it is worth is what the hold of that sum in a sandbox is worth. -/
noncomputable def Tryd.pinned : Pinned := { name := "ytfdlgiomnmnhgaadoor", sum := "712714533b69c8689bfec93e0bf54ffc20b5e938811bd1118f54947022a6fc27", checked := Tryd.checked }
namespace Rows
def none {H : Type} : Left H := { results := [], args := [] }

/- WHAT THE LISTED PACKAGE-LEVEL VARIABLES READ AS WHEN THE CALL BEGINS. Each datum BY PROGRAM (the guide's laid-datum.mjs) off the statement by which the dump's own 'gosem.cut.vars' lays the variable. In a bare row this is a premise. The card (YtfdlgiomnmnhgaaDoorCards.lean) ties it to the program's text. -/
def laid_almoner_crc_lowHalf {H : Type} : DataW H := .agg [.lit (.int .u32 0), .lit (.int .u32 4067132163), .lit (.int .u32 3778769143), .lit (.int .u32 324072436), .lit (.int .u32 3348797215), .lit (.int .u32 904991772), .lit (.int .u32 648144872), .lit (.int .u32 3570033899), .lit (.int .u32 2329499855), .lit (.int .u32 2024987596), .lit (.int .u32 1809983544), .lit (.int .u32 2575936315), .lit (.int .u32 1296289744), .lit (.int .u32 3207089363), .lit (.int .u32 2893594407), .lit (.int .u32 1578318884)]
def laid_almoner_crc_highHalf {H : Type} : DataW H := .agg [.lit (.int .u32 0), .lit (.int .u32 274646895), .lit (.int .u32 549293790), .lit (.int .u32 820201905), .lit (.int .u32 1098587580), .lit (.int .u32 1361435347), .lit (.int .u32 1640403810), .lit (.int .u32 1905808397), .lit (.int .u32 2197175160), .lit (.int .u32 2460548119), .lit (.int .u32 2722870694), .lit (.int .u32 2987750089), .lit (.int .u32 3280807620), .lit (.int .u32 3553878443), .lit (.int .u32 3811616794), .lit (.int .u32 4084100981)]

/-- 'almonerlaw02.CodecWrites': WHATEVER THE INPUT: true; the input reads as it did. -/
def codecWritesSpec : ChangeSpec := { name := "codecWrites", fn := fun _ => fun
  | [d1, d2, d3, d4, d5, d6, d7] => { results := [.lit (.bool true)], args := [d1, d2, d3, d4, d5, d6, d7] }
  | _ => none }
def codecWritesRow : OpenClaim := { program := "ytfdlgiomnmnhgaadoor", sum := "712714533b69c8689bfec93e0bf54ffc20b5e938811bd1118f54947022a6fc27", func := "almoner/almonerlaw02.CodecWrites", spec := "codecWrites", named := ["almoner/crc.lowHalf", "almoner/crc.highHalf"], apart := false, laid := [("almoner/crc.lowHalf", laid_almoner_crc_lowHalf), ("almoner/crc.highHalf", laid_almoner_crc_highHalf)] }
def CodecWritesSaid : Prop := codecWritesRow.holds Tryd.pinned (OpenSpec.ofChange codecWritesSpec)

/-- ITS FALSE NEIGHBOUR: 'it returns false'. Refute it at one input. -/
def codecWritesWrong : ChangeSpec := { name := "codecWrites", fn := fun _ => fun
  | [d1, d2, d3, d4, d5, d6, d7] => { results := [.lit (.bool false)], args := [d1, d2, d3, d4, d5, d6, d7] }
  | _ => none }
def CodecWritesWrongFalsely : Prop := codecWritesRow.holds Tryd.pinned (OpenSpec.ofChange codecWritesWrong)

/-- 'almonerlaw02.CodecReads': WHATEVER THE INPUT: true; the input reads as it did. -/
def codecReadsSpec : ChangeSpec := { name := "codecReads", fn := fun _ => fun
  | [d1, d2, d3] => { results := [.lit (.bool true)], args := [d1, d2, d3] }
  | _ => none }
def codecReadsRow : OpenClaim := { program := "ytfdlgiomnmnhgaadoor", sum := "712714533b69c8689bfec93e0bf54ffc20b5e938811bd1118f54947022a6fc27", func := "almoner/almonerlaw02.CodecReads", spec := "codecReads", named := ["almoner/crc.lowHalf", "almoner/crc.highHalf"], apart := false, laid := [("almoner/crc.lowHalf", laid_almoner_crc_lowHalf), ("almoner/crc.highHalf", laid_almoner_crc_highHalf)] }
def CodecReadsSaid : Prop := codecReadsRow.holds Tryd.pinned (OpenSpec.ofChange codecReadsSpec)

/-- ITS FALSE NEIGHBOUR: 'it returns false'. Refute it at one input. -/
def codecReadsWrong : ChangeSpec := { name := "codecReads", fn := fun _ => fun
  | [d1, d2, d3] => { results := [.lit (.bool false)], args := [d1, d2, d3] }
  | _ => none }
def CodecReadsWrongFalsely : Prop := codecReadsRow.holds Tryd.pinned (OpenSpec.ofChange codecReadsWrong)

/-- 'almonerlaw02.CodecFrames': WHATEVER THE INPUT: true; the input reads as it did. -/
def codecFramesSpec : ChangeSpec := { name := "codecFrames", fn := fun _ => fun
  | [d] => { results := [.lit (.bool true)], args := [d] }
  | _ => none }
def codecFramesRow : OpenClaim := { program := "ytfdlgiomnmnhgaadoor", sum := "712714533b69c8689bfec93e0bf54ffc20b5e938811bd1118f54947022a6fc27", func := "almoner/almonerlaw02.CodecFrames", spec := "codecFrames", unfollowed := true, recurses := true, named := ["almoner/crc.lowHalf", "almoner/crc.highHalf"], apart := false, laid := [("almoner/crc.lowHalf", laid_almoner_crc_lowHalf), ("almoner/crc.highHalf", laid_almoner_crc_highHalf)] }
def CodecFramesSaid : Prop := codecFramesRow.holds Tryd.pinned (OpenSpec.ofChange codecFramesSpec)

/-- ITS FALSE NEIGHBOUR: 'it returns false'. Refute it at one input. -/
def codecFramesWrong : ChangeSpec := { name := "codecFrames", fn := fun _ => fun
  | [d] => { results := [.lit (.bool false)], args := [d] }
  | _ => none }
def CodecFramesWrongFalsely : Prop := codecFramesRow.holds Tryd.pinned (OpenSpec.ofChange codecFramesWrong)

/-- 'almonerlaw02.CodecBack': WHATEVER THE INPUT: true; the input reads as it did. -/
def codecBackSpec : ChangeSpec := { name := "codecBack", fn := fun _ => fun
  | [d1, d2, d3, d4, d5] => { results := [.lit (.bool true)], args := [d1, d2, d3, d4, d5] }
  | _ => none }
def codecBackRow : OpenClaim := { program := "ytfdlgiomnmnhgaadoor", sum := "712714533b69c8689bfec93e0bf54ffc20b5e938811bd1118f54947022a6fc27", func := "almoner/almonerlaw02.CodecBack", spec := "codecBack", named := ["almoner/crc.lowHalf", "almoner/crc.highHalf"], apart := false, laid := [("almoner/crc.lowHalf", laid_almoner_crc_lowHalf), ("almoner/crc.highHalf", laid_almoner_crc_highHalf)] }
def CodecBackSaid : Prop := codecBackRow.holds Tryd.pinned (OpenSpec.ofChange codecBackSpec)

/-- ITS FALSE NEIGHBOUR: 'it returns false'. Refute it at one input. -/
def codecBackWrong : ChangeSpec := { name := "codecBack", fn := fun _ => fun
  | [d1, d2, d3, d4, d5] => { results := [.lit (.bool false)], args := [d1, d2, d3, d4, d5] }
  | _ => none }
def CodecBackWrongFalsely : Prop := codecBackRow.holds Tryd.pinned (OpenSpec.ofChange codecBackWrong)

/-- 'almonerlaw02.CodecMessages': WHATEVER THE INPUT: true; the input reads as it did. -/
def codecMessagesSpec : ChangeSpec := { name := "codecMessages", fn := fun _ => fun
  | [d1, d2, d3, d4] => { results := [.lit (.bool true)], args := [d1, d2, d3, d4] }
  | _ => none }
def codecMessagesRow : OpenClaim := { program := "ytfdlgiomnmnhgaadoor", sum := "712714533b69c8689bfec93e0bf54ffc20b5e938811bd1118f54947022a6fc27", func := "almoner/almonerlaw02.CodecMessages", spec := "codecMessages", named := ["almoner/crc.lowHalf", "almoner/crc.highHalf"], apart := false, laid := [("almoner/crc.lowHalf", laid_almoner_crc_lowHalf), ("almoner/crc.highHalf", laid_almoner_crc_highHalf)] }
def CodecMessagesSaid : Prop := codecMessagesRow.holds Tryd.pinned (OpenSpec.ofChange codecMessagesSpec)

/-- ITS FALSE NEIGHBOUR: 'it returns false'. Refute it at one input. -/
def codecMessagesWrong : ChangeSpec := { name := "codecMessages", fn := fun _ => fun
  | [d1, d2, d3, d4] => { results := [.lit (.bool false)], args := [d1, d2, d3, d4] }
  | _ => none }
def CodecMessagesWrongFalsely : Prop := codecMessagesRow.holds Tryd.pinned (OpenSpec.ofChange codecMessagesWrong)

/-- 'almonerlaw02.CodecNumbers': WHATEVER THE INPUT: true; the input reads as it did. -/
def codecNumbersSpec : ChangeSpec := { name := "codecNumbers", fn := fun _ => fun
  | [d1, d2] => { results := [.lit (.bool true)], args := [d1, d2] }
  | _ => none }
def codecNumbersRow : OpenClaim := { program := "ytfdlgiomnmnhgaadoor", sum := "712714533b69c8689bfec93e0bf54ffc20b5e938811bd1118f54947022a6fc27", func := "almoner/almonerlaw02.CodecNumbers", spec := "codecNumbers", named := ["almoner/crc.lowHalf", "almoner/crc.highHalf"], apart := false, laid := [("almoner/crc.lowHalf", laid_almoner_crc_lowHalf), ("almoner/crc.highHalf", laid_almoner_crc_highHalf)] }
def CodecNumbersSaid : Prop := codecNumbersRow.holds Tryd.pinned (OpenSpec.ofChange codecNumbersSpec)

/-- ITS FALSE NEIGHBOUR: 'it returns false'. Refute it at one input. -/
def codecNumbersWrong : ChangeSpec := { name := "codecNumbers", fn := fun _ => fun
  | [d1, d2] => { results := [.lit (.bool false)], args := [d1, d2] }
  | _ => none }
def CodecNumbersWrongFalsely : Prop := codecNumbersRow.holds Tryd.pinned (OpenSpec.ofChange codecNumbersWrong)

/- THE SECOND FORM. 'bulk': how many values and letters a reading holds, each counted each time it is reached (what is shared counts as often as it is met; a slice's spare places count too). A statement '..UptoSaid' is the law's where the arguments, and the package variables that the reading takes, are together of bulk at most 1048576: NARROWER than '..Said'. Prove '..Said' where nothing that the law and all that it calls make is longer than what came in: it says more and counts as full. Else prove '..UptoSaid'. A law counts once. -/
mutual
def uptoBulk {H : Type} : DataW H → Nat
  | .lit (.string bytes) => bytes.length + 1
  | .lit _ => 1
  | .nil => 1
  | .ptr d => uptoBulk d + 1
  | .slice elems spare => uptoBulkAll elems + uptoBulkAll spare + 1
  | .agg parts => uptoBulkAll parts + 1
  | .iface _ d => uptoBulk d + 1
  | .map entries => uptoBulkEntries entries + 1
  | .held _ => 1
def uptoBulkAll {H : Type} : List (DataW H) → Nat
  | [] => 0
  | d :: r => uptoBulk d + uptoBulkAll r
def uptoBulkEntries {H : Type} : List (Lit × DataW H) → Nat
  | [] => 0
  | x :: r => uptoBulkEntry x + uptoBulkEntries r
def uptoBulkEntry {H : Type} : Lit × DataW H → Nat
  | (.string bytes, d) => bytes.length + uptoBulk d + 1
  | (_, d) => uptoBulk d + 1
 end
def uptoSmall : (H : Type) → List (DataW H) → Bool := fun _ ds => decide (uptoBulkAll ds ≤ 1048576)
def OpenSpec.upto (s : _root_.Go.ChangeSpec) : _root_.Go.OpenSpec := { _root_.Go.OpenSpec.ofChange s with cond := some uptoSmall }

/-- 'almonerlaw02.CodecWrites', WHERE WHAT IT READS IS OF BULK AT MOST 1048576: true; the input reads as it did. -/
def codecWritesUptoRow : OpenClaim := { program := "ytfdlgiomnmnhgaadoor", sum := "712714533b69c8689bfec93e0bf54ffc20b5e938811bd1118f54947022a6fc27", func := "almoner/almonerlaw02.CodecWrites", spec := "codecWrites", named := ["almoner/crc.lowHalf", "almoner/crc.highHalf"], apart := false, laid := [("almoner/crc.lowHalf", laid_almoner_crc_lowHalf), ("almoner/crc.highHalf", laid_almoner_crc_highHalf)], narrowed := true }
def CodecWritesUptoSaid : Prop := codecWritesUptoRow.holds Tryd.pinned (OpenSpec.upto codecWritesSpec)

/-- 'almonerlaw02.CodecReads', WHERE WHAT IT READS IS OF BULK AT MOST 1048576: true; the input reads as it did. -/
def codecReadsUptoRow : OpenClaim := { program := "ytfdlgiomnmnhgaadoor", sum := "712714533b69c8689bfec93e0bf54ffc20b5e938811bd1118f54947022a6fc27", func := "almoner/almonerlaw02.CodecReads", spec := "codecReads", named := ["almoner/crc.lowHalf", "almoner/crc.highHalf"], apart := false, laid := [("almoner/crc.lowHalf", laid_almoner_crc_lowHalf), ("almoner/crc.highHalf", laid_almoner_crc_highHalf)], narrowed := true }
def CodecReadsUptoSaid : Prop := codecReadsUptoRow.holds Tryd.pinned (OpenSpec.upto codecReadsSpec)

/-- 'almonerlaw02.CodecFrames', WHERE WHAT IT READS IS OF BULK AT MOST 1048576: true; the input reads as it did. -/
def codecFramesUptoRow : OpenClaim := { program := "ytfdlgiomnmnhgaadoor", sum := "712714533b69c8689bfec93e0bf54ffc20b5e938811bd1118f54947022a6fc27", func := "almoner/almonerlaw02.CodecFrames", spec := "codecFrames", unfollowed := true, recurses := true, named := ["almoner/crc.lowHalf", "almoner/crc.highHalf"], apart := false, laid := [("almoner/crc.lowHalf", laid_almoner_crc_lowHalf), ("almoner/crc.highHalf", laid_almoner_crc_highHalf)], narrowed := true }
def CodecFramesUptoSaid : Prop := codecFramesUptoRow.holds Tryd.pinned (OpenSpec.upto codecFramesSpec)

/-- 'almonerlaw02.CodecBack', WHERE WHAT IT READS IS OF BULK AT MOST 1048576: true; the input reads as it did. -/
def codecBackUptoRow : OpenClaim := { program := "ytfdlgiomnmnhgaadoor", sum := "712714533b69c8689bfec93e0bf54ffc20b5e938811bd1118f54947022a6fc27", func := "almoner/almonerlaw02.CodecBack", spec := "codecBack", named := ["almoner/crc.lowHalf", "almoner/crc.highHalf"], apart := false, laid := [("almoner/crc.lowHalf", laid_almoner_crc_lowHalf), ("almoner/crc.highHalf", laid_almoner_crc_highHalf)], narrowed := true }
def CodecBackUptoSaid : Prop := codecBackUptoRow.holds Tryd.pinned (OpenSpec.upto codecBackSpec)

/-- 'almonerlaw02.CodecMessages', WHERE WHAT IT READS IS OF BULK AT MOST 1048576: true; the input reads as it did. -/
def codecMessagesUptoRow : OpenClaim := { program := "ytfdlgiomnmnhgaadoor", sum := "712714533b69c8689bfec93e0bf54ffc20b5e938811bd1118f54947022a6fc27", func := "almoner/almonerlaw02.CodecMessages", spec := "codecMessages", named := ["almoner/crc.lowHalf", "almoner/crc.highHalf"], apart := false, laid := [("almoner/crc.lowHalf", laid_almoner_crc_lowHalf), ("almoner/crc.highHalf", laid_almoner_crc_highHalf)], narrowed := true }
def CodecMessagesUptoSaid : Prop := codecMessagesUptoRow.holds Tryd.pinned (OpenSpec.upto codecMessagesSpec)

/-- 'almonerlaw02.CodecNumbers', WHERE WHAT IT READS IS OF BULK AT MOST 1048576: true; the input reads as it did. -/
def codecNumbersUptoRow : OpenClaim := { program := "ytfdlgiomnmnhgaadoor", sum := "712714533b69c8689bfec93e0bf54ffc20b5e938811bd1118f54947022a6fc27", func := "almoner/almonerlaw02.CodecNumbers", spec := "codecNumbers", named := ["almoner/crc.lowHalf", "almoner/crc.highHalf"], apart := false, laid := [("almoner/crc.lowHalf", laid_almoner_crc_lowHalf), ("almoner/crc.highHalf", laid_almoner_crc_highHalf)], narrowed := true }
def CodecNumbersUptoSaid : Prop := codecNumbersUptoRow.holds Tryd.pinned (OpenSpec.upto codecNumbersSpec)

end Rows
end Go.Proofs.YtfdlgiomnmnhgaaDoor
