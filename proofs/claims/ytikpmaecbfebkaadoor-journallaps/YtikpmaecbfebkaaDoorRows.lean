/-
  NARROWER THAN 'FOR EVERY INPUT', by the rows' own cells (each row's printed sentence says how): JournalPlays: laid · JournalLasts: laid · JournalNil: laid · JournalRooms: laid · JournalLaps: laid · JournalAgain: laid.
  DERIVED. THE GIVEN ROWS OF THIS SEAT. 6 by the template 'for every input the law returns true; each argument reads behind the call as it read before'; 0 by the template 'total and deterministic' (their statements: YtikpmaecbfebkaaDoorTotals.lean).
  GIVEN WITH THE SEED: the statements are not yours to turn. If you find one false, say at which input.
  Laid BY PROGRAM, IN A SANDBOX (cutbox-rows.mjs): the forced cells as the released guide's own fill.sh prints them over the translation 08cf7f14fb676923… (all of the seat's roots in one cut). By AI agents, Wed Nov 11 2026. No macro, syntax, notation, axiom, sorry.
-/
import Derived.Test.YtikpmaecbfebkaaDoorChecked
import GoSem.Claim
import GoSem.ClaimJoined
import GoSem.ClaimMapViews
import Derived.JoinedTies
import Derived.KernelRfl
namespace Go.Proofs.YtikpmaecbfebkaaDoor
/- THE CELL 'sum', in the pinned program and in every row, IS THE sha256 OF THE DUMP (.gsa) THAT YtikpmaecbfebkaaDoorProg.lean LOADS. Nothing in Lean hashes anything: it is a label: what it is worth is what the hold of that sum in a sandbox is worth. -/
noncomputable def Tryd.pinned : Pinned := { name := "ytikpmaecbfebkaadoor", sum := "08cf7f14fb676923dd165fdbb1eac2a59607a4d2693b5158b1376299b47faf85", checked := Tryd.checked }
namespace Rows
def none {H : Type} : Left H := { results := [], args := [] }

/- WHAT THE LISTED PACKAGE-LEVEL VARIABLES READ AS WHEN THE CALL BEGINS. Each datum BY PROGRAM (the guide's laid-datum.mjs) off the statement by which the dump's own 'gosem.cut.vars' lays the variable. In a bare row this is a premise. The card (YtikpmaecbfebkaaDoorCards.lean) ties it to the program's text. -/
def laid_almoner_crc_lowHalf {H : Type} : DataW H := .agg [.lit (.int .u32 0), .lit (.int .u32 4067132163), .lit (.int .u32 3778769143), .lit (.int .u32 324072436), .lit (.int .u32 3348797215), .lit (.int .u32 904991772), .lit (.int .u32 648144872), .lit (.int .u32 3570033899), .lit (.int .u32 2329499855), .lit (.int .u32 2024987596), .lit (.int .u32 1809983544), .lit (.int .u32 2575936315), .lit (.int .u32 1296289744), .lit (.int .u32 3207089363), .lit (.int .u32 2893594407), .lit (.int .u32 1578318884)]
def laid_almoner_crc_highHalf {H : Type} : DataW H := .agg [.lit (.int .u32 0), .lit (.int .u32 274646895), .lit (.int .u32 549293790), .lit (.int .u32 820201905), .lit (.int .u32 1098587580), .lit (.int .u32 1361435347), .lit (.int .u32 1640403810), .lit (.int .u32 1905808397), .lit (.int .u32 2197175160), .lit (.int .u32 2460548119), .lit (.int .u32 2722870694), .lit (.int .u32 2987750089), .lit (.int .u32 3280807620), .lit (.int .u32 3553878443), .lit (.int .u32 3811616794), .lit (.int .u32 4084100981)]

/-- 'almonerlaw04.JournalPlays': WHATEVER THE INPUT: true; the input reads as it did. -/
def journalPlaysSpec : ChangeSpec := { name := "journalPlays", fn := fun _ => fun
  | [d1, d2, d3, d4, d5] => { results := [.lit (.bool true)], args := [d1, d2, d3, d4, d5] }
  | _ => none }
def journalPlaysRow : OpenClaim := { program := "ytikpmaecbfebkaadoor", sum := "08cf7f14fb676923dd165fdbb1eac2a59607a4d2693b5158b1376299b47faf85", func := "almoner/almonerlaw04.JournalPlays", spec := "journalPlays", unfollowed := true, recurses := true, named := ["almoner/crc.lowHalf", "almoner/crc.highHalf"], apart := false, laid := [("almoner/crc.lowHalf", laid_almoner_crc_lowHalf), ("almoner/crc.highHalf", laid_almoner_crc_highHalf)] }
def JournalPlaysSaid : Prop := journalPlaysRow.holds Tryd.pinned (OpenSpec.ofChange journalPlaysSpec)

/-- ITS FALSE NEIGHBOUR: 'it returns false'. Refute it at one input. -/
def journalPlaysWrong : ChangeSpec := { name := "journalPlays", fn := fun _ => fun
  | [d1, d2, d3, d4, d5] => { results := [.lit (.bool false)], args := [d1, d2, d3, d4, d5] }
  | _ => none }
def JournalPlaysWrongFalsely : Prop := journalPlaysRow.holds Tryd.pinned (OpenSpec.ofChange journalPlaysWrong)

/-- 'almonerlaw04.JournalLasts': WHATEVER THE INPUT: true; the input reads as it did. -/
def journalLastsSpec : ChangeSpec := { name := "journalLasts", fn := fun _ => fun
  | [d] => { results := [.lit (.bool true)], args := [d] }
  | _ => none }
def journalLastsRow : OpenClaim := { program := "ytikpmaecbfebkaadoor", sum := "08cf7f14fb676923dd165fdbb1eac2a59607a4d2693b5158b1376299b47faf85", func := "almoner/almonerlaw04.JournalLasts", spec := "journalLasts", unfollowed := true, recurses := true, named := ["almoner/crc.lowHalf", "almoner/crc.highHalf"], apart := false, laid := [("almoner/crc.lowHalf", laid_almoner_crc_lowHalf), ("almoner/crc.highHalf", laid_almoner_crc_highHalf)] }
def JournalLastsSaid : Prop := journalLastsRow.holds Tryd.pinned (OpenSpec.ofChange journalLastsSpec)

/-- ITS FALSE NEIGHBOUR: 'it returns false'. Refute it at one input. -/
def journalLastsWrong : ChangeSpec := { name := "journalLasts", fn := fun _ => fun
  | [d] => { results := [.lit (.bool false)], args := [d] }
  | _ => none }
def JournalLastsWrongFalsely : Prop := journalLastsRow.holds Tryd.pinned (OpenSpec.ofChange journalLastsWrong)

/-- 'almonerlaw04.JournalNil': WHATEVER THE INPUT: true; the input reads as it did. -/
def journalNilSpec : ChangeSpec := { name := "journalNil", fn := fun _ => fun
  | [d1, d2] => { results := [.lit (.bool true)], args := [d1, d2] }
  | _ => none }
def journalNilRow : OpenClaim := { program := "ytikpmaecbfebkaadoor", sum := "08cf7f14fb676923dd165fdbb1eac2a59607a4d2693b5158b1376299b47faf85", func := "almoner/almonerlaw04.JournalNil", spec := "journalNil", unfollowed := true, recurses := true, named := ["almoner/crc.lowHalf", "almoner/crc.highHalf"], apart := false, laid := [("almoner/crc.lowHalf", laid_almoner_crc_lowHalf), ("almoner/crc.highHalf", laid_almoner_crc_highHalf)] }
def JournalNilSaid : Prop := journalNilRow.holds Tryd.pinned (OpenSpec.ofChange journalNilSpec)

/-- ITS FALSE NEIGHBOUR: 'it returns false'. Refute it at one input. -/
def journalNilWrong : ChangeSpec := { name := "journalNil", fn := fun _ => fun
  | [d1, d2] => { results := [.lit (.bool false)], args := [d1, d2] }
  | _ => none }
def JournalNilWrongFalsely : Prop := journalNilRow.holds Tryd.pinned (OpenSpec.ofChange journalNilWrong)

/-- 'almonerlaw04.JournalRooms': WHATEVER THE INPUT: true; the input reads as it did. -/
def journalRoomsSpec : ChangeSpec := { name := "journalRooms", fn := fun _ => fun
  | [d1, d2] => { results := [.lit (.bool true)], args := [d1, d2] }
  | _ => none }
def journalRoomsRow : OpenClaim := { program := "ytikpmaecbfebkaadoor", sum := "08cf7f14fb676923dd165fdbb1eac2a59607a4d2693b5158b1376299b47faf85", func := "almoner/almonerlaw04.JournalRooms", spec := "journalRooms", unfollowed := true, recurses := true, named := ["almoner/crc.lowHalf", "almoner/crc.highHalf"], apart := false, laid := [("almoner/crc.lowHalf", laid_almoner_crc_lowHalf), ("almoner/crc.highHalf", laid_almoner_crc_highHalf)] }
def JournalRoomsSaid : Prop := journalRoomsRow.holds Tryd.pinned (OpenSpec.ofChange journalRoomsSpec)

/-- ITS FALSE NEIGHBOUR: 'it returns false'. Refute it at one input. -/
def journalRoomsWrong : ChangeSpec := { name := "journalRooms", fn := fun _ => fun
  | [d1, d2] => { results := [.lit (.bool false)], args := [d1, d2] }
  | _ => none }
def JournalRoomsWrongFalsely : Prop := journalRoomsRow.holds Tryd.pinned (OpenSpec.ofChange journalRoomsWrong)

/-- 'almonerlaw04.JournalLaps': WHATEVER THE INPUT: true; the input reads as it did. -/
def journalLapsSpec : ChangeSpec := { name := "journalLaps", fn := fun _ => fun
  | [d1, d2] => { results := [.lit (.bool true)], args := [d1, d2] }
  | _ => none }
def journalLapsRow : OpenClaim := { program := "ytikpmaecbfebkaadoor", sum := "08cf7f14fb676923dd165fdbb1eac2a59607a4d2693b5158b1376299b47faf85", func := "almoner/almonerlaw04.JournalLaps", spec := "journalLaps", unfollowed := true, recurses := true, named := ["almoner/crc.lowHalf", "almoner/crc.highHalf"], apart := false, laid := [("almoner/crc.lowHalf", laid_almoner_crc_lowHalf), ("almoner/crc.highHalf", laid_almoner_crc_highHalf)] }
def JournalLapsSaid : Prop := journalLapsRow.holds Tryd.pinned (OpenSpec.ofChange journalLapsSpec)

/-- ITS FALSE NEIGHBOUR: 'it returns false'. Refute it at one input. -/
def journalLapsWrong : ChangeSpec := { name := "journalLaps", fn := fun _ => fun
  | [d1, d2] => { results := [.lit (.bool false)], args := [d1, d2] }
  | _ => none }
def JournalLapsWrongFalsely : Prop := journalLapsRow.holds Tryd.pinned (OpenSpec.ofChange journalLapsWrong)

/-- 'almonerlaw04.JournalAgain': WHATEVER THE INPUT: true; the input reads as it did. -/
def journalAgainSpec : ChangeSpec := { name := "journalAgain", fn := fun _ => fun
  | [d1, d2, d3] => { results := [.lit (.bool true)], args := [d1, d2, d3] }
  | _ => none }
def journalAgainRow : OpenClaim := { program := "ytikpmaecbfebkaadoor", sum := "08cf7f14fb676923dd165fdbb1eac2a59607a4d2693b5158b1376299b47faf85", func := "almoner/almonerlaw04.JournalAgain", spec := "journalAgain", unfollowed := true, recurses := true, named := ["almoner/crc.lowHalf", "almoner/crc.highHalf"], apart := false, laid := [("almoner/crc.lowHalf", laid_almoner_crc_lowHalf), ("almoner/crc.highHalf", laid_almoner_crc_highHalf)] }
def JournalAgainSaid : Prop := journalAgainRow.holds Tryd.pinned (OpenSpec.ofChange journalAgainSpec)

/-- ITS FALSE NEIGHBOUR: 'it returns false'. Refute it at one input. -/
def journalAgainWrong : ChangeSpec := { name := "journalAgain", fn := fun _ => fun
  | [d1, d2, d3] => { results := [.lit (.bool false)], args := [d1, d2, d3] }
  | _ => none }
def JournalAgainWrongFalsely : Prop := journalAgainRow.holds Tryd.pinned (OpenSpec.ofChange journalAgainWrong)

/- THE SECOND FORM. 'bulk': how many values and letters a reading holds, each counted each time it is reached (what is shared counts as often as it is met; a slice's spare places count too). A statement '..UptoSaid' is the law's where the arguments, and the package variables that the reading takes, are together of bulk at most 1048576: NARROWER than '..Said'. Prove '..Said' where nothing that the law and all that it calls make is longer than what came in: it says more and counts as full. Else prove '..UptoSaid'. A law counts once. -/
mutual
def uptoBulk {H : Type} : DataW H → Nat
  | .lit (.string bytes) => bytes.length + 1
  | .lit _ => 1
  | .nil => 1
  | .ptr d => uptoBulk d + 1
  | .slice elems spare => uptoBulkAll elems + uptoBulkAll spare + 1
  | .agg parts => uptoBulkAll parts + 1
  | .iface _ d => uptoBulk d + 1
  | .map entries => uptoBulkEntries entries + 1
  | .held _ => 1
def uptoBulkAll {H : Type} : List (DataW H) → Nat
  | [] => 0
  | d :: r => uptoBulk d + uptoBulkAll r
def uptoBulkEntries {H : Type} : List (Lit × DataW H) → Nat
  | [] => 0
  | x :: r => uptoBulkEntry x + uptoBulkEntries r
def uptoBulkEntry {H : Type} : Lit × DataW H → Nat
  | (.string bytes, d) => bytes.length + uptoBulk d + 1
  | (_, d) => uptoBulk d + 1
 end
def uptoSmall : (H : Type) → List (DataW H) → Bool := fun _ ds => decide (uptoBulkAll ds ≤ 1048576)
def OpenSpec.upto (s : _root_.Go.ChangeSpec) : _root_.Go.OpenSpec := { _root_.Go.OpenSpec.ofChange s with cond := some uptoSmall }

/-- 'almonerlaw04.JournalPlays', WHERE WHAT IT READS IS OF BULK AT MOST 1048576: true; the input reads as it did. -/
def journalPlaysUptoRow : OpenClaim := { program := "ytikpmaecbfebkaadoor", sum := "08cf7f14fb676923dd165fdbb1eac2a59607a4d2693b5158b1376299b47faf85", func := "almoner/almonerlaw04.JournalPlays", spec := "journalPlays", unfollowed := true, recurses := true, named := ["almoner/crc.lowHalf", "almoner/crc.highHalf"], apart := false, laid := [("almoner/crc.lowHalf", laid_almoner_crc_lowHalf), ("almoner/crc.highHalf", laid_almoner_crc_highHalf)], narrowed := true }
def JournalPlaysUptoSaid : Prop := journalPlaysUptoRow.holds Tryd.pinned (OpenSpec.upto journalPlaysSpec)

/-- 'almonerlaw04.JournalLasts', WHERE WHAT IT READS IS OF BULK AT MOST 1048576: true; the input reads as it did. -/
def journalLastsUptoRow : OpenClaim := { program := "ytikpmaecbfebkaadoor", sum := "08cf7f14fb676923dd165fdbb1eac2a59607a4d2693b5158b1376299b47faf85", func := "almoner/almonerlaw04.JournalLasts", spec := "journalLasts", unfollowed := true, recurses := true, named := ["almoner/crc.lowHalf", "almoner/crc.highHalf"], apart := false, laid := [("almoner/crc.lowHalf", laid_almoner_crc_lowHalf), ("almoner/crc.highHalf", laid_almoner_crc_highHalf)], narrowed := true }
def JournalLastsUptoSaid : Prop := journalLastsUptoRow.holds Tryd.pinned (OpenSpec.upto journalLastsSpec)

/-- 'almonerlaw04.JournalNil', WHERE WHAT IT READS IS OF BULK AT MOST 1048576: true; the input reads as it did. -/
def journalNilUptoRow : OpenClaim := { program := "ytikpmaecbfebkaadoor", sum := "08cf7f14fb676923dd165fdbb1eac2a59607a4d2693b5158b1376299b47faf85", func := "almoner/almonerlaw04.JournalNil", spec := "journalNil", unfollowed := true, recurses := true, named := ["almoner/crc.lowHalf", "almoner/crc.highHalf"], apart := false, laid := [("almoner/crc.lowHalf", laid_almoner_crc_lowHalf), ("almoner/crc.highHalf", laid_almoner_crc_highHalf)], narrowed := true }
def JournalNilUptoSaid : Prop := journalNilUptoRow.holds Tryd.pinned (OpenSpec.upto journalNilSpec)

/-- 'almonerlaw04.JournalRooms', WHERE WHAT IT READS IS OF BULK AT MOST 1048576: true; the input reads as it did. -/
def journalRoomsUptoRow : OpenClaim := { program := "ytikpmaecbfebkaadoor", sum := "08cf7f14fb676923dd165fdbb1eac2a59607a4d2693b5158b1376299b47faf85", func := "almoner/almonerlaw04.JournalRooms", spec := "journalRooms", unfollowed := true, recurses := true, named := ["almoner/crc.lowHalf", "almoner/crc.highHalf"], apart := false, laid := [("almoner/crc.lowHalf", laid_almoner_crc_lowHalf), ("almoner/crc.highHalf", laid_almoner_crc_highHalf)], narrowed := true }
def JournalRoomsUptoSaid : Prop := journalRoomsUptoRow.holds Tryd.pinned (OpenSpec.upto journalRoomsSpec)

/-- 'almonerlaw04.JournalLaps', WHERE WHAT IT READS IS OF BULK AT MOST 1048576: true; the input reads as it did. -/
def journalLapsUptoRow : OpenClaim := { program := "ytikpmaecbfebkaadoor", sum := "08cf7f14fb676923dd165fdbb1eac2a59607a4d2693b5158b1376299b47faf85", func := "almoner/almonerlaw04.JournalLaps", spec := "journalLaps", unfollowed := true, recurses := true, named := ["almoner/crc.lowHalf", "almoner/crc.highHalf"], apart := false, laid := [("almoner/crc.lowHalf", laid_almoner_crc_lowHalf), ("almoner/crc.highHalf", laid_almoner_crc_highHalf)], narrowed := true }
def JournalLapsUptoSaid : Prop := journalLapsUptoRow.holds Tryd.pinned (OpenSpec.upto journalLapsSpec)

/-- 'almonerlaw04.JournalAgain', WHERE WHAT IT READS IS OF BULK AT MOST 1048576: true; the input reads as it did. -/
def journalAgainUptoRow : OpenClaim := { program := "ytikpmaecbfebkaadoor", sum := "08cf7f14fb676923dd165fdbb1eac2a59607a4d2693b5158b1376299b47faf85", func := "almoner/almonerlaw04.JournalAgain", spec := "journalAgain", unfollowed := true, recurses := true, named := ["almoner/crc.lowHalf", "almoner/crc.highHalf"], apart := false, laid := [("almoner/crc.lowHalf", laid_almoner_crc_lowHalf), ("almoner/crc.highHalf", laid_almoner_crc_highHalf)], narrowed := true }
def JournalAgainUptoSaid : Prop := journalAgainUptoRow.holds Tryd.pinned (OpenSpec.upto journalAgainSpec)

end Rows
end Go.Proofs.YtikpmaecbfebkaaDoor
