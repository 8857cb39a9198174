/-
  No cell of these rows narrows 'for every input' (looked for: loops, veiled, ifaces, maps, wideKeys, modest, calm, conditions, laid).
  DERIVED. THE GIVEN ROWS OF THIS SEAT. 6 by the template 'for every input the law returns true; each argument reads behind the call as it read before'; 0 by the template 'total and deterministic' (their statements: YtpdgmlljjjeifaaTotals.lean).
  GIVEN WITH THE SEED: the statements are not yours to turn. If you find one false, say at which input.
  Laid BY PROGRAM, IN A SANDBOX (cutbox-rows.mjs): the forced cells as the released guide's own fill.sh prints them over the translation 16dab8f5c1c5d4de… (all of the seat's roots in one cut). By AI agents, Wed Nov 11 2026. No macro, syntax, notation, axiom, sorry.
-/
import Derived.Test.YtpdgmlljjjeifaaChecked
import GoSem.Claim
import GoSem.ClaimJoined
import GoSem.ClaimMapViews
import Derived.JoinedTies
import Derived.KernelRfl
namespace Go.Proofs.Ytpdgmlljjjeifaa
/- THE CELL 'sum', in the pinned program and in every row, IS THE sha256 OF THE DUMP (.gsa) THAT YtpdgmlljjjeifaaProg.lean LOADS. Nothing in Lean hashes anything: it is a label: what it is worth is what the hold of that sum in a sandbox is worth. -/
noncomputable def Try.pinned : Pinned := { name := "ytpdgmlljjjeifaa", sum := "16dab8f5c1c5d4de97e86387fea0cbf8e57589db16caabdfa4a2c6c31e1d7fac", checked := Try.checked }
namespace Rows
def none {H : Type} : Left H := { results := [], args := [] }

/-- 'almonerlaw14.ChartDoes': WHATEVER THE INPUT: true; the input reads as it did. -/
def chartDoesSpec : ChangeSpec := { name := "chartDoes", fn := fun _ => fun
  | [d1, d2] => { results := [.lit (.bool true)], args := [d1, d2] }
  | _ => none }
def chartDoesRow : OpenClaim := { program := "ytpdgmlljjjeifaa", sum := "16dab8f5c1c5d4de97e86387fea0cbf8e57589db16caabdfa4a2c6c31e1d7fac", func := "almoner/almonerlaw14.ChartDoes", spec := "chartDoes", unfollowed := true, recurses := true, apart := false }
def ChartDoesSaid : Prop := chartDoesRow.holds Try.pinned (OpenSpec.ofChange chartDoesSpec)

/-- ITS FALSE NEIGHBOUR: 'it returns false'. Refute it at one input. -/
def chartDoesWrong : ChangeSpec := { name := "chartDoes", fn := fun _ => fun
  | [d1, d2] => { results := [.lit (.bool false)], args := [d1, d2] }
  | _ => none }
def ChartDoesWrongFalsely : Prop := chartDoesRow.holds Try.pinned (OpenSpec.ofChange chartDoesWrong)

/-- 'almonerlaw14.ChartCommands': WHATEVER THE INPUT: true; the input reads as it did. -/
def chartCommandsSpec : ChangeSpec := { name := "chartCommands", fn := fun _ => fun
  | [d1, d2] => { results := [.lit (.bool true)], args := [d1, d2] }
  | _ => none }
def chartCommandsRow : OpenClaim := { program := "ytpdgmlljjjeifaa", sum := "16dab8f5c1c5d4de97e86387fea0cbf8e57589db16caabdfa4a2c6c31e1d7fac", func := "almoner/almonerlaw14.ChartCommands", spec := "chartCommands", unfollowed := true, recurses := true, apart := false }
def ChartCommandsSaid : Prop := chartCommandsRow.holds Try.pinned (OpenSpec.ofChange chartCommandsSpec)

/-- ITS FALSE NEIGHBOUR: 'it returns false'. Refute it at one input. -/
def chartCommandsWrong : ChangeSpec := { name := "chartCommands", fn := fun _ => fun
  | [d1, d2] => { results := [.lit (.bool false)], args := [d1, d2] }
  | _ => none }
def ChartCommandsWrongFalsely : Prop := chartCommandsRow.holds Try.pinned (OpenSpec.ofChange chartCommandsWrong)

/-- 'almonerlaw14.ChartOwners': WHATEVER THE INPUT: true; the input reads as it did. -/
def chartOwnersSpec : ChangeSpec := { name := "chartOwners", fn := fun _ => fun
  | [d1, d2] => { results := [.lit (.bool true)], args := [d1, d2] }
  | _ => none }
def chartOwnersRow : OpenClaim := { program := "ytpdgmlljjjeifaa", sum := "16dab8f5c1c5d4de97e86387fea0cbf8e57589db16caabdfa4a2c6c31e1d7fac", func := "almoner/almonerlaw14.ChartOwners", spec := "chartOwners", unfollowed := true, recurses := true, apart := false }
def ChartOwnersSaid : Prop := chartOwnersRow.holds Try.pinned (OpenSpec.ofChange chartOwnersSpec)

/-- ITS FALSE NEIGHBOUR: 'it returns false'. Refute it at one input. -/
def chartOwnersWrong : ChangeSpec := { name := "chartOwners", fn := fun _ => fun
  | [d1, d2] => { results := [.lit (.bool false)], args := [d1, d2] }
  | _ => none }
def ChartOwnersWrongFalsely : Prop := chartOwnersRow.holds Try.pinned (OpenSpec.ofChange chartOwnersWrong)

/-- 'almonerlaw14.ChartNil': WHATEVER THE INPUT: true; the input reads as it did. -/
def chartNilSpec : ChangeSpec := { name := "chartNil", fn := fun _ => fun
  | [d] => { results := [.lit (.bool true)], args := [d] }
  | _ => none }
def chartNilRow : OpenClaim := { program := "ytpdgmlljjjeifaa", sum := "16dab8f5c1c5d4de97e86387fea0cbf8e57589db16caabdfa4a2c6c31e1d7fac", func := "almoner/almonerlaw14.ChartNil", spec := "chartNil", unfollowed := true, recurses := true, apart := false }
def ChartNilSaid : Prop := chartNilRow.holds Try.pinned (OpenSpec.ofChange chartNilSpec)

/-- ITS FALSE NEIGHBOUR: 'it returns false'. Refute it at one input. -/
def chartNilWrong : ChangeSpec := { name := "chartNil", fn := fun _ => fun
  | [d] => { results := [.lit (.bool false)], args := [d] }
  | _ => none }
def ChartNilWrongFalsely : Prop := chartNilRow.holds Try.pinned (OpenSpec.ofChange chartNilWrong)

/-- 'almonerlaw14.ChartMoves': WHATEVER THE INPUT: true; the input reads as it did. -/
def chartMovesSpec : ChangeSpec := { name := "chartMoves", fn := fun _ => fun
  | [d1, d2, d3] => { results := [.lit (.bool true)], args := [d1, d2, d3] }
  | _ => none }
def chartMovesRow : OpenClaim := { program := "ytpdgmlljjjeifaa", sum := "16dab8f5c1c5d4de97e86387fea0cbf8e57589db16caabdfa4a2c6c31e1d7fac", func := "almoner/almonerlaw14.ChartMoves", spec := "chartMoves", unfollowed := true, recurses := true, apart := false }
def ChartMovesSaid : Prop := chartMovesRow.holds Try.pinned (OpenSpec.ofChange chartMovesSpec)

/-- ITS FALSE NEIGHBOUR: 'it returns false'. Refute it at one input. -/
def chartMovesWrong : ChangeSpec := { name := "chartMoves", fn := fun _ => fun
  | [d1, d2, d3] => { results := [.lit (.bool false)], args := [d1, d2, d3] }
  | _ => none }
def ChartMovesWrongFalsely : Prop := chartMovesRow.holds Try.pinned (OpenSpec.ofChange chartMovesWrong)

/-- 'almonerlaw14.ChartAudits': WHATEVER THE INPUT: true; the input reads as it did. -/
def chartAuditsSpec : ChangeSpec := { name := "chartAudits", fn := fun _ => fun
  | [d1, d2] => { results := [.lit (.bool true)], args := [d1, d2] }
  | _ => none }
def chartAuditsRow : OpenClaim := { program := "ytpdgmlljjjeifaa", sum := "16dab8f5c1c5d4de97e86387fea0cbf8e57589db16caabdfa4a2c6c31e1d7fac", func := "almoner/almonerlaw14.ChartAudits", spec := "chartAudits", unfollowed := true, recurses := true, apart := false }
def ChartAuditsSaid : Prop := chartAuditsRow.holds Try.pinned (OpenSpec.ofChange chartAuditsSpec)

/-- ITS FALSE NEIGHBOUR: 'it returns false'. Refute it at one input. -/
def chartAuditsWrong : ChangeSpec := { name := "chartAudits", fn := fun _ => fun
  | [d1, d2] => { results := [.lit (.bool false)], args := [d1, d2] }
  | _ => none }
def ChartAuditsWrongFalsely : Prop := chartAuditsRow.holds Try.pinned (OpenSpec.ofChange chartAuditsWrong)

/- THE SECOND FORM. 'bulk': how many values and letters a reading holds, each counted each time it is reached (what is shared counts as often as it is met; a slice's spare places count too). A statement '..UptoSaid' is the law's where the arguments, and the package variables that the reading takes, are together of bulk at most 1048576: NARROWER than '..Said'. Prove '..Said' where nothing that the law and all that it calls make is longer than what came in: it says more and counts as full. Else prove '..UptoSaid'. A law counts once. -/
mutual
def uptoBulk {H : Type} : DataW H → Nat
  | .lit (.string bytes) => bytes.length + 1
  | .lit _ => 1
  | .nil => 1
  | .ptr d => uptoBulk d + 1
  | .slice elems spare => uptoBulkAll elems + uptoBulkAll spare + 1
  | .agg parts => uptoBulkAll parts + 1
  | .iface _ d => uptoBulk d + 1
  | .map entries => uptoBulkEntries entries + 1
  | .held _ => 1
def uptoBulkAll {H : Type} : List (DataW H) → Nat
  | [] => 0
  | d :: r => uptoBulk d + uptoBulkAll r
def uptoBulkEntries {H : Type} : List (Lit × DataW H) → Nat
  | [] => 0
  | x :: r => uptoBulkEntry x + uptoBulkEntries r
def uptoBulkEntry {H : Type} : Lit × DataW H → Nat
  | (.string bytes, d) => bytes.length + uptoBulk d + 1
  | (_, d) => uptoBulk d + 1
 end
def uptoSmall : (H : Type) → List (DataW H) → Bool := fun _ ds => decide (uptoBulkAll ds ≤ 1048576)
def OpenSpec.upto (s : _root_.Go.ChangeSpec) : _root_.Go.OpenSpec := { _root_.Go.OpenSpec.ofChange s with cond := some uptoSmall }

/-- 'almonerlaw14.ChartDoes', WHERE WHAT IT READS IS OF BULK AT MOST 1048576: true; the input reads as it did. -/
def chartDoesUptoRow : OpenClaim := { program := "ytpdgmlljjjeifaa", sum := "16dab8f5c1c5d4de97e86387fea0cbf8e57589db16caabdfa4a2c6c31e1d7fac", func := "almoner/almonerlaw14.ChartDoes", spec := "chartDoes", unfollowed := true, recurses := true, apart := false, narrowed := true }
def ChartDoesUptoSaid : Prop := chartDoesUptoRow.holds Try.pinned (OpenSpec.upto chartDoesSpec)

/-- 'almonerlaw14.ChartCommands', WHERE WHAT IT READS IS OF BULK AT MOST 1048576: true; the input reads as it did. -/
def chartCommandsUptoRow : OpenClaim := { program := "ytpdgmlljjjeifaa", sum := "16dab8f5c1c5d4de97e86387fea0cbf8e57589db16caabdfa4a2c6c31e1d7fac", func := "almoner/almonerlaw14.ChartCommands", spec := "chartCommands", unfollowed := true, recurses := true, apart := false, narrowed := true }
def ChartCommandsUptoSaid : Prop := chartCommandsUptoRow.holds Try.pinned (OpenSpec.upto chartCommandsSpec)

/-- 'almonerlaw14.ChartOwners', WHERE WHAT IT READS IS OF BULK AT MOST 1048576: true; the input reads as it did. -/
def chartOwnersUptoRow : OpenClaim := { program := "ytpdgmlljjjeifaa", sum := "16dab8f5c1c5d4de97e86387fea0cbf8e57589db16caabdfa4a2c6c31e1d7fac", func := "almoner/almonerlaw14.ChartOwners", spec := "chartOwners", unfollowed := true, recurses := true, apart := false, narrowed := true }
def ChartOwnersUptoSaid : Prop := chartOwnersUptoRow.holds Try.pinned (OpenSpec.upto chartOwnersSpec)

/-- 'almonerlaw14.ChartNil', WHERE WHAT IT READS IS OF BULK AT MOST 1048576: true; the input reads as it did. -/
def chartNilUptoRow : OpenClaim := { program := "ytpdgmlljjjeifaa", sum := "16dab8f5c1c5d4de97e86387fea0cbf8e57589db16caabdfa4a2c6c31e1d7fac", func := "almoner/almonerlaw14.ChartNil", spec := "chartNil", unfollowed := true, recurses := true, apart := false, narrowed := true }
def ChartNilUptoSaid : Prop := chartNilUptoRow.holds Try.pinned (OpenSpec.upto chartNilSpec)

/-- 'almonerlaw14.ChartMoves', WHERE WHAT IT READS IS OF BULK AT MOST 1048576: true; the input reads as it did. -/
def chartMovesUptoRow : OpenClaim := { program := "ytpdgmlljjjeifaa", sum := "16dab8f5c1c5d4de97e86387fea0cbf8e57589db16caabdfa4a2c6c31e1d7fac", func := "almoner/almonerlaw14.ChartMoves", spec := "chartMoves", unfollowed := true, recurses := true, apart := false, narrowed := true }
def ChartMovesUptoSaid : Prop := chartMovesUptoRow.holds Try.pinned (OpenSpec.upto chartMovesSpec)

/-- 'almonerlaw14.ChartAudits', WHERE WHAT IT READS IS OF BULK AT MOST 1048576: true; the input reads as it did. -/
def chartAuditsUptoRow : OpenClaim := { program := "ytpdgmlljjjeifaa", sum := "16dab8f5c1c5d4de97e86387fea0cbf8e57589db16caabdfa4a2c6c31e1d7fac", func := "almoner/almonerlaw14.ChartAudits", spec := "chartAudits", unfollowed := true, recurses := true, apart := false, narrowed := true }
def ChartAuditsUptoSaid : Prop := chartAuditsUptoRow.holds Try.pinned (OpenSpec.upto chartAuditsSpec)

end Rows
end Go.Proofs.Ytpdgmlljjjeifaa
