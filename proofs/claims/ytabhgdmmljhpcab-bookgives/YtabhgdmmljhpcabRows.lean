/-
  No cell of these rows narrows 'for every input' (looked for: loops, veiled, ifaces, maps, wideKeys, modest, calm, conditions, laid).
  DERIVED. THE GIVEN ROWS OF THIS SEAT. 1 by the template 'for every input the law returns true; each argument reads behind the call as it read before'; 0 by the template 'total and deterministic' (their statements: YtabhgdmmljhpcabTotals.lean).
  GIVEN WITH THE SEED: the statements are not yours to turn. If you find one false, say at which input.
  Laid BY PROGRAM, IN A SANDBOX (cutbox-rows.mjs): the forced cells as the released guide's own fill.sh prints them over the translation 35f63dfa57f49ca3… (all of the seat's roots in one cut). By AI agents, Wed Nov 11 2026. No macro, syntax, notation, axiom, sorry.
-/
import Derived.Test.YtabhgdmmljhpcabChecked
import GoSem.Claim
import GoSem.ClaimJoined
import GoSem.ClaimMapViews
import Derived.JoinedTies
import Derived.KernelRfl
namespace Go.Proofs.Ytabhgdmmljhpcab
/- THE CELL 'sum', in the pinned program and in every row, IS THE sha256 OF THE DUMP (.gsa) THAT YtabhgdmmljhpcabProg.lean LOADS. Nothing in Lean hashes anything: it is a label: what it is worth is what the hold of that sum in a sandbox is worth. -/
noncomputable def Try.pinned : Pinned := { name := "ytabhgdmmljhpcab", sum := "35f63dfa57f49ca3ba3c4af9613a4eb7fca3dea8bda13a13b41aa909311120da", checked := Try.checked }
namespace Rows
def none {H : Type} : Left H := { results := [], args := [] }

/-- 'almonerlaw11.BookGives': WHATEVER THE INPUT: true; the input reads as it did. -/
def bookGivesSpec : ChangeSpec := { name := "bookGives", fn := fun _ => fun
  | [d1, d2, d3] => { results := [.lit (.bool true)], args := [d1, d2, d3] }
  | _ => none }
def bookGivesRow : OpenClaim := { program := "ytabhgdmmljhpcab", sum := "35f63dfa57f49ca3ba3c4af9613a4eb7fca3dea8bda13a13b41aa909311120da", func := "almoner/almonerlaw11.BookGives", spec := "bookGives", inPlace := ["internal/bytealg.abigen_runtime_cmpstring", "slices.overlaps[almoner/book.account]"], unfollowed := true, recurses := true, apart := false }
def BookGivesSaid : Prop := bookGivesRow.holds Try.pinned (OpenSpec.ofChange bookGivesSpec)

/-- ITS FALSE NEIGHBOUR: 'it returns false'. Refute it at one input. -/
def bookGivesWrong : ChangeSpec := { name := "bookGives", fn := fun _ => fun
  | [d1, d2, d3] => { results := [.lit (.bool false)], args := [d1, d2, d3] }
  | _ => none }
def BookGivesWrongFalsely : Prop := bookGivesRow.holds Try.pinned (OpenSpec.ofChange bookGivesWrong)

/- THE SECOND FORM. 'bulk': how many values and letters a reading holds, each counted each time it is reached (what is shared counts as often as it is met; a slice's spare places count too). A statement '..UptoSaid' is the law's where the arguments, and the package variables that the reading takes, are together of bulk at most 1048576: NARROWER than '..Said'. Prove '..Said' where nothing that the law and all that it calls make is longer than what came in: it says more and counts as full. Else prove '..UptoSaid'. A law counts once. -/
mutual
def uptoBulk {H : Type} : DataW H → Nat
  | .lit (.string bytes) => bytes.length + 1
  | .lit _ => 1
  | .nil => 1
  | .ptr d => uptoBulk d + 1
  | .slice elems spare => uptoBulkAll elems + uptoBulkAll spare + 1
  | .agg parts => uptoBulkAll parts + 1
  | .iface _ d => uptoBulk d + 1
  | .map entries => uptoBulkEntries entries + 1
  | .held _ => 1
def uptoBulkAll {H : Type} : List (DataW H) → Nat
  | [] => 0
  | d :: r => uptoBulk d + uptoBulkAll r
def uptoBulkEntries {H : Type} : List (Lit × DataW H) → Nat
  | [] => 0
  | x :: r => uptoBulkEntry x + uptoBulkEntries r
def uptoBulkEntry {H : Type} : Lit × DataW H → Nat
  | (.string bytes, d) => bytes.length + uptoBulk d + 1
  | (_, d) => uptoBulk d + 1
 end
def uptoSmall : (H : Type) → List (DataW H) → Bool := fun _ ds => decide (uptoBulkAll ds ≤ 1048576)
def OpenSpec.upto (s : _root_.Go.ChangeSpec) : _root_.Go.OpenSpec := { _root_.Go.OpenSpec.ofChange s with cond := some uptoSmall }

/-- 'almonerlaw11.BookGives', WHERE WHAT IT READS IS OF BULK AT MOST 1048576: true; the input reads as it did. -/
def bookGivesUptoRow : OpenClaim := { program := "ytabhgdmmljhpcab", sum := "35f63dfa57f49ca3ba3c4af9613a4eb7fca3dea8bda13a13b41aa909311120da", func := "almoner/almonerlaw11.BookGives", spec := "bookGives", inPlace := ["internal/bytealg.abigen_runtime_cmpstring", "slices.overlaps[almoner/book.account]"], unfollowed := true, recurses := true, apart := false, narrowed := true }
def BookGivesUptoSaid : Prop := bookGivesUptoRow.holds Try.pinned (OpenSpec.upto bookGivesSpec)

end Rows
end Go.Proofs.Ytabhgdmmljhpcab
