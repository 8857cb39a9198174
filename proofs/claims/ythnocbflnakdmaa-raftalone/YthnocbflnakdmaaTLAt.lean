/- Slices of bytes, in a slice. -/
import Derived.Test.YthnocbflnakdmaaLMem
namespace Go.Proofs.Ythnocbflnakdmaa
open Go.RowKit
set_option linter.unusedVariables false

/-- Slices of bytes in memory, one behind the other. -/
def LAtR (w : World) (a : Option Addr) (n : Nat) (ps : List (List (BitVec 8))) : Prop :=
  n = ps.length ∧ (n = 0 ∨ ∃ b off, a = some ⟨b, off, none⟩ ∧ ∀ j (hj : j < ps.length), ∃ a' c', w.cell? ⟨b, off + j, none⟩ = some (.slice a' ps[j].length c') ∧ Seen w a' ps[j].length ps[j] ∧ (a' = none → c' = 0))
end Go.Proofs.Ythnocbflnakdmaa
