/- Slices of bytes, in a slice. -/
import Derived.Test.YtikpmaecbfebkaaDoorDMem
namespace Go.Proofs.YtikpmaecbfebkaaDoor
open Go.RowKit
set_option linter.unusedVariables false

/-- Slices of bytes in memory, one behind the other. -/
def LAt (w : World) (a : Option Addr) (n : Nat) (ps : List (List (BitVec 8))) : Prop :=
  n = ps.length ∧ (n = 0 ∨ ∃ b off, a = some ⟨b, off, none⟩ ∧ ∀ j (hj : j < ps.length), ∃ a' c', w.cell? ⟨b, off + j, none⟩ = some (.slice a' ps[j].length c') ∧ Seen w a' ps[j].length ps[j] ∧ (a' = none → c' = 0))
theorem LAt.below {w w' : World} {a : Option Addr} {n : Nat} {ps : List (List (BitVec 8))} (h : LAt w a n ps) (hb : Below w.heap.size w w') : LAt w' a n ps := by
  obtain ⟨h1, h2⟩ := h
  refine ⟨h1, h2.imp id ?_⟩
  rintro ⟨b, off, rfl, hc⟩
  refine ⟨b, off, rfl, fun j hj => ?_⟩
  obtain ⟨a', c', e1, e2, e3⟩ := hc j hj
  exact ⟨a', c', by rw [hb.cell (p := ⟨b, off + j, none⟩) (World.block_lt_of_cell? w _ e1)]; exact e1, e2.below hb, e3⟩
end Go.Proofs.YtikpmaecbfebkaaDoor
