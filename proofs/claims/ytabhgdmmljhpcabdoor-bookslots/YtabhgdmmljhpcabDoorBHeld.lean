/- Package book: Held. -/
import Derived.Test.YtabhgdmmljhpcabDoorBEach
namespace Go.Proofs.YtabhgdmmljhpcabDoor
open Go.RowKit
attribute [local go_sem] Oper.semAt_some
set_option linter.unusedVariables false

/-- How many are held. -/
def heldN (L : List Acc) : Nat := L.countP (fun p => decide (¬ p.by_.size = 0))
theorem heldN_snoc (L : List Acc) (p : Acc) : heldN (L ++ [p]) = heldN L + if p.by_.size = 0 then 0 else 1 := by
  unfold heldN
  rw [List.countP_append]
  by_cases h : p.by_.size = 0
  · have e : decide (¬ p.by_.size = 0) = false := decide_eq_false (fun q => q h)
    rw [if_pos h]
    simp only [List.countP_cons, List.countP_nil, e]
    rfl
  · have e : decide (¬ p.by_.size = 0) = true := decide_eq_true h
    rw [if_neg h]
    simp only [List.countP_cons, List.countP_nil, e]
    rfl
theorem heldN_le (L : List Acc) : heldN L ≤ L.length := List.countP_le_length
section
variable {w : World} {base N : Nat} {sv : Value} {L : List Acc}
end
end Go.Proofs.YtabhgdmmljhpcabDoor
