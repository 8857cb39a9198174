/- What Join does. -/
import Derived.Test.YtdohclbkdifafaaDoorPast
namespace Go.Proofs.YtdohclbkdifafaaDoor
open Go.RowKit
set_option linter.unusedVariables false

/-- A length out of its bounds. -/
theorem join_no (a b : Crc.W) (n : Int) (h : n < 0 ∨ 1099511627776 < n) (w : World) :
    Calls Tryd.prog 10 #[.int .u32 (U a), .int .u32 (U b), .int .i64 n] w fun e w' => e = .returned (.tuple #[.int .u32 0, .int .i64 1]) ∧ w' = w := by
  by_cases h1 : n < 0
  · go_enter Tryd.func10, Tryd.ntmps10
    go_wp2
    go_ret2
    exact ⟨rfl, rfl⟩
  · have h2 : 1099511627776 < n := by omega
    clear h
    go_enter Tryd.func10, Tryd.ntmps10
    go_wp2
    go_ret2
    exact ⟨rfl, rfl⟩
theorem join_yes (a b : Crc.W) (n : Nat) (h : n ≤ 1099511627776) (w : World) :
    Calls Tryd.prog 10 #[.int .u32 (U a), .int .u32 (U b), .int .i64 (n : Int)] w fun e w' => e = .returned (.tuple #[.int .u32 (U (Crc.past a n ^^^ b)), .int .i64 0]) ∧ Below w.heap.size w w' := by
  have h1 : ¬ (n : Int) < 0 := by omega
  have h2 : ¬ (1099511627776 : Int) < (n : Int) := by omega
  have hx := u32_xor_U
  go_enter Tryd.func10, Tryd.ntmps10
  go_wp2_with fail
  refine (past_any a n (by omega) _).mono ?_
  rintro e w' ⟨rfl, hb⟩
  go_wp2
  go_ret2
  exact ⟨rfl, hb⟩
end Go.Proofs.YtdohclbkdifafaaDoor
