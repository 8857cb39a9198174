/- Package chart: the law's small calls. -/
import Derived.Test.YtpdgmlljjjeifaaChKnown
namespace Go.Proofs.Ytpdgmlljjjeifaa
open Go.RowKit
attribute [local go_sem] Oper.semAt_some
set_option linter.unusedVariables false
set_option maxRecDepth 100000 in
set_option maxHeartbeats 1600000 in
theorem given_any (k s h n p : Int) (w : World) : Calls Try.prog 17 #[.agg #[.int .i64 k, .int .i64 s, .int .i64 h, .int .i64 n, .int .i64 p]] w fun e w' => e = .returned (.agg #[.int .i64 k, .int .i64 s, .int .i64 h, .int .i64 n, .int .i64 p]) ∧ Below w.heap.size w w' := by
  go_enter Try.func17, Try.ntmps17
  go_wp2
  exact bodyPost_ret (results_cell_row rfl _ _ (w.alloc (.cells #[.int .i64 k, .int .i64 s, .int .i64 h, .int .i64 n, .int .i64 p] 46)).heap.size 38 _ _ _ (by simp) (heap_alloc_new _ _) Try.underlying38 rfl (by kernel_rfl)) rfl ⟨rfl, ((Below.refl _ w).alloc (Nat.le_refl _) _).alloc (by simp) _⟩
set_option maxRecDepth 100000 in
set_option maxHeartbeats 1600000 in
theorem taken_any (a : Int) (b : Bool) (c : Int) (w : World) : Calls Try.prog 25 #[.agg #[.int .i64 a, .bool b, .int .i64 c]] w fun e w' => e = .returned (.agg #[.int .i64 a, .bool b, .int .i64 c]) ∧ Below w.heap.size w w' := by
  go_enter Try.func25, Try.ntmps25
  go_wp2
  exact bodyPost_ret (results_cell_row rfl _ _ (w.alloc (.cells #[.int .i64 a, .bool b, .int .i64 c] 35)).heap.size 62 _ _ _ (by simp) (heap_alloc_new _ _) Try.underlying62 rfl (by kernel_rfl)) rfl ⟨rfl, ((Below.refl _ w).alloc (Nat.le_refl _) _).alloc (by simp) _⟩
set_option maxRecDepth 100000 in
set_option maxHeartbeats 1600000 in
theorem moving_any (a b c d e f : Int) (w : World) : Calls Try.prog 26 #[.agg #[.int .i64 a, .int .i64 b, .int .i64 c, .int .i64 d, .int .i64 e, .int .i64 f]] w fun r w' => r = .returned (.agg #[.int .i64 a, .int .i64 b, .int .i64 c, .int .i64 d, .int .i64 e, .int .i64 f]) ∧ Below w.heap.size w w' := by
  go_enter Try.func26, Try.ntmps26
  go_wp2
  exact bodyPost_ret (results_cell_row rfl _ _ (w.alloc (.cells #[.int .i64 a, .int .i64 b, .int .i64 c, .int .i64 d, .int .i64 e, .int .i64 f] 60)).heap.size 42 _ _ _ (by simp) (heap_alloc_new _ _) Try.underlying42 rfl (by kernel_rfl)) rfl ⟨rfl, ((Below.refl _ w).alloc (Nat.le_refl _) _).alloc (by simp) _⟩
end Go.Proofs.Ytpdgmlljjjeifaa
