/- AuditorNil: the walk. -/
import Derived.Test.YtckldjiabalgbaaANr2
namespace Go.Proofs.Ytckldjiabalgbaa
open Go.RowKit Go.Shelf
attribute [local go_sem] Oper.semAt_some
set_option linter.unusedVariables false

theorem eq_noneA (w : World) : (binOp .eql 47 (.agg #[.int .i64 0, .int .i64 0, .int .i64 0, .int .i64 0, .int .i64 0]) (.agg #[.int .i64 0, .int .i64 0, .int .i64 0, .int .i64 0, .int .i64 0])).run Try.prog w = .ok (.bool true) w := by kernel_rfl
end Go.Proofs.Ytckldjiabalgbaa
