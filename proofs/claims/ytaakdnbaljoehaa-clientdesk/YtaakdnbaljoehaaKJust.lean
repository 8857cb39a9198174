/- The reference's letters: Just. -/
import Derived.Test.YtaakdnbaljoehaaKAllA
namespace Go.Proofs.Ytaakdnbaljoehaa
open Go.RowKit Cod
attribute [local go_sem] Oper.semAt_some
set_option linter.unusedVariables false

theorem heapMid (w : World) (o o' o'' : Obj) : (((w.alloc o).alloc o').alloc o'').heap[w.heap.size + 1]? = some o' := (((Below.refl _ ((w.alloc o).alloc o')).alloc (Nat.le_refl _) o'').block (w.heap.size + 1) (by simp)).trans (heapTwo w o o')
set_option maxRecDepth 100000 in
set_option maxHeartbeats 4000000 in
theorem refJust_any (x : LetV) (h1 : 1 ≤ x.kind) (h5 : x.kind ≤ 5) (w : World) : Calls Try.prog 18 #[.agg x.cells] w fun e w' => e = .returned (.agg x.just.cells) ∧ Below w.heap.size w w' := by
  obtain ⟨kind, n, group, ⟨ok, os, od, oa, oy, ol, oh⟩, why, amount, ra, rn, rc, ba, bn, bc⟩ := x
  simp only at h1 h5
  show Calls Try.prog 18 #[.agg #[.int .i64 kind, .int .i64 n, .int .i64 group, .int .i64 ok, .string os, .string od, .int .i64 oa, .string oy, .int .i64 ol, .int .i64 oh, .int .i64 why, .int .i64 amount, .slice ra rn rc, .slice ba bn bc]] w _
  rcases kinds h1 h5 with rfl | rfl | rfl | rfl | rfl
  all_goals
    clear h1 h5
    go_enter Try.func18, Try.ntmps18
    go_wp2
    exact bodyPost_ret (results_cell_row rfl _ _ (w.heap.size + 1) 43 _ (0, 0) _ rfl (heapMid w _ _ _) Try.underlying43 rfl (by kernel_rfl)) rfl ⟨rfl, (below_two w _ _).alloc (by simp; omega) _⟩
end Go.Proofs.Ytaakdnbaljoehaa
