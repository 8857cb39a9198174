/- Package txn: wanted. -/
import Derived.Test.YtogbcciocgpknaaTaB
import Derived.Deep.RegionLaw
namespace Go.Proofs.Ytogbcciocgpknaa
open Go.RowKit
attribute [local go_sem] Oper.semAt_some
set_option linter.unusedVariables false

set_option maxRecDepth 100000 in
set_option maxHeartbeats 2000000 in
theorem wanted_any (t : TxnD) (w : World) : Calls Try.prog 82 #[.agg #[.string t.id, .string t.fr, .string t.ky, .string t.to, .int .i64 t.n, .bool t.done, .int .i64 t.why]] w fun e w' => e = .returned (.agg (wantC t).cells.toArray) ∧ Below w.heap.size w w' := by
  obtain ⟨id, fr, ky, to, n, done, why⟩ := t
  cases done with
  | false =>
    have HV : Hid ((wantC ⟨id, fr, ky, to, n, false, why⟩).cells = [.int .i64 2, .int .i64 0, .string ⟨#[]⟩, .string ⟨#[]⟩, .int .i64 0, .string ⟨#[]⟩, .int .i64 0, .int .i64 0, .string id, .string to, .int .i64 n, .int .i64 0, .int .i64 0, .int .i64 0, .int .i64 0, .bool false, .slice none 0 0]) := (rfl : _ = _)
    rw [HV.out]
    clear HV
    go_enter Try.func82, Try.ntmps82
    go_wp2
    exact bodyPost_ret (results_cell_row rfl _ _ (w.heap.size + 1) 37 _ _ _ rfl (heap_two w _ _) Try.underlying37 rfl (by kernel_rfl)) rfl ⟨rfl, ((Below.refl _ w).alloc (Nat.le_refl _) _).alloc (by simp) _⟩
  | true =>
    have HL := fun w => lesser_any why w
    have HV : Hid ((wantC ⟨id, fr, ky, to, n, true, why⟩).cells = [.int .i64 4, .int .i64 0, .string ⟨#[]⟩, .string ⟨#[]⟩, .int .i64 0, .string ⟨#[]⟩, .int .i64 0, .int .i64 0, .string id, .string to, .int .i64 0, .int .i64 (lesser why), .int .i64 0, .int .i64 0, .int .i64 0, .bool false, .slice none 0 0]) := (rfl : _ = _)
    rw [HV.out]
    clear HV
    generalize lesser why = y at *
    go_enter Try.func82, Try.ntmps82
    go_wp2
    go_region_law (first
      | (go_simp; go_at_call 84; refine (HL _).mono ?_; rintro e w2 ⟨rfl, rfl⟩))
    all_goals
      go_wp2
      exact bodyPost_ret (results_cell_row rfl _ _ (w.heap.size + 1) 37 _ _ _ rfl (heap_two w _ _) Try.underlying37 rfl (by kernel_rfl)) rfl ⟨rfl, (((Below.refl _ w).alloc (Nat.le_refl _) _).alloc (by simp) _).drew⟩
end Go.Proofs.Ytogbcciocgpknaa
