/- Package auditor: what an auditor that is not there answers. -/
import Derived.Test.YtckldjiabalgbaaAAsked
namespace Go.Proofs.Ytckldjiabalgbaa
open Go.RowKit
attribute [local go_sem] Oper.semAt_some
set_option linter.unusedVariables false

theorem rowsA_nil (w : World) : Calls Try.prog 11 #[.pointer none] w fun e w' => e = .returned (.tuple #[.slice none 0 0, .bool false]) ∧ w' = w := by
  go_enter Try.func11, Try.ntmps11
  go_wp2
  go_ret2
  exact ⟨rfl, rfl⟩
theorem asksA_nil (n ph : Int) (w : World) : Calls Try.prog 23 #[.pointer none, .int .i64 n, .int .i64 ph] w fun e w' => e = .returned (.func (.func 28) #[] #[]) ∧ w' = w := by
  go_enter Try.func23, Try.ntmps23
  go_wp2
  go_ret
  exact ⟨rfl, rfl⟩
set_option maxRecDepth 100000 in
set_option maxHeartbeats 2000000 in
theorem toldA_nil (n' ph : Int) (g k ok : Int) (of_ ot : ByteArray) (oa : Int) (oy : ByteArray) (os oh : Int) (id nm : ByteArray) (n why slot ep at_ : Int) (last : Bool) (data : Value) (y : Int) (wt : Bool) (r1 r2 : Int) (r3 r4 : Value) (w : World) :
    Calls Try.prog 9 #[.pointer none, .int .i64 n', .int .i64 ph, .agg #[.int .i64 g, .int .i64 k, .int .i64 ok, .string of_, .string ot, .int .i64 oa, .string oy, .int .i64 os, .int .i64 oh, .string id, .string nm, .int .i64 n, .int .i64 why, .int .i64 slot, .int .i64 ep, .int .i64 at_, .bool last, data], .agg #[.int .i64 y, .bool wt, .int .i64 r1, .int .i64 r2, r3, r4]] w fun e w' => e = .returned (.tuple #[.agg #[.int .i64 0, .int .i64 0, .int .i64 0, .int .i64 0, .int .i64 0], .bool false]) ∧ Below w.heap.size w w' := by
  have b3 : Hid (Below w.heap.size w (((w.alloc (.cells #[.int .i64 g, .int .i64 k, .int .i64 ok, .string of_, .string ot, .int .i64 oa, .string oy, .int .i64 os, .int .i64 oh, .string id, .string nm, .int .i64 n, .int .i64 why, .int .i64 slot, .int .i64 ep, .int .i64 at_, .bool last, data] 53)).alloc (.cells #[.int .i64 y, .bool wt, .int .i64 r1, .int .i64 r2, r3, r4] 54)).alloc (.cells #[.int .i64 0, .int .i64 0, .int .i64 0, .int .i64 0, .int .i64 0] 47))) := (((Below.refl _ w).alloc (Nat.le_refl _) _).alloc (by simp) _).alloc (by simp; omega) _
  go_enter Try.func9, Try.ntmps9
  go_wp2
  exact bodyPost_ret (results_ct rfl _ _ (w.heap.size + 2) 47 _ _ _ rfl (heap_three w _ _ _) Try.underlying47 rfl (by kernel_rfl)) rfl ⟨rfl, b3.out⟩
end Go.Proofs.Ytckldjiabalgbaa
