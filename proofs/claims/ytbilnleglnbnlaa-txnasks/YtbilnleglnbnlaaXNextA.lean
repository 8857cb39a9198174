/- Package txn: Next. -/
import Derived.Test.YtbilnleglnbnlaaXCalls
namespace Go.Proofs.Ytbilnleglnbnlaa
open Go.RowKit
attribute [local go_sem] Oper.semAt_some
set_option linter.unusedVariables false

set_option maxRecDepth 100000 in
set_option maxHeartbeats 4000000 in
theorem next_mute (g k ok : Int) (of_ ot : ByteArray) (oa : Int) (oy : ByteArray) (os oh : Int) (id nm : ByteArray) (n why slot ep at_ : Int) (last : Bool) (data : Value) (y : Int) (wt : Bool) (r1 r2 : Int) (r3 r4 : Value) (w : World) (hm : mute y = true)  : Calls Try.prog 9 #[.agg #[.int .i64 g, .int .i64 k, .int .i64 ok, .string of_, .string ot, .int .i64 oa, .string oy, .int .i64 os, .int .i64 oh, .string id, .string nm, .int .i64 n, .int .i64 why, .int .i64 slot, .int .i64 ep, .int .i64 at_, .bool last, data], .agg #[.int .i64 y, .bool wt, .int .i64 r1, .int .i64 r2, r3, r4]] w fun e w' => e = .returned (.tuple #[.agg #[.int .i64 0, .int .i64 0, .string ⟨#[]⟩, .string ⟨#[]⟩, .int .i64 0, .string ⟨#[]⟩, .int .i64 0, .int .i64 0, .string ⟨#[]⟩, .string ⟨#[]⟩, .int .i64 0, .int .i64 0, .int .i64 0, .int .i64 0, .int .i64 0, .bool false, .slice none 0 0], .bool false]) ∧ Below w.heap.size w w' := by
  have HS := fun w => says_any y w
  rw [hm] at HS
  clear hm
  go_enter Try.func9, Try.ntmps9
  go_wp2_with fail
  refine (HS _).mono ?_
  rintro e w1 ⟨rfl, rfl⟩
  clear HS
  go_wp2
  exact bodyPost_ret (results_ct rfl _ _ (w.heap.size + 2) 47 _ _ _ rfl (heap_three w _ _ _) Try.underlying47 rfl (by kernel_rfl)) rfl ⟨rfl, below_three w _ _ _⟩
set_option maxRecDepth 100000 in
set_option maxHeartbeats 4000000 in
theorem next_prep (g k ok : Int) (of_ ot : ByteArray) (oa : Int) (oy : ByteArray) (os oh : Int) (id nm : ByteArray) (n why slot ep at_ : Int) (last : Bool) (data : Value) (y : Int) (wt : Bool) (r1 r2 : Int) (r3 r4 : Value) (w : World) (hm : mute y = false) (b2 : (k == 2) = true) : Calls Try.prog 9 #[.agg #[.int .i64 g, .int .i64 k, .int .i64 ok, .string of_, .string ot, .int .i64 oa, .string oy, .int .i64 os, .int .i64 oh, .string id, .string nm, .int .i64 n, .int .i64 why, .int .i64 slot, .int .i64 ep, .int .i64 at_, .bool last, data], .agg #[.int .i64 y, .bool wt, .int .i64 r1, .int .i64 r2, r3, r4]] w fun e w' => e = .returned (.tuple #[.agg #[.int .i64 3, .int .i64 0, .string ⟨#[]⟩, .string ⟨#[]⟩, .int .i64 0, .string ⟨#[]⟩, .int .i64 0, .int .i64 0, .string id, .string ⟨#[]⟩, .int .i64 0, .int .i64 y, .int .i64 0, .int .i64 0, .int .i64 0, .bool false, .slice none 0 0], .bool true]) ∧ Below w.heap.size w w' := by
  have HS := fun w => says_any y w
  rw [hm] at HS
  clear hm
  go_enter Try.func9, Try.ntmps9
  go_wp2_with fail
  refine (HS _).mono ?_
  rintro e w1 ⟨rfl, rfl⟩
  clear HS
  go_wp2
  exact bodyPost_ret (results_ct rfl _ _ (w.heap.size + 2) 47 _ _ _ rfl (heap_three w _ _ _) Try.underlying47 rfl (by kernel_rfl)) rfl ⟨rfl, below_three w _ _ _⟩
end Go.Proofs.Ytbilnleglnbnlaa
