/- Package txn: Next. -/
import Derived.Test.YtogbcciocgpknaaTaB
namespace Go.Proofs.Ytogbcciocgpknaa
open Go.RowKit
attribute [local go_sem] Oper.semAt_some
set_option linter.unusedVariables false

set_option maxRecDepth 100000 in
set_option maxHeartbeats 4000000 in
theorem next_mute (g k ok : Int) (of_ ot : ByteArray) (oa : Int) (oy : ByteArray) (os oh : Int) (id nm : ByteArray) (n why slot ep at_ : Int) (last : Bool) (data : Value) (y : Int) (wt : Bool) (r1 r2 : Int) (r3 r4 : Value) (w : World) (hm : mute y = true)  : Calls Try.prog 50 #[.agg #[.int .i64 g, .int .i64 k, .int .i64 ok, .string of_, .string ot, .int .i64 oa, .string oy, .int .i64 os, .int .i64 oh, .string id, .string nm, .int .i64 n, .int .i64 why, .int .i64 slot, .int .i64 ep, .int .i64 at_, .bool last, data], .agg #[.int .i64 y, .bool wt, .int .i64 r1, .int .i64 r2, r3, r4]] w fun e w' => e = .returned (.tuple #[.agg #[.int .i64 0, .int .i64 0, .string ⟨#[]⟩, .string ⟨#[]⟩, .int .i64 0, .string ⟨#[]⟩, .int .i64 0, .int .i64 0, .string ⟨#[]⟩, .string ⟨#[]⟩, .int .i64 0, .int .i64 0, .int .i64 0, .int .i64 0, .int .i64 0, .bool false, .slice none 0 0], .bool false]) ∧ Below w.heap.size w w' := by
  have HS := fun w => says_any y w
  rw [hm] at HS
  clear hm
  go_enter Try.func50, Try.ntmps50
  go_wp2_with fail
  refine (HS _).mono ?_
  rintro e w1 ⟨rfl, rfl⟩
  clear HS
  go_wp2
  exact bodyPost_ret (results_ct rfl _ _ (w.heap.size + 2) 37 _ _ _ rfl (heap_three w _ _ _) Try.underlying37 rfl (by kernel_rfl)) rfl ⟨rfl, below_three w _ _ _⟩
set_option maxRecDepth 100000 in
set_option maxHeartbeats 4000000 in
theorem next_prep (g k ok : Int) (of_ ot : ByteArray) (oa : Int) (oy : ByteArray) (os oh : Int) (id nm : ByteArray) (n why slot ep at_ : Int) (last : Bool) (data : Value) (y : Int) (wt : Bool) (r1 r2 : Int) (r3 r4 : Value) (w : World) (hm : mute y = false) (b2 : (k == 2) = true) : Calls Try.prog 50 #[.agg #[.int .i64 g, .int .i64 k, .int .i64 ok, .string of_, .string ot, .int .i64 oa, .string oy, .int .i64 os, .int .i64 oh, .string id, .string nm, .int .i64 n, .int .i64 why, .int .i64 slot, .int .i64 ep, .int .i64 at_, .bool last, data], .agg #[.int .i64 y, .bool wt, .int .i64 r1, .int .i64 r2, r3, r4]] w fun e w' => e = .returned (.tuple #[.agg #[.int .i64 3, .int .i64 0, .string ⟨#[]⟩, .string ⟨#[]⟩, .int .i64 0, .string ⟨#[]⟩, .int .i64 0, .int .i64 0, .string id, .string ⟨#[]⟩, .int .i64 0, .int .i64 y, .int .i64 0, .int .i64 0, .int .i64 0, .bool false, .slice none 0 0], .bool true]) ∧ Below w.heap.size w w' := by
  have HS := fun w => says_any y w
  rw [hm] at HS
  clear hm
  go_enter Try.func50, Try.ntmps50
  go_wp2_with fail
  refine (HS _).mono ?_
  rintro e w1 ⟨rfl, rfl⟩
  clear HS
  go_wp2
  exact bodyPost_ret (results_ct rfl _ _ (w.heap.size + 2) 37 _ _ _ rfl (heap_three w _ _ _) Try.underlying37 rfl (by kernel_rfl)) rfl ⟨rfl, below_three w _ _ _⟩
end Go.Proofs.Ytogbcciocgpknaa

namespace Go.Proofs.Ytogbcciocgpknaa
open Go.RowKit
attribute [local go_sem] Oper.semAt_some
set_option linter.unusedVariables false

set_option maxRecDepth 100000 in
set_option maxHeartbeats 4000000 in
theorem next_fin (g k ok : Int) (of_ ot : ByteArray) (oa : Int) (oy : ByteArray) (os oh : Int) (id nm : ByteArray) (n why slot ep at_ : Int) (last : Bool) (data : Value) (y : Int) (wt : Bool) (r1 r2 : Int) (r3 r4 : Value) (w : World) (hm : mute 0 = false) (b2 : (k == 2) = false) (b4 : (k == 4) = true) : Calls Try.prog 50 #[.agg #[.int .i64 g, .int .i64 k, .int .i64 ok, .string of_, .string ot, .int .i64 oa, .string oy, .int .i64 os, .int .i64 oh, .string id, .string nm, .int .i64 n, .int .i64 why, .int .i64 slot, .int .i64 ep, .int .i64 at_, .bool last, data], .agg #[.int .i64 0, .bool wt, .int .i64 r1, .int .i64 r2, r3, r4]] w fun e w' => e = .returned (.tuple #[.agg #[.int .i64 5, .int .i64 0, .string ⟨#[]⟩, .string ⟨#[]⟩, .int .i64 0, .string ⟨#[]⟩, .int .i64 0, .int .i64 0, .string id, .string ⟨#[]⟩, .int .i64 0, .int .i64 0, .int .i64 0, .int .i64 0, .int .i64 0, .bool false, .slice none 0 0], .bool true]) ∧ Below w.heap.size w w' := by
  have HS := fun w => says_any 0 w
  rw [hm] at HS
  clear hm
  go_enter Try.func50, Try.ntmps50
  go_wp2_with fail
  refine (HS _).mono ?_
  rintro e w1 ⟨rfl, rfl⟩
  clear HS
  go_wp2
  exact bodyPost_ret (results_ct rfl _ _ (w.heap.size + 2) 37 _ _ _ rfl (heap_three w _ _ _) Try.underlying37 rfl (by kernel_rfl)) rfl ⟨rfl, below_three w _ _ _⟩
set_option maxRecDepth 100000 in
set_option maxHeartbeats 4000000 in
theorem next_fin0 (g k ok : Int) (of_ ot : ByteArray) (oa : Int) (oy : ByteArray) (os oh : Int) (id nm : ByteArray) (n why slot ep at_ : Int) (last : Bool) (data : Value) (y : Int) (wt : Bool) (r1 r2 : Int) (r3 r4 : Value) (w : World) (hm : mute y = false) (b2 : (k == 2) = false) (b4 : (k == 4) = true) (b0 : (y == 0) = false) : Calls Try.prog 50 #[.agg #[.int .i64 g, .int .i64 k, .int .i64 ok, .string of_, .string ot, .int .i64 oa, .string oy, .int .i64 os, .int .i64 oh, .string id, .string nm, .int .i64 n, .int .i64 why, .int .i64 slot, .int .i64 ep, .int .i64 at_, .bool last, data], .agg #[.int .i64 y, .bool wt, .int .i64 r1, .int .i64 r2, r3, r4]] w fun e w' => e = .returned (.tuple #[.agg #[.int .i64 0, .int .i64 0, .string ⟨#[]⟩, .string ⟨#[]⟩, .int .i64 0, .string ⟨#[]⟩, .int .i64 0, .int .i64 0, .string ⟨#[]⟩, .string ⟨#[]⟩, .int .i64 0, .int .i64 0, .int .i64 0, .int .i64 0, .int .i64 0, .bool false, .slice none 0 0], .bool false]) ∧ Below w.heap.size w w' := by
  have HS := fun w => says_any y w
  rw [hm] at HS
  clear hm
  go_enter Try.func50, Try.ntmps50
  go_wp2_with fail
  refine (HS _).mono ?_
  rintro e w1 ⟨rfl, rfl⟩
  clear HS
  go_wp2
  exact bodyPost_ret (results_ct rfl _ _ (w.heap.size + 2) 37 _ _ _ rfl (heap_three w _ _ _) Try.underlying37 rfl (by kernel_rfl)) rfl ⟨rfl, below_three w _ _ _⟩
set_option maxRecDepth 100000 in
set_option maxHeartbeats 4000000 in
theorem next_none (g k ok : Int) (of_ ot : ByteArray) (oa : Int) (oy : ByteArray) (os oh : Int) (id nm : ByteArray) (n why slot ep at_ : Int) (last : Bool) (data : Value) (y : Int) (wt : Bool) (r1 r2 : Int) (r3 r4 : Value) (w : World) (hm : mute y = false) (b2 : (k == 2) = false) (b4 : (k == 4) = false) : Calls Try.prog 50 #[.agg #[.int .i64 g, .int .i64 k, .int .i64 ok, .string of_, .string ot, .int .i64 oa, .string oy, .int .i64 os, .int .i64 oh, .string id, .string nm, .int .i64 n, .int .i64 why, .int .i64 slot, .int .i64 ep, .int .i64 at_, .bool last, data], .agg #[.int .i64 y, .bool wt, .int .i64 r1, .int .i64 r2, r3, r4]] w fun e w' => e = .returned (.tuple #[.agg #[.int .i64 0, .int .i64 0, .string ⟨#[]⟩, .string ⟨#[]⟩, .int .i64 0, .string ⟨#[]⟩, .int .i64 0, .int .i64 0, .string ⟨#[]⟩, .string ⟨#[]⟩, .int .i64 0, .int .i64 0, .int .i64 0, .int .i64 0, .int .i64 0, .bool false, .slice none 0 0], .bool false]) ∧ Below w.heap.size w w' := by
  have HS := fun w => says_any y w
  rw [hm] at HS
  clear hm
  go_enter Try.func50, Try.ntmps50
  go_wp2_with fail
  refine (HS _).mono ?_
  rintro e w1 ⟨rfl, rfl⟩
  clear HS
  go_wp2
  exact bodyPost_ret (results_ct rfl _ _ (w.heap.size + 2) 37 _ _ _ rfl (heap_three w _ _ _) Try.underlying37 rfl (by kernel_rfl)) rfl ⟨rfl, below_three w _ _ _⟩
end Go.Proofs.Ytogbcciocgpknaa

namespace Go.Proofs.Ytogbcciocgpknaa
open Go.RowKit
set_option linter.unusedVariables false

theorem next_any (g : Int) (c : CmdV) (y : Int) (wt : Bool) (r1 r2 : Int) (r3 r4 : Value) (w : World) : Calls Try.prog 50 #[.agg #[.int .i64 g, .int .i64 c.k, .int .i64 c.ok, .string c.of_, .string c.ot, .int .i64 c.oa, .string c.oy, .int .i64 c.os, .int .i64 c.oh, .string c.id, .string c.nm, .int .i64 c.n, .int .i64 c.why, .int .i64 c.slot, .int .i64 c.ep, .int .i64 c.at_, .bool c.last, c.data], .agg #[.int .i64 y, .bool wt, .int .i64 r1, .int .i64 r2, r3, r4]] w fun e w' => e = .returned (.tuple #[.agg (nextC c y).1.cells.toArray, .bool (nextC c y).2]) ∧ Below w.heap.size w w' := by
  obtain ⟨k, ok, of_, ot, oa, oy, os, oh, id, nm, n, why, slot, ep, at_, last, data⟩ := c
  unfold nextC
  simp only
  by_cases hm : mute y = true
  · rw [if_pos hm]
    exact next_mute g k ok of_ ot oa oy os oh id nm n why slot ep at_ last data y wt r1 r2 r3 r4 w hm
  · have hm' : mute y = false := by simpa using hm
    rw [if_neg hm]
    by_cases h2 : k = 2
    · rw [if_pos h2]
      exact next_prep g k ok of_ ot oa oy os oh id nm n why slot ep at_ last data y wt r1 r2 r3 r4 w hm' (by simpa using h2)
    · rw [if_neg h2]
      by_cases h4 : k = 4
      · by_cases h0 : y = 0
        · rw [if_pos ⟨h4, h0⟩]
          subst h0
          exact next_fin g k ok of_ ot oa oy os oh id nm n why slot ep at_ last data 0 wt r1 r2 r3 r4 w hm' (by simpa using h2) (by simpa using h4)
        · rw [if_neg (fun x => h0 x.2)]
          exact next_fin0 g k ok of_ ot oa oy os oh id nm n why slot ep at_ last data y wt r1 r2 r3 r4 w hm' (by simpa using h2) (by simpa using h4) (by simpa using h0)
      · rw [if_neg (fun x => h4 x.1)]
        exact next_none g k ok of_ ot oa oy os oh id nm n why slot ep at_ last data y wt r1 r2 r3 r4 w hm' (by simpa using h2) (by simpa using h4)
end Go.Proofs.Ytogbcciocgpknaa
