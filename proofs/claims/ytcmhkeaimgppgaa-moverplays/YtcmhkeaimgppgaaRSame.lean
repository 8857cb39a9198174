/- The law's taken; the reference's SameCmd and Same of a mover's commands. -/
import Derived.Test.YtcmhkeaimgppgaaGaG
namespace Go.Proofs.Ytcmhkeaimgppgaa
open Go.RowKit Go.Shelf
attribute [local go_sem] Oper.semAt_some
set_option linter.unusedVariables false

set_option maxRecDepth 100000 in
set_option maxHeartbeats 4000000 in
theorem taken_any (k ok : Int) (of_ ot : ByteArray) (oa : Int) (oy : ByteArray) (os oh : Int) (id nm : ByteArray) (n why slot ep at_ : Int) (last : Bool) (da : Option Addr) (dn dc : Nat) (w : World) :
    Calls Try.prog 11 #[.agg #[.int .i64 k, .int .i64 ok, .string of_, .string ot, .int .i64 oa, .string oy, .int .i64 os, .int .i64 oh, .string id, .string nm, .int .i64 n, .int .i64 why, .int .i64 slot, .int .i64 ep, .int .i64 at_, .bool last, .slice da dn dc]] w fun e w' => e = .returned (.agg #[.int .i64 k, .int .i64 ok, .string of_, .string ot, .int .i64 oa, .string oy, .int .i64 os, .int .i64 oh, .string id, .string nm, .int .i64 n, .int .i64 why, .int .i64 slot, .int .i64 ep, .int .i64 at_, .bool last, .slice da dn dc]) ∧ Below w.heap.size w w' := by
  have bA : Below w.heap.size w ((w.alloc (.cells #[.int .i64 k, .int .i64 ok, .string of_, .string ot, .int .i64 oa, .string oy, .int .i64 os, .int .i64 oh, .string id, .string nm, .int .i64 n, .int .i64 why, .int .i64 slot, .int .i64 ep, .int .i64 at_, .bool last, .slice da dn dc] 52)).alloc (.cells #[.int .i64 0, .int .i64 0, .string ⟨#[]⟩, .string ⟨#[]⟩, .int .i64 0, .string ⟨#[]⟩, .int .i64 0, .int .i64 0, .string ⟨#[]⟩, .string ⟨#[]⟩, .int .i64 0, .int .i64 0, .int .i64 0, .int .i64 0, .int .i64 0, .bool false, .slice none 0 0] 33)) := ((Below.refl _ w).alloc (Nat.le_refl _) _).alloc (by simp) _
  have q2 := heap_two w (.cells #[.int .i64 k, .int .i64 ok, .string of_, .string ot, .int .i64 oa, .string oy, .int .i64 os, .int .i64 oh, .string id, .string nm, .int .i64 n, .int .i64 why, .int .i64 slot, .int .i64 ep, .int .i64 at_, .bool last, .slice da dn dc] 52) (.cells #[.int .i64 0, .int .i64 0, .string ⟨#[]⟩, .string ⟨#[]⟩, .int .i64 0, .string ⟨#[]⟩, .int .i64 0, .int .i64 0, .string ⟨#[]⟩, .string ⟨#[]⟩, .int .i64 0, .int .i64 0, .int .i64 0, .int .i64 0, .int .i64 0, .bool false, .slice none 0 0] 33)
  have q1 : ((w.alloc (.cells #[.int .i64 k, .int .i64 ok, .string of_, .string ot, .int .i64 oa, .string oy, .int .i64 os, .int .i64 oh, .string id, .string nm, .int .i64 n, .int .i64 why, .int .i64 slot, .int .i64 ep, .int .i64 at_, .bool last, .slice da dn dc] 52)).alloc (.cells #[.int .i64 0, .int .i64 0, .string ⟨#[]⟩, .string ⟨#[]⟩, .int .i64 0, .string ⟨#[]⟩, .int .i64 0, .int .i64 0, .string ⟨#[]⟩, .string ⟨#[]⟩, .int .i64 0, .int .i64 0, .int .i64 0, .int .i64 0, .int .i64 0, .bool false, .slice none 0 0] 33)).heap[w.heap.size]? = some (.cells #[.int .i64 k, .int .i64 ok, .string of_, .string ot, .int .i64 oa, .string oy, .int .i64 os, .int .i64 oh, .string id, .string nm, .int .i64 n, .int .i64 why, .int .i64 slot, .int .i64 ep, .int .i64 at_, .bool last, .slice da dn dc] 52 (0, 0)) := by rw [Below.heap_alloc _ _ _ (by simp), heap_alloc_new]
  have hOp : ((w.alloc (.cells #[.int .i64 k, .int .i64 ok, .string of_, .string ot, .int .i64 oa, .string oy, .int .i64 os, .int .i64 oh, .string id, .string nm, .int .i64 n, .int .i64 why, .int .i64 slot, .int .i64 ep, .int .i64 at_, .bool last, .slice da dn dc] 52)).alloc (.cells #[.int .i64 0, .int .i64 0, .string ⟨#[]⟩, .string ⟨#[]⟩, .int .i64 0, .string ⟨#[]⟩, .int .i64 0, .int .i64 0, .string ⟨#[]⟩, .string ⟨#[]⟩, .int .i64 0, .int .i64 0, .int .i64 0, .int .i64 0, .int .i64 0, .bool false, .slice none 0 0] 33)).rangeAt w.heap.size 1 [.int .i64 ok, .string of_, .string ot, .int .i64 oa, .string oy, .int .i64 os, .int .i64 oh] := fun j v hv => by
    simp only [World.cell?, q1]
    match j, hv with
    | 0, hv => exact hv
    | 1, hv => exact hv
    | 2, hv => exact hv
    | 3, hv => exact hv
    | 4, hv => exact hv
    | 5, hv => exact hv
    | 6, hv => exact hv
  have HOp : Hid _ := hOp
  have Q2 : Hid _ := q2
  have BA : Hid _ := bA
  clear q1 q2 bA hOp
  go_enter Try.func11, Try.ntmps11
  go_wp2_with (first
    | (refine wpList_load_mid rfl 30 (.tmp 5) rfl w.heap.size 1 rfl [.int .i64 ok, .string of_, .string ot, .int .i64 oa, .string oy, .int .i64 os, .int .i64 oh] _ HOp.out Try.underlying30 rfl (by kernel_rfl) ?_)
    | (refine wpList_buildTo rfl 33 _ rfl (some 25) rfl #[.int .i64 k, .int .i64 ok, .string of_, .string ot, .int .i64 oa, .string oy, .int .i64 os, .int .i64 oh, .string id, .string nm, .int .i64 n, .int .i64 why, .int .i64 slot, .int .i64 ep, .int .i64 at_, .bool last, .slice da dn dc] (by kernel_rfl) ?_)
    | (refine wpList_store_row rfl 33 (.tmp 2) (.tmp 25) rfl (w.heap.size + 1) #[.int .i64 k, .int .i64 ok, .string of_, .string ot, .int .i64 oa, .string oy, .int .i64 os, .int .i64 oh, .string id, .string nm, .int .i64 n, .int .i64 why, .int .i64 slot, .int .i64 ep, .int .i64 at_, .bool last, .slice da dn dc] rfl rfl 33 _ Q2.out (by kernel_rfl) rfl (by simp [Value.oneCell']) ?_))
  exact bodyPost_ret (results_cell_row rfl _ _ (w.heap.size + 1) 33 _ _ _ rfl (setRow_self Q2.out) Try.underlying33 rfl (by kernel_rfl)) rfl ⟨rfl, below_row BA.out (by omega) _⟩
theorem eq_zop (w : World) : (binOp .eql 30 (.agg #[.int .i64 0, .string ⟨#[]⟩, .string ⟨#[]⟩, .int .i64 0, .string ⟨#[]⟩, .int .i64 0, .int .i64 0]) (.agg #[.int .i64 0, .string ⟨#[]⟩, .string ⟨#[]⟩, .int .i64 0, .string ⟨#[]⟩, .int .i64 0, .int .i64 0])).run Try.prog w = .ok (.bool true) w := by kernel_rfl
set_option maxRecDepth 100000 in
set_option maxHeartbeats 4000000 in
theorem sameCmd_m (k slot ep at_ : Int) (last : Bool) (a1 a2 : Option Addr) (c1 c2 : Nat) (l : List (BitVec 8)) (w : World) (h1 : Seen w a1 l.length l) (h2 : Seen w a2 l.length l) :
    Calls Try.prog 23 #[.agg #[.int .i64 k, .int .i64 0, .string ⟨#[]⟩, .string ⟨#[]⟩, .int .i64 0, .string ⟨#[]⟩, .int .i64 0, .int .i64 0, .string ⟨#[]⟩, .string ⟨#[]⟩, .int .i64 0, .int .i64 0, .int .i64 slot, .int .i64 ep, .int .i64 at_, .bool last, .slice a1 l.length c1], .agg #[.int .i64 k, .int .i64 0, .string ⟨#[]⟩, .string ⟨#[]⟩, .int .i64 0, .string ⟨#[]⟩, .int .i64 0, .int .i64 0, .string ⟨#[]⟩, .string ⟨#[]⟩, .int .i64 0, .int .i64 0, .int .i64 slot, .int .i64 ep, .int .i64 at_, .bool last, .slice a2 l.length c2]] w fun e w' => e = .returned (.bool true) ∧ Below w.heap.size w w' := by
  have bA : Below w.heap.size w ((w.alloc (.cells #[.int .i64 k, .int .i64 0, .string ⟨#[]⟩, .string ⟨#[]⟩, .int .i64 0, .string ⟨#[]⟩, .int .i64 0, .int .i64 0, .string ⟨#[]⟩, .string ⟨#[]⟩, .int .i64 0, .int .i64 0, .int .i64 slot, .int .i64 ep, .int .i64 at_, .bool last, .slice a1 l.length c1] 33)).alloc (.cells #[.int .i64 k, .int .i64 0, .string ⟨#[]⟩, .string ⟨#[]⟩, .int .i64 0, .string ⟨#[]⟩, .int .i64 0, .int .i64 0, .string ⟨#[]⟩, .string ⟨#[]⟩, .int .i64 0, .int .i64 0, .int .i64 slot, .int .i64 ep, .int .i64 at_, .bool last, .slice a2 l.length c2] 33)) := ((Below.refl _ w).alloc (Nat.le_refl _) _).alloc (by simp) _
  have q2 := heap_two w (.cells #[.int .i64 k, .int .i64 0, .string ⟨#[]⟩, .string ⟨#[]⟩, .int .i64 0, .string ⟨#[]⟩, .int .i64 0, .int .i64 0, .string ⟨#[]⟩, .string ⟨#[]⟩, .int .i64 0, .int .i64 0, .int .i64 slot, .int .i64 ep, .int .i64 at_, .bool last, .slice a1 l.length c1] 33) (.cells #[.int .i64 k, .int .i64 0, .string ⟨#[]⟩, .string ⟨#[]⟩, .int .i64 0, .string ⟨#[]⟩, .int .i64 0, .int .i64 0, .string ⟨#[]⟩, .string ⟨#[]⟩, .int .i64 0, .int .i64 0, .int .i64 slot, .int .i64 ep, .int .i64 at_, .bool last, .slice a2 l.length c2] 33)
  have q1 : ((w.alloc (.cells #[.int .i64 k, .int .i64 0, .string ⟨#[]⟩, .string ⟨#[]⟩, .int .i64 0, .string ⟨#[]⟩, .int .i64 0, .int .i64 0, .string ⟨#[]⟩, .string ⟨#[]⟩, .int .i64 0, .int .i64 0, .int .i64 slot, .int .i64 ep, .int .i64 at_, .bool last, .slice a1 l.length c1] 33)).alloc (.cells #[.int .i64 k, .int .i64 0, .string ⟨#[]⟩, .string ⟨#[]⟩, .int .i64 0, .string ⟨#[]⟩, .int .i64 0, .int .i64 0, .string ⟨#[]⟩, .string ⟨#[]⟩, .int .i64 0, .int .i64 0, .int .i64 slot, .int .i64 ep, .int .i64 at_, .bool last, .slice a2 l.length c2] 33)).heap[w.heap.size]? = some (.cells #[.int .i64 k, .int .i64 0, .string ⟨#[]⟩, .string ⟨#[]⟩, .int .i64 0, .string ⟨#[]⟩, .int .i64 0, .int .i64 0, .string ⟨#[]⟩, .string ⟨#[]⟩, .int .i64 0, .int .i64 0, .int .i64 slot, .int .i64 ep, .int .i64 at_, .bool last, .slice a1 l.length c1] 33 (0, 0)) := by rw [Below.heap_alloc _ _ _ (by simp), heap_alloc_new]
  have t1 := run_to_text _ a1 l.length c1 l (h1.below bA)
  have t2 := run_to_text _ a2 l.length c2 l (h2.below bA)
  have t3 := text_self (textOf l)
  have t4 := eq_zop
  have BA : Hid _ := bA
  clear bA q1 q2 h1 h2
  go_enter Try.func23, Try.ntmps23
  go_wp2
  go_ret
  exact ⟨rfl, BA.out⟩
set_option maxRecDepth 100000 in
set_option maxHeartbeats 4000000 in
theorem same_m (g k slot ep at_ : Int) (last : Bool) (a1 a2 : Option Addr) (c1 c2 : Nat) (l : List (BitVec 8)) (w : World) (h1 : Seen w a1 l.length l) (h2 : Seen w a2 l.length l) :
    Calls Try.prog 10 #[.agg #[.int .i64 g, .int .i64 k, .int .i64 0, .string ⟨#[]⟩, .string ⟨#[]⟩, .int .i64 0, .string ⟨#[]⟩, .int .i64 0, .int .i64 0, .string ⟨#[]⟩, .string ⟨#[]⟩, .int .i64 0, .int .i64 0, .int .i64 slot, .int .i64 ep, .int .i64 at_, .bool last, .slice a1 l.length c1], .agg #[.int .i64 g, .int .i64 k, .int .i64 0, .string ⟨#[]⟩, .string ⟨#[]⟩, .int .i64 0, .string ⟨#[]⟩, .int .i64 0, .int .i64 0, .string ⟨#[]⟩, .string ⟨#[]⟩, .int .i64 0, .int .i64 0, .int .i64 slot, .int .i64 ep, .int .i64 at_, .bool last, .slice a2 l.length c2]] w fun e w' => e = .returned (.bool true) ∧ Below w.heap.size w w' := by
  have bA : Below w.heap.size w ((w.alloc (.cells #[.int .i64 g, .int .i64 k, .int .i64 0, .string ⟨#[]⟩, .string ⟨#[]⟩, .int .i64 0, .string ⟨#[]⟩, .int .i64 0, .int .i64 0, .string ⟨#[]⟩, .string ⟨#[]⟩, .int .i64 0, .int .i64 0, .int .i64 slot, .int .i64 ep, .int .i64 at_, .bool last, .slice a1 l.length c1] 35)).alloc (.cells #[.int .i64 g, .int .i64 k, .int .i64 0, .string ⟨#[]⟩, .string ⟨#[]⟩, .int .i64 0, .string ⟨#[]⟩, .int .i64 0, .int .i64 0, .string ⟨#[]⟩, .string ⟨#[]⟩, .int .i64 0, .int .i64 0, .int .i64 slot, .int .i64 ep, .int .i64 at_, .bool last, .slice a2 l.length c2] 35)) := ((Below.refl _ w).alloc (Nat.le_refl _) _).alloc (by simp) _
  have HS := sameCmd_m k slot ep at_ last a1 a2 c1 c2 l ((w.alloc (.cells #[.int .i64 g, .int .i64 k, .int .i64 0, .string ⟨#[]⟩, .string ⟨#[]⟩, .int .i64 0, .string ⟨#[]⟩, .int .i64 0, .int .i64 0, .string ⟨#[]⟩, .string ⟨#[]⟩, .int .i64 0, .int .i64 0, .int .i64 slot, .int .i64 ep, .int .i64 at_, .bool last, .slice a1 l.length c1] 35)).alloc (.cells #[.int .i64 g, .int .i64 k, .int .i64 0, .string ⟨#[]⟩, .string ⟨#[]⟩, .int .i64 0, .string ⟨#[]⟩, .int .i64 0, .int .i64 0, .string ⟨#[]⟩, .string ⟨#[]⟩, .int .i64 0, .int .i64 0, .int .i64 slot, .int .i64 ep, .int .i64 at_, .bool last, .slice a2 l.length c2] 35)) (h1.below bA) (h2.below bA)
  have BA : Hid _ := bA
  clear bA h1 h2
  go_enter Try.func10, Try.ntmps10
  go_wp2_with fail
  refine HS.mono ?_
  clear HS
  generalize ((w.alloc (.cells #[.int .i64 g, .int .i64 k, .int .i64 0, .string ⟨#[]⟩, .string ⟨#[]⟩, .int .i64 0, .string ⟨#[]⟩, .int .i64 0, .int .i64 0, .string ⟨#[]⟩, .string ⟨#[]⟩, .int .i64 0, .int .i64 0, .int .i64 slot, .int .i64 ep, .int .i64 at_, .bool last, .slice a1 l.length c1] 35)).alloc (.cells #[.int .i64 g, .int .i64 k, .int .i64 0, .string ⟨#[]⟩, .string ⟨#[]⟩, .int .i64 0, .string ⟨#[]⟩, .int .i64 0, .int .i64 0, .string ⟨#[]⟩, .string ⟨#[]⟩, .int .i64 0, .int .i64 0, .int .i64 slot, .int .i64 ep, .int .i64 at_, .bool last, .slice a2 l.length c2] 35)) = V at *
  rintro e w2 ⟨rfl, b2⟩
  have B2 : Hid (Below w.heap.size w w2) := BA.out.trans (b2.mono BA.out.size)
  clear b2 BA
  go_wp2
  go_ret
  exact ⟨rfl, B2.out⟩
end Go.Proofs.Ytcmhkeaimgppgaa
