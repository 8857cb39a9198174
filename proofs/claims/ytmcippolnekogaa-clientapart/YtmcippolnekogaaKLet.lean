/- Package client: a letter; counting. -/
import Derived.Test.YtmcippolnekogaaKSmall
import Derived.Great.BuildSlice
import Derived.Laws.Tables
namespace Go.Proofs.Ytmcippolnekogaa
open Go.RowKit Cod
attribute [local go_sem] Oper.semAt_some
set_option linter.unusedVariables false

/-- A letter's cells. -/
structure LetV where
  kind : Int
  n : Int
  group : Int
  op : OpD
  why : Int
  amount : Int
  ra : Option Addr
  rn : Nat
  rc : Nat
  ba : Option Addr
  bn : Nat
  bc : Nat
def OpD.zero : OpD := ⟨0, ⟨#[]⟩, ⟨#[]⟩, 0, ⟨#[]⟩, 0, 0⟩
def LetV.cells (x : LetV) : Array Value := #[.int .i64 x.kind, .int .i64 x.n, .int .i64 x.group, .int .i64 x.op.kind, .string x.op.src, .string x.op.dst, .int .i64 x.op.amount, .string x.op.key, .int .i64 x.op.slot, .int .i64 x.op.shard, .int .i64 x.why, .int .i64 x.amount, .slice x.ra x.rn x.rc, .slice x.ba x.bn x.bc]
/-- What counts of a letter. -/
def LetV.just (x : LetV) : LetV :=
  if x.kind = 1 then { x with n := 0, group := 0, op := OpD.zero, why := 0, amount := 0, ra := none, rn := 0, rc := 0 }
  else if x.kind = 4 then { x with group := 0, op := OpD.zero, why := 0, amount := 0, ra := none, rn := 0, rc := 0 }
  else if x.kind = 5 then { x with op := OpD.zero, why := 0, amount := 0, ra := none, rn := 0, rc := 0 }
  else if x.kind = 2 then { x with group := 0, why := 0, amount := 0, ra := none, rn := 0, rc := 0, ba := none, bn := 0, bc := 0 }
  else if x.kind = 3 then { x with group := 0, op := OpD.zero, ba := none, bn := 0, bc := 0 }
  else x
theorem kinds {k : Int} (h1 : 1 ≤ k) (h5 : k ≤ 5) : k = 1 ∨ k = 2 ∨ k = 3 ∨ k = 4 ∨ k = 5 := by omega
theorem below_two (w : World) (o o' : Obj) : Below w.heap.size w ((w.alloc o).alloc o') := ((Below.refl _ w).alloc (Nat.le_refl _) _).alloc (by simp) _
theorem heapTwo (w : World) (o o' : Obj) : ((w.alloc o).alloc o').heap[w.heap.size + 1]? = some o' := by simpa using heap_alloc_new (w.alloc o) o'
set_option maxRecDepth 100000 in
set_option maxHeartbeats 1600000 in
theorem counting_any (x : LetV) (h1 : 1 ≤ x.kind) (h5 : x.kind ≤ 5) (w : World) : Calls Try.prog 32 #[.agg x.cells] w fun e w' => e = .returned (.agg x.just.cells) ∧ Below w.heap.size w w' := by
  obtain ⟨kind, n, group, ⟨ok, os, od, oa, oy, ol, oh⟩, why, amount, ra, rn, rc, ba, bn, bc⟩ := x
  simp only at h1 h5
  show Calls Try.prog 32 #[.agg #[.int .i64 kind, .int .i64 n, .int .i64 group, .int .i64 ok, .string os, .string od, .int .i64 oa, .string oy, .int .i64 ol, .int .i64 oh, .int .i64 why, .int .i64 amount, .slice ra rn rc, .slice ba bn bc]] w _
  rcases kinds h1 h5 with rfl | rfl | rfl | rfl | rfl
  all_goals
    clear h1 h5
    go_enter Try.func32, Try.ntmps32
    go_wp2
    exact bodyPost_ret (results_cell_row rfl _ _ (w.heap.size + 1) 31 _ (0, 0) _ rfl (heapTwo w _ _) Try.underlying31 rfl (by kernel_rfl)) rfl ⟨rfl, below_two w _ _⟩
end Go.Proofs.Ytmcippolnekogaa
