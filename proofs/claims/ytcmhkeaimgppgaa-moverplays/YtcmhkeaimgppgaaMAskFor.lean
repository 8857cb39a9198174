/- Package mover: askFor. -/
import Derived.Test.YtcmhkeaimgppgaaGaB
import Derived.Great.BuildSlice
namespace Go.Proofs.Ytcmhkeaimgppgaa
open Go.RowKit
attribute [local go_sem] Oper.semAt_some
set_option linter.unusedVariables false

/-- An ask of a mover. -/
def mAsk (g k slot ep at_ : Int) (last : Bool) (data : Value) : AskV := (g, { CmdV.zero with k := k, slot := slot, ep := ep, at_ := at_, last := last, data := data })
theorem mAsk_cells (g k slot ep at_ : Int) (last : Bool) (data : Value) : AskV.cells (mAsk g k slot ep at_ last data) = [.int .i64 g, .int .i64 k, .int .i64 0, .string ⟨#[]⟩, .string ⟨#[]⟩, .int .i64 0, .string ⟨#[]⟩, .int .i64 0, .int .i64 0, .string ⟨#[]⟩, .string ⟨#[]⟩, .int .i64 0, .int .i64 0, .int .i64 slot, .int .i64 ep, .int .i64 at_, .bool last, data] := rfl
theorem below_row {B : Nat} {w w' : World} (h : Below B w w') {g : Nat} (hg : B ≤ g) (cs : Array Value) : Below B w (w'.setRow g cs) :=
  ⟨h.os, h.tape, h.output, by simpa [World.setRow] using h.size, fun k hk => (setRow_other _ _ _ _ (by omega)).trans (h.block k hk)⟩
set_option maxRecDepth 100000 in
set_option maxHeartbeats 1600000 in
theorem askFor_any (x : MvD) (k g : Int) (w : World) : Calls Try.prog 35 #[.agg #[.int .i64 x.slot, .int .i64 x.fr, .int .i64 x.to, .int .i64 x.ep, .int .i64 x.ph, .int .i64 x.n], .int .i64 k, .int .i64 g] w fun e w' => e = .returned (.agg (AskV.cells (mAsk g k x.slot x.ep 0 false (.slice none 0 0))).toArray) ∧ Below w.heap.size w w' := by
  obtain ⟨sl, fr, to, ep, ph, n⟩ := x
  rw [mAsk_cells]
  have bA : Below w.heap.size w ((w.alloc (.cells #[.int .i64 sl, .int .i64 fr, .int .i64 to, .int .i64 ep, .int .i64 ph, .int .i64 n] 47)).alloc (.cells #[.int .i64 0, .int .i64 0, .int .i64 0, .string ⟨#[]⟩, .string ⟨#[]⟩, .int .i64 0, .string ⟨#[]⟩, .int .i64 0, .int .i64 0, .string ⟨#[]⟩, .string ⟨#[]⟩, .int .i64 0, .int .i64 0, .int .i64 0, .int .i64 0, .int .i64 0, .bool false, .slice none 0 0] 54)) := ((Below.refl _ w).alloc (Nat.le_refl _) _).alloc (by simp) _
  have q2 := heap_two w (.cells #[.int .i64 sl, .int .i64 fr, .int .i64 to, .int .i64 ep, .int .i64 ph, .int .i64 n] 47) (.cells #[.int .i64 0, .int .i64 0, .int .i64 0, .string ⟨#[]⟩, .string ⟨#[]⟩, .int .i64 0, .string ⟨#[]⟩, .int .i64 0, .int .i64 0, .string ⟨#[]⟩, .string ⟨#[]⟩, .int .i64 0, .int .i64 0, .int .i64 0, .int .i64 0, .int .i64 0, .bool false, .slice none 0 0] 54)
  have BA : Hid _ := bA
  have Q2 : Hid _ := q2
  clear bA q2
  go_enter Try.func35, Try.ntmps35
  go_wp2_with (first
    | (refine wpList_buildTo rfl 52 _ rfl (some 13) rfl #[.int .i64 k, .int .i64 0, .string ⟨#[]⟩, .string ⟨#[]⟩, .int .i64 0, .string ⟨#[]⟩, .int .i64 0, .int .i64 0, .string ⟨#[]⟩, .string ⟨#[]⟩, .int .i64 0, .int .i64 0, .int .i64 sl, .int .i64 ep, .int .i64 0, .bool false, .slice none 0 0] (by kernel_rfl) ?_)
    | (refine wpList_buildTo rfl 54 _ rfl (some 14) rfl #[.int .i64 g, .int .i64 k, .int .i64 0, .string ⟨#[]⟩, .string ⟨#[]⟩, .int .i64 0, .string ⟨#[]⟩, .int .i64 0, .int .i64 0, .string ⟨#[]⟩, .string ⟨#[]⟩, .int .i64 0, .int .i64 0, .int .i64 sl, .int .i64 ep, .int .i64 0, .bool false, .slice none 0 0] (by kernel_rfl) ?_)
    | (refine wpList_store_row rfl 54 (.tmp 6) (.tmp 14) rfl (w.heap.size + 1) #[.int .i64 g, .int .i64 k, .int .i64 0, .string ⟨#[]⟩, .string ⟨#[]⟩, .int .i64 0, .string ⟨#[]⟩, .int .i64 0, .int .i64 0, .string ⟨#[]⟩, .string ⟨#[]⟩, .int .i64 0, .int .i64 0, .int .i64 sl, .int .i64 ep, .int .i64 0, .bool false, .slice none 0 0] rfl rfl 54 _ Q2.out (by kernel_rfl) rfl (by simp [Value.oneCell']) ?_))
  exact bodyPost_ret (results_cell_row rfl _ _ (w.heap.size + 1) 54 _ _ _ rfl (setRow_self Q2.out) Try.underlying54 rfl (by kernel_rfl)) rfl ⟨rfl, below_row BA.out (by omega) _⟩
end Go.Proofs.Ytcmhkeaimgppgaa
