/- Package chart: Copy. -/
import Derived.Test.YtpdgmlljjjeifaaChRead
import Derived.Laws.Tables
import Derived.Laws.CopyRow
namespace Go.Proofs.Ytpdgmlljjjeifaa
open Go.RowKit
attribute [local go_sem] Oper.semAt_some
set_option linter.unusedVariables false
section
variable {w w' : World} {base R : Nat} {L : List Int}
set_option maxRecDepth 100000 in
set_option maxHeartbeats 4000000 in
theorem copyC_any (h : CIn w base R L) : Calls Try.prog 13 #[.pointer (some ⟨R, 0, none⟩)] w fun e w' => e = .returned (.pointer (some ⟨w.heap.size, 0, none⟩)) ∧ CIn w' w.heap.size w.heap.size L ∧ Below w.heap.size w w' := by
  have HR : Hid (w.heap[R]? = some (.cells (ints L) 76 (0, 0))) := h.hR
  have HZ : Hid ((Try.prog.info? 76).map (·.size) = some (ints L).size) := by show (Try.prog.info? 76).map (·.size) = some (ints L).size; rw [ints_size, h.len]; kernel_rfl
  have HL : Hid (L.length = 42) := h.len
  have HO : Hid ((ints L).all (·.oneCell') = true) := by show (ints L).all (·.oneCell') = true; simp [ints, Value.oneCell']
  clear h
  go_enter Try.func13, Try.ntmps13
  go_wp2_with (first
    | (refine wpList_load_row rfl 76 (.tmp 7) rfl R rfl 76 (ints L) (0, 0) _ HR.out Try.underlying76 rfl HZ.out ?_)
    | (refine wpList_store_row rfl 76 (.tmp 3) (.tmp 8) rfl w.heap.size (ints L) rfl rfl 76 _ (heap_alloc_new w _) HZ.out (by rw [ints_size, HL.out]; rfl) HO.out ?_))
  go_ret
  have hb : Below w.heap.size w (w.alloc (.cells #[.int .i64 0, .int .i64 0, .int .i64 0, .int .i64 0, .int .i64 0, .int .i64 0, .int .i64 0, .int .i64 0, .int .i64 0, .int .i64 0, .int .i64 0, .int .i64 0, .int .i64 0, .int .i64 0, .int .i64 0, .int .i64 0, .int .i64 0, .int .i64 0, .int .i64 0, .int .i64 0, .int .i64 0, .int .i64 0, .int .i64 0, .int .i64 0, .int .i64 0, .int .i64 0, .int .i64 0, .int .i64 0, .int .i64 0, .int .i64 0, .int .i64 0, .int .i64 0, .int .i64 0, .int .i64 0, .int .i64 0, .int .i64 0, .int .i64 0, .int .i64 0, .int .i64 0, .int .i64 0, .int .i64 0, .int .i64 0] 76)) := (Below.refl _ w).alloc (Nat.le_refl _) _
  exact ⟨rfl, ⟨setRow_heap _ _ _ _ _ _ (heap_alloc_new w _), HL.out, Nat.le_refl _⟩, ⟨hb.os, hb.tape, hb.output, by simp, fun k hk => by rw [setRow_other _ _ _ _ (by omega)]; exact hb.block k hk⟩⟩
end
end Go.Proofs.Ytpdgmlljjjeifaa
