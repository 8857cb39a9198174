/- A write's row: made, laid, read, put behind others. -/
import Derived.Test.YtikpmaecbfebkaaDoorDNew
import Derived.Deep.WholeRow
import Derived.Great.BuildSlice
namespace Go.Proofs.YtikpmaecbfebkaaDoor
open Go.RowKit
set_option linter.unusedVariables false

/-- A write of nothing. -/
def wz (i : Int) : Array Value := #[.int .i64 i] ++ Array.replicate 256 (.int .u8 0)
theorem wz_size (i : Int) : (wz i).size = 257 := by simp [wz]
theorem run_buildW (w : World) (i : Int) : (Instr.build 95 #[(0, .int .i64 i)]).run Tryd.prog w = .ok (.agg (wz i)) w := by kernel_rfl
theorem run_allocW (w : World) : (Instr.alloc 95 true (.tuple #[])).run Tryd.prog w = .ok (.pointer (some ⟨w.heap.size, 0, none⟩)) (w.alloc (.cells (wz 0) 95)) := by kernel_rfl
theorem run_sliceW (w : World) (G : Nat) : (Instr.sliceAt 93 (.pointer (some ⟨G, 1, none⟩)) none none none).run Tryd.prog w = .ok (.slice (some ⟨G, 1, none⟩) 256 256) w := by kernel_rfl
/-- Cells over all cells are these. -/
theorem fold_all : ∀ (l : List Value) (k : Nat) (acc : Array Value), k + l.length ≤ acc.size →
    (l.zipIdx k).foldl (fun (cs : Array Value) (x : Value × Nat) => cs.setIfInBounds (0 + x.2) x.1) acc = (acc.toList.take k ++ l ++ acc.toList.drop (k + l.length)).toArray
  | [], k, acc, _ => by simp
  | v :: l, k, acc, h => by
    rw [List.zipIdx_cons, List.foldl_cons, fold_all l (k + 1) _ (by simp at h ⊢; omega)]
    have e := list_seg_step acc.toList k v l (by simp at h ⊢; omega)
    simp only [Nat.zero_add, Array.toList_setIfInBounds, List.length_cons] at e ⊢
    rw [← e]
theorem fill_one (z cs : Array Value) (n : Nat) (hz : z.size = n) (hc : cs.size = n) : Instr.fill (fun i => some (i * n, n)) z [(0, .agg cs)] = some cs := by
  have h := fold_all cs.toList 0 z (by simp; omega)
  simp only [Instr.fill, Value.cells, hc]
  rw [if_neg (by simp; omega)]
  congr 1
  have e : cs.zipIdx = cs.toList.zipIdx.toArray := by cases cs; simp
  rw [Nat.zero_mul, e]
  rw [List.foldl_toArray' (h := by simp)]
  rw [h]
  have e2 : z.toList.drop (0 + cs.toList.length) = [] := by simp; omega
  rw [e2]
  simp
theorem infoW : (Tryd.prog.info? 95).map (fun i => (i.zero, i.size, i.bytes)) = some (some (.agg (wz 0)), 257, 264) := by kernel_rfl
theorem run_rowW (w : World) (cs : Array Value) (hc : cs.size = 257) : (Instr.buildSlice 67 1 #[(0, .agg cs)]).run Tryd.prog w = .ok (.slice (some ⟨w.heap.size, 0, none⟩) 1 1) (w.alloc (.cells cs 95)) := by
  obtain ⟨i0, hi, hz0, hz1, hz2⟩ := info_parts infoW
  refine run_buildSlice (P := Tryd.prog) w 67 95 1 _ cs i0 _ Tryd.underlying67 hi hz0 (by rw [hz1]; decide) (by rw [hz1]; decide) ?_
  rw [hz1]
  exact fill_one _ cs 257 (by simp) hc
end Go.Proofs.YtikpmaecbfebkaaDoor
