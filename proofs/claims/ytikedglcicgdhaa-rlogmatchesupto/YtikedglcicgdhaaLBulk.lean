/- What the second form's bound gives of entries. -/
import Derived.Test.YtikedglcicgdhaaLFrame
import Derived.JoinedCond
import Derived.Deep.CondSized
namespace Go.Proofs.Ytikedglcicgdhaa
open Go.ChangeShapes Go.WideShapes Go.ChangeAt Go.RowKit Go.Deep
set_option linter.unusedVariables false

theorem bulk_one {H : Type} (d : DataW H) : 1 ≤ Rows.uptoBulk d := by
  cases d with
  | lit l => cases l <;> simp [Rows.uptoBulk]
  | nil => simp [Rows.uptoBulk]
  | ptr d => simp [Rows.uptoBulk]
  | slice elems spare => simp [Rows.uptoBulk]
  | agg parts => simp [Rows.uptoBulk]
  | iface t d => simp [Rows.uptoBulk]
  | map entries => simp [Rows.uptoBulk]
  | held h => simp [Rows.uptoBulk]
theorem bulk_len {H : Type} (l : List (DataW H)) : l.length ≤ Rows.uptoBulkAll l := by
  induction l with
  | nil => simp [Rows.uptoBulkAll]
  | cons x r ih =>
    have := bulk_one x
    simp only [Rows.uptoBulkAll, List.length_cons]
    omega
set_option maxRecDepth 100000 in
theorem ents_bulk {H : Type} {enc : TypeId × Value → H} {W : World} {a : Option Addr} {len cap : Nat} {d : DataW H} {p : List MemPlace} (h : DataW.Trod enc Try.prog W 0 (fun _ => true) true 22 (.slice a len cap) d p) : len ≤ Rows.uptoBulk d := by
  obtain ⟨fuel, hf⟩ := h
  rcases open_slice_pairs Try.underlying22 Try.underlying50 (by kernel_rfl) rfl rfl cellsOf2 cellsOfB hf with ⟨hcs, _⟩ | ⟨x, ln, cp, m, k, V0, V1, D0, D1, P0, P1, hcs, _, hlc, hcm, hm, hy, hcell⟩
  · simp [Value.cells] at hcs
    omega
  · simp [Value.cells] at hcs
    obtain ⟨rfl, rfl, rfl⟩ := hcs
    have hdd : d = _ := congrArg Prod.fst hy
    rw [hdd]
    have := bulk_len ((List.range len).map fun i => DataW.agg [D0 i, D1 i])
    simp only [Rows.uptoBulk]
    simp at this
    omega
end Go.Proofs.Ytikedglcicgdhaa
