/- What PutReply does. -/
import Derived.Test.YtpnnbkhlbohfbaaDoorPutOp
namespace Go.Proofs.YtpnnbkhlbohfbaaDoor
open Go.RowKit Cod
set_option linter.unusedVariables false

/-- Rows of an answer in memory. -/
def RowsAt (w : World) (a : Option Addr) (n : Nat) (rows : List (ByteArray × Int)) : Prop :=
  n = rows.length ∧ rows.length ≤ 140737488355328 ∧ (n = 0 ∨ ∃ b off, a = some ⟨b, off, none⟩ ∧ ∀ j (hj : j < rows.length), w.cell? ⟨b, off + j * 2, none⟩ = some (.string rows[j].1) ∧ w.cell? ⟨b, off + j * 2 + 1, none⟩ = some (.int .i64 rows[j].2))
theorem RowsAt.below {w w' : World} {a : Option Addr} {n : Nat} {rows : List (ByteArray × Int)} (h : RowsAt w a n rows) (hb : Below w.heap.size w w') : RowsAt w' a n rows := by
  obtain ⟨h1, h2, h3⟩ := h
  refine ⟨h1, h2, ?_⟩
  rcases h3 with h3 | ⟨b, off, ha, hc⟩
  · exact .inl h3
  · refine .inr ⟨b, off, ha, fun j hj => ?_⟩
    obtain ⟨c1, c2⟩ := hc j hj
    rw [hb.cell (p := ⟨b, off + j * 2, none⟩) (World.block_lt_of_cell? w _ c1), hb.cell (p := ⟨b, off + j * 2 + 1, none⟩) (World.block_lt_of_cell? w _ c2)]
    exact ⟨c1, c2⟩
def rowB (r : ByteArray × Int) : List (BitVec 8) := sz (bytesL r.1) ++ enc (zig r.2)
def rowsB (rows : List (ByteArray × Int)) : List (BitVec 8) := (rows.map rowB).flatten
def rowsSize (rows : List (ByteArray × Int)) : Nat := (rows.map fun r => r.1.size + 20).sum
theorem rowsB_take {rows : List (ByteArray × Int)} {k : Nat} (hk : k < rows.length) : rowsB (rows.take (k + 1)) = rowsB (rows.take k) ++ rowB rows[k] := by
  rw [List.take_add_one, List.getElem?_eq_getElem hk]
  simp only [rowsB, List.map_append, List.flatten_append, Option.toList_some, List.map_cons, List.map_nil, List.flatten_cons, List.flatten_nil, List.append_nil]
theorem rowsSize_take_le (rows : List (ByteArray × Int)) (k : Nat) : rowsSize (rows.take k) ≤ rowsSize rows := by
  have : rowsSize rows = rowsSize (rows.take k) + rowsSize (rows.drop k) := by
    conv => lhs; rw [← List.take_append_drop k rows]
    simp only [rowsSize, List.map_append, List.sum_append]
  omega
theorem rowsSize_succ {rows : List (ByteArray × Int)} {k : Nat} (hk : k < rows.length) : rowsSize (rows.take (k + 1)) = rowsSize (rows.take k) + (rows[k].1.size + 20) := by
  rw [List.take_add_one, List.getElem?_eq_getElem hk]
  simp only [rowsSize, List.map_append, List.sum_append, Option.toList_some, List.map_cons, List.map_nil, List.sum_cons, List.sum_nil, Nat.add_zero]
theorem rowsSize_mem {rows : List (ByteArray × Int)} {r : ByteArray × Int} (h : r ∈ rows) : r.1.size + 20 ≤ rowsSize rows := by
  induction rows with
  | nil => cases h
  | cons x rest ih =>
    simp only [rowsSize, List.map_cons, List.sum_cons] at ih ⊢
    rcases List.mem_cons.1 h with rfl | h
    · omega
    · have := ih h
      omega
theorem rowsB_le : ∀ (rows : List (ByteArray × Int)), (∀ r ∈ rows, i64ok r.2 ∧ r.1.size < 18446744073709551616) → (rowsB rows).length ≤ rowsSize rows
  | [], _ => by simp [rowsB, rowsSize]
  | r :: rest, h => by
    have ih := rowsB_le rest (fun x hx => h x (List.mem_cons_of_mem _ hx))
    have h1 := h r List.mem_cons_self
    have e1 := sz_le r.1 h1.2
    have e2 := enc_ten (zig_lt r.2 h1.1)
    simp only [rowsB, rowsSize, List.map_cons, List.flatten_cons, List.length_append, List.sum_cons, rowB] at ih ⊢
    omega

end Go.Proofs.YtpnnbkhlbohfbaaDoor
