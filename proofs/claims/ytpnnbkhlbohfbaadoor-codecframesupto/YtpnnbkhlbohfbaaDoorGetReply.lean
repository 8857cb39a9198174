/- What getRow and GetReply do. -/
import Derived.Test.YtpnnbkhlbohfbaaDoorGetOp
import Derived.Deep.AppendLies
import Derived.Deep.RegionLaw
namespace Go.Proofs.YtpnnbkhlbohfbaaDoor
open Go.RowKit Cod
set_option linter.unusedVariables false

/-- Rows as cells. -/
def rowCells (rows : List (ByteArray × Int)) : List Value := rows.flatMap fun r => [.string r.1, .int .i64 r.2]
theorem rowCells_snoc (rows : List (ByteArray × Int)) (r : ByteArray × Int) : rowCells (rows ++ [r]) = rowCells rows ++ [.string r.1, .int .i64 r.2] := by simp [rowCells]
theorem rowCells_get : ∀ (rows : List (ByteArray × Int)) (j : Nat) (hj : j < rows.length), (rowCells rows)[j * 2]? = some (.string rows[j].1) ∧ (rowCells rows)[j * 2 + 1]? = some (.int .i64 rows[j].2)
  | r :: rest, 0, _ => by simp [rowCells]
  | r :: rest, j + 1, hj => by
    have ih := rowCells_get rest j (by simpa using hj)
    have e1 : (j + 1) * 2 = j * 2 + 1 + 1 := by omega
    simp only [rowCells, List.flatMap_cons, List.cons_append, List.nil_append, e1, List.getElem?_cons_succ, List.getElem_cons_succ] at ih ⊢
    exact ih
theorem owns_far {w w' : World} {base R n size : Nat} {e : TypeId} {v : Value} {xs : List Value} (h : w.ownsRow base e size v n xs) (hg : w.grownBy w' (some R)) (hR : R < base) : w'.ownsRow base e size v n xs := by
  refine ⟨h.1, h.2.imp id ?_⟩
  rintro ⟨g, cap, cur, e1, e2, e3, e4⟩
  refine ⟨g, cap, cur, e1, e2, ?_, e4⟩
  rw [hg.block g (Array.getElem?_eq_some_iff.1 e3).1 (fun e => by have := Option.some.inj e; omega)]
  exact e3
theorem owns_set {w : World} {base n size : Nat} {e : TypeId} {v : Value} {xs : List Value} (h : w.ownsRow base e size v n xs) (a : Addr) (u : Value) (ha : a.block < base) : (w.setCell a u).ownsRow base e size v n xs := by
  refine ⟨h.1, h.2.imp id ?_⟩
  rintro ⟨g, cap, cur, e1, e2, e3, e4⟩
  refine ⟨g, cap, cur, e1, e2, ?_, e4⟩
  rw [Below.heap_setCell _ _ _ g (fun e => by omega)]
  exact e3
theorem st_alloc {w : World} {a : Addr} {v : Value} (o : Obj) (h : w.cell? a = some v ∧ w.frozen? a = false) : (w.alloc o).cell? a = some v ∧ (w.alloc o).frozen? a = false := by
  have hb : (w.alloc o).heap[a.block]? = w.heap[a.block]? := Below.heap_alloc w o a.block (World.block_lt_of_cell? w _ h.1)
  rw [World.cell?_of_block hb, World.frozen?_of_block hb]
  exact h
theorem st_grown {w w' : World} {row : Option Nat} {a : Addr} {v : Value} (hg : w.grownBy w' row) (hne : some a.block ≠ row) (h : w.cell? a = some v ∧ w.frozen? a = false) : w'.cell? a = some v ∧ w'.frozen? a = false := by
  have hl := World.block_lt_of_cell? w _ h.1
  rw [hg.cell_far a hl hne, hg.frozen_far a hl hne]
  exact h
end Go.Proofs.YtpnnbkhlbohfbaaDoor
