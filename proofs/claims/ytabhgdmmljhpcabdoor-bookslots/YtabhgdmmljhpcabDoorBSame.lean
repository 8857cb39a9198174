/- Rows in memory; the reference's SameRows. -/
import Derived.Test.YtabhgdmmljhpcabDoorBRows
namespace Go.Proofs.YtabhgdmmljhpcabDoor
open Go.RowKit Cod
set_option linter.unusedVariables false

def RowsAt (w : World) (a : Option Addr) (n : Nat) (rows : List (ByteArray × Int)) : Prop :=
  n = rows.length ∧ rows.length ≤ 140737488355328 ∧ (n = 0 ∨ ∃ b off, a = some ⟨b, off, none⟩ ∧ ∀ j (hj : j < rows.length), w.cell? ⟨b, off + j * 2, none⟩ = some (.string rows[j].1) ∧ w.cell? ⟨b, off + j * 2 + 1, none⟩ = some (.int .i64 rows[j].2))
theorem RowsAt.below {w w' : World} {a : Option Addr} {n : Nat} {rows : List (ByteArray × Int)} (h : RowsAt w a n rows) (hb : Below w.heap.size w w') : RowsAt w' a n rows := by
  obtain ⟨h1, h2, h3⟩ := h
  refine ⟨h1, h2, ?_⟩
  rcases h3 with h3 | ⟨b, off, ha, hc⟩
  · exact .inl h3
  · refine .inr ⟨b, off, ha, fun j hj => ?_⟩
    obtain ⟨c1, c2⟩ := hc j hj
    rw [hb.cell (p := ⟨b, off + j * 2, none⟩) (World.block_lt_of_cell? w _ c1), hb.cell (p := ⟨b, off + j * 2 + 1, none⟩) (World.block_lt_of_cell? w _ c2)]
    exact ⟨c1, c2⟩
theorem RowsAt.at {w : World} {a : Option Addr} {n : Nat} {rows : List (ByteArray × Int)} (h : RowsAt w a n rows) {k : Nat} (hk : k < rows.length) :
    ∃ b off, a = some ⟨b, off, none⟩ ∧ w.cell? ⟨b, off + k * 2, none⟩ = some (.string rows[k].1) ∧ w.cell? ⟨b, off + k * 2 + 1, none⟩ = some (.int .i64 rows[k].2) := by
  rcases h.2.2 with h3 | ⟨b, off, ha, hc⟩
  · have := h.1; omega
  · exact ⟨b, off, ha, hc k hk⟩
theorem rowsAt_owned {w : World} {base n : Nat} {v : Value} {l : List RowB} (h : w.ownsRow base 31 2 v n (cells2 l)) (hn : n = l.length) (hm : l.length ≤ 1000) : ∃ a c, v = .slice a n c ∧ RowsAt w a n l := by
  subst hn
  obtain ⟨a, c, e, _⟩ := row_form h
  refine ⟨a, c, e, rfl, by omega, ?_⟩
  rcases h.2 with ⟨e1, h0⟩ | ⟨g, cap, cur, e1, hb, hg, hnc, hcm, hcs, htake⟩
  · exact .inl h0
  · rw [e] at e1
    cases e1
    refine .inr ⟨g, 0, rfl, fun j hj => ?_⟩
    obtain ⟨q1, q2⟩ := cells2_at l j hj
    rw [← htake, List.getElem?_take, if_pos (by omega)] at q1 q2
    rw [Nat.zero_add]
    simp only [World.cell?, hg]
    exact ⟨by simpa using q1, by simpa using q2⟩
end Go.Proofs.YtabhgdmmljhpcabDoor
