/- Rows, and their append. -/
import Derived.Test.YtbilnleglnbnlaaXTk
import Derived.Laws.AppendOwnNone
namespace Go.Proofs.Ytbilnleglnbnlaa
open Go.RowKit
set_option linter.unusedVariables false

def rowCellsX (rows : List (ByteArray × Int)) : List Value := rows.flatMap fun r => [.string r.1, .int .i64 r.2]
def RowsX (w : World) (a : Option Addr) (n : Nat) (rows : List (ByteArray × Int)) : Prop :=
  n = rows.length ∧ rows.length ≤ 140737488355328 ∧ (n = 0 ∨ ∃ b off, a = some ⟨b, off, none⟩ ∧ ∀ j (hj : j < rows.length), w.cell? ⟨b, off + j * 2, none⟩ = some (.string rows[j].1) ∧ w.cell? ⟨b, off + j * 2 + 1, none⟩ = some (.int .i64 rows[j].2))
theorem RowsX.below {w w' : World} {a : Option Addr} {n : Nat} {rows : List (ByteArray × Int)} (h : RowsX w a n rows) (hb : Below w.heap.size w w') : RowsX w' a n rows := by
  obtain ⟨h1, h2, h3⟩ := h
  refine ⟨h1, h2, ?_⟩
  rcases h3 with h3 | ⟨b, off, ha, hc⟩
  · exact .inl h3
  · refine .inr ⟨b, off, ha, fun j hj => ?_⟩
    obtain ⟨c1, c2⟩ := hc j hj
    rw [hb.cell (p := ⟨b, off + j * 2, none⟩) (World.block_lt_of_cell? w _ c1), hb.cell (p := ⟨b, off + j * 2 + 1, none⟩) (World.block_lt_of_cell? w _ c2)]
    exact ⟨c1, c2⟩
theorem rowCellsX_get : ∀ (rows : List (ByteArray × Int)) (j : Nat) (hj : j < rows.length), (rowCellsX rows)[j * 2]? = some (.string rows[j].1) ∧ (rowCellsX rows)[j * 2 + 1]? = some (.int .i64 rows[j].2)
  | r :: rest, 0, _ => by simp [rowCellsX]
  | r :: rest, j + 1, hj => by
    have ih := rowCellsX_get rest j (by simpa using hj)
    have e1 : (j + 1) * 2 = j * 2 + 1 + 1 := by omega
    simp only [rowCellsX, List.flatMap_cons, List.cons_append, List.nil_append, e1, List.getElem?_cons_succ, List.getElem_cons_succ] at ih ⊢
    exact ih
theorem infoRowX : (Try.prog.info? 89).map (fun i => (i.zero, i.size, i.bytes)) = some (some (.agg #[.string ⟨#[]⟩, .int .i64 0]), 2, 24) := by kernel_rfl
theorem rowCellsX_length (A : List (ByteArray × Int)) : (rowCellsX A).length = A.length * 2 := by
  induction A with
  | nil => rfl
  | cons r rest ih => simp only [rowCellsX, List.flatMap_cons, List.length_append, List.length_cons, List.length_nil] at ih ⊢; omega
theorem rowCellsX_one (A : List (ByteArray × Int)) : ∀ u ∈ rowCellsX A, u.oneCell' = true := by
  intro u hu
  simp only [rowCellsX, List.mem_flatMap, List.mem_cons, List.not_mem_nil, or_false] at hu
  obtain ⟨r, _, rfl | rfl⟩ := hu <;> rfl
theorem rows_newsX {w : World} {aa : Option Addr} {la : Nat} {A : List (ByteArray × Int)} (hA : RowsX w aa la A) (x : Addr) (hx : aa = some x) : ∀ j u, (rowCellsX A)[j]? = some u → w.cell? (x.add j) = some u := by
  obtain ⟨h1, h2, h3⟩ := hA
  intro j u hj
  have hj' : j < A.length * 2 := by have := (List.getElem?_eq_some_iff.1 hj).1; rwa [rowCellsX_length] at this
  rcases h3 with h3 | ⟨b, off, rfl, hc⟩
  · omega
  · cases hx
    rw [Addr.add_lit]
    obtain ⟨c1, c2⟩ := hc (j / 2) (by omega)
    obtain ⟨e1, e2⟩ := rowCellsX_get A (j / 2) (by omega)
    rcases (by omega : j = j / 2 * 2 ∨ j = j / 2 * 2 + 1) with e | e
    · rw [e] at hj ⊢
      rw [e1] at hj
      cases hj
      exact c1
    · rw [e] at hj ⊢
      rw [e2] at hj
      cases hj
      exact c2
/-- append(nil, rows...) -/
theorem run_append_rowsX (w : World) (aa : Option Addr) (la ca : Nat) (A : List (ByteArray × Int)) (hA : RowsX w aa la A) (hnil : aa = none → ca = 0) (hb : la * 24 ≤ 140737488355328) :
    ∃ v' w', (Builtin.append_ #[31, 31] 31 #[.slice none 0 0, .slice aa la ca]).run Try.prog w = .ok v' w' ∧ w'.ownsRow w.heap.size 89 2 v' la (rowCellsX A) ∧ Below w.heap.size w w' := by
  obtain ⟨i0, hi, hz0, hz1, hz2⟩ := info_parts infoRowX
  have h0 : w.ownsRow w.heap.size 89 2 (.slice none 0 0) 0 [] := World.ownsRow_nil _ _ _ _
  cases aa with
  | none =>
    have hla : la = 0 := by
      rcases hA.2.2 with h3 | ⟨b, off, h, _⟩
      · exact h3
      · cases h
    subst hla
    have hAn : A = [] := List.eq_nil_of_length_eq_zero hA.1.symm
    subst hAn
    rw [hnil rfl]
    have hr := run_append_owned_none (P := Try.prog) (w := w) w.heap.size 31 31 89 i0 2 Try.underlying31 hi _ 0 _ h0
    exact ⟨_, w, hr, h0, Below.refl _ _⟩
  | some x =>
    obtain ⟨v', w', hr, h1, h2, _⟩ := run_append_own (P := Try.prog) w w.heap.size 31 31 89 i0 _ 2 24 Try.underlying31 hi hz0 hz1 hz2 rfl (by omega) (.slice none 0 0) 0 [] h0 x la ca (rowCellsX A) (by rw [rowCellsX_length, hA.1]) (rows_newsX hA x rfl) (rowCellsX_one A) (by unfold maxLen; omega) (by omega) (Nat.le_refl _)
    refine ⟨v', w', hr, by simpa using h1, (Below.refl _ w).grown h2 (Nat.le_refl _) (fun k e => by cases e)⟩
end Go.Proofs.Ytbilnleglnbnlaa
