/- The reference's Asks. -/
import Derived.Test.YtbilnleglnbnlaaXAsks1
import Derived.Test.YtbilnleglnbnlaaXSc
import Derived.Test.YtbilnleglnbnlaaXTk
import Derived.Deep.MidRow
namespace Go.Proofs.Ytbilnleglnbnlaa
open Go.RowKit
attribute [local go_sem] Oper.semAt_some
set_option linter.unusedVariables false

theorem info_askR : (Try.prog.info? 30).map (fun i => (i.zero, i.size, i.bytes)) = some (some (.agg (AskV.cells (0, CmdV.zero)).toArray), 18, 200) := by kernel_rfl
theorem one_askX (x : AskV) (h : x.2.data.oneCell' = true) : ∀ u ∈ AskV.cells x, u.oneCell' = true := fun u hu => by
  obtain ⟨g, c⟩ := x
  simp only [AskV.cells, CmdV.cells, List.mem_cons, List.not_mem_nil, or_false] at hu
  rcases hu with rfl | rfl | rfl | rfl | rfl | rfl | rfl | rfl | rfl | rfl | rfl | rfl | rfl | rfl | rfl | rfl | rfl | rfl <;> first | rfl | exact h
/-- append(v, x) -/
theorem run_append_askR (w : World) (base : Nat) (v : Value) (L : List AskV) (hown : w.ownsRow base 30 18 v L.length (flat AskV.cells L)) (x : AskV) (hx : x.2.data.oneCell' = true) (hb : L.length ≤ 4000) (hbase : base ≤ w.heap.size) :
    ∃ v' w', (Builtin.append_ #[43, 43] 43 #[v, .slice (some ⟨w.heap.size, 0, none⟩) 1 1]).run Try.prog (w.alloc (.cells (AskV.cells x).toArray 30)) = .ok v' w' ∧ w'.ownsRow base 30 18 v' (L ++ [x]).length (flat AskV.cells (L ++ [x])) ∧ (w.alloc (.cells (AskV.cells x).toArray 30)).grownBy w' v.ownBlock := by
  obtain ⟨i0, hi, hz0, hz1, hz2⟩ := info_parts info_askR
  obtain ⟨v', w', hr, h1, h2, _⟩ := run_append_own (P := Try.prog) (w.alloc (.cells (AskV.cells x).toArray 30)) base 43 43 30 i0 _ 18 200 Try.underlying43 hi hz0 hz1 hz2 rfl (by omega) v L.length _ (hown.alloc _) ⟨w.heap.size, 0, none⟩ 1 1 (AskV.cells x) (by simp [askCells18]) (fun j u hj => by
    rw [Addr.add_lit, Nat.zero_add, World.cell?_alloc_mark]
    simpa using hj) (one_askX x hx) (by unfold maxLen; omega) (by omega) (by simp; omega)
  exact ⟨v', w', hr, by rw [List.length_append, flat_append]; simpa [flat] using h1, h2⟩
/-- The law's list of asks of the reference, while it grows: its own row above base; a transfer's box beside it. -/
structure RI (w0 w : World) (v : Value) (L : List AskV) : Prop where
  b : Below w0.heap.size w0 w
  row : w.ownsRow w0.heap.size 30 18 v L.length (flat AskV.cells L)
theorem RI.below {w0 w w' : World} {v : Value} {L : List AskV} (h : RI w0 w v L) (b : Below w.heap.size w w') : RI w0 w' v L := ⟨h.b.trans (b.mono h.b.size), owns_kept h.row fun g e => b.block g (row_kind h.row e).2.1⟩
theorem RI.set {w0 w : World} {v : Value} {L : List AskV} (h : RI w0 w v L) {B : Nat} {cs : Array Value} {t : TypeId} (hB : w.heap[B]? = some (.cells cs t (0, 0))) (ht : t ≠ 30) (hb : w0.heap.size ≤ B) (j : Nat) (u : Value) : RI w0 (w.setCell ⟨B, j, none⟩ u) v L := by
  refine ⟨h.b.setCell hb _, owns_kept h.row fun g e => Below.heap_setCell _ _ _ _ fun q => ?_⟩
  obtain ⟨_, _, cur, hc⟩ := row_kind h.row e
  rw [q, hB] at hc
  injection hc with hc
  injection hc with _ hc
  exact ht hc
/-- What a growing row leaves: blocks of other types. -/
theorem grown_box {w w' : World} {v : Value} {base n : Nat} {xs : List Value} (h : w.ownsRow base 30 18 v n xs) (g : w.grownBy w' v.ownBlock) {B : Nat} {cs : Array Value} {t : TypeId} (hB : w.heap[B]? = some (.cells cs t (0, 0))) (ht : t ≠ 30) : w'.heap[B]? = some (.cells cs t (0, 0)) := by
  rw [g.block B (Array.getElem?_eq_some_iff.1 hB).1 (fun e => by
    obtain ⟨_, _, cur, hc⟩ := row_kind h (g := B) (by first | exact e | exact e.symm)
    rw [hB] at hc
    injection hc with hc
    injection hc with _ hc
    exact ht hc)]
  exact hB
end Go.Proofs.Ytbilnleglnbnlaa
