/- Rows in memory; the reference's SameRows. -/
import Derived.Test.YtdchnfggmkokhaaGreatDoorGE
import Derived.Test.YtdchnfggmkokhaaGreatDoorGF
namespace Go.Proofs.YtdchnfggmkokhaaGreatDoor
open Go.RowKit Cod
set_option linter.unusedVariables false

theorem rowsAt_owned {w : World} {base n : Nat} {v : Value} {l : List RowB} (h : w.ownsRow base 50 2 v n (cells2 l)) (hn : n = l.length) (hm : l.length ≤ 1000) : ∃ a c, v = .slice a n c ∧ RowsAt w a n l := by
  subst hn
  obtain ⟨a, c, e, _⟩ := row_form h
  refine ⟨a, c, e, rfl, by omega, ?_⟩
  rcases h.2 with ⟨e1, h0⟩ | ⟨g, cap, cur, e1, hb, hg, hnc, hcm, hcs, htake⟩
  · exact .inl h0
  · rw [e] at e1
    cases e1
    refine .inr ⟨g, 0, rfl, fun j hj => ?_⟩
    obtain ⟨q1, q2⟩ := cells2_at l j hj
    rw [← htake, List.getElem?_take, if_pos (by omega)] at q1 q2
    rw [Nat.zero_add]
    simp only [World.cell?, hg]
    exact ⟨by simpa using q1, by simpa using q2⟩
end Go.Proofs.YtdchnfggmkokhaaGreatDoor
