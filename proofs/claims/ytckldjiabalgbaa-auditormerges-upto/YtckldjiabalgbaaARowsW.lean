/- Package auditor: Rows of an auditor to which all have told theirs. -/
import Derived.Test.YtckldjiabalgbaaAConc
import Derived.Test.YtckldjiabalgbaaATold
namespace Go.Proofs.Ytckldjiabalgbaa
open Go.RowKit Go.Sort
attribute [local go_sem] Oper.semAt_some
set_option linter.unusedVariables false

set_option maxRecDepth 100000 in
set_option maxHeartbeats 4000000 in
theorem rowsA_any {w : World} {G : Nat} {D : AuD} (h : AuIn w G D) (hw : D.wh = true) {S : Nat} (hS : D.sh = S) (h1 : 1 ≤ S) (h3 : S ≤ 3) {L : List (List RowV)} (hL : ListsX w (some ⟨G, 6, none⟩) S L) (hz : totL L * 24 ≤ 140737488355328) :
    Calls Try.prog 11 #[.pointer (some ⟨G, 0, none⟩)] w fun e w' => ∃ v, e = .returned (.tuple #[v, .bool true]) ∧ w'.ownsRow w.heap.size 28 2 v (totL L) (rowCellsX (mergeL L)) ∧ Below w.heap.size w w' := by
  have c9 : w.cell? ⟨G, 9, none⟩ = some (.bool true) := by simp only [AuIn] at h; rw [hw] at h; simp [World.cell?, h]
  have hC : Hid (∀ W, Below w.heap.size w W → Calls Try.prog 22 #[.pointer (some ⟨G, 0, none⟩)] W fun e w' => e = .returned (.int .i64 (S : Int)) ∧ w' = W) := fun W b => by
    have := countA_any (h.below b) (by rw [hS]; omega)
    rw [hS] at this
    exact this
  have hM : Hid (∀ W, Below w.heap.size w W → Calls Try.prog 5 #[.slice (some ⟨G, 6, none⟩) S 3] W fun e w' => ∃ v, e = .returned v ∧ w'.ownsRow w.heap.size 28 2 v (totL L) (rowCellsX (mergeL L)) ∧ Below w.heap.size w w') := fun W b => by
    refine (mergeX_any (c := 3) (hL.below b) hz (by omega)).mono ?_
    rintro e w' ⟨v, rfl, o, b2⟩
    exact ⟨v, rfl, ⟨o.1, o.2.imp id (fun ⟨g, cp, cur, e1, e2, e3⟩ => ⟨g, cp, cur, e1, Nat.le_trans b.size e2, e3⟩)⟩, b.trans (b2.mono b.size)⟩
  have h3z : (S : Int) ≤ 3 := by omega
  have h0z : (0 : Int) ≤ (S : Int) := by omega
  clear h hw hS h1 h3 hL hz
  go_enter Try.func11, Try.ntmps11
  go_wp2
  go_region_law (first
    | (go_simp; go_at_call 22; refine (hC.out _ (Below.refl _ _).drew).mono ?_; rintro e w2 ⟨rfl, rfl⟩)
    | (go_simp; go_at_call 5; refine (hM.out _ (Below.refl _ _).drew).mono ?_; rintro e w2 ⟨v, rfl, o2, b2⟩))
  all_goals
    go_wp2
    go_ret2
    exact ⟨_, rfl, o2, b2⟩
end Go.Proofs.Ytckldjiabalgbaa
