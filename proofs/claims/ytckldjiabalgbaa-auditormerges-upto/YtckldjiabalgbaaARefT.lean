/- Package auditor: three appends of rows. -/
import Derived.Test.YtckldjiabalgbaaARefM
import Derived.Test.YtckldjiabalgbaaAKnP
namespace Go.Proofs.Ytckldjiabalgbaa
open Go.RowKit Go.Sort
attribute [local go_sem] Oper.semAt_some
set_option linter.unusedVariables false

theorem ownsLowA {X : World} {B B' : Nat} {t : TypeId} {s n : Nat} {v : Value} {l : List Value} (h : X.ownsRow B t s v n l) (hb : B' ≤ B) : X.ownsRow B' t s v n l :=
  ⟨h.1, h.2.imp id (fun ⟨g, cp, cur, e1, e2, e3⟩ => ⟨g, cp, cur, e1, Nat.le_trans hb e2, e3⟩)⟩
/-- A row, taken apart at k, with one more between. -/
theorem three_apps {w1 : World} {ao : Option Addr} {N co k : Nat} {out : List RowV} {x : RowV} (R : RowsX w1 ao N out) (h0 : ao = none → co = 0) (hg : ∀ y, ao = some y → y = ⟨y.block, 0, none⟩) (hk : k ≤ N) (hNc : N ≤ co) (hz : (N + 1) * 24 ≤ 140737488355328) :
    ∃ m1 wA m2 wC, (Builtin.append_ #[22, 22] 22 #[.slice none 0 0, .slice ao k co]).run Try.prog w1 = .ok m1 wA ∧
      (Builtin.append_ #[22, 22] 22 #[m1, .slice (some ⟨wA.heap.size, 0, none⟩) 1 1]).run Try.prog (wA.alloc (.cells #[.string x.1, .int .i64 x.2] 28)) = .ok m2 wC ∧ Below w1.heap.size w1 wA ∧ Below w1.heap.size w1 wC ∧
      ∀ bo : Option Addr, ((k = co ∨ ao = none) ∧ (bo = none → co - k = 0) ∨ (k < co ∧ ∃ y, ao = some y ∧ bo = some ⟨y.block, k * 2, none⟩)) → ∃ m3 wD, (Builtin.append_ #[22, 22] 22 #[m2, .slice bo (N - k) (co - k)]).run Try.prog wC = .ok m3 wD ∧ wD.ownsRow w1.heap.size 28 2 m3 (N + 1) (rowCellsX (out.take k ++ (x :: out.drop k))) ∧ Below w1.heap.size w1 wD := by
  have hN := R.1
  obtain ⟨m1, wA, r1, o1, g1⟩ := run_append_rowsG w1 w1.heap.size (.slice none 0 0) 0 [] (World.ownsRow_nil _ _ _ _) ao k co (out.take k) (rowsX_take R hk) h0 (by omega) (Nat.le_refl _)
  have bA : Below w1.heap.size w1 wA := (Below.refl _ w1).grown g1 (Nat.le_refl _) (fun k e => by cases e)
  rw [Nat.zero_add, List.nil_append] at o1
  have bB : Below wA.heap.size wA (wA.alloc (.cells #[.string x.1, .int .i64 x.2] 28)) := (Below.refl _ wA).alloc (Nat.le_refl _) _
  have rx : RowsX (wA.alloc (.cells #[.string x.1, .int .i64 x.2] 28)) (some ⟨wA.heap.size, 0, none⟩) 1 [x] := by
    refine ⟨rfl, by simp, .inr ⟨wA.heap.size, 0, rfl, fun j hj => ?_⟩⟩
    obtain rfl : j = 0 := by simpa using hj
    constructor <;> simp
  have o1b := owns_kept o1 (fun g e => bB.block g (row_kind o1 e).2.1)
  obtain ⟨m2, wC, r2, o2, g2⟩ := run_append_rowsG _ w1.heap.size m1 k (out.take k) o1b (some ⟨wA.heap.size, 0, none⟩) 1 1 [x] rx (fun e => by cases e) (by omega) (Nat.le_trans bA.size bB.size)
  have bC : Below w1.heap.size w1 wC := (bA.trans (bB.mono bA.size)).grown g2 (Nat.le_trans bA.size bB.size) (fun k e => (row_kind o1b e).1)
  refine ⟨m1, wA, m2, wC, r1, r2, bA, bC, fun bo hbo => ?_⟩
  have rd : RowsX wC bo (N - k) (out.drop k) ∧ (bo = none → co - k = 0) := by
    rcases hbo with ⟨hkc, hb⟩ | ⟨hlt, y, ey, rfl⟩
    · have hNk : N - k = 0 := by
        rcases hkc with h | h
        · omega
        · have := h0 h; omega
      refine ⟨⟨by rw [List.length_drop]; omega, by rw [List.length_drop]; omega, .inl hNk⟩, hb⟩
    · have e := hg y ey
      have R' := R.below bC
      rw [ey, e] at R'
      exact ⟨rowsX_drop R' hk, fun e => by cases e⟩
  obtain ⟨m3, wD, r3, o3, g3⟩ := run_append_rowsG wC w1.heap.size m2 (k + 1) (out.take k ++ [x]) o2 bo (N - k) (co - k) (out.drop k) rd.1 rd.2 (by omega) bC.size
  refine ⟨m3, wD, r3, ?_, bC.grown g3 bC.size (fun k e => (row_kind o2 e).1)⟩
  rw [show k + 1 + (N - k) = N + 1 by omega, show out.take k ++ [x] ++ out.drop k = out.take k ++ (x :: out.drop k) by simp] at o3
  exact o3
end Go.Proofs.Ytckldjiabalgbaa
