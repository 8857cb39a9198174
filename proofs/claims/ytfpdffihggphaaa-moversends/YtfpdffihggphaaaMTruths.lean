/- Bools that came in, in a slice: opened. -/
import Derived.Test.YtfpdffihggphaaaChBytes
namespace Go.Proofs.Ytfpdffihggphaaa
open Go.ChangeShapes Go.WideShapes Go.ChangeAt Go.RowKit Go.Deep Go.Joins
set_option linter.unusedVariables false

/-- Bools in memory. -/
def BoolsAt (w : World) (a : Option Addr) (n : Nat) (B : Nat → Bool) : Prop := n = 0 ∨ ∃ b off, a = some ⟨b, off, none⟩ ∧ ∀ j, j < n → w.cell? ⟨b, off + j, none⟩ = some (.bool (B j))
theorem BoolsAt.below {w w' : World} {a : Option Addr} {n : Nat} {B : Nat → Bool} (h : BoolsAt w a n B) (b : Below w.heap.size w w') : BoolsAt w' a n B := by
  rcases h with h | ⟨g, off, e, hc⟩
  · exact .inl h
  · exact .inr ⟨g, off, e, fun j hj => (b.cell (p := ⟨g, off + j, none⟩) (World.block_lt_of_cell? w _ (hc j hj))).trans (hc j hj)⟩
theorem cellsOfT : Try.prog.cellsOf 4 = 1 := by kernel_rfl
set_option maxRecDepth 100000 in
theorem open_truths {H : Type} {enc : TypeId × Value → H} {W : World} {v : Value} {d : DataW H} {p : List MemPlace} {base : Nat} (hv : Value.okWide Try.prog W .any base 71 v) (h : DataW.Trod enc Try.prog W 0 (fun _ => true) true 71 v d p) :
    ∃ (a : Option Addr) (len cap : Nat) (B : Nat → Bool), v = .slice a len cap ∧ BoolsAt W a len B := by
  obtain ⟨a, len, cap, rfl⟩ := okWide_slice Try.underlying71 hv
  obtain ⟨fuel, hf⟩ := h
  rcases open_slice1 Try.underlying71 cellsOfT hf with ⟨hcs, _⟩ | ⟨x, ln, c, m, n, V, D, Pl, hcs, _, hl, hm, hmm, hx, hcell⟩
  · simp [Value.cells] at hcs
    obtain ⟨rfl, rfl, rfl⟩ := hcs
    exact ⟨none, 0, 0, fun _ => false, rfl, .inl rfl⟩
  · simp [Value.cells] at hcs
    obtain ⟨rfl, rfl, rfl⟩ := hcs
    have hlm : len ≤ m := by rw [hmm]; simpa using hl
    have each2 : ∀ i : Nat, ∃ t : Bool, i < len → V i = .bool t := fun i => by
      by_cases hi : i < len
      · obtain ⟨t, h1, h2⟩ := DataW.trod_bool Try.underlying4 (hcell i (by omega)).2
        exact ⟨t, fun _ => by simpa using h1⟩
      · exact ⟨false, fun h => absurd h hi⟩
    refine ⟨some x, len, cap, fun i => Classical.choose (each2 i), rfl, ?_⟩
    by_cases h0 : len = 0
    · exact .inl h0
    · obtain ⟨b, off, spot⟩ := x
      have hc0 := (hcell 0 (by omega)).1
      have hspot : spot = none := by simpa [Addr.add] using World.cell?_spot hc0
      subst hspot
      refine .inr ⟨b, off, rfl, fun j hj => ?_⟩
      have hcj := (hcell j (by omega)).1
      have hadd : (⟨b, off, none⟩ : Addr).add j = ⟨b, off + j, none⟩ := by simp [Addr.add]
      rw [hadd, Classical.choose_spec (each2 j) hj] at hcj
      exact hcj
end Go.Proofs.Ytfpdffihggphaaa
