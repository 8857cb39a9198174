/- Texts that came in, opened. -/
import Derived.Test.YtabhgdmmljhpcabDoorFrame
import Derived.Test.YtabhgdmmljhpcabDoorBSlots
import Derived.Lib.SmallJoins
import Derived.Deep.SlicePairs
namespace Go.Proofs.YtabhgdmmljhpcabDoor
open Go.ChangeShapes Go.WideShapes Go.ChangeAt Go.RowKit Go.Deep Go.Joins
set_option linter.unusedVariables false

theorem cellsS9 : Tryd.prog.cellsOf 9 = 1 := by kernel_rfl
set_option maxRecDepth 100000 in
theorem open_strs {H : Type} {enc : TypeId × Value → H} {W : World} {v : Value} {d : DataW H} {p : List MemPlace} {base : Nat} (hv : Value.okWide Tryd.prog W .any base 22 v) (h : DataW.Trod enc Tryd.prog W 0 (fun _ => true) true 22 v d p) :
    ∃ (a : Option Addr) (len cap : Nat) (l : List ByteArray), v = .slice a len cap ∧ StrsB W a len l := by
  obtain ⟨a, len, cap, rfl⟩ := okWide_slice Tryd.underlying22 hv
  obtain ⟨fuel, hf⟩ := h
  rcases open_slice Tryd.underlying22 hf with ⟨hcs, _⟩ | ⟨x, ln, c, m, n, D, Pl, hcs, _, hl, hm, hmm, hx, hcell⟩
  · simp [Value.cells] at hcs
    obtain ⟨rfl, rfl, rfl⟩ := hcs
    exact ⟨none, 0, 0, [], rfl, ⟨rfl, by simp, .inl rfl⟩⟩
  · simp [Value.cells] at hcs
    obtain ⟨rfl, rfl, rfl⟩ := hcs
    have hlm : len ≤ m := by rw [hmm]; simpa using hl
    rw [cellsS9] at hcell
    have each2 : ∀ i : Nat, ∃ s : ByteArray, i < len → s.size ≤ maxLen ∧ W.cells? 0 (x.add (i * 1)) 1 = some [.string s] := fun i => by
      by_cases hi : i < len
      · obtain ⟨cs, h1, h2⟩ := hcell i (by omega)
        obtain ⟨s, e, _, z⟩ := DataW.trod_string Tryd.underlying9 h2
        rw [e] at h1
        exact ⟨s, fun _ => ⟨z, h1⟩⟩
      · exact ⟨⟨#[]⟩, fun h => absurd h hi⟩
    obtain ⟨f, hfn⟩ : ∃ f : Nat → ByteArray, ∀ i, i < len → (f i).size ≤ maxLen ∧ W.cells? 0 (x.add (i * 1)) 1 = some [.string (f i)] := ⟨fun i => Classical.choose (each2 i), fun i => Classical.choose_spec (each2 i)⟩
    refine ⟨some x, len, cap, (List.range len).map f, rfl, ⟨by simp, fun o ho => ?_, ?_⟩⟩
    · obtain ⟨i, hi, rfl⟩ := List.mem_map.1 ho
      exact (hfn i (List.mem_range.1 hi)).1
    by_cases h0 : len = 0
    · exact .inl h0
    · have cellsAt : ∀ i, i < len → W.cell? ((x.add (i * 1)).add 0) = some (.string (f i)) := fun i hi => by
        obtain ⟨_, _, hc⟩ := World.cells?_some (hfn i hi).2
        have := hc 0 (by simp)
        simpa using this
      obtain ⟨b, off, spot⟩ := x
      have hc0 := cellsAt 0 (by omega)
      have hspot : spot = none := by simpa [Addr.add] using World.cell?_spot hc0
      subst hspot
      refine .inr ⟨b, off, rfl, ?_, fun j hj => ?_⟩
      · have := World.block_lt_of_cell? W _ hc0
        rw [Addr.add_lit, Addr.add_lit] at this
        exact this
      have hj1 : j < len := by simpa using hj
      have q0 := cellsAt j hj1
      rw [Addr.add_lit, Addr.add_lit, Nat.mul_one, Nat.add_zero] at q0
      simp only [List.getElem_map, List.getElem_range]
      exact q0
end Go.Proofs.YtabhgdmmljhpcabDoor
