/- Transfers and numbers that came in, opened. -/
import Derived.Test.YtbilnleglnbnlaaXMem
import Derived.Test.YtbilnleglnbnlaaBPlain
import Derived.Lib.SmallJoins
import Derived.Deep.SlicePairs
namespace Go.Proofs.Ytbilnleglnbnlaa
open Go.ChangeShapes Go.WideShapes Go.ChangeAt Go.RowKit Go.Deep Go.Joins
set_option linter.unusedVariables false

/-- What can be of its parts. -/
structure TxnD.ok (t : TxnD) : Prop where
  id : t.id.size ≤ maxLen
  fr : t.fr.size ≤ maxLen
  ky : t.ky.size ≤ maxLen
  to : t.to.size ≤ maxLen
  n : -9223372036854775808 ≤ t.n ∧ t.n ≤ 9223372036854775807
  why : -9223372036854775808 ≤ t.why ∧ t.why ≤ 9223372036854775807
theorem i64_wfX {z : Int} (h : (Lit.int .i64 z).wf = true) : -9223372036854775808 ≤ z ∧ z ≤ 9223372036854775807 := by
  simpa [Lit.wf, IntKind.min, IntKind.max, IntKind.bits, IntKind.signed] using h
theorem list7 {α : Type} {l : List α} (h : l.length = 7) : ∃ c0 c1 c2 c3 c4 c5 c6, l = [c0, c1, c2, c3, c4, c5, c6] := by
  match l, h with
  | [c0, c1, c2, c3, c4, c5, c6], _ => exact ⟨c0, c1, c2, c3, c4, c5, c6, rfl⟩
theorem cellsX2 : Try.prog.cellsOf 2 = 1 := by kernel_rfl
theorem cellsX3 : Try.prog.cellsOf 3 = 1 := by kernel_rfl
theorem cellsX4 : Try.prog.cellsOf 4 = 1 := by kernel_rfl
theorem cellsX9 : Try.prog.cellsOf 9 = 1 := by kernel_rfl
theorem cellsXE : Try.prog.cellsOf 25 = 1 := by kernel_rfl
theorem cellsXT : Try.prog.cellsOf 39 = 7 := by kernel_rfl
set_option maxRecDepth 100000 in
theorem open_txn_cells {H : Type} {enc : TypeId × Value → H} {W : World} {cs : List Value} {x : DataW H × List MemPlace} {fuel : Nat} (hl : cs.length = 7) (hf : DataW.trod enc Try.prog W 0 (fun _ => true) true fuel 39 cs = some x) :
    ∃ t : TxnD, cs = t.cells ∧ t.ok := by
  obtain ⟨c0, c1, c2, c3, c4, c5, c6, rfl⟩ := list7 hl
  obtain ⟨xs, n, _, hx, _, hlen, hfld⟩ := DataW.trod_struct Try.underlying39 hf
  obtain ⟨y0, y1, y2, y3, y4, y5, y6, rfl⟩ := list7 (hlen.trans (by rfl))
  have g0 := hfld 0 _ rfl
  have g1 := hfld 1 _ rfl
  have g2 := hfld 2 _ rfl
  have g3 := hfld 3 _ rfl
  have g4 := hfld 4 _ rfl
  have g5 := hfld 5 _ rfl
  have g6 := hfld 6 _ rfl
  simp [cellsX2, cellsX4, cellsX9, cellsXE] at g0 g1 g2 g3 g4 g5 g6
  obtain ⟨s0, e0, _, z0⟩ := DataW.trod_string Try.underlying9 g0
  obtain ⟨s1, e1, _, z1⟩ := DataW.trod_string Try.underlying9 g1
  obtain ⟨s2, e2, _, z2⟩ := DataW.trod_string Try.underlying9 g2
  obtain ⟨s3, e3, _, z3⟩ := DataW.trod_string Try.underlying9 g3
  obtain ⟨k4, e4, _, w4⟩ := DataW.trod_int Try.underlying2 g4
  obtain ⟨k5, e5, _⟩ := DataW.trod_bool Try.underlying4 g5
  obtain ⟨k6, e6, _, w6⟩ := DataW.trod_int Try.underlying25 g6
  simp only [List.cons.injEq, and_true] at e0 e1 e2 e3 e4 e5 e6
  subst e0 e1 e2 e3 e4 e5 e6
  exact ⟨⟨s0, s1, s2, s3, k4, k5, k6⟩, rfl, ⟨z0, z1, z2, z3, i64_wfX w4, i64_wfX w6⟩⟩
set_option maxRecDepth 100000 in
/-- Transfers that came in. -/
theorem open_txns {H : Type} {enc : TypeId × Value → H} {W : World} {v : Value} {d : DataW H} {p : List MemPlace} {base : Nat} (hv : Value.okWide Try.prog W .any base 22 v) (h : DataW.Trod enc Try.prog W 0 (fun _ => true) true 22 v d p) :
    ∃ (a : Option Addr) (len cap : Nat) (ts : List TxnD), v = .slice a len cap ∧ RecsAt TxnD.cells 7 W a len ts ∧ (∀ t ∈ ts, t.ok) ∧ len ≤ maxLen := by
  obtain ⟨a, len, cap, rfl⟩ := okWide_slice Try.underlying22 hv
  obtain ⟨fuel, hf⟩ := h
  rcases open_slice Try.underlying22 hf with ⟨hcs, _⟩ | ⟨x, ln, c, m, n, D, Pl, hcs, _, hl, hm, hmm, hx, hcell⟩
  · simp [Value.cells] at hcs
    obtain ⟨rfl, rfl, rfl⟩ := hcs
    exact ⟨none, 0, 0, [], rfl, ⟨rfl, .inl rfl⟩, by simp, Nat.zero_le _⟩
  · simp [Value.cells] at hcs
    obtain ⟨rfl, rfl, rfl⟩ := hcs
    have hlm : len ≤ m := by rw [hmm]; simpa using hl
    rw [cellsXT] at hcell
    have each2 : ∀ i : Nat, ∃ t : TxnD, i < len → t.ok ∧ W.cells? 0 (x.add (i * 7)) 7 = some t.cells := fun i => by
      by_cases hi : i < len
      · obtain ⟨cs, h1, h2⟩ := hcell i (by omega)
        obtain ⟨_, hlen, _⟩ := World.cells?_some h1
        obtain ⟨o, e, ho⟩ := open_txn_cells hlen h2
        rw [e] at h1
        exact ⟨o, fun _ => ⟨ho, h1⟩⟩
      · exact ⟨⟨noText, noText, noText, noText, 0, false, 0⟩, fun h => absurd h hi⟩
    obtain ⟨f, hfn⟩ : ∃ f : Nat → TxnD, ∀ i, i < len → (f i).ok ∧ W.cells? 0 (x.add (i * 7)) 7 = some (f i).cells := ⟨fun i => Classical.choose (each2 i), fun i => Classical.choose_spec (each2 i)⟩
    refine ⟨some x, len, cap, (List.range len).map f, rfl, ⟨by simp, ?_⟩, fun o ho => ?_, by omega⟩
    · by_cases h0 : len = 0
      · exact .inl h0
      · have cellsAt : ∀ i, i < len → ∀ j v, (f i).cells[j]? = some v → W.cell? ((x.add (i * 7)).add j) = some v := fun i hi j v hv => by
          obtain ⟨_, _, hc⟩ := World.cells?_some (hfn i hi).2
          have hj : j < 7 := by have := (List.getElem?_eq_some_iff.1 hv).1; rwa [TxnD.cells7] at this
          have := hc j hj
          rw [← hv]
          simpa using this
        obtain ⟨b, off, spot⟩ := x
        have hc0 := cellsAt 0 (by omega) 0 _ rfl
        have hspot : spot = none := by simpa [Addr.add] using World.cell?_spot hc0
        subst hspot
        refine .inr ⟨b, off, rfl, ?_, fun i hi j v hv => ?_⟩
        · have := World.block_lt_of_cell? W _ hc0
          rw [Addr.add_lit, Addr.add_lit] at this
          exact this
        have hi1 : i < len := by simpa using hi
        simp only [List.getElem_map, List.getElem_range] at hv
        have := cellsAt i hi1 j v hv
        rw [Addr.add_lit, Addr.add_lit] at this
        exact this
    · obtain ⟨i, hi, rfl⟩ := List.mem_map.1 ho
      exact (hfn i (List.mem_range.1 hi)).1
/-- Numbers in memory. -/
def IntsX (w : World) (a : Option Addr) (n : Nat) (zs : List Int) : Prop :=
  n = zs.length ∧ (n = 0 ∨ ∃ b off, a = some ⟨b, off, none⟩ ∧ b < w.heap.size ∧ ∀ j (hj : j < zs.length), w.cell? ⟨b, off + j, none⟩ = some (.int .i64 zs[j]))
theorem IntsX.at {w W : World} {a : Option Addr} {n : Nat} {zs : List Int} (h : IntsX w a n zs) (bel : Below w.heap.size w W) {j : Nat} (hj : j < zs.length) : ∃ b off, a = some ⟨b, off, none⟩ ∧ W.cell? ⟨b, off + j, none⟩ = some (.int .i64 zs[j]) := by
  rcases h.2 with h0 | ⟨b, off, e, hb, hc⟩
  · have := h.1; omega
  · exact ⟨b, off, e, (bel.cell (p := ⟨b, off + j, none⟩) hb).trans (hc j hj)⟩
end Go.Proofs.Ytbilnleglnbnlaa
