/- The law's operations that came in, opened. -/
import Derived.Test.YtdchnfggmkokhaaGreatDoorFrame
import Derived.Test.YtdchnfggmkokhaaGreatDoorBOp
import Derived.Lib.SmallJoins
import Derived.Deep.SlicePairs
namespace Go.Proofs.YtdchnfggmkokhaaGreatDoor
open Go.ChangeShapes Go.WideShapes Go.ChangeAt Go.RowKit Go.Deep Go.Joins
set_option linter.unusedVariables false

theorem i64_wfB {z : Int} (h : (Lit.int .i64 z).wf = true) : -9223372036854775808 ≤ z ∧ z ≤ 9223372036854775807 := by
  simpa [Lit.wf, IntKind.min, IntKind.max, IntKind.bits, IntKind.signed] using h
theorem list5 {α : Type} {l : List α} (h : l.length = 5) : ∃ c0 c1 c2 c3 c4, l = [c0, c1, c2, c3, c4] := by
  match l, h with
  | [c0, c1, c2, c3, c4], _ => exact ⟨c0, c1, c2, c3, c4, rfl⟩
theorem cellsB2 : Tryz.prog.cellsOf 2 = 1 := by kernel_rfl
theorem cellsB3 : Tryz.prog.cellsOf 3 = 1 := by kernel_rfl
theorem cellsB9 : Tryz.prog.cellsOf 9 = 1 := by kernel_rfl
theorem cellsBOp : Tryz.prog.cellsOf 30 = 5 := by kernel_rfl
set_option maxRecDepth 100000 in
theorem open_bop_cells {H : Type} {enc : TypeId × Value → H} {W : World} {cs : List Value} {x : DataW H × List MemPlace} {fuel : Nat} (hl : cs.length = 5) (hf : DataW.trod enc Tryz.prog W 0 (fun _ => true) true fuel 30 cs = some x) :
    ∃ o : OpB, cs = o.cells ∧ o.ok := by
  obtain ⟨c0, c1, c2, c3, c4, rfl⟩ := list5 hl
  obtain ⟨xs, n, _, hx, _, hlen, hfld⟩ := DataW.trod_struct Tryz.underlying30 hf
  obtain ⟨y0, y1, y2, y3, y4, rfl⟩ := list5 (hlen.trans (by rfl))
  have g0 := hfld 0 _ rfl
  have g1 := hfld 1 _ rfl
  have g2 := hfld 2 _ rfl
  have g3 := hfld 3 _ rfl
  have g4 := hfld 4 _ rfl
  simp [cellsB2, cellsB3, cellsB9] at g0 g1 g2 g3 g4
  obtain ⟨k0, e0, _, w0⟩ := DataW.trod_int Tryz.underlying3 g0
  obtain ⟨s1, e1, _, z1⟩ := DataW.trod_string Tryz.underlying9 g1
  obtain ⟨s2, e2, _, z2⟩ := DataW.trod_string Tryz.underlying9 g2
  obtain ⟨k3, e3, _, w3⟩ := DataW.trod_int Tryz.underlying2 g3
  obtain ⟨k4, e4, _, w4⟩ := DataW.trod_int Tryz.underlying3 g4
  simp only [List.cons.injEq, and_true] at e0 e1 e2 e3 e4
  subst e0 e1 e2 e3 e4
  exact ⟨⟨k0, s1, s2, k3, k4⟩, rfl, ⟨i64_wfB w0, i64_wfB w3, i64_wfB w4, z1, z2⟩⟩
set_option maxRecDepth 100000 in
/-- One operation that came in. -/
theorem open_bop {H : Type} {enc : TypeId × Value → H} {W : World} {v : Value} {d : DataW H} {p : List MemPlace} {base : Nat} (hv : Value.okWide Tryz.prog W .any base 30 v) (h : DataW.Trod enc Tryz.prog W 0 (fun _ => true) true 30 v d p) :
    ∃ o : OpB, v = .agg #[.int .i64 o.k, .string o.nm, .string o.by_, .int .i64 o.n, .int .i64 o.slot] ∧ o.ok := by
  obtain ⟨cs, rfl, hsz⟩ := okWide_struct Tryz.underlying30 hv
  obtain ⟨fuel, hf⟩ := h
  have hl : cs.toList.length = 5 := by rw [Array.length_toList]; exact hsz.trans (by kernel_rfl)
  obtain ⟨o, e, ho⟩ := open_bop_cells (cs := cs.toList) hl hf
  exact ⟨o, by rw [show cs = (OpB.cells o).toArray by rw [← e]]; rfl, ho⟩
set_option maxRecDepth 100000 in
/-- A script that came in. -/
theorem open_bops {H : Type} {enc : TypeId × Value → H} {W : World} {v : Value} {d : DataW H} {p : List MemPlace} {base : Nat} (hv : Value.okWide Tryz.prog W .any base 22 v) (h : DataW.Trod enc Tryz.prog W 0 (fun _ => true) true 22 v d p) :
    ∃ (a : Option Addr) (len cap : Nat) (os : List OpB), v = .slice a len cap ∧ OpsB W a len os ∧ len ≤ maxLen := by
  obtain ⟨a, len, cap, rfl⟩ := okWide_slice Tryz.underlying22 hv
  obtain ⟨fuel, hf⟩ := h
  rcases open_slice Tryz.underlying22 hf with ⟨hcs, _⟩ | ⟨x, ln, c, m, n, D, Pl, hcs, _, hl, hm, hmm, hx, hcell⟩
  · simp [Value.cells] at hcs
    obtain ⟨rfl, rfl, rfl⟩ := hcs
    exact ⟨none, 0, 0, [], rfl, ⟨rfl, by simp, .inl rfl⟩, Nat.zero_le _⟩
  · simp [Value.cells] at hcs
    obtain ⟨rfl, rfl, rfl⟩ := hcs
    have hlm : len ≤ m := by rw [hmm]; simpa using hl
    rw [cellsBOp] at hcell
    have each2 : ∀ i : Nat, ∃ o : OpB, i < len → o.ok ∧ W.cells? 0 (x.add (i * 5)) 5 = some o.cells := fun i => by
      by_cases hi : i < len
      · obtain ⟨cs, h1, h2⟩ := hcell i (by omega)
        obtain ⟨_, hlen, _⟩ := World.cells?_some h1
        obtain ⟨o, e, ho⟩ := open_bop_cells hlen h2
        rw [e] at h1
        exact ⟨o, fun _ => ⟨ho, h1⟩⟩
      · exact ⟨⟨0, ⟨#[]⟩, ⟨#[]⟩, 0, 0⟩, fun h => absurd h hi⟩
    obtain ⟨f, hfn⟩ : ∃ f : Nat → OpB, ∀ i, i < len → (f i).ok ∧ W.cells? 0 (x.add (i * 5)) 5 = some (f i).cells := ⟨fun i => Classical.choose (each2 i), fun i => Classical.choose_spec (each2 i)⟩
    refine ⟨some x, len, cap, (List.range len).map f, rfl, ⟨by simp, fun o ho => ?_, ?_⟩, by omega⟩
    · obtain ⟨i, hi, rfl⟩ := List.mem_map.1 ho
      exact (hfn i (List.mem_range.1 hi)).1
    by_cases h0 : len = 0
    · exact .inl h0
    · have cellsAt : ∀ i, i < len → ∀ j v, j < 5 → (f i).cells[j]? = some v → W.cell? ((x.add (i * 5)).add j) = some v := fun i hi j v hj hv => by
        obtain ⟨_, _, hc⟩ := World.cells?_some (hfn i hi).2
        have := hc j (by simpa [OpB.cells] using hj)
        rw [← hv]
        simpa using this
      obtain ⟨b, off, spot⟩ := x
      have hc0 := cellsAt 0 (by omega) 0 _ (by omega) rfl
      have hspot : spot = none := by simpa [Addr.add] using World.cell?_spot hc0
      subst hspot
      refine .inr ⟨b, off, rfl, ?_, fun j hj => ?_⟩
      · have := World.block_lt_of_cell? W _ hc0
        rw [Addr.add_lit, Addr.add_lit] at this
        exact this
      have hj1 : j < len := by simpa using hj
      have hadd : ∀ k, ((⟨b, off, none⟩ : Addr).add (j * 5)).add k = ⟨b, off + j * 5 + k, none⟩ := fun k => by rw [Addr.add_lit, Addr.add_lit]
      have q0 := cellsAt j hj1 0 _ (by omega) rfl
      have q1 := cellsAt j hj1 1 _ (by omega) rfl
      have q2 := cellsAt j hj1 2 _ (by omega) rfl
      have q3 := cellsAt j hj1 3 _ (by omega) rfl
      have q4 := cellsAt j hj1 4 _ (by omega) rfl
      rw [hadd] at q0 q1 q2 q3 q4
      simp only [List.getElem_map, List.getElem_range]
      exact ⟨q0, q1, q2, q3, q4⟩
end Go.Proofs.YtdchnfggmkokhaaGreatDoor
