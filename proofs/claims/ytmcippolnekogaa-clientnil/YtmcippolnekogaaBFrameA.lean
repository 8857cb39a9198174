/- An operation (package api) that came in, opened. -/
import Derived.Test.YtmcippolnekogaaBPlain
import Derived.Lib.SmallJoins
import Derived.Deep.SlicePairs
namespace Go.Proofs.Ytmcippolnekogaa
open Go.ChangeShapes Go.WideShapes Go.ChangeAt Go.RowKit Go.Deep Go.Joins
set_option linter.unusedVariables false

/-- An operation. -/
structure OpA where
  k : Int
  fr : ByteArray
  to_ : ByteArray
  am : Int
  ky : ByteArray
  sl : Int
  sh : Int
def OpA.cells (o : OpA) : List Value := [.int .i64 o.k, .string o.fr, .string o.to_, .int .i64 o.am, .string o.ky, .int .i64 o.sl, .int .i64 o.sh]
/-- What can be of its parts. -/
structure OpA.ok (o : OpA) : Prop where
  k : -9223372036854775808 ≤ o.k ∧ o.k ≤ 9223372036854775807
  am : -9223372036854775808 ≤ o.am ∧ o.am ≤ 9223372036854775807
  sl : -9223372036854775808 ≤ o.sl ∧ o.sl ≤ 9223372036854775807
  sh : -9223372036854775808 ≤ o.sh ∧ o.sh ≤ 9223372036854775807
  fr : o.fr.size ≤ maxLen
  to_ : o.to_.size ≤ maxLen
  ky : o.ky.size ≤ maxLen
theorem list7a {α : Type} {l : List α} (h : l.length = 7) : ∃ c0 c1 c2 c3 c4 c5 c6, l = [c0, c1, c2, c3, c4, c5, c6] := by
  match l, h with
  | [c0, c1, c2, c3, c4, c5, c6], _ => exact ⟨c0, c1, c2, c3, c4, c5, c6, rfl⟩
theorem cellsA2 : Try.prog.cellsOf 2 = 1 := by kernel_rfl
theorem cellsA3 : Try.prog.cellsOf 3 = 1 := by kernel_rfl
theorem cellsA9 : Try.prog.cellsOf 9 = 1 := by kernel_rfl
set_option maxRecDepth 100000 in
theorem open_aop_cells {H : Type} {enc : TypeId × Value → H} {W : World} {cs : List Value} {x : DataW H × List MemPlace} {fuel : Nat} (hl : cs.length = 7) (hf : DataW.trod enc Try.prog W 0 (fun _ => true) true fuel 23 cs = some x) :
    ∃ o : OpA, cs = o.cells ∧ o.ok := by
  obtain ⟨c0, c1, c2, c3, c4, c5, c6, rfl⟩ := list7a hl
  obtain ⟨xs, n, _, hx, _, hlen, hfld⟩ := DataW.trod_struct Try.underlying23 hf
  obtain ⟨y0, y1, y2, y3, y4, y5, y6, rfl⟩ := list7a (hlen.trans (by rfl))
  have g0 := hfld 0 _ rfl
  have g1 := hfld 1 _ rfl
  have g2 := hfld 2 _ rfl
  have g3 := hfld 3 _ rfl
  have g4 := hfld 4 _ rfl
  have g5 := hfld 5 _ rfl
  have g6 := hfld 6 _ rfl
  simp [cellsA2, cellsA3, cellsA9] at g0 g1 g2 g3 g4 g5 g6
  obtain ⟨k0, e0, _, w0⟩ := DataW.trod_int Try.underlying3 g0
  obtain ⟨s1, e1, _, z1⟩ := DataW.trod_string Try.underlying9 g1
  obtain ⟨s2, e2, _, z2⟩ := DataW.trod_string Try.underlying9 g2
  obtain ⟨k3, e3, _, w3⟩ := DataW.trod_int Try.underlying2 g3
  obtain ⟨s4, e4, _, z4⟩ := DataW.trod_string Try.underlying9 g4
  obtain ⟨k5, e5, _, w5⟩ := DataW.trod_int Try.underlying3 g5
  obtain ⟨k6, e6, _, w6⟩ := DataW.trod_int Try.underlying3 g6
  simp only [List.cons.injEq, and_true] at e0 e1 e2 e3 e4 e5 e6
  subst e0 e1 e2 e3 e4 e5 e6
  exact ⟨⟨k0, s1, s2, k3, s4, k5, k6⟩, rfl, ⟨wfI w0, wfI w3, wfI w5, wfI w6, z1, z2, z4⟩⟩
set_option maxRecDepth 100000 in
/-- One operation that came in. -/
theorem open_aop {H : Type} {enc : TypeId × Value → H} {W : World} {v : Value} {d : DataW H} {p : List MemPlace} {base : Nat} (hv : Value.okWide Try.prog W .any base 23 v) (h : DataW.Trod enc Try.prog W 0 (fun _ => true) true 23 v d p) :
    ∃ o : OpA, v = .agg #[.int .i64 o.k, .string o.fr, .string o.to_, .int .i64 o.am, .string o.ky, .int .i64 o.sl, .int .i64 o.sh] ∧ o.ok := by
  obtain ⟨cs, rfl, hsz⟩ := okWide_struct Try.underlying23 hv
  obtain ⟨fuel, hf⟩ := h
  have hl : cs.toList.length = 7 := by rw [Array.length_toList]; exact hsz.trans (by kernel_rfl)
  obtain ⟨o, e, ho⟩ := open_aop_cells (cs := cs.toList) hl hf
  exact ⟨o, by rw [show cs = (OpA.cells o).toArray by rw [← e]]; rfl, ho⟩
end Go.Proofs.Ytmcippolnekogaa
