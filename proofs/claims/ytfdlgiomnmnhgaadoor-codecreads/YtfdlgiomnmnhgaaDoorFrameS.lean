/- Operations and answers that came in: structs, opened. -/
import Derived.Test.YtfdlgiomnmnhgaaDoorFrame
import Derived.Test.YtfdlgiomnmnhgaaDoorPutReply
import Derived.Lib.SmallJoins
import Derived.Deep.SlicePairs
namespace Go.Proofs.YtfdlgiomnmnhgaaDoor
open Go.ChangeShapes Go.WideShapes Go.ChangeAt Go.RowKit Go.Deep Go.Joins

theorem i64_of_wf {z : Int} (h : (Lit.int .i64 z).wf = true) : i64ok z := by
  have hbd : -9223372036854775808 ≤ z ∧ z ≤ 9223372036854775807 := by simpa [Lit.wf, IntKind.min, IntKind.max, IntKind.bits, IntKind.signed] using h
  exact ⟨hbd.1, by omega⟩
theorem array7 {α : Type} {cs : Array α} (h : cs.size = 7) : ∃ c0 c1 c2 c3 c4 c5 c6, cs = #[c0, c1, c2, c3, c4, c5, c6] := by
  obtain ⟨l⟩ := cs
  match l, h with
  | [c0, c1, c2, c3, c4, c5, c6], _ => exact ⟨c0, c1, c2, c3, c4, c5, c6, rfl⟩
theorem list7 {α : Type} {l : List α} (h : l.length = 7) : ∃ c0 c1 c2 c3 c4 c5 c6, l = [c0, c1, c2, c3, c4, c5, c6] := by
  match l, h with
  | [c0, c1, c2, c3, c4, c5, c6], _ => exact ⟨c0, c1, c2, c3, c4, c5, c6, rfl⟩
theorem cellsOf2 : Tryd.prog.cellsOf 2 = 1 := by kernel_rfl
theorem cellsOf3 : Tryd.prog.cellsOf 3 = 1 := by kernel_rfl
theorem cellsOf9 : Tryd.prog.cellsOf 9 = 1 := by kernel_rfl
set_option maxRecDepth 100000 in
/-- An operation that came in. -/
theorem open_op {H : Type} {enc : TypeId × Value → H} {W : World} {v : Value} {d : DataW H} {p : List MemPlace} {base : Nat} (hv : Value.okWide Tryd.prog W .any base 25 v) (h : DataW.Trod enc Tryd.prog W 0 (fun _ => true) true 25 v d p) :
    ∃ o : OpD, v = o.val ∧ o.ok := by
  obtain ⟨cs, rfl, hsz⟩ := okWide_struct Tryd.underlying25 hv
  obtain ⟨c0, c1, c2, c3, c4, c5, c6, rfl⟩ := array7 (hsz.trans (by kernel_rfl))
  obtain ⟨fuel, hf⟩ := h
  obtain ⟨xs, n, _, hx, _, hlen, hfld⟩ := DataW.trod_struct Tryd.underlying25 hf
  obtain ⟨y0, y1, y2, y3, y4, y5, y6, rfl⟩ := list7 (hlen.trans (by rfl))
  have g0 := hfld 0 _ rfl
  have g1 := hfld 1 _ rfl
  have g2 := hfld 2 _ rfl
  have g3 := hfld 3 _ rfl
  have g4 := hfld 4 _ rfl
  have g5 := hfld 5 _ rfl
  have g6 := hfld 6 _ rfl
  simp [Value.cells, cellsOf2, cellsOf3, cellsOf9] at g0 g1 g2 g3 g4 g5 g6
  obtain ⟨k0, e0, _, w0⟩ := DataW.trod_int Tryd.underlying3 g0
  obtain ⟨s1, e1, _, _⟩ := DataW.trod_string Tryd.underlying9 g1
  obtain ⟨s2, e2, _, _⟩ := DataW.trod_string Tryd.underlying9 g2
  obtain ⟨k3, e3, _, w3⟩ := DataW.trod_int Tryd.underlying2 g3
  obtain ⟨s4, e4, _, _⟩ := DataW.trod_string Tryd.underlying9 g4
  obtain ⟨k5, e5, _, w5⟩ := DataW.trod_int Tryd.underlying3 g5
  obtain ⟨k6, e6, _, w6⟩ := DataW.trod_int Tryd.underlying3 g6
  simp only [List.cons.injEq, and_true] at e0 e1 e2 e3 e4 e5 e6
  subst e0 e1 e2 e3 e4 e5 e6
  exact ⟨⟨k0, s1, s2, k3, s4, k5, k6⟩, rfl, ⟨i64_of_wf w0, i64_of_wf w3, i64_of_wf w5, i64_of_wf w6⟩⟩
theorem oneReply : oneCellFields Tryd.prog (match Tryd.prog.underlying 29 with | some (.struct fs) => fs | _ => #[]) = true := by kernel_rfl
theorem bytesRow : Tryd.prog.bytesOf 75 = 24 := by kernel_rfl
set_option maxRecDepth 100000 in
/-- An answer that came in. -/
theorem open_reply {H : Type} {enc : TypeId × Value → H} {W : World} {v : Value} {d : DataW H} {p : List MemPlace} {base : Nat} (hv : Value.okWide Tryd.prog W .any base 29 v) (h : DataW.Trod enc Tryd.prog W 0 (fun _ => true) true 29 v d p)
    {ts : List TypeId} {ds : List (DataW H)} (hsz : (DataW.weightsEach Tryd.prog ts ds).all (· ≤ reachBytes) = true) (j : Nat) (htj : ts[j]? = some 29) (hdj : ds[j]? = some d) :
    ∃ (why amount : Int) (a : Option Addr) (n c : Nat) (rows : List (ByteArray × Int)), v = .agg #[.int .i64 why, .int .i64 amount, .slice a n c] ∧ i64ok why ∧ i64ok amount ∧ (∀ r ∈ rows, i64ok r.2) ∧ RowsAt W a n rows := by
  obtain ⟨v0, v1, v2, y0, y1, y2, n, rfl, rfl, _, t0, t1, t2⟩ := open_agg3 Tryd.underlying29 oneReply (by kernel_rfl) hv h
  obtain ⟨why, e0, _, w0⟩ := DataW.trod_int Tryd.underlying26 t0
  obtain ⟨amount, e1, _, w1⟩ := DataW.trod_int Tryd.underlying2 t1
  simp only [List.cons.injEq, and_true] at e0 e1
  subst e0 e1
  rcases open_slice_pairs Tryd.underlying27 Tryd.underlying75 (by kernel_rfl) rfl rfl cellsOf9 cellsOf2 t2 with ⟨hcs, _⟩ | ⟨x, len, cap, m, k, V0, V1, D0, D1, P0, P1, hcs, _, hlc, hcm, hm, hx, hcell⟩
  · simp only [List.cons.injEq, and_true] at hcs
    subst hcs
    exact ⟨why, amount, none, 0, 0, [], rfl, i64_of_wf w0, i64_of_wf w1, (fun r hr => by cases hr), rfl, by simp, .inl rfl⟩
  · simp only [List.cons.injEq, and_true] at hcs
    subst hcs
    have hlen : len ≤ 140737488355328 := by
      have hy : y2.1 = _ := congrArg Prod.fst hx
      have h1 := List.all_eq_true.1 hsz _ (DataW.weights_mem_each htj hdj _ (by
        rw [DataW.weights, Tryd.underlying29]
        exact DataW.weights_mem_each (j := 2) (t := 27) (d := y2.1) rfl rfl _ (by rw [hy, DataW.weights, Tryd.underlying27]; exact List.mem_cons_self)))
      rw [bytesRow] at h1
      simp at h1
      unfold reachBytes at h1
      omega
    have hlm : len ≤ m := by rw [hm]; simpa using hlc
    have each : ∀ i, i < len → ∃ (s : ByteArray) (z : Int), V0 i = .string s ∧ V1 i = .int .i64 z ∧ i64ok z := fun i hi => by
      obtain ⟨_, _, g0, g1⟩ := hcell i (by omega)
      obtain ⟨s, e0, _, _⟩ := DataW.trod_string Tryd.underlying9 g0
      obtain ⟨z, e1, _, wz⟩ := DataW.trod_int Tryd.underlying2 g1
      simp only [List.cons.injEq, and_true] at e0 e1
      exact ⟨s, z, e0, e1, i64_of_wf wz⟩
    let S : Nat → ByteArray := fun i => match V0 i with | .string s => s | _ => ByteArray.empty
    let Z : Nat → Int := fun i => match V1 i with | .int _ z => z | _ => 0
    refine ⟨why, amount, some x, len, cap, (List.range len).map fun i => (S i, Z i), rfl, i64_of_wf w0, i64_of_wf w1, ?_, by simp, by simpa using hlen, ?_⟩
    · intro r hr
      obtain ⟨i, hi, rfl⟩ := List.mem_map.1 hr
      obtain ⟨s, z, e0, e1, hz⟩ := each i (List.mem_range.1 hi)
      simp only [Z, e1]
      exact hz
    · by_cases h0 : len = 0
      · exact .inl h0
      · obtain ⟨b, off, spot⟩ := x
        have hc0 := (hcell 0 (by omega)).1
        have hspot : spot = none := by simpa [Addr.add] using World.cell?_spot hc0
        subst hspot
        refine .inr ⟨b, off, rfl, fun j hj => ?_⟩
        have hj1 : j < len := by simpa using hj
        obtain ⟨q0, q1, _, _⟩ := hcell j (by omega)
        obtain ⟨s, z, e0, e1, hz⟩ := each j hj1
        rw [Addr.add_lit] at q0 q1
        simp only [List.getElem_map, List.getElem_range, S, Z, e0, e1]
        rw [Nat.add_assoc]
        exact ⟨by rw [q0, e0], by rw [q1, e1]⟩
end Go.Proofs.YtfdlgiomnmnhgaaDoor
