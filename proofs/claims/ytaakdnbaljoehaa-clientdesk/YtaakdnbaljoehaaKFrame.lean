/- Letters that came in, opened. -/
import Derived.Test.YtaakdnbaljoehaaMFrame
import Derived.Test.YtaakdnbaljoehaaKApart
import Derived.Lib.SmallJoins
import Derived.Deep.SlicePairs
namespace Go.Proofs.Ytaakdnbaljoehaa
open Go.ChangeShapes Go.WideShapes Go.ChangeAt Go.RowKit Go.Deep Go.Joins
set_option linter.unusedVariables false

theorem i64_wfK {z : Int} (h : (Lit.int .i64 z).wf = true) : i64ok z := by
  have hbd : -9223372036854775808 ≤ z ∧ z ≤ 9223372036854775807 := by simpa [Lit.wf, IntKind.min, IntKind.max, IntKind.bits, IntKind.signed] using h
  exact ⟨hbd.1, by omega⟩
theorem bytesRowK : Try.prog.bytesOf 59 = 24 := by kernel_rfl
set_option maxRecDepth 100000 in
/-- Rows that lie in a cell. -/
theorem open_rowsC {H : Type} {enc : TypeId × Value → H} {W : World} {v : Value} {x : DataW H × List MemPlace} {fuel : Nat} (hf : DataW.trod enc Try.prog W 0 (fun _ => true) true fuel 26 [v] = some x) (hw : ∀ n ∈ x.1.weights Try.prog 26, n ≤ reachBytes) :
    ∃ (a : Option Addr) (c : Nat) (rows : List (ByteArray × Int)), v = .slice a rows.length c ∧ RowsAt W a rows.length rows ∧ (∀ r ∈ rows, i64ok r.2) ∧ (a = none → c = 0) ∧ rows.length * 24 ≤ 140737488355328 := by
  rcases open_slice_pairs Try.underlying26 Try.underlying59 (by kernel_rfl) rfl rfl cellsM9 cellsM2 hf with ⟨hcs, _⟩ | ⟨y, len, cap, m, k, V0, V1, D0, D1, P0, P1, hcs, _, hlc, hcm, hm, hx, hcell⟩
  · simp only [List.cons.injEq, and_true] at hcs
    subst hcs
    exact ⟨none, 0, [], rfl, ⟨rfl, by simp, .inl rfl⟩, (fun r hr => by cases hr), (fun _ => rfl), by simp⟩
  · simp only [List.cons.injEq, and_true] at hcs
    subst hcs
    have hlen : len * 24 ≤ 140737488355328 := by
      have hy : x.1 = _ := congrArg Prod.fst hx
      have h1 := hw _ (by rw [hy, DataW.weights, Try.underlying26]; exact List.mem_cons_self)
      rw [bytesRowK] at h1
      simp at h1
      unfold reachBytes at h1
      omega
    have hlm : len ≤ m := by rw [hm]; simpa using hlc
    have each : ∀ i, i < len → ∃ (s : ByteArray) (z : Int), V0 i = .string s ∧ V1 i = .int .i64 z ∧ i64ok z := fun i hi => by
      obtain ⟨_, _, g0, g1⟩ := hcell i (by omega)
      obtain ⟨s, e0, _, _⟩ := DataW.trod_string Try.underlying9 g0
      obtain ⟨z, e1, _, wz⟩ := DataW.trod_int Try.underlying2 g1
      simp only [List.cons.injEq, and_true] at e0 e1
      exact ⟨s, z, e0, e1, i64_wfK wz⟩
    let S : Nat → ByteArray := fun i => match V0 i with | .string s => s | _ => ByteArray.empty
    let Z : Nat → Int := fun i => match V1 i with | .int _ z => z | _ => 0
    have hll : ((List.range len).map fun i => (S i, Z i)).length = len := by simp
    refine ⟨some y, cap, (List.range len).map fun i => (S i, Z i), by rw [hll], ⟨rfl, by rw [hll]; omega, ?_⟩, ?_, (fun e => by cases e), by rw [hll]; exact hlen⟩
    · by_cases h0 : len = 0
      · exact .inl (by rw [hll]; exact h0)
      · obtain ⟨b, off, spot⟩ := y
        have hc0 := (hcell 0 (by omega)).1
        have hspot : spot = none := by simpa [Addr.add] using World.cell?_spot hc0
        subst hspot
        refine .inr ⟨b, off, rfl, fun j hj => ?_⟩
        have hj1 : j < len := by simpa using hj
        obtain ⟨q0, q1, _, _⟩ := hcell j (by omega)
        obtain ⟨s, z, e0, e1, hz⟩ := each j hj1
        rw [Addr.add_lit] at q0 q1
        simp only [List.getElem_map, List.getElem_range, S, Z, e0, e1]
        rw [Nat.add_assoc]
        exact ⟨by rw [q0, e0], by rw [q1, e1]⟩
    · intro r hr
      obtain ⟨i, hi, rfl⟩ := List.mem_map.1 hr
      obtain ⟨s, z, e0, e1, hz⟩ := each i (List.mem_range.1 hi)
      simp only [Z, e1]
      exact hz
set_option maxRecDepth 100000 in
theorem open_opD {H : Type} {enc : TypeId × Value → H} {W : World} {cs : List Value} {x : DataW H × List MemPlace} {fuel : Nat} (hl : cs.length = 7) (hf : DataW.trod enc Try.prog W 0 (fun _ => true) true fuel 23 cs = some x) : ∃ o : OpD, o.ok ∧ cs = [.int .i64 o.kind, .string o.src, .string o.dst, .int .i64 o.amount, .string o.key, .int .i64 o.slot, .int .i64 o.shard] := by
  obtain ⟨c0, c1, c2, c3, c4, c5, c6, rfl⟩ := listM7 hl
  obtain ⟨xs, n, _, hx, _, hlen, hfld⟩ := DataW.trod_struct Try.underlying23 hf
  obtain ⟨y0, y1, y2, y3, y4, y5, y6, rfl⟩ := listM7 (hlen.trans (by rfl))
  have g0 := hfld 0 _ rfl
  have g1 := hfld 1 _ rfl
  have g2 := hfld 2 _ rfl
  have g3 := hfld 3 _ rfl
  have g4 := hfld 4 _ rfl
  have g5 := hfld 5 _ rfl
  have g6 := hfld 6 _ rfl
  simp [cellsM2, cellsM3, cellsM9] at g0 g1 g2 g3 g4 g5 g6
  obtain ⟨k0, e0, _, w0⟩ := DataW.trod_int Try.underlying3 g0
  obtain ⟨k1, e1, _, _⟩ := DataW.trod_string Try.underlying9 g1
  obtain ⟨k2, e2, _, _⟩ := DataW.trod_string Try.underlying9 g2
  obtain ⟨k3, e3, _, w3⟩ := DataW.trod_int Try.underlying2 g3
  obtain ⟨k4, e4, _, _⟩ := DataW.trod_string Try.underlying9 g4
  obtain ⟨k5, e5, _, w5⟩ := DataW.trod_int Try.underlying3 g5
  obtain ⟨k6, e6, _, w6⟩ := DataW.trod_int Try.underlying3 g6
  simp only [List.cons.injEq, and_true] at e0 e1 e2 e3 e4 e5 e6
  subst e0 e1 e2 e3 e4 e5 e6
  exact ⟨⟨k0, k1, k2, k3, k4, k5, k6⟩, ⟨i64_wfK w0, i64_wfK w3, i64_wfK w5, i64_wfK w6⟩, rfl⟩
set_option maxRecDepth 100000 in
theorem open_repD {H : Type} {enc : TypeId × Value → H} {W : World} {cs : List Value} {x : DataW H × List MemPlace} {fuel : Nat} (hl : cs.length = 3) (hf : DataW.trod enc Try.prog W 0 (fun _ => true) true fuel 28 cs = some x) (hw : ∀ n ∈ x.1.weights Try.prog 28, n ≤ reachBytes) :
    ∃ (why amount : Int) (a : Option Addr) (c : Nat) (rows : List (ByteArray × Int)), cs = [.int .i64 why, .int .i64 amount, .slice a rows.length c] ∧ i64ok why ∧ i64ok amount ∧ RowsAt W a rows.length rows ∧ (∀ r ∈ rows, i64ok r.2) ∧ (a = none → c = 0) ∧ rows.length * 24 ≤ 140737488355328 := by
  obtain ⟨c0, c1, c2, rfl⟩ := listM3 hl
  obtain ⟨xs, n, _, hx, _, hlen, hfld⟩ := DataW.trod_struct Try.underlying28 hf
  obtain ⟨y0, y1, y2, rfl⟩ := listM3 (hlen.trans (by rfl))
  have g0 := hfld 0 _ rfl
  have g1 := hfld 1 _ rfl
  have g2 := hfld 2 _ rfl
  simp [cellsM2, cellsME, cellsMRw] at g0 g1 g2
  obtain ⟨k0, e0, _, w0⟩ := DataW.trod_int Try.underlying25 g0
  obtain ⟨k1, e1, _, w1⟩ := DataW.trod_int Try.underlying2 g1
  have hdd : x.1 = _ := congrArg Prod.fst hx
  simp only [List.map_cons, List.map_nil] at hdd
  obtain ⟨a, c, rows, e2, r1, r2, r3, r4⟩ := open_rowsC g2 (fun n hn => hw n (by
    rw [hdd, DataW.weights, Try.underlying28]
    exact DataW.weights_mem_each (j := 2) (t := 26) (d := y2.1) rfl rfl n hn))
  simp only [List.cons.injEq, and_true] at e0 e1
  subst e0 e1 e2
  exact ⟨k0, k1, a, c, rows, rfl, i64_wfK w0, i64_wfK w1, r1, r2, r3, r4⟩
theorem listM14 {α : Type} {l : List α} (h : l.length = 14) : ∃ c0 c1 c2 c3 c4 c5 c6 c7 c8 c9 c10 c11 c12 c13, l = [c0, c1, c2, c3, c4, c5, c6, c7, c8, c9, c10, c11, c12, c13] := by
  match l, h with
  | [c0, c1, c2, c3, c4, c5, c6, c7, c8, c9, c10, c11, c12, c13], _ => exact ⟨c0, c1, c2, c3, c4, c5, c6, c7, c8, c9, c10, c11, c12, c13, rfl⟩
set_option maxRecDepth 100000 in
/-- A letter that came in. -/
theorem open_let {H : Type} {enc : TypeId × Value → H} {W : World} {v : Value} {d : DataW H} {p : List MemPlace} {base : Nat} (hv : Value.okWide Try.prog W .any base 43 v) (h : DataW.Trod enc Try.prog W 0 (fun _ => true) true 43 v d p)
    {ts : List TypeId} {ds : List (DataW H)} (hsz : (DataW.weightsEach Try.prog ts ds).all (· ≤ reachBytes) = true) (j : Nat) (htj : ts[j]? = some 43) (hdj : ds[j]? = some d) :
    ∃ (x : LetD) (ra : Option Addr) (rc : Nat) (ba : Option Addr) (bc : Nat), v = .agg (x.v ra rc ba bc).cells ∧ LetIn W x ra rc ba bc := by
  obtain ⟨cs, rfl, hcz⟩ := okWide_struct Try.underlying43 hv
  obtain ⟨fuel, hf⟩ := h
  have hl : cs.toList.length = 14 := by rw [Array.length_toList]; exact hcz.trans (by kernel_rfl)
  have hw : ∀ n ∈ d.weights Try.prog 43, n ≤ reachBytes := fun n hn => by
    have := List.all_eq_true.1 hsz n (DataW.weights_mem_each htj hdj n hn)
    simpa using this
  obtain ⟨c0, c1, c2, c3, c4, c5, c6, c7, c8, c9, c10, c11, c12, c13, ec⟩ := listM14 hl
  have hf' : DataW.trod enc Try.prog W 0 (fun _ => true) true fuel 43 cs.toList = some (d, p) := hf
  rw [ec] at hf'
  obtain ⟨xs, n, _, hx, _, hlen, hfld⟩ := DataW.trod_struct Try.underlying43 hf'
  obtain ⟨y0, y1, y2, y3, y4, y5, rfl⟩ := listM6 (hlen.trans (by rfl))
  have g0 := hfld 0 _ rfl
  have g1 := hfld 1 _ rfl
  have g2 := hfld 2 _ rfl
  have g3 := hfld 3 _ rfl
  have g4 := hfld 4 _ rfl
  have g5 := hfld 5 _ rfl
  simp [cellsM2, cellsM3, cellsMAO, cellsMRp, cellsMB] at g0 g1 g2 g3 g4 g5
  obtain ⟨k0, e0, _, w0⟩ := DataW.trod_int Try.underlying3 g0
  obtain ⟨k1, e1, _, w1⟩ := DataW.trod_int Try.underlying2 g1
  obtain ⟨k2, e2, _, w2⟩ := DataW.trod_int Try.underlying3 g2
  obtain ⟨o, oo, e3⟩ := open_opD rfl g3
  have hdd : d = _ := congrArg Prod.fst hx
  simp only [List.map_cons, List.map_nil] at hdd
  obtain ⟨why, amount, ra, rc, rows, e4, r1, r2, r3, r4, r5, r6⟩ := open_repD rfl g4 (fun n hn => hw n (by
    rw [hdd, DataW.weights, Try.underlying43]
    exact DataW.weights_mem_each (j := 4) (t := 28) (d := y4.1) rfl rfl n hn))
  obtain ⟨body, ba, bc, e5, sd, nd, bd⟩ := open_bytesC g5 (fun n hn => hw n (by
    rw [hdd, DataW.weights, Try.underlying43]
    exact DataW.weights_mem_each (j := 5) (t := 41) (d := y5.1) rfl rfl n hn))
  simp only [List.cons.injEq, and_true] at e0 e1 e2 e3 e4
  refine ⟨⟨k0, k1, k2, o, why, amount, rows, body⟩, ra, rc, ba, bc, ?_, ⟨i64_wfK w0, i64_wfK w1, i64_wfK w2, oo, r1, r2, r4⟩, ⟨r3, sd, nd⟩, r5, r6, by simp only; omega⟩
  have : cs = #[c0, c1, c2, c3, c4, c5, c6, c7, c8, c9, c10, c11, c12, c13] := by cases cs; simp_all
  rw [this, e0, e1, e2, e3.1, e3.2.1, e3.2.2.1, e3.2.2.2.1, e3.2.2.2.2.1, e3.2.2.2.2.2.1, e3.2.2.2.2.2.2, e4.1, e4.2.1, e4.2.2, e5]
  rfl
end Go.Proofs.Ytaakdnbaljoehaa
