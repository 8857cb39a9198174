/- A result that came in, opened. -/
import Derived.Test.YtogbcciocgpknaaTaO
import Derived.Test.YtogbcciocgpknaaTbA
import Derived.Lib.SmallJoins
import Derived.Deep.SlicePairs
namespace Go.Proofs.Ytogbcciocgpknaa
open Go.ChangeShapes Go.WideShapes Go.ChangeAt Go.RowKit Go.Deep Go.Joins
set_option linter.unusedVariables false

def i64okX (n : Int) : Prop := -9223372036854775808 ≤ n ∧ n < 9223372036854775808
theorem i64_wfX2 {z : Int} (h : (Lit.int .i64 z).wf = true) : i64okX z := by
  have hbd : -9223372036854775808 ≤ z ∧ z ≤ 9223372036854775807 := by simpa [Lit.wf, IntKind.min, IntKind.max, IntKind.bits, IntKind.signed] using h
  exact ⟨hbd.1, by omega⟩
theorem bytesRowX : Try.prog.bytesOf 62 = 24 := by kernel_rfl
set_option maxRecDepth 100000 in
/-- Rows that lie in a cell. -/
theorem open_rowsX {H : Type} {enc : TypeId × Value → H} {W : World} {v : Value} {x : DataW H × List MemPlace} {fuel : Nat} (hf : DataW.trod enc Try.prog W 0 (fun _ => true) true fuel 30 [v] = some x) (hw : ∀ n ∈ x.1.weights Try.prog 30, n ≤ reachBytes) :
    ∃ (a : Option Addr) (c : Nat) (rows : List (ByteArray × Int)), v = .slice a rows.length c ∧ RowsX W a rows.length rows ∧ (∀ r ∈ rows, i64okX r.2) ∧ (a = none → c = 0) ∧ rows.length * 24 ≤ 140737488355328 := by
  rcases open_slice_pairs Try.underlying30 Try.underlying62 (by kernel_rfl) rfl rfl cellsM9 cellsM2 hf with ⟨hcs, _⟩ | ⟨y, len, cap, m, k, V0, V1, D0, D1, P0, P1, hcs, _, hlc, hcm, hm, hx, hcell⟩
  · simp only [List.cons.injEq, and_true] at hcs
    subst hcs
    exact ⟨none, 0, [], rfl, ⟨rfl, by simp, .inl rfl⟩, (fun r hr => by cases hr), (fun _ => rfl), by simp⟩
  · simp only [List.cons.injEq, and_true] at hcs
    subst hcs
    have hlen : len * 24 ≤ 140737488355328 := by
      have hy : x.1 = _ := congrArg Prod.fst hx
      have h1 := hw _ (by rw [hy, DataW.weights, Try.underlying30]; exact List.mem_cons_self)
      rw [bytesRowX] at h1
      simp at h1
      unfold reachBytes at h1
      omega
    have hlm : len ≤ m := by rw [hm]; simpa using hlc
    have each : ∀ i, i < len → ∃ (s : ByteArray) (z : Int), V0 i = .string s ∧ V1 i = .int .i64 z ∧ i64okX z := fun i hi => by
      obtain ⟨_, _, g0, g1⟩ := hcell i (by omega)
      obtain ⟨s, e0, _, _⟩ := DataW.trod_string Try.underlying9 g0
      obtain ⟨z, e1, _, wz⟩ := DataW.trod_int Try.underlying2 g1
      simp only [List.cons.injEq, and_true] at e0 e1
      exact ⟨s, z, e0, e1, i64_wfX2 wz⟩
    let S : Nat → ByteArray := fun i => match V0 i with | .string s => s | _ => ByteArray.empty
    let Z : Nat → Int := fun i => match V1 i with | .int _ z => z | _ => 0
    have hll : ((List.range len).map fun i => (S i, Z i)).length = len := by simp
    refine ⟨some y, cap, (List.range len).map fun i => (S i, Z i), by rw [hll], ⟨rfl, by rw [hll]; omega, ?_⟩, ?_, (fun e => by cases e), by rw [hll]; exact hlen⟩
    · by_cases h0 : len = 0
      · exact .inl (by rw [hll]; exact h0)
      · obtain ⟨b, off, spot⟩ := y
        have hc0 := (hcell 0 (by omega)).1
        have hspot : spot = none := by simpa [Addr.add] using World.cell?_spot hc0
        subst hspot
        refine .inr ⟨b, off, rfl, fun j hj => ?_⟩
        have hj1 : j < len := by simpa using hj
        obtain ⟨q0, q1, _, _⟩ := hcell j (by omega)
        obtain ⟨s, z, e0, e1, hz⟩ := each j hj1
        rw [Addr.add_lit] at q0 q1
        simp only [List.getElem_map, List.getElem_range, S, Z, e0, e1]
        rw [Nat.add_assoc]
        exact ⟨by rw [q0, e0], by rw [q1, e1]⟩
    · intro r hr
      obtain ⟨i, hi, rfl⟩ := List.mem_map.1 hr
      obtain ⟨s, z, e0, e1, hz⟩ := each i (List.mem_range.1 hi)
      simp only [Z, e1]
      exact hz
set_option maxRecDepth 100000 in
theorem open_repX {H : Type} {enc : TypeId × Value → H} {W : World} {cs : List Value} {x : DataW H × List MemPlace} {fuel : Nat} (hl : cs.length = 3) (hf : DataW.trod enc Try.prog W 0 (fun _ => true) true fuel 32 cs = some x) (hw : ∀ n ∈ x.1.weights Try.prog 32, n ≤ reachBytes) :
    ∃ (why amount : Int) (a : Option Addr) (c : Nat) (rows : List (ByteArray × Int)), cs = [.int .i64 why, .int .i64 amount, .slice a rows.length c] ∧ i64okX why ∧ i64okX amount ∧ RowsX W a rows.length rows ∧ (∀ r ∈ rows, i64okX r.2) ∧ (a = none → c = 0) ∧ rows.length * 24 ≤ 140737488355328 := by
  obtain ⟨c0, c1, c2, rfl⟩ := listM3 hl
  obtain ⟨xs, n, _, hx, _, hlen, hfld⟩ := DataW.trod_struct Try.underlying32 hf
  obtain ⟨y0, y1, y2, rfl⟩ := listM3 (hlen.trans (by rfl))
  have g0 := hfld 0 _ rfl
  have g1 := hfld 1 _ rfl
  have g2 := hfld 2 _ rfl
  simp [cellsM2, cellsME, cellsMRw] at g0 g1 g2
  obtain ⟨k0, e0, _, w0⟩ := DataW.trod_int Try.underlying24 g0
  obtain ⟨k1, e1, _, w1⟩ := DataW.trod_int Try.underlying2 g1
  have hdd : x.1 = _ := congrArg Prod.fst hx
  simp only [List.map_cons, List.map_nil] at hdd
  obtain ⟨a, c, rows, e2, r1, r2, r3, r4⟩ := open_rowsX g2 (fun n hn => hw n (by
    rw [hdd, DataW.weights, Try.underlying32]
    exact DataW.weights_mem_each (j := 2) (t := 30) (d := y2.1) rfl rfl n hn))
  simp only [List.cons.injEq, and_true] at e0 e1
  subst e0 e1 e2
  exact ⟨k0, k1, a, c, rows, rfl, i64_wfX2 w0, i64_wfX2 w1, r1, r2, r3, r4⟩
set_option maxRecDepth 100000 in
theorem open_resX {H : Type} {enc : TypeId × Value → H} {W : World} {cs : List Value} {x : DataW H × List MemPlace} {fuel : Nat} (hl : cs.length = 6) (hf : DataW.trod enc Try.prog W 0 (fun _ => true) true fuel 34 cs = some x) (hw : ∀ n ∈ x.1.weights Try.prog 34, n ≤ reachBytes) : ∃ (rwhy : Int) (rwait : Bool) (rrw rra : Int) (qa : Option Addr) (qc : Nat) (rows : List (ByteArray × Int)) (ea : Option Addr) (ec : Nat) (el : List (BitVec 8)), cs = [.int .i64 rwhy, .bool rwait, .int .i64 rrw, .int .i64 rra, .slice qa rows.length qc, .slice ea el.length ec] ∧ Seen W ea el.length el ∧ (ea = none → ec = 0) ∧ el.length ≤ 140737488351232 ∧ RowsX W qa rows.length rows ∧ (qa = none → qc = 0) ∧ rows.length * 24 ≤ 140737488355328 := by
  obtain ⟨c0, c1, c2, c3, c4, c5, rfl⟩ := listM6 hl
  obtain ⟨xs, n, _, hx, _, hlen, hfld⟩ := DataW.trod_struct Try.underlying34 hf
  obtain ⟨y0, y1, y2, y3, rfl⟩ := listM4 (hlen.trans (by rfl))
  have g0 := hfld 0 _ rfl
  have g1 := hfld 1 _ rfl
  have g2 := hfld 2 _ rfl
  have g3 := hfld 3 _ rfl
  simp [cellsM4, cellsME, cellsMRp, cellsMB] at g0 g1 g2 g3
  obtain ⟨k0, e0, _, _⟩ := DataW.trod_int Try.underlying24 g0
  obtain ⟨k1, e1, _⟩ := DataW.trod_bool Try.underlying4 g1
  have hdd : x.1 = _ := congrArg Prod.fst hx
  simp only [List.map_cons, List.map_nil] at hdd
  obtain ⟨o0, o1, qa, qc, rows, e2, _, _, r1, _, r3, r4⟩ := open_repX rfl g2 (fun n hn => hw n (by
    rw [hdd, DataW.weights, Try.underlying34]
    exact DataW.weights_mem_each (j := 2) (t := 32) (d := y2.1) rfl rfl n hn))
  obtain ⟨dl, da, dc, e3, sd, nd, bd⟩ := open_bytesC g3 (fun n hn => hw n (by
    rw [hdd, DataW.weights, Try.underlying34]
    exact DataW.weights_mem_each (j := 3) (t := 25) (d := y3.1) rfl rfl n hn))
  simp only [List.cons.injEq, and_true] at e0 e1 e2
  obtain ⟨p0, p1, p2⟩ := e2
  subst e0 e1 p0 p1 p2 e3
  exact ⟨k0, k1, o0, o1, qa, qc, rows, da, dc, dl, rfl, sd, nd, bd, r1, r3, r4⟩
end Go.Proofs.Ytogbcciocgpknaa

namespace Go.Proofs.Ytogbcciocgpknaa
open Go.ChangeShapes Go.WideShapes Go.ChangeAt Go.RowKit Go.Deep Go.Joins
set_option linter.unusedVariables false

set_option maxRecDepth 100000 in
theorem open_askX {H : Type} {enc : TypeId × Value → H} {W : World} {v : Value} {d : DataW H} {p : List MemPlace} {base : Nat} (hv : Value.okWide Try.prog W .any base 29 v) (h : DataW.Trod enc Try.prog W 0 (fun _ => true) true 29 v d p)
    {ts : List TypeId} {ds : List (DataW H)} (hsz : (DataW.weightsEach Try.prog ts ds).all (· ≤ reachBytes) = true) (j : Nat) (htj : ts[j]? = some 29) (hdj : ds[j]? = some d) :
    ∃ (g k ok : Int) (of_ ot : ByteArray) (oa : Int) (oy : ByteArray) (os oh : Int) (id nm : ByteArray) (cn why slot cep at_ : Int) (last : Bool) (da : Option Addr) (dc : Nat) (dl : List (BitVec 8)), v = .agg #[.int .i64 g, .int .i64 k, .int .i64 ok, .string of_, .string ot, .int .i64 oa, .string oy, .int .i64 os, .int .i64 oh, .string id, .string nm, .int .i64 cn, .int .i64 why, .int .i64 slot, .int .i64 cep, .int .i64 at_, .bool last, .slice da dl.length dc] ∧ Seen W da dl.length dl ∧ (da = none → dc = 0) ∧ dl.length ≤ 140737488351232 := by
  obtain ⟨cs, rfl, hcz⟩ := okWide_struct Try.underlying29 hv
  obtain ⟨fuel, hf⟩ := h
  have hl : cs.toList.length = 18 := by rw [Array.length_toList]; exact hcz.trans (by kernel_rfl)
  obtain ⟨g, k, ok, of_, ot, oa, oy, os, oh, id, nm, cn, why, slot, cep, at_, last, da, dc, dl, e, s1, s2, s3⟩ := open_askC (cs := cs.toList) hl hf (fun n hn => by
    have := List.all_eq_true.1 hsz n (DataW.weights_mem_each htj hdj n hn)
    simpa using this)
  refine ⟨g, k, ok, of_, ot, oa, oy, os, oh, id, nm, cn, why, slot, cep, at_, last, da, dc, dl, ?_, s1, s2, s3⟩
  rw [show cs = cs.toList.toArray by simp, e]
set_option maxRecDepth 100000 in
theorem open_resV {H : Type} {enc : TypeId × Value → H} {W : World} {v : Value} {d : DataW H} {p : List MemPlace} {base : Nat} (hv : Value.okWide Try.prog W .any base 34 v) (h : DataW.Trod enc Try.prog W 0 (fun _ => true) true 34 v d p)
    {ts : List TypeId} {ds : List (DataW H)} (hsz : (DataW.weightsEach Try.prog ts ds).all (· ≤ reachBytes) = true) (j : Nat) (htj : ts[j]? = some 34) (hdj : ds[j]? = some d) :
    ∃ (rwhy : Int) (rwait : Bool) (rrw rra : Int) (qa : Option Addr) (qc : Nat) (rows : List (ByteArray × Int)) (ea : Option Addr) (ec : Nat) (el : List (BitVec 8)), v = .agg #[.int .i64 rwhy, .bool rwait, .int .i64 rrw, .int .i64 rra, .slice qa rows.length qc, .slice ea el.length ec] ∧ Seen W ea el.length el ∧ (ea = none → ec = 0) ∧ el.length ≤ 140737488351232 ∧ RowsX W qa rows.length rows ∧ (qa = none → qc = 0) ∧ rows.length * 24 ≤ 140737488355328 := by
  obtain ⟨cs, rfl, hcz⟩ := okWide_struct Try.underlying34 hv
  obtain ⟨fuel, hf⟩ := h
  have hl : cs.toList.length = 6 := by rw [Array.length_toList]; exact hcz.trans (by kernel_rfl)
  obtain ⟨rwhy, rwait, rrw, rra, qa, qc, rows, ea, ec, el, e, s1, s2, s3, s4, s5, s6⟩ := open_resX (cs := cs.toList) hl hf (fun n hn => by
    have := List.all_eq_true.1 hsz n (DataW.weights_mem_each htj hdj n hn)
    simpa using this)
  refine ⟨rwhy, rwait, rrw, rra, qa, qc, rows, ea, ec, el, ?_, s1, s2, s3, s4, s5, s6⟩
  rw [show cs = cs.toList.toArray by simp, e]
end Go.Proofs.Ytogbcciocgpknaa
