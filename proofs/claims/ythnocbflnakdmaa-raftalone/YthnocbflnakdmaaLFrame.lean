/- Package rlog's rows: the frame; entries that came in. -/
import Derived.Test.YthnocbflnakdmaaLMem
import Derived.Test.YthnocbflnakdmaaRows
import Derived.ProofKit
import Derived.OpenShut
import Derived.ShutString
import Derived.ChangeOld
import Derived.SizedLaws
import Derived.Deep.Slices
import Derived.Deep.SlicePairs
namespace Go.Proofs.Ythnocbflnakdmaa
open Go.ChangeShapes Go.WideShapes Go.ChangeAt Go.RowKit Go.Deep
set_option linter.unusedVariables false

theorem own : ownKnob Try.prog.godebug = none := by kernel_rfl
theorem laidOut : laidOutB Try.prog = true := by kernel_rfl
theorem i64_lo {z : Int} (h : (Lit.int .i64 z).wf = true) : -9223372036854775808 ≤ z := by
  have hbd : -9223372036854775808 ≤ z ∧ z ≤ 9223372036854775807 := by simpa [Lit.wf, IntKind.min, IntKind.max, IntKind.bits, IntKind.signed] using h
  exact hbd.1
theorem i64_hi {z : Int} (h : (Lit.int .i64 z).wf = true) : z ≤ 9223372036854775807 := by
  have hbd : -9223372036854775808 ≤ z ∧ z ≤ 9223372036854775807 := by simpa [Lit.wf, IntKind.min, IntKind.max, IntKind.bits, IntKind.signed] using h
  exact hbd.2
theorem cellsOf2 : Try.prog.cellsOf 2 = 1 := by kernel_rfl
theorem cellsOfB : Try.prog.cellsOf 37 = 1 := by kernel_rfl
theorem bytesEntry : Try.prog.bytesOf 52 = 32 := by kernel_rfl
theorem bytes5 : Try.prog.bytesOf 5 = 1 := by kernel_rfl
theorem weightsAll_in {H : Type} {P : Program} {e : TypeId} : ∀ {l : List (DataW H)} {d : DataW H}, d ∈ l → ∀ n ∈ d.weights P e, n ∈ DataW.weightsAll P e l
  | x :: l, d, hd, n, hn => by
    rw [DataW.weightsAll]
    rcases List.mem_cons.1 hd with rfl | hd
    · exact List.mem_append_left _ hn
    · exact List.mem_append_right _ (weightsAll_in hd n hn)
set_option maxRecDepth 100000 in
/-- Bytes that lie in a cell. -/
theorem open_bytes_cell {H : Type} {enc : TypeId × Value → H} {W : World} {v : Value} {x : DataW H × List MemPlace} {fuel : Nat} (hf : DataW.trod enc Try.prog W 0 (fun _ => true) true fuel 37 [v] = some x) (hw : ∀ n ∈ x.1.weights Try.prog 37, n ≤ reachBytes) : ∃ l, BytesV W v l := by
  rcases open_ints Try.underlying37 Try.underlying5 (by kernel_rfl) hf with ⟨hcs, _⟩ | ⟨y, l, c, zs, hcs, _, hl, hm, hz, hx, hcell, hwz⟩
  · simp only [List.cons.injEq, and_true] at hcs
    subst hcs
    exact ⟨[], none, 0, rfl, ⟨rfl, by simp, .inl rfl⟩, (fun _ => rfl), by simp⟩
  · simp only [List.cons.injEq, and_true] at hcs
    subst hcs
    have hzc : zs.length = c := by simpa using hz
    have hll : ((zs.take l).map fun n : Int => BitVec.ofNat 8 n.toNat).length = l := by simp; omega
    have hb : c ≤ 140737488355328 := by
      have hd : x.1 = _ := congrArg Prod.fst hx
      have := hw ((lits .u8 (zs.take l)).length + (lits .u8 (zs.drop l)).length) (by
        rw [hd, DataW.weights, Try.underlying37]
        simp only [bytes5, Nat.mul_one]
        exact List.mem_cons_self)
      simp [lits] at this
      unfold reachBytes at this
      omega
    refine ⟨(zs.take l).map fun n => BitVec.ofNat 8 n.toNat, some y, c, by rw [hll], ⟨rfl, by rw [hll]; omega, ?_⟩, (fun e => by cases e), by rw [hll]; omega⟩
    by_cases h0 : l = 0
    · exact .inl (by rw [hll]; exact h0)
    · obtain ⟨b, off, spot⟩ := y
      have hc0 := hcell 0 (by omega)
      have hspot : spot = none := by simpa [Addr.add] using World.cell?_spot hc0
      subst hspot
      refine .inr ⟨b, off, rfl, fun j hj => ?_⟩
      have hj1 : j < l := by rw [hll] at hj; exact hj
      have hj2 : j < zs.length := by omega
      have hcj := hcell j hj2
      have hadd : (⟨b, off, none⟩ : Addr).add j = ⟨b, off + j, none⟩ := by simp [Addr.add]
      rw [hadd] at hcj
      rw [hcj]
      have hwf := hwz zs[j] (List.getElem_mem hj2)
      have hbd : 0 ≤ zs[j] ∧ zs[j] ≤ 255 := by simpa [Lit.wf, IntKind.min, IntKind.max, IntKind.bits, IntKind.signed] using hwf
      have hg : ((zs.take l).map fun n : Int => BitVec.ofNat 8 n.toNat).getD j 0#8 = BitVec.ofNat 8 zs[j].toNat := by
        simp [hj1, hj2]
      rw [hg]
      have hV : V (BitVec.ofNat 8 zs[j].toNat) = zs[j] := by
        unfold V
        rw [BitVec.toNat_ofNat, Nat.mod_eq_of_lt (by omega)]
        omega
      rw [hV]
      simp [hj2]
set_option maxRecDepth 100000 in
/-- Entries that came in. -/
theorem open_ents {H : Type} {enc : TypeId × Value → H} {W : World} {v : Value} {d : DataW H} {p : List MemPlace} {base : Nat} (hv : Value.okWide Try.prog W .any base 26 v) (h : DataW.Trod enc Try.prog W 0 (fun _ => true) true 26 v d p)
    {ts : List TypeId} {ds : List (DataW H)} (hsz : (DataW.weightsEach Try.prog ts ds).all (· ≤ reachBytes) = true) (j : Nat) (htj : ts[j]? = some 26) (hdj : ds[j]? = some d) :
    ∃ (a : Option Addr) (len cap : Nat) (l : List Ent), v = .slice a len cap ∧ EntsAt W a len l ∧ (a = none → cap = 0) ∧ len ≤ cap ∧ len ≤ 4398046511104 := by
  obtain ⟨a, len, cap, rfl⟩ := okWide_slice Try.underlying26 hv
  obtain ⟨fuel, hf⟩ := h
  rcases open_slice_pairs Try.underlying26 Try.underlying52 (by kernel_rfl) rfl rfl cellsOf2 cellsOfB hf with ⟨hcs, _⟩ | ⟨x, ln, cp, m, k, V0, V1, D0, D1, P0, P1, hcs, _, hlc, hcm, hm, hy, hcell⟩
  · simp [Value.cells] at hcs
    obtain ⟨rfl, rfl, rfl⟩ := hcs
    exact ⟨none, 0, 0, [], rfl, ⟨rfl, .inl rfl⟩, fun _ => rfl, Nat.le_refl _, by omega⟩
  · simp [Value.cells] at hcs
    obtain ⟨rfl, rfl, rfl⟩ := hcs
    have hdd : d = _ := congrArg Prod.fst hy
    have hlm : len ≤ m := by rw [hm]; simpa using hlc
    have hlen2 : len ≤ 4398046511104 := by
      rw [hdd] at hdj
      have := sized_slice hsz htj hdj Try.underlying26
      rw [bytesEntry] at this
      simp at this
      unfold reachBytes at this
      omega
    have hwd : ∀ i, i < len → ∀ n ∈ (D1 i).weights Try.prog 37, n ≤ reachBytes := fun i hi n hn => by
      have h1 : n ∈ d.weights Try.prog 26 := by
        rw [hdd, DataW.weights, Try.underlying26]
        refine List.mem_cons_of_mem _ (List.mem_append_left _ (weightsAll_in (d := .agg [D0 i, D1 i]) (List.mem_map.2 ⟨i, List.mem_range.2 hi, rfl⟩) n ?_))
        rw [DataW.weights, Try.underlying52]
        exact DataW.weights_mem_each (j := 1) (t := 37) (d := D1 i) rfl rfl n hn
      have := List.all_eq_true.1 hsz n (DataW.weights_mem_each htj hdj n h1)
      simpa using this
    have each2 : ∀ i : Nat, ∃ zl : Ent, i < len → V0 i = .int .i64 zl.1 ∧ BytesV W (V1 i) zl.2 := fun i => by
      by_cases hi : i < len
      · obtain ⟨_, _, q0, q1⟩ := hcell i (by omega)
        obtain ⟨z, e0, _, wz⟩ := DataW.trod_int Try.underlying2 q0
        obtain ⟨l, hl⟩ := open_bytes_cell q1 (hwd i hi)
        simp only [List.cons.injEq, and_true] at e0
        exact ⟨(z, l), fun _ => ⟨e0, hl⟩⟩
      · exact ⟨(0, []), fun h => absurd h hi⟩
    obtain ⟨f, hfn⟩ : ∃ f : Nat → Ent, ∀ i, i < len → V0 i = .int .i64 (f i).1 ∧ BytesV W (V1 i) (f i).2 := ⟨fun i => Classical.choose (each2 i), fun i => Classical.choose_spec (each2 i)⟩
    refine ⟨some x, len, cap, (List.range len).map f, rfl, ⟨by simp, ?_⟩, (fun e => by cases e), hlc, hlen2⟩
    by_cases h0 : len = 0
    · exact .inl h0
    · obtain ⟨b, off, spot⟩ := x
      have hc0 := (hcell 0 (by omega)).1
      have hspot : spot = none := by simpa [Addr.add] using World.cell?_spot hc0
      subst hspot
      refine .inr ⟨b, off, rfl, fun j hj => ?_⟩
      have hj1 : j < len := by simpa using hj
      obtain ⟨q0, q1, _, _⟩ := hcell j (by omega)
      obtain ⟨h1, h3⟩ := hfn j hj1
      rw [Addr.add_lit] at q0 q1
      simp only [List.getElem_map, List.getElem_range]
      rw [Nat.add_assoc]
      exact ⟨by rw [q0, h1], _, q1, h3⟩
end Go.Proofs.Ythnocbflnakdmaa
