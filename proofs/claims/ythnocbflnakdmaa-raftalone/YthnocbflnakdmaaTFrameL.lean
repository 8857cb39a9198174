/- Slices of bytes that came in, in a slice: opened. -/
import Derived.Test.YthnocbflnakdmaaLFrame
import Derived.Test.YthnocbflnakdmaaTLAt
import Derived.Deep.Slices
namespace Go.Proofs.Ythnocbflnakdmaa
open Go.ChangeShapes Go.WideShapes Go.ChangeAt Go.RowKit Go.Deep

theorem cellsOfBs : Try.prog.cellsOf 37 = 1 := by kernel_rfl
theorem bytesOfBs : Try.prog.bytesOf 37 = 24 := by kernel_rfl
set_option maxRecDepth 100000 in
/-- Bytes that lie in a cell. -/
theorem open_bytes_at {H : Type} {enc : TypeId × Value → H} {W : World} {v : Value} {x : DataW H × List MemPlace} {fuel : Nat} (hf : DataW.trod enc Try.prog W 0 (fun _ => true) true fuel 37 [v] = some x) : ∃ l a cap, v = .slice a (List.length l) cap ∧ Seen W a l.length l ∧ (a = none → cap = 0) := by
  rcases open_ints Try.underlying37 Try.underlying5 (by kernel_rfl) hf with ⟨hcs, _⟩ | ⟨x, l, c, zs, hcs, _, hl, hm, hz, hx, hcell, hwz⟩
  · simp only [List.cons.injEq, and_true] at hcs
    subst hcs
    exact ⟨[], none, 0, rfl, ⟨rfl, by simp, .inl rfl⟩, fun _ => rfl⟩
  · simp only [List.cons.injEq, and_true] at hcs
    subst hcs
    have hzc : zs.length = c := by simpa using hz
    have hll : ((zs.take l).map fun n : Int => BitVec.ofNat 8 n.toNat).length = l := by simp; omega
    refine ⟨(zs.take l).map fun n => BitVec.ofNat 8 n.toNat, some x, c, by rw [hll], ⟨rfl, by rw [hll]; omega, ?_⟩, fun e => by cases e⟩
    by_cases h0 : l = 0
    · exact .inl (by rw [hll]; exact h0)
    · obtain ⟨b, off, spot⟩ := x
      have hc0 := hcell 0 (by omega)
      have hspot : spot = none := by simpa [Addr.add] using World.cell?_spot hc0
      subst hspot
      refine .inr ⟨b, off, rfl, fun j hj => ?_⟩
      have hj1 : j < l := by rw [hll] at hj; exact hj
      have hj2 : j < zs.length := by omega
      have hcj := hcell j hj2
      have hadd : (⟨b, off, none⟩ : Addr).add j = ⟨b, off + j, none⟩ := by simp [Addr.add]
      rw [hadd] at hcj
      rw [hcj]
      have hwf := hwz zs[j] (List.getElem_mem hj2)
      have hbd : 0 ≤ zs[j] ∧ zs[j] ≤ 255 := by simpa [Lit.wf, IntKind.min, IntKind.max, IntKind.bits, IntKind.signed] using hwf
      have hg : ((zs.take l).map fun n : Int => BitVec.ofNat 8 n.toNat).getD j 0#8 = BitVec.ofNat 8 zs[j].toNat := by
        simp [hj1, hj2]
      rw [hg]
      have hV : V (BitVec.ofNat 8 zs[j].toNat) = zs[j] := by
        unfold V
        rw [BitVec.toNat_ofNat, Nat.mod_eq_of_lt (by omega)]
        omega
      rw [hV]
      simp [hj2]
set_option maxRecDepth 100000 in
/-- A slice of slices of bytes that came in. -/
theorem open_lists {H : Type} {enc : TypeId × Value → H} {W : World} {v : Value} {d : DataW H} {p : List MemPlace} {base : Nat} (hv : Value.okWide Try.prog W .any base 54 v) (h : DataW.Trod enc Try.prog W 0 (fun _ => true) true 54 v d p)
    {ts : List TypeId} {ds : List (DataW H)} (hsz : (DataW.weightsEach Try.prog ts ds).all (· ≤ reachBytes) = true) (j : Nat) (htj : ts[j]? = some 54) (hdj : ds[j]? = some d) :
    ∃ (a : Option Addr) (len cap : Nat) (ps : List (List (BitVec 8))), v = .slice a len cap ∧ LAtR W a len ps ∧ len ≤ 140737488355328 := by
  obtain ⟨a, len, cap, rfl⟩ := okWide_slice Try.underlying54 hv
  obtain ⟨fuel, hf⟩ := h
  rcases open_slice1 Try.underlying54 cellsOfBs hf with ⟨hcs, _⟩ | ⟨x, ln, c, m, n, V, D, Pl, hcs, _, hl, hm, hmm, hx, hcell⟩
  · simp [Value.cells] at hcs
    obtain ⟨rfl, rfl, rfl⟩ := hcs
    exact ⟨none, 0, 0, [], rfl, ⟨rfl, .inl rfl⟩, by omega⟩
  · simp [Value.cells] at hcs
    obtain ⟨rfl, rfl, rfl⟩ := hcs
    have hlm : len ≤ m := by rw [hmm]; simpa using hl
    have hd := congrArg Prod.fst hx
    simp only at hd
    have hlen2 : len ≤ 140737488355328 := by
      rw [hd] at hdj
      have := sized_slice hsz htj hdj Try.underlying54
      rw [bytesOfBs] at this
      simp at this
      unfold reachBytes at this
      omega
    have each2 : ∀ i : Nat, ∃ l : List (BitVec 8), i < len → ∃ a cap, V i = .slice a l.length cap ∧ Seen W a l.length l ∧ (a = none → cap = 0) := fun i => by
      by_cases hi : i < len
      · obtain ⟨l, hl⟩ := open_bytes_at (hcell i (by omega)).2
        exact ⟨l, fun _ => hl⟩
      · exact ⟨[], fun h => absurd h hi⟩
    obtain ⟨f, hfn⟩ : ∃ f : Nat → List (BitVec 8), ∀ i, i < len → ∃ a cap, V i = .slice a (f i).length cap ∧ Seen W a (f i).length (f i) ∧ (a = none → cap = 0) := ⟨fun i => Classical.choose (each2 i), fun i => Classical.choose_spec (each2 i)⟩
    refine ⟨some x, len, cap, (List.range len).map f, rfl, ⟨by simp, ?_⟩, hlen2⟩
    by_cases h0 : len = 0
    · exact .inl h0
    · obtain ⟨b, off, spot⟩ := x
      have hc0 := (hcell 0 (by omega)).1
      have hspot : spot = none := by simpa [Addr.add] using World.cell?_spot hc0
      subst hspot
      refine .inr ⟨b, off, rfl, fun j hj => ?_⟩
      have hj1 : j < len := by simpa using hj
      obtain ⟨a', c', e1, e2, e3⟩ := hfn j hj1
      have hcj := (hcell j (by omega)).1
      have hadd : (⟨b, off, none⟩ : Addr).add j = ⟨b, off + j, none⟩ := by simp [Addr.add]
      rw [hadd, e1] at hcj
      exact ⟨a', c', by simpa using hcj, by simpa using e2, e3⟩
end Go.Proofs.Ythnocbflnakdmaa
