/- Bytes that came in, opened, with the bound that the row's sizes give. -/
import Derived.Test.YtckldjiabalgbaaMem
import Derived.Test.YtckldjiabalgbaaBPlain
import Derived.Lib.SmallJoins
import Derived.Deep.SlicePairs
namespace Go.Proofs.Ytckldjiabalgbaa
open Go.ChangeShapes Go.WideShapes Go.ChangeAt Go.RowKit Go.Deep
set_option linter.unusedVariables false

set_option maxRecDepth 100000 in
theorem open_bytes {H : Type} {enc : TypeId × Value → H} {W : World} {v : Value} {d : DataW H} {p : List MemPlace} {base : Nat} (hv : Value.okWide Try.prog W .any base 34 v) (h : DataW.Trod enc Try.prog W 0 (fun _ => true) true 34 v d p) :
    ∃ (a : Option Addr) (len cap : Nat) (l : List (BitVec 8)), v = .slice a len cap ∧ Seen W a len l ∧ len ≤ cap ∧ (a = none → cap = 0) ∧ (cap = 0 ∨ ∃ es sp, d = .slice es sp ∧ es.length + sp.length = cap) := by
  obtain ⟨a, len, cap, rfl⟩ := okWide_slice Try.underlying34 hv
  obtain ⟨fuel, hf⟩ := h
  rcases open_ints Try.underlying34 Try.underlying5 (by kernel_rfl) hf with ⟨hcs, _⟩ | ⟨x, l, c, zs, hcs, _, hl, hm, hz, hx, hcell, hwz⟩
  · simp [Value.cells] at hcs
    obtain ⟨rfl, rfl, rfl⟩ := hcs
    exact ⟨none, 0, 0, [], rfl, ⟨rfl, by simp, .inl rfl⟩, Nat.le_refl _, fun _ => rfl, .inl rfl⟩
  · simp [Value.cells] at hcs
    obtain ⟨rfl, rfl, rfl⟩ := hcs
    have hzc : zs.length = cap := by simpa using hz
    have hd := congrArg Prod.fst hx
    refine ⟨some x, len, cap, (zs.take len).map fun n => BitVec.ofNat 8 n.toNat, rfl, ⟨by simp; omega, by simp; omega, ?_⟩, hl, (fun e => by cases e), .inr ⟨_, _, hd, by simp [lits]; omega⟩⟩
    by_cases h0 : len = 0
    · exact .inl h0
    · obtain ⟨b, off, spot⟩ := x
      have hc0 := hcell 0 (by omega)
      have hspot : spot = none := by simpa [Addr.add] using World.cell?_spot hc0
      subst hspot
      refine .inr ⟨b, off, rfl, fun j hj => ?_⟩
      have hj1 : j < len := by simp at hj; omega
      have hj2 : j < zs.length := by omega
      have hcj := hcell j hj2
      have hadd : (⟨b, off, none⟩ : Addr).add j = ⟨b, off + j, none⟩ := by simp [Addr.add]
      rw [hadd] at hcj
      rw [hcj]
      have hwf := hwz zs[j] (List.getElem_mem hj2)
      have hbd : 0 ≤ zs[j] ∧ zs[j] ≤ 255 := by simpa [Lit.wf, IntKind.min, IntKind.max, IntKind.bits, IntKind.signed] using hwf
      have hg : ((zs.take len).map fun n : Int => BitVec.ofNat 8 n.toNat).getD j 0#8 = BitVec.ofNat 8 zs[j].toNat := by
        simp [hj1, hj2]
      rw [hg]
      have hV : V (BitVec.ofNat 8 zs[j].toNat) = zs[j] := by
        unfold V
        rw [BitVec.toNat_ofNat, Nat.mod_eq_of_lt (by omega)]
        omega
      rw [hV]
      simp [hj2]
set_option maxRecDepth 100000 in
theorem open_bytesS {H : Type} {enc : TypeId × Value → H} {W : World} {v : Value} {d : DataW H} {p : List MemPlace} {base : Nat} (hv : Value.okWide Try.prog W .any base 34 v) (h : DataW.Trod enc Try.prog W 0 (fun _ => true) true 34 v d p)
    {ts : List TypeId} {ds : List (DataW H)} (hsz : (DataW.weightsEach Try.prog ts ds).all (· ≤ reachBytes) = true) (j : Nat) (htj : ts[j]? = some 34) (hdj : ds[j]? = some d) :
    ∃ (l : List (BitVec 8)) (a : Option Addr) (cap : Nat), v = .slice a l.length cap ∧ Seen W a l.length l ∧ l.length ≤ cap ∧ (a = none → cap = 0) ∧ cap ≤ 140737488351232 := by
  obtain ⟨a, len, cap, l, rfl, hs, hc, hn, hd⟩ := open_bytes hv h
  have e := hs.1
  subst e
  refine ⟨l, a, cap, rfl, hs, hc, hn, ?_⟩
  rcases hd with rfl | ⟨es, sp, rfl, e⟩
  · omega
  · have := List.all_eq_true.1 hsz (cap * 1) (DataW.weights_mem_each htj hdj _ (by
      rw [DataW.weights, Try.underlying34]
      have e1 : Try.prog.bytesOf 5 = 1 := by kernel_rfl
      refine List.mem_cons.2 (.inl ?_)
      rw [e1]
      first | (simp; omega) | omega | (rw [← e]; simp)))
    have h2 : cap * 1 ≤ reachBytes := by simpa using this
    unfold reachBytes at h2
    omega
end Go.Proofs.Ytckldjiabalgbaa
