/- Numbers that came in: a slice of int, opened. -/
import Derived.Test.YtfdlgiomnmnhgaaDoorFrame
import Derived.Test.YtfdlgiomnmnhgaaDoorCounts
namespace Go.Proofs.YtfdlgiomnmnhgaaDoor
open Go.ChangeShapes Go.WideShapes Go.ChangeAt Go.RowKit

theorem bytes3 : Tryd.prog.bytesOf 3 = 8 := by kernel_rfl
set_option maxRecDepth 100000 in
/-- A slice of numbers that came in. -/
theorem open_nums {H : Type} {enc : TypeId × Value → H} {W : World} {v : Value} {d : DataW H} {p : List MemPlace} {base : Nat} (hv : Value.okWide Tryd.prog W .any base 47 v) (h : DataW.Trod enc Tryd.prog W 0 (fun _ => true) true 47 v d p)
    {ts : List TypeId} {ds : List (DataW H)} (hsz : (DataW.weightsEach Tryd.prog ts ds).all (· ≤ reachBytes) = true) (j : Nat) (htj : ts[j]? = some 47) (hdj : ds[j]? = some d) :
    ∃ (a : Option Addr) (len cap : Nat) (zs : List Int), v = .slice a len cap ∧ IntsAt W a len zs := by
  obtain ⟨a, len, cap, rfl⟩ := okWide_slice Tryd.underlying47 hv
  obtain ⟨fuel, hf⟩ := h
  rcases open_ints Tryd.underlying47 Tryd.underlying3 (by kernel_rfl) hf with ⟨hcs, _⟩ | ⟨x, l, c, zs, hcs, _, hl, hm, hz, hx, hcell, hwz⟩
  · simp [Value.cells] at hcs
    obtain ⟨rfl, rfl, rfl⟩ := hcs
    exact ⟨none, 0, 0, [], rfl, rfl, by simp, (fun z hz => by cases hz), .inl rfl⟩
  · simp [Value.cells] at hcs
    obtain ⟨rfl, rfl, rfl⟩ := hcs
    have hzc : zs.length = cap := by simpa using hz
    have hd := congrArg Prod.fst hx
    simp only at hd
    have hlen : (zs.take len).length = len := by simp; omega
    have hcap : cap ≤ 140737488355328 := by
      rw [hd] at hdj
      have := sized_slice hsz htj hdj Tryd.underlying47
      rw [bytes3] at this
      simp [lits] at this
      unfold reachBytes at this
      omega
    refine ⟨some x, len, cap, zs.take len, rfl, hlen.symm, by omega, (fun z hz => ?_), ?_⟩
    · have hwf := hwz z (List.mem_of_mem_take hz)
      have hbd : -9223372036854775808 ≤ z ∧ z ≤ 9223372036854775807 := by simpa [Lit.wf, IntKind.min, IntKind.max, IntKind.bits, IntKind.signed] using hwf
      exact ⟨hbd.1, by omega⟩
    · by_cases h0 : len = 0
      · exact .inl h0
      · obtain ⟨b, off, spot⟩ := x
        have hc0 := hcell 0 (by omega)
        have hspot : spot = none := by simpa [Addr.add] using World.cell?_spot hc0
        subst hspot
        refine .inr ⟨b, off, rfl, fun j hj => ?_⟩
        have hj1 : j < len := by omega
        have hj2 : j < zs.length := by omega
        have hcj := hcell j hj2
        have hadd : (⟨b, off, none⟩ : Addr).add j = ⟨b, off + j, none⟩ := by simp [Addr.add]
        rw [hadd] at hcj
        rw [hcj]
        simp [hj2]
end Go.Proofs.YtfdlgiomnmnhgaaDoor
