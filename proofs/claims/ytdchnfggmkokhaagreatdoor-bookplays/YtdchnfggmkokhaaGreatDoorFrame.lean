/- What the rows' list gives the walks (the two tables), and the start for the witness. -/
import Derived.Test.YtdchnfggmkokhaaGreatDoorMem
import Derived.Test.YtdchnfggmkokhaaGreatDoorCards
import Derived.Test.YtdchnfggmkokhaaGreatDoorTie
import Derived.ProofKit
import Derived.OpenShut
import Derived.ShutString
import Derived.ChangeOld
import Derived.LaidMore
import Derived.Stop.LaidErr
import Derived.Deep.DeepHandedRow
import Derived.Lib.LaidTab
import Derived.SizedLaws
namespace Go.Proofs.YtdchnfggmkokhaaGreatDoor
open Go.ChangeShapes Go.WideShapes Go.ChangeAt Go.RowKit

theorem own : ownKnob Tryz.prog.godebug = none := by kernel_rfl
theorem laidOut : laidOutB Tryz.prog = true := by kernel_rfl
theorem gLow : Tryz.prog.globalNamed "almoner/crc.lowHalf" = some 1 := by kernel_rfl
theorem gHigh : Tryz.prog.globalNamed "almoner/crc.highHalf" = some 2 := by kernel_rfl
theorem tLow : (Tryz.prog.globals[1]?).map (·.type) = some 115 := by kernel_rfl
theorem tHigh : (Tryz.prog.globals[2]?).map (·.type) = some 115 := by kernel_rfl
theorem cells46 : Tryz.prog.cellsOf 115 = 16 := by kernel_rfl
theorem cells23 : Tryz.prog.cellsOf 108 = 1 := by kernel_rfl
abbrev laidBoth : List (String × DataW Unit) := [("almoner/crc.lowHalf", Rows.laid_almoner_crc_lowHalf), ("almoner/crc.highHalf", Rows.laid_almoner_crc_highHalf)]
theorem lowGet : ∀ i : Fin 16, (Crc.lows.map fun n : Nat => (n : Int)).getD i.val 0 = U (Crc.low i.val) := by decide +kernel
theorem highGet : ∀ i : Fin 16, (Crc.highs.map fun n : Nat => (n : Int)).getD i.val 0 = U (Crc.high i.val) := by decide +kernel
/-- The tables hold what the walks ask. -/
theorem tabs_of_laid {W : World} (h : laidMetH Tryz.prog laidBoth W) : Tabs W := by
  have h0 : laidMet Tryz.prog laidBoth W := h
  have t0 : Lib.TabIs Tryz.prog W "almoner/crc.lowHalf" .u32 (Crc.lows.map fun n : Nat => (n : Int)) :=
    Lib.tabIs_of_head (rest := [("almoner/crc.highHalf", Rows.laid_almoner_crc_highHalf)]) gLow tLow Tryz.underlying115 Tryz.underlying108 cells23 cells46 h0
  have t1 : Lib.TabIs Tryz.prog W "almoner/crc.highHalf" .u32 (Crc.highs.map fun n : Nat => (n : Int)) :=
    Lib.tabIs_of_head (rest := []) gHigh tHigh Tryz.underlying115 Tryz.underlying108 cells23 cells46 h0.tail
  refine ⟨fun i hi => ?_, fun i hi => ?_⟩
  · rw [t0.cell gLow i (by simpa [Crc.lows] using hi), lowGet ⟨i, hi⟩]
  · rw [t1.cell gHigh i (by simpa [Crc.highs] using hi), highGet ⟨i, hi⟩]
theorem door_met (os : Os) (args : Array Value) : laidMetH Tryz.prog laidBoth ((World.doorLaid Tryz.prog 19 os).forCall (fun _ _ => 0) ⟨#[], args, []⟩).memory :=
  laidMet_of_run' 8 (by kernel_rfl) (by kernel_rfl)

set_option maxRecDepth 100000 in
/-- A slice of bytes that came in. -/
theorem open_bytes {H : Type} {enc : TypeId × Value → H} {W : World} {v : Value} {d : DataW H} {p : List MemPlace} {base : Nat} (hv : Value.okWide Tryz.prog W .any base 31 v) (h : DataW.Trod enc Tryz.prog W 0 (fun _ => true) true 31 v d p) :
    ∃ (a : Option Addr) (len cap : Nat) (l : List (BitVec 8)), v = .slice a len cap ∧ Seen W a len l ∧ len ≤ cap ∧ (a = none → cap = 0) ∧ (cap = 0 ∨ ∃ es sp, d = .slice es sp ∧ es.length + sp.length = cap) := by
  obtain ⟨a, len, cap, rfl⟩ := okWide_slice Tryz.underlying31 hv
  obtain ⟨fuel, hf⟩ := h
  rcases open_ints Tryz.underlying31 Tryz.underlying5 (by kernel_rfl) hf with ⟨hcs, _⟩ | ⟨x, l, c, zs, hcs, _, hl, hm, hz, hx, hcell, hwz⟩
  · simp [Value.cells] at hcs
    obtain ⟨rfl, rfl, rfl⟩ := hcs
    exact ⟨none, 0, 0, [], rfl, ⟨rfl, by simp, .inl rfl⟩, Nat.le_refl _, fun _ => rfl, .inl rfl⟩
  · simp [Value.cells] at hcs
    obtain ⟨rfl, rfl, rfl⟩ := hcs
    have hzc : zs.length = cap := by simpa using hz
    have hd := congrArg Prod.fst hx
    refine ⟨some x, len, cap, (zs.take len).map fun n => BitVec.ofNat 8 n.toNat, rfl, ⟨by simp; omega, by simp; omega, ?_⟩, hl, (fun e => by cases e), .inr ⟨_, _, hd, by simp [lits]; omega⟩⟩
    by_cases h0 : len = 0
    · exact .inl h0
    · obtain ⟨b, off, spot⟩ := x
      have hc0 := hcell 0 (by omega)
      have hspot : spot = none := by simpa [Addr.add] using World.cell?_spot hc0
      subst hspot
      refine .inr ⟨b, off, rfl, fun j hj => ?_⟩
      have hj1 : j < len := by simp at hj; omega
      have hj2 : j < zs.length := by omega
      have hcj := hcell j hj2
      have hadd : (⟨b, off, none⟩ : Addr).add j = ⟨b, off + j, none⟩ := by simp [Addr.add]
      rw [hadd] at hcj
      rw [hcj]
      have hwf := hwz zs[j] (List.getElem_mem hj2)
      have hbd : 0 ≤ zs[j] ∧ zs[j] ≤ 255 := by simpa [Lit.wf, IntKind.min, IntKind.max, IntKind.bits, IntKind.signed] using hwf
      have hg : ((zs.take len).map fun n : Int => BitVec.ofNat 8 n.toNat).getD j 0#8 = BitVec.ofNat 8 zs[j].toNat := by
        simp [hj1, hj2]
      rw [hg]
      have hV : V (BitVec.ofNat 8 zs[j].toNat) = zs[j] := by
        unfold V
        rw [BitVec.toNat_ofNat, Nat.mod_eq_of_lt (by omega)]
        omega
      rw [hV]
      simp [hj2]
theorem bytes5 : Tryz.prog.bytesOf 5 = 1 := by kernel_rfl
theorem cap_le {H : Type} {ts : List TypeId} {ds : List (DataW H)} {d : DataW H} {cap : Nat} (hsz : (DataW.weightsEach Tryz.prog ts ds).all (· ≤ reachBytes) = true) (j : Nat) (ht : ts[j]? = some 31) (hd : ds[j]? = some d)
    (h : cap = 0 ∨ ∃ es sp, d = .slice es sp ∧ es.length + sp.length = cap) : cap ≤ 140737488351232 := by
  rcases h with h | ⟨es, sp, rfl, h⟩
  · omega
  · have := sized_slice hsz ht hd Tryz.underlying31
    rw [bytes5] at this
    unfold reachBytes at this
    omega
end Go.Proofs.YtdchnfggmkokhaaGreatDoor
