/- What the rows' list gives the walks (the two tables), and the start for the witness. -/
import Derived.Test.YtdohclbkdifafaaDoorKnown
import Derived.Test.YtdohclbkdifafaaDoorCards
import Derived.Test.YtdohclbkdifafaaDoorTie
import Derived.ProofKit
import Derived.OpenShut
import Derived.ShutString
import Derived.ChangeOld
import Derived.LaidMore
import Derived.Stop.LaidErr
import Derived.Deep.DeepHandedRow
import Derived.Lib.LaidTab
namespace Go.Proofs.YtdohclbkdifafaaDoor
open Go.ChangeShapes Go.WideShapes Go.ChangeAt Go.RowKit

theorem own : ownKnob Tryd.prog.godebug = none := by kernel_rfl
theorem laidOut : laidOutB Tryd.prog = true := by kernel_rfl
theorem gLow : Tryd.prog.globalNamed "almoner/crc.lowHalf" = some 0 := by kernel_rfl
theorem gHigh : Tryd.prog.globalNamed "almoner/crc.highHalf" = some 1 := by kernel_rfl
theorem tLow : (Tryd.prog.globals[0]?).map (·.type) = some 46 := by kernel_rfl
theorem tHigh : (Tryd.prog.globals[1]?).map (·.type) = some 46 := by kernel_rfl
theorem cells46 : Tryd.prog.cellsOf 46 = 16 := by kernel_rfl
theorem cells23 : Tryd.prog.cellsOf 23 = 1 := by kernel_rfl
abbrev laidBoth : List (String × DataW Unit) := [("almoner/crc.lowHalf", Rows.laid_almoner_crc_lowHalf), ("almoner/crc.highHalf", Rows.laid_almoner_crc_highHalf)]
theorem lowGet : ∀ i : Fin 16, (Crc.lows.map fun n : Nat => (n : Int)).getD i.val 0 = U (Crc.low i.val) := by decide +kernel
theorem highGet : ∀ i : Fin 16, (Crc.highs.map fun n : Nat => (n : Int)).getD i.val 0 = U (Crc.high i.val) := by decide +kernel
/-- The tables hold what the walks ask. -/
theorem tabs_of_laid {W : World} (h : laidMetH Tryd.prog laidBoth W) : Tabs W := by
  have h0 : laidMet Tryd.prog laidBoth W := h
  have t0 : Lib.TabIs Tryd.prog W "almoner/crc.lowHalf" .u32 (Crc.lows.map fun n : Nat => (n : Int)) :=
    Lib.tabIs_of_head (rest := [("almoner/crc.highHalf", Rows.laid_almoner_crc_highHalf)]) gLow tLow Tryd.underlying46 Tryd.underlying23 cells23 cells46 h0
  have t1 : Lib.TabIs Tryd.prog W "almoner/crc.highHalf" .u32 (Crc.highs.map fun n : Nat => (n : Int)) :=
    Lib.tabIs_of_head (rest := []) gHigh tHigh Tryd.underlying46 Tryd.underlying23 cells23 cells46 h0.tail
  refine ⟨fun i hi => ?_, fun i hi => ?_⟩
  · rw [t0.cell gLow i (by simpa [Crc.lows] using hi), lowGet ⟨i, hi⟩]
  · rw [t1.cell gHigh i (by simpa [Crc.highs] using hi), highGet ⟨i, hi⟩]
theorem door_met (os : Os) (args : Array Value) : laidMetH Tryd.prog laidBoth ((World.doorLaid Tryd.prog 19 os).forCall (fun _ _ => 0) ⟨#[], args, []⟩).memory :=
  laidMet_of_run' 8 (by kernel_rfl) (by kernel_rfl)
end Go.Proofs.YtdohclbkdifafaaDoor
