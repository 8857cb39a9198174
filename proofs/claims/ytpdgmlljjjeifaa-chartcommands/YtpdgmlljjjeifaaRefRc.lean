/- What the reference's Reader.Count does. -/
import Derived.Test.YtpdgmlljjjeifaaRefRf
namespace Go.Proofs.Ytpdgmlljjjeifaa
open Go.RowKit Cod
set_option linter.unusedVariables false
set_option linter.unusedSimpArgs false

theorem RRd.drawn {w : World} {R A B : Nat} {l : List (BitVec 8)} {at_ why : Nat} (h : RRd w R A B l at_ why) (q : Nat) : RRd (w.drewN q) R A B l at_ why := h
theorem grown_put {w w' : World} {R : Nat} (h : w.grownBy w' (some R)) (i : Nat) (v : Value) : w.grownBy (w'.setCell ⟨R, i, none⟩ v) (some R) :=
  ⟨h.os, h.tape, h.output, by simpa [World.setCell] using h.size, fun k hk hr => by rw [Below.heap_setCell _ _ _ k (fun e => hr (congrArg some e))]; exact h.block k hk hr⟩
theorem grown_drawn {w w' : World} {row : Option Nat} (h : w.grownBy w' row) (q : Nat) : w.grownBy (w'.drewN q) row := ⟨h.os, h.tape, h.output, h.size, h.block⟩
end Go.Proofs.Ytpdgmlljjjeifaa

