/- The law's own operations in memory. -/
import Derived.Test.YtdchnfggmkokhaaGreatDoorMem
namespace Go.Proofs.YtdchnfggmkokhaaGreatDoor
open Go.RowKit
set_option linter.unusedVariables false

/-- A call of the law's script. -/
structure OpB where
  k : Int
  nm : ByteArray
  by_ : ByteArray
  n : Int
  slot : Int
def OpB.cells (o : OpB) : List Value := [.int .i64 o.k, .string o.nm, .string o.by_, .int .i64 o.n, .int .i64 o.slot]
/-- What can be of its parts. -/
structure OpB.ok (o : OpB) : Prop where
  k : -9223372036854775808 ≤ o.k ∧ o.k ≤ 9223372036854775807
  n : -9223372036854775808 ≤ o.n ∧ o.n ≤ 9223372036854775807
  slot : -9223372036854775808 ≤ o.slot ∧ o.slot ≤ 9223372036854775807
  nm : o.nm.size ≤ maxLen
  by_ : o.by_.size ≤ maxLen
/-- A script in memory. -/
def OpsB (w : World) (a : Option Addr) (len : Nat) (os : List OpB) : Prop :=
  len = os.length ∧ (∀ o ∈ os, o.ok) ∧ (len = 0 ∨ ∃ b off, a = some ⟨b, off, none⟩ ∧ b < w.heap.size ∧ ∀ j (hj : j < os.length), w.cell? ⟨b, off + j * 5, none⟩ = some (.int .i64 os[j].k) ∧ w.cell? ⟨b, off + j * 5 + 1, none⟩ = some (.string os[j].nm) ∧ w.cell? ⟨b, off + j * 5 + 2, none⟩ = some (.string os[j].by_) ∧ w.cell? ⟨b, off + j * 5 + 3, none⟩ = some (.int .i64 os[j].n) ∧ w.cell? ⟨b, off + j * 5 + 4, none⟩ = some (.int .i64 os[j].slot))
theorem OpsB.at {w W : World} {a : Option Addr} {len : Nat} {os : List OpB} (h : OpsB w a len os) (bel : Below w.heap.size w W) {j : Nat} (hj : j < os.length) :
    ∃ b off, a = some ⟨b, off, none⟩ ∧ W.cell? ⟨b, off + j * 5, none⟩ = some (.int .i64 os[j].k) ∧ W.cell? ⟨b, off + j * 5 + 1, none⟩ = some (.string os[j].nm) ∧ W.cell? ⟨b, off + j * 5 + 2, none⟩ = some (.string os[j].by_) ∧ W.cell? ⟨b, off + j * 5 + 3, none⟩ = some (.int .i64 os[j].n) ∧ W.cell? ⟨b, off + j * 5 + 4, none⟩ = some (.int .i64 os[j].slot) := by
  obtain ⟨h1, _, h3⟩ := h
  rcases h3 with h3 | ⟨b, off, ha, hb, hc⟩
  · omega
  · obtain ⟨c0, c1, c2, c3, c4⟩ := hc j hj
    exact ⟨b, off, ha, (bel.cell (p := ⟨b, off + j * 5, none⟩) hb).trans c0, (bel.cell (p := ⟨b, off + j * 5 + 1, none⟩) hb).trans c1, (bel.cell (p := ⟨b, off + j * 5 + 2, none⟩) hb).trans c2, (bel.cell (p := ⟨b, off + j * 5 + 3, none⟩) hb).trans c3, (bel.cell (p := ⟨b, off + j * 5 + 4, none⟩) hb).trans c4⟩
end Go.Proofs.YtdchnfggmkokhaaGreatDoor
