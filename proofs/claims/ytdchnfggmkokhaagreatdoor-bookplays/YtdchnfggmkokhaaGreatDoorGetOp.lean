/- What GetOp does. -/
import Derived.Test.YtdchnfggmkokhaaGreatDoorGN
import Derived.Laws.Rows
namespace Go.Proofs.YtdchnfggmkokhaaGreatDoor
open Go.RowKit Cod
set_option linter.unusedVariables false

/-- Amid a form that is read: the Reader, the block K that is filled, the block ahead of it that holds the answer. -/
structure Fill (w0 w : World) (R : Nat) (l : List (BitVec 8)) (at_ why : Nat) (t : TypeId) (zs cs : Array Value) : Prop where
  rdr : Rdr w R l at_ why
  old : w.heap[w0.heap.size]? = some (.cells zs t (0, 0))
  new : w.heap[w0.heap.size + 1]? = some (.cells cs t (0, 0))
  grown : w0.grownBy w (some R)
  lt : R < w0.heap.size
theorem Rdr.lt {w : World} {R : Nat} {l : List (BitVec 8)} {at_ why : Nat} (h : Rdr w R l at_ why) : R < w.heap.size := by
  obtain ⟨a, cap, h, _⟩ := h
  exact (Array.getElem?_eq_some_iff.1 h).1
theorem grown_alloc {w w' : World} {row : Option Nat} (h : w.grownBy w' row) (o : Obj) : w.grownBy (w'.alloc o) row :=
  ⟨h.os, h.tape, h.output, by have := h.size; simp; omega, fun k hk hr => by rw [Below.heap_alloc w' o k (by have := h.size; omega)]; exact h.block k hk hr⟩
theorem grown_cell {w w' : World} {row : Option Nat} (h : w.grownBy w' row) (a : Addr) (v : Value) (ha : w.heap.size ≤ a.block) : w.grownBy (w'.setCell a v) row :=
  ⟨h.os, h.tape, h.output, by simpa [World.setCell] using h.size, fun k hk hr => by rw [Below.heap_setCell _ _ _ k (fun e => by omega)]; exact h.block k hk hr⟩
theorem Fill.start {w : World} {R : Nat} {l : List (BitVec 8)} {at_ why : Nat} (h : Rdr w R l at_ why) (t : TypeId) (zs cs : Array Value) :
    Fill w ((w.alloc (.cells zs t)).alloc (.cells cs t)) R l at_ why t zs cs := by
  have b1 : Below w.heap.size w (w.alloc (.cells zs t)) := (Below.refl _ w).alloc (Nat.le_refl _) _
  have b2 : Below w.heap.size w ((w.alloc (.cells zs t)).alloc (.cells cs t)) := b1.alloc b1.size _
  refine ⟨Rdr.below h b2, ?_, ?_, ?_, h.lt⟩
  · rw [Below.heap_alloc _ _ _ (by simp)]
    exact heap_alloc_new w _
  · have := heap_alloc_new (w.alloc (.cells zs t)) (.cells cs t)
    simpa using this
  · exact grown_alloc (grown_alloc (grown_refl w _) _) _
theorem Fill.call {w0 w w' : World} {R : Nat} {l : List (BitVec 8)} {at_ why at' why' : Nat} {t : TypeId} {zs cs : Array Value} (h : Fill w0 w R l at_ why t zs cs) (hr : Rdr w' R l at' why') (hg : w.grownBy w' (some R)) :
    Fill w0 w' R l at' why' t zs cs := by
  have hlt := h.lt
  have s1 := (Array.getElem?_eq_some_iff.1 h.old).1
  have s2 := (Array.getElem?_eq_some_iff.1 h.new).1
  exact ⟨hr, by rw [hg.block _ s1 (fun e => by have := Option.some.inj e; omega)]; exact h.old, by rw [hg.block _ s2 (fun e => by have := Option.some.inj e; omega)]; exact h.new, h.grown.trans hg, hlt⟩
theorem Seen.since {w w' : World} {a : Option Addr} {len : Nat} {l : List (BitVec 8)} (h : Seen w a len l) (hb : l ≠ [] → ∀ x, a = some x → w'.heap[x.block]? = w.heap[x.block]?) : Seen w' a len l := by
  obtain ⟨h1, h2, h3⟩ := h
  refine ⟨h1, h2, ?_⟩
  rcases h3 with h3 | ⟨b, off, ha, hc⟩
  · exact .inl h3
  · refine .inr ⟨b, off, ha, fun j hj => ?_⟩
    have hq := hb (fun e => by subst e; simp at hj) _ ha
    rw [World.cell?_of_block (w := w) (a := ⟨b, off + j, none⟩) hq]
    exact hc j hj
/-- A Reader is as it was where no block up to its own was changed. -/
theorem Rdr.since {w w' : World} {R : Nat} {l : List (BitVec 8)} {at_ why : Nat} (h : Rdr w R l at_ why) (hb : ∀ k, k ≤ R → w'.heap[k]? = w.heap[k]?) : Rdr w' R l at_ why := by
  obtain ⟨a0, cap, hh, hs, hn, hk, hne, hat, hm⟩ := h
  exact ⟨a0, cap, by rw [hb R (Nat.le_refl _)]; exact hh, hs.since (fun hl x hx => hb _ (Nat.le_of_lt (hne hl x hx))), hn, hk, hne, hat, hm⟩
theorem Rdr.set {w : World} {R : Nat} {l : List (BitVec 8)} {at_ why : Nat} (h : Rdr w R l at_ why) (a : Addr) (v : Value) (hR : R < a.block) : Rdr (w.setCell a v) R l at_ why :=
  h.since (fun k hk => Below.heap_setCell _ _ _ k (fun e => by omega))
theorem Rdr.grown {w w' : World} {R : Nat} {l : List (BitVec 8)} {at_ why : Nat} {row : Option Nat} (h : Rdr w R l at_ why) (hg : w.grownBy w' row) (hr : ∀ g, row = some g → R < g) : Rdr w' R l at_ why :=
  h.since (fun k hk => hg.block k (Nat.lt_of_le_of_lt hk h.lt) (fun e => by have := hr k e.symm; omega))
theorem Fill.grow {w0 w w' : World} {R : Nat} {l : List (BitVec 8)} {at_ why : Nat} {t : TypeId} {zs cs : Array Value} {row : Option Nat} (h : Fill w0 w R l at_ why t zs cs) (hg : w.grownBy w' row) (hr : ∀ g, row = some g → w0.heap.size + 2 ≤ g) :
    Fill w0 w' R l at_ why t zs cs := by
  have hlt := h.lt
  have s1 := (Array.getElem?_eq_some_iff.1 h.old).1
  have s2 := (Array.getElem?_eq_some_iff.1 h.new).1
  have g0 := h.grown
  refine ⟨h.rdr.grown hg (fun g e => by have := hr g e; omega), by rw [hg.block _ s1 (fun e => by have := hr _ e.symm; omega)]; exact h.old, by rw [hg.block _ s2 (fun e => by have := hr _ e.symm; omega)]; exact h.new, ?_, hlt⟩
  exact ⟨hg.os.trans g0.os, hg.tape.trans g0.tape, hg.output.trans g0.output, Nat.le_trans g0.size hg.size, fun k hk hne => (hg.block k (Nat.lt_of_lt_of_le hk g0.size) (fun e => by have := hr k e.symm; omega)).trans (g0.block k hk hne)⟩
theorem Fill.alloc {w0 w : World} {R : Nat} {l : List (BitVec 8)} {at_ why : Nat} {t : TypeId} {zs cs : Array Value} (h : Fill w0 w R l at_ why t zs cs) (o : Obj) : Fill w0 (w.alloc o) R l at_ why t zs cs :=
  h.grow (row := none) (grown_alloc (grown_refl w none) o) (fun g e => by cases e)
theorem Fill.store {w0 w : World} {R : Nat} {l : List (BitVec 8)} {at_ why : Nat} {t : TypeId} {zs cs : Array Value} (h : Fill w0 w R l at_ why t zs cs) (i : Nat) (v : Value) :
    Fill w0 (w.setCell ⟨w0.heap.size + 1, i, none⟩ v) R l at_ why t zs (cs.setIfInBounds i v) := by
  have hlt := h.lt
  exact ⟨h.rdr.set _ v (by show R < w0.heap.size + 1; omega), by rw [Below.heap_setCell _ _ _ _ (by simp)]; exact h.old, set_block h.new i v, grown_cell h.grown _ _ (by simp), hlt⟩
theorem Fill.put {w0 w : World} {R : Nat} {l : List (BitVec 8)} {at_ why : Nat} {t : TypeId} {zs cs : Array Value} (h : Fill w0 w R l at_ why t zs cs) (i : Nat) (v : Value) :
    Fill w0 (w.setCell ⟨w0.heap.size, i, none⟩ v) R l at_ why t (zs.setIfInBounds i v) cs := by
  have hlt := h.lt
  exact ⟨h.rdr.set _ v hlt, set_block h.old i v, by rw [Below.heap_setCell _ _ _ _ (by simp)]; exact h.new, grown_cell h.grown _ _ (by simp), hlt⟩
theorem Fill.cell {w0 w : World} {R : Nat} {l : List (BitVec 8)} {at_ why : Nat} {t : TypeId} {zs cs : Array Value} (h : Fill w0 w R l at_ why t zs cs) (i : Nat) : w.cell? ⟨w0.heap.size + 1, i, none⟩ = cs[i]? ∧ w.frozen? ⟨w0.heap.size + 1, i, none⟩ = false := by
  simp [World.cell?, World.frozen?, h.new]
end Go.Proofs.YtdchnfggmkokhaaGreatDoor
