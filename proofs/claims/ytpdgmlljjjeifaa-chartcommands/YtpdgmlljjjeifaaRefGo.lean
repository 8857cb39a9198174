/- What the reference's GetOp does. -/
import Derived.Test.YtpdgmlljjjeifaaRefRb
namespace Go.Proofs.Ytpdgmlljjjeifaa
open Go.RowKit Cod
set_option linter.unusedVariables false

theorem RRd.since {w w' : World} {R A B : Nat} {l : List (BitVec 8)} {at_ why : Nat} (h : RRd w R A B l at_ why) (hR : w'.heap[R]? = w.heap[R]?) (hb : ∀ k, k < B → k < w.heap.size → w'.heap[k]? = w.heap[k]?) : RRd w' R A B l at_ why := by
  obtain ⟨a0, cap, hh, hs, hn, hk, hne, hat, hm⟩ := h
  exact ⟨a0, cap, hR.trans hh, hs.since (fun hl x hx => hb _ (hne hl x hx).2.2 (hs.lt hl x hx)), hn, hk, hne, hat, hm⟩
/-- A struct that is filled by reads of the reference's Reader. -/
structure FillR (w0 w : World) (R A B : Nat) (l : List (BitVec 8)) (at_ why : Nat) (t : TypeId) (zs cs : Array Value) : Prop where
  rdr : RRd w R A B l at_ why
  old : w.heap[w0.heap.size]? = some (.cells zs t (0, 0))
  new : w.heap[w0.heap.size + 1]? = some (.cells cs t (0, 0))
  grown : w0.grownBy w (some R)
  lt : R < w0.heap.size
  bd : B ≤ w0.heap.size
theorem FillR.start {w : World} {R A B : Nat} {l : List (BitVec 8)} {at_ why : Nat} (h : RRd w R A B l at_ why) (hB : B ≤ w.heap.size) (t : TypeId) (zs cs : Array Value) :
    FillR w ((w.alloc (.cells zs t)).alloc (.cells cs t)) R A B l at_ why t zs cs := by
  have b1 : Below w.heap.size w (w.alloc (.cells zs t)) := (Below.refl _ w).alloc (Nat.le_refl _) _
  have b2 : Below w.heap.size w ((w.alloc (.cells zs t)).alloc (.cells cs t)) := b1.alloc b1.size _
  refine ⟨h.keep b2, ?_, ?_, ?_, h.lt, hB⟩
  · rw [Below.heap_alloc _ _ _ (by simp)]
    exact heap_alloc_new w _
  · have := heap_alloc_new (w.alloc (.cells zs t)) (.cells cs t)
    simpa using this
  · exact grown_alloc (grown_alloc (grown_refl w _) _) _
theorem FillR.call {w0 w w' : World} {R A B : Nat} {l : List (BitVec 8)} {at_ why at' why' : Nat} {t : TypeId} {zs cs : Array Value} (h : FillR w0 w R A B l at_ why t zs cs) (hr : RRd w' R A B l at' why') (hg : w.grownBy w' (some R)) :
    FillR w0 w' R A B l at' why' t zs cs := by
  have hlt := h.lt
  have s1 := (Array.getElem?_eq_some_iff.1 h.old).1
  have s2 := (Array.getElem?_eq_some_iff.1 h.new).1
  exact ⟨hr, by rw [hg.block _ s1 (fun e => by have := Option.some.inj e; omega)]; exact h.old, by rw [hg.block _ s2 (fun e => by have := Option.some.inj e; omega)]; exact h.new, h.grown.trans hg, hlt, h.bd⟩
theorem FillR.store {w0 w : World} {R A B : Nat} {l : List (BitVec 8)} {at_ why : Nat} {t : TypeId} {zs cs : Array Value} (h : FillR w0 w R A B l at_ why t zs cs) (i : Nat) (v : Value) :
    FillR w0 (w.setCell ⟨w0.heap.size + 1, i, none⟩ v) R A B l at_ why t zs (cs.setIfInBounds i v) := by
  have hlt := h.lt
  have hbd := h.bd
  exact ⟨h.rdr.since (Below.heap_setCell _ _ _ _ (by show R ≠ w0.heap.size + 1; omega)) (fun k hk _ => Below.heap_setCell _ _ _ k (by show k ≠ w0.heap.size + 1; omega)), by rw [Below.heap_setCell _ _ _ _ (by simp)]; exact h.old, set_block h.new i v, grown_cell h.grown _ _ (by simp), hlt, hbd⟩
theorem FillR.put {w0 w : World} {R A B : Nat} {l : List (BitVec 8)} {at_ why : Nat} {t : TypeId} {zs cs : Array Value} (h : FillR w0 w R A B l at_ why t zs cs) (i : Nat) (v : Value) :
    FillR w0 (w.setCell ⟨w0.heap.size, i, none⟩ v) R A B l at_ why t (zs.setIfInBounds i v) cs := by
  have hlt := h.lt
  have hbd := h.bd
  exact ⟨h.rdr.since (Below.heap_setCell _ _ _ _ (by show R ≠ w0.heap.size; omega)) (fun k hk _ => Below.heap_setCell _ _ _ k (by show k ≠ w0.heap.size; omega)), set_block h.old i v, by rw [Below.heap_setCell _ _ _ _ (by simp)]; exact h.new, grown_cell h.grown _ _ (by simp), hlt, hbd⟩
theorem FillR.cell {w0 w : World} {R A B : Nat} {l : List (BitVec 8)} {at_ why : Nat} {t : TypeId} {zs cs : Array Value} (h : FillR w0 w R A B l at_ why t zs cs) (i : Nat) : w.cell? ⟨w0.heap.size + 1, i, none⟩ = cs[i]? ∧ w.frozen? ⟨w0.heap.size + 1, i, none⟩ = false := by
  simp [World.cell?, World.frozen?, h.new]
end Go.Proofs.Ytpdgmlljjjeifaa
