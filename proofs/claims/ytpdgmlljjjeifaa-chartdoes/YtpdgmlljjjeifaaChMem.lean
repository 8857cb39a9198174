/- Package chart: a chart in memory: its 42 numbers. -/
import Derived.Test.YtpdgmlljjjeifaaSteps
namespace Go.Proofs.Ytpdgmlljjjeifaa
open Go.RowKit
set_option linter.unusedVariables false

/-- Numbers, as cells. -/
def ints (L : List Int) : Array Value := (L.map fun n => Value.int .i64 n).toArray
/-- A number of a list; 0, if there is none. -/
def at_ (L : List Int) (k : Nat) : Int := L.getD k 0
theorem ints_get {L : List Int} {k : Nat} (h : k < L.length) : (ints L)[k]? = some (.int .i64 (at_ L k)) := by
  simp [ints, at_, h]
theorem ints_size (L : List Int) : (ints L).size = L.length := by simp [ints]
theorem ints_set (L : List Int) (k : Nat) (v : Int) : (ints L).setIfInBounds k (.int .i64 v) = ints (L.set k v) := by
  simp [ints, List.map_set]
theorem at_set_self {L : List Int} {k : Nat} (h : k < L.length) (v : Int) : at_ (L.set k v) k = v := by simp [at_, h]
theorem at_set_ne {L : List Int} {k j : Nat} (h : k ≠ j) (v : Int) : at_ (L.set k v) j = at_ L j := by simp [at_, h]
/-- Nothing but one block has changed. -/
structure OnlyR (w w' : World) (R : Nat) : Prop where
  os : w'.os = w.os
  tape : w'.tape = w.tape
  output : w'.output = w.output
  size : w.heap.size ≤ w'.heap.size
  block : ∀ k, k < w.heap.size → k ≠ R → w'.heap[k]? = w.heap[k]?
/-- A chart in memory. -/
structure CIn (w : World) (base R : Nat) (L : List Int) : Prop where
  hR : w.heap[R]? = some (.cells (ints L) 76 (0, 0))
  len : L.length = 42
  bR : base ≤ R
section
variable {w w' w'' : World} {base R : Nat} {L : List Int}
theorem OnlyR.refl (w : World) (R : Nat) : OnlyR w w R := ⟨rfl, rfl, rfl, Nat.le_refl _, fun _ _ _ => rfl⟩
theorem OnlyR.trans (h : OnlyR w w' R) (g : OnlyR w' w'' R) : OnlyR w w'' R :=
  ⟨g.os.trans h.os, g.tape.trans h.tape, g.output.trans h.output, Nat.le_trans h.size g.size, fun k hk hn => (g.block k (Nat.lt_of_lt_of_le hk h.size) hn).trans (h.block k hk hn)⟩
theorem OnlyR.of_below (h : Below w.heap.size w w') (R : Nat) : OnlyR w w' R := ⟨h.os, h.tape, h.output, h.size, fun k hk _ => h.block k hk⟩
theorem OnlyR.drewN (h : OnlyR w w' R) (n : Nat) : OnlyR w (w'.drewN n) R := ⟨h.os, h.tape, h.output, h.size, h.block⟩
theorem OnlyR.alloc (h : OnlyR w w' R) (o : Obj) : OnlyR w (w'.alloc o) R := h.trans (.of_below ((Below.refl _ w').alloc (Nat.le_refl _) o) R)
theorem OnlyR.toBelow {B : Nat} (h : OnlyR w w' R) (hB : B ≤ R) (hs : B ≤ w.heap.size) : Below B w w' := ⟨h.os, h.tape, h.output, h.size, fun k hk => h.block k (by omega) (by omega)⟩
theorem OnlyR.set (h : OnlyR w w' R) (k : Nat) (v : Value) : OnlyR w (w'.setCell ⟨R, k, none⟩ v) R :=
  h.trans ⟨rfl, rfl, rfl, by simp, fun j _ hn => Below.heap_setCell _ _ _ _ hn⟩
theorem CIn.lt (h : CIn w base R L) : R < w.heap.size := (Array.getElem?_eq_some_iff.1 h.hR).1
theorem CIn.cell (h : CIn w base R L) (k : Nat) (hk : k < 42) : w.cell? ⟨R, k, none⟩ = some (.int .i64 (at_ L k)) := by
  have := h.hR
  simp [World.cell?, this, ints_get (show k < L.length by rw [h.len]; exact hk)]
theorem CIn.fz (h : CIn w base R L) (i : Nat) : w.frozen? ⟨R, i, none⟩ = false := by have := h.hR; simp [World.frozen?, this]
theorem CIn.below (h : CIn w base R L) (b : Below w.heap.size w w') : CIn w' base R L := ⟨(b.block R h.lt).trans h.hR, h.len, h.bR⟩
theorem CIn.drewN (h : CIn w base R L) (q : Nat) : CIn (w.drewN q) base R L := ⟨h.hR, h.len, h.bR⟩
theorem CIn.alloc (h : CIn w base R L) (o : Obj) : CIn (w.alloc o) base R L := h.below ((Below.refl _ w).alloc (Nat.le_refl _) o)
theorem CIn.set (h : CIn w base R L) (k : Nat) (v : Int) : CIn (w.setCell ⟨R, k, none⟩ (.int .i64 v)) base R (L.set k v) := by
  refine ⟨?_, by simp [h.len], h.bR⟩
  obtain ⟨hlt, hk⟩ := Array.getElem?_eq_some_iff.1 h.hR
  show (w.heap.modify R _)[R]? = _
  rw [Array.getElem?_eq_getElem (by rw [Array.size_modify]; exact hlt), Array.getElem_modify_self, hk, ← ints_set]
  rfl
theorem CIn.other (h : CIn w base R L) {Q : Nat} (hQ : Q ≠ R) (k : Nat) (v : Value) : CIn (w.setCell ⟨Q, k, none⟩ v) base R L :=
  ⟨(Below.heap_setCell _ _ _ _ (Ne.symm hQ)).trans h.hR, h.len, h.bR⟩
theorem OnlyR.other (h : OnlyR w w' R) {Q : Nat} (hQ : w.heap.size ≤ Q) (k : Nat) (v : Value) : OnlyR w (w'.setCell ⟨Q, k, none⟩ v) R :=
  ⟨h.os, h.tape, h.output, by simpa using h.size, fun j hj hn => (Below.heap_setCell _ _ _ _ (by show j ≠ Q; omega)).trans (h.block j hj hn)⟩
/-- A block of cells. -/
def Blk (w : World) (P : Nat) (cs : Array Value) (t : Nat) : Prop := w.heap[P]? = some (.cells cs t (0, 0))
theorem Blk.lt {P t : Nat} {cs : Array Value} (h : Blk w P cs t) : P < w.heap.size := (Array.getElem?_eq_some_iff.1 h).1
theorem Blk.cell {P t : Nat} {cs : Array Value} (h : Blk w P cs t) (i : Nat) : w.cell? ⟨P, i, none⟩ = cs[i]? := by unfold Blk at h; simp [World.cell?, h]
theorem Blk.fz {P t : Nat} {cs : Array Value} (h : Blk w P cs t) (i : Nat) : w.frozen? ⟨P, i, none⟩ = false := by unfold Blk at h; simp [World.frozen?, h]
theorem Blk.below {P t : Nat} {cs : Array Value} (h : Blk w P cs t) (b : Below w.heap.size w w') : Blk w' P cs t := (b.block P h.lt).trans h
theorem Blk.alloc {P t : Nat} {cs : Array Value} (h : Blk w P cs t) (o : Obj) : Blk (w.alloc o) P cs t := h.below ((Below.refl _ w).alloc (Nat.le_refl _) o)
theorem Blk.new (w : World) (cs : Array Value) (t : Nat) : Blk (w.alloc (.cells cs t)) w.heap.size cs t := heap_alloc_new w _
theorem Blk.drewN {P t : Nat} {cs : Array Value} (h : Blk w P cs t) (n : Nat) : Blk (w.drewN n) P cs t := h
theorem Blk.only {P t : Nat} {cs : Array Value} (h : Blk w P cs t) (g : OnlyR w w' R) (hn : P ≠ R) : Blk w' P cs t := (g.block P h.lt hn).trans h
theorem Blk.other {P t : Nat} {cs : Array Value} (h : Blk w P cs t) {Q : Nat} (hQ : Q ≠ P) (k : Nat) (v : Value) : Blk (w.setCell ⟨Q, k, none⟩ v) P cs t := (Below.heap_setCell _ _ _ _ (Ne.symm hQ)).trans h
theorem Blk.set {P t : Nat} {cs : Array Value} (h : Blk w P cs t) (k : Nat) (v : Value) : Blk (w.setCell ⟨P, k, none⟩ v) P (cs.setIfInBounds k v) t := by
  obtain ⟨hlt, hk⟩ := Array.getElem?_eq_some_iff.1 h
  show (w.heap.modify P _)[P]? = _
  rw [Array.getElem?_eq_getElem (by rw [Array.size_modify]; exact hlt), Array.getElem_modify_self, hk]
  rfl
theorem CIn.ne {P t : Nat} {cs : Array Value} (h : CIn w base R L) (g : Blk w P cs t) (ht : t ≠ 76) : P ≠ R := fun e => by
  subst e
  have := h.hR
  rw [g] at this
  injection this with this
  injection this with _ h2
  exact ht h2
/-- A chart that is worked on, with the place of the result. -/
structure Dd (w0 w : World) (base R : Nat) (L : List Int) (Q : Nat) (r : Array Value) : Prop where
  c : CIn w base R L
  o : OnlyR w0 w R
  q : Blk w Q r 35
  hq : w0.heap.size ≤ Q
  hr : R < w0.heap.size
section
variable {w0 : World} {Q : Nat} {r : Array Value}
theorem Dd.ne (h : Dd w0 w base R L Q r) : Q ≠ R := by have := h.hq; have := h.hr; omega
theorem Dd.below (h : Dd w0 w base R L Q r) (b : Below w.heap.size w w') : Dd w0 w' base R L Q r := ⟨h.c.below b, h.o.trans (.of_below b R), h.q.below b, h.hq, h.hr⟩
theorem Dd.drewN (h : Dd w0 w base R L Q r) (n : Nat) : Dd w0 (w.drewN n) base R L Q r := ⟨h.c.drewN n, h.o.drewN n, h.q.drewN n, h.hq, h.hr⟩
theorem Dd.alloc (h : Dd w0 w base R L Q r) (o : Obj) : Dd w0 (w.alloc o) base R L Q r := h.below ((Below.refl _ w).alloc (Nat.le_refl _) o)
theorem Dd.set (h : Dd w0 w base R L Q r) (k : Nat) (v : Int) : Dd w0 (w.setCell ⟨R, k, none⟩ (.int .i64 v)) base R (L.set k v) Q r := ⟨h.c.set k v, h.o.set _ _, h.q.other (Ne.symm h.ne) _ _, h.hq, h.hr⟩
theorem Dd.only {L' : List Int} (h : Dd w0 w base R L Q r) (c : CIn w' base R L') (g : OnlyR w w' R) : Dd w0 w' base R L' Q r := ⟨c, h.o.trans g, h.q.only g h.ne, h.hq, h.hr⟩
theorem Dd.store {x y z : Value} (h : Dd w0 w base R L Q #[x, y, z]) (a b c : Value) : Dd w0 (((w.setCell ⟨Q, 0, none⟩ a).setCell ⟨Q, 1, none⟩ b).setCell ⟨Q, 2, none⟩ c) base R L Q #[a, b, c] :=
  ⟨((h.c.other h.ne 0 a).other h.ne 1 b).other h.ne 2 c, ((h.o.other h.hq 0 a).other h.hq 1 b).other h.hq 2 c, ((h.q.set 0 a).set 1 b).set 2 c, h.hq, h.hr⟩
end
end
end Go.Proofs.Ytpdgmlljjjeifaa
