/- Package mover: a mover in memory; a move; what becomes of a mover. -/
import Derived.Test.YtfnjlnlmodhahaaXMem
import Derived.Test.YtfnjlnlmodhahaaClone
namespace Go.Proofs.Ytfnjlnlmodhahaa
open Go.RowKit
set_option linter.unusedVariables false

/-- Nothing but one block has changed. -/
structure OnlyR (w w' : World) (R : Nat) : Prop where
  os : w'.os = w.os
  tape : w'.tape = w.tape
  output : w'.output = w.output
  size : w.heap.size ≤ w'.heap.size
  block : ∀ k, k < w.heap.size → k ≠ R → w'.heap[k]? = w.heap[k]?
section
variable {w w' w'' : World} {R : Nat}
theorem OnlyR.refl (w : World) (R : Nat) : OnlyR w w R := ⟨rfl, rfl, rfl, Nat.le_refl _, fun _ _ _ => rfl⟩
theorem OnlyR.trans (h : OnlyR w w' R) (g : OnlyR w' w'' R) : OnlyR w w'' R :=
  ⟨g.os.trans h.os, g.tape.trans h.tape, g.output.trans h.output, Nat.le_trans h.size g.size, fun k hk hn => (g.block k (Nat.lt_of_lt_of_le hk h.size) hn).trans (h.block k hk hn)⟩
theorem OnlyR.of_below (h : Below w.heap.size w w') (R : Nat) : OnlyR w w' R := ⟨h.os, h.tape, h.output, h.size, fun k hk _ => h.block k hk⟩
theorem OnlyR.drewN (h : OnlyR w w' R) (n : Nat) : OnlyR w (w'.drewN n) R := ⟨h.os, h.tape, h.output, h.size, h.block⟩
theorem OnlyR.alloc (h : OnlyR w w' R) (o : Obj) : OnlyR w (w'.alloc o) R := h.trans (.of_below ((Below.refl _ w').alloc (Nat.le_refl _) o) R)
theorem OnlyR.toBelow {B : Nat} (h : OnlyR w w' R) (hB : B ≤ R) (hs : B ≤ w.heap.size) : Below B w w' := ⟨h.os, h.tape, h.output, h.size, fun k hk => h.block k (by omega) (by omega)⟩
theorem OnlyR.set (h : OnlyR w w' R) (k : Nat) (v : Value) : OnlyR w (w'.setCell ⟨R, k, none⟩ v) R :=
  h.trans ⟨rfl, rfl, rfl, by simp, fun j _ hn => Below.heap_setCell _ _ _ _ hn⟩
theorem OnlyR.setRow (h : OnlyR w w' R) (cs : Array Value) : OnlyR w (w'.setRow R cs) R :=
  h.trans ⟨rfl, rfl, rfl, by simp [World.setRow], fun j _ hn => setRow_other _ _ _ _ hn⟩
theorem OnlyR.other (h : OnlyR w w' R) {Q : Nat} (hQ : w.heap.size ≤ Q) (k : Nat) (v : Value) : OnlyR w (w'.setCell ⟨Q, k, none⟩ v) R :=
  ⟨h.os, h.tape, h.output, by simpa using h.size, fun j hj hn => (Below.heap_setCell _ _ _ _ (by show j ≠ Q; omega)).trans (h.block j hj hn)⟩
end
/-- What a mover is: the number of its move, whether it has the bytes, the bytes, how many have gone. -/
structure MD where
  n : Int
  has : Bool
  d : List (BitVec 8)
  at_ : Nat
def MD.zero : MD := ⟨0, false, [], 0⟩
/-- A move. -/
structure MvD where
  slot : Int
  fr : Int
  to : Int
  ep : Int
  ph : Int
  n : Int
def MvD.cells (x : MvD) : List Value := [.int .i64 x.slot, .int .i64 x.fr, .int .i64 x.to, .int .i64 x.ep, .int .i64 x.ph, .int .i64 x.n]
def knowM (M : MD) (x : MvD) : MD := if x.ph = 0 then MD.zero else if x.n = M.n then M else { MD.zero with n := x.n }
/-- From where on its own blocks lie, and which blocks may be those of its bytes. -/
structure Bs where
  n : Nat
  D : Nat → Prop
instance : Coe Nat Bs := ⟨fun n => ⟨n, fun g => n ≤ g⟩⟩
def Bs.ok (b : Bs) (s : Nat) : Prop := b.n ≤ s ∧ ∀ g, s ≤ g → b.D g
theorem Bs.ok.mono {b : Bs} {s s' : Nat} (h : b.ok s) (hs : s ≤ s') : b.ok s' := ⟨Nat.le_trans h.1 hs, fun g hg => h.2 g (Nat.le_trans hs hg)⟩
theorem Bs.of {n s : Nat} (h : n ≤ s) : (n : Bs).ok s := ⟨h, fun g hg => Nat.le_trans h hg⟩
/-- Bytes of its own. -/
def OwnB (w : World) (b : Bs) (v : Value) (n : Nat) (l : List Value) : Prop := w.ownsRow b.n 5 1 v n l ∧ ∀ g, v.ownBlock = some g → b.D g
theorem OwnB.nil (w : World) (b : Bs) : OwnB w b (.slice none 0 0) 0 [] := ⟨World.ownsRow_nil _ _ _ _, fun g e => by cases e⟩
/-- A mover in memory. -/
structure MvIn (w : World) (base : Bs) (G : Nat) (M : MD) : Prop where
  ex : ∃ a c, w.heap[G]? = some (.cells #[.int .i64 M.n, .bool M.has, .slice a M.d.length c, .int .i64 M.at_] 74 (0, 0)) ∧ OwnB w base (.slice a M.d.length c) M.d.length (cellsOf M.d)
  bG : base.n ≤ G
  fits : M.at_ ≤ M.d.length
  len : M.d.length ≤ 140737488351232
section
variable {w w' : World} {base : Bs} {G : Nat} {M : MD}
theorem MvIn.lt (h : MvIn w base G M) : G < w.heap.size := by obtain ⟨a, c, h1, _⟩ := h.ex; exact (Array.getElem?_eq_some_iff.1 h1).1
theorem MvIn.kept (h : MvIn w base G M) (k : ∀ g, g < w.heap.size → w'.heap[g]? = w.heap[g]?) : MvIn w' base G M := by
  obtain ⟨a, c, h1, h2⟩ := h.ex
  exact ⟨⟨a, c, (k _ h.lt).trans h1, owns_kept h2.1 (fun g e => k g (row_kind h2.1 e).2.1), h2.2⟩, h.bG, h.fits, h.len⟩
theorem MvIn.below (h : MvIn w base G M) (b : Below w.heap.size w w') : MvIn w' base G M := h.kept (fun g hg => b.block g hg)
theorem MvIn.alloc (h : MvIn w base G M) (o : Obj) : MvIn (w.alloc o) base G M := h.below ((Below.refl _ w).alloc (Nat.le_refl _) o)
theorem MvIn.drewN (h : MvIn w base G M) (q : Nat) : MvIn (w.drewN q) base G M := ⟨h.ex, h.bG, h.fits, h.len⟩
/-- Another block is changed that is no block of bytes. -/
theorem MvIn.other (h : MvIn w base G M) {Q : Nat} {o : Obj} (hQ : Q ≠ G) (ho : w.heap[Q]? = some o) (hn : ∀ cur z, o ≠ .cells cur 5 z) (k : ∀ g, g ≠ Q → g < w.heap.size → w'.heap[g]? = w.heap[g]?) : MvIn w' base G M := by
  obtain ⟨a, c, h1, h2⟩ := h.ex
  refine ⟨⟨a, c, (k _ (Ne.symm hQ) h.lt).trans h1, owns_kept h2.1 (fun g e => ?_), h2.2⟩, h.bG, h.fits, h.len⟩
  obtain ⟨_, hl, cur, hc⟩ := row_kind h2.1 e
  refine k g (fun e2 => ?_) hl
  subst e2
  rw [ho] at hc
  injection hc with hc
  exact hn _ _ hc
/-- Its own block is another row. -/
theorem MvIn.row (h : MvIn w base G M) (M' : MD) {a : Option Addr} {c : Nat} (hg : w'.heap[G]? = some (.cells #[.int .i64 M'.n, .bool M'.has, .slice a M'.d.length c, .int .i64 M'.at_] 74 (0, 0))) (ho : OwnB w' base (.slice a M'.d.length c) M'.d.length (cellsOf M'.d)) (hf : M'.at_ ≤ M'.d.length) (hl : M'.d.length ≤ 140737488351232) : MvIn w' base G M' :=
  ⟨⟨a, c, hg, ho⟩, h.bG, hf, hl⟩
theorem MvIn.zero (h : MvIn w base G M) (n : Int) (hg : w'.heap[G]? = some (.cells #[.int .i64 n, .bool false, .slice none 0 0, .int .i64 0] 74 (0, 0))) : MvIn w' base G { MD.zero with n := n } :=
  ⟨⟨none, 0, hg, OwnB.nil _ _⟩, h.bG, Nat.le_refl _, by simp [MD.zero]⟩
end
theorem setRow_self {w : World} {g : Nat} {cs cs' : Array Value} {t : TypeId} {fr : Nat × Nat} (h : w.heap[g]? = some (.cells cs t fr)) : (w.setRow g cs').heap[g]? = some (.cells cs' t fr) := setRow_heap w g cs cs' t fr h
end Go.Proofs.Ytfnjlnlmodhahaa
