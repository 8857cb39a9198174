/- The reference's chart in memory. -/
import Derived.Test.YtpdgmlljjjeifaaChOwP
import Derived.Test.YtpdgmlljjjeifaaChMove
namespace Go.Proofs.Ytpdgmlljjjeifaa
open Go.RowKit
set_option linter.unusedVariables false
/-- The reference's chart: its own block, its two rows. -/
def qcells (L : List Int) (O cO E cE : Nat) : Array Value := #[.int .i64 (at_ L 0), .slice (some ⟨O, 0, none⟩) 16 cO, .slice (some ⟨E, 0, none⟩) 16 cE, .int .i64 (at_ L 33), .int .i64 (at_ L 34), .int .i64 (at_ L 35), .int .i64 (at_ L 36), .int .i64 (at_ L 37), .int .i64 (at_ L 38), .int .i64 (at_ L 39), .int .i64 (at_ L 40), .int .i64 (at_ L 41)]
structure RC (w : World) (base Q O E cO cE : Nat) (L : List Int) : Prop where
  q : Blk w Q (qcells L O cO E cE) 44
  o : ∃ cur, Blk w O cur 3 ∧ cur.size = cO ∧ ∀ i, i < 16 → cur[i]? = some (.int .i64 (at_ L (1 + i * 2)))
  e : ∃ cur, Blk w E cur 2 ∧ cur.size = cE ∧ ∀ i, i < 16 → cur[i]? = some (.int .i64 (at_ L (2 + i * 2)))
  len : L.length = 42
  bq : base ≤ Q
  bo : base ≤ O
  be : base ≤ E
  hO : 16 ≤ cO
  hE : 16 ≤ cE
/-- Nothing but three blocks has changed. -/
structure Only3 (w w' : World) (Q O E : Nat) : Prop where
  os : w'.os = w.os
  tape : w'.tape = w.tape
  output : w'.output = w.output
  size : w.heap.size ≤ w'.heap.size
  block : ∀ k, k < w.heap.size → k ≠ Q → k ≠ O → k ≠ E → w'.heap[k]? = w.heap[k]?
section
variable {w w' w'' : World} {base Q O E cO cE : Nat} {L : List Int}
theorem Blk.tne {P R t u : Nat} {cs ds : Array Value} (h : Blk w P cs t) (g : Blk w R ds u) (ht : t ≠ u) : P ≠ R := fun e => by
  subst e
  unfold Blk at h g
  rw [g] at h
  injection h with h
  injection h with _ h2
  exact ht h2.symm
theorem Only3.refl (w : World) (Q O E : Nat) : Only3 w w Q O E := ⟨rfl, rfl, rfl, Nat.le_refl _, fun _ _ _ _ _ => rfl⟩
theorem Only3.trans (h : Only3 w w' Q O E) (g : Only3 w' w'' Q O E) : Only3 w w'' Q O E :=
  ⟨g.os.trans h.os, g.tape.trans h.tape, g.output.trans h.output, Nat.le_trans h.size g.size, fun k hk a b c => (g.block k (Nat.lt_of_lt_of_le hk h.size) a b c).trans (h.block k hk a b c)⟩
theorem Only3.of_below (h : Below w.heap.size w w') (Q O E : Nat) : Only3 w w' Q O E := ⟨h.os, h.tape, h.output, h.size, fun k hk _ _ _ => h.block k hk⟩
theorem Only3.drewN (h : Only3 w w' Q O E) (n : Nat) : Only3 w (w'.drewN n) Q O E := ⟨h.os, h.tape, h.output, h.size, h.block⟩
theorem Only3.alloc (h : Only3 w w' Q O E) (o : Obj) : Only3 w (w'.alloc o) Q O E := h.trans (.of_below ((Below.refl _ w').alloc (Nat.le_refl _) o) Q O E)
theorem Only3.toBelow {B : Nat} (h : Only3 w w' Q O E) (a : B ≤ Q) (b : B ≤ O) (c : B ≤ E) (hs : B ≤ w.heap.size) : Below B w w' := ⟨h.os, h.tape, h.output, h.size, fun k hk => h.block k (by omega) (by omega) (by omega) (by omega)⟩
theorem Only3.set (h : Only3 w w' Q O E) {P : Nat} (hP : P = Q ∨ P = O ∨ P = E ∨ w.heap.size ≤ P) (k : Nat) (v : Value) : Only3 w (w'.setCell ⟨P, k, none⟩ v) Q O E :=
  ⟨h.os, h.tape, h.output, by simpa using h.size, fun j hj a b c => (Below.heap_setCell _ _ _ _ (by show j ≠ P; omega)).trans (h.block j hj a b c)⟩
theorem RC.cell (h : RC w base Q O E cO cE L) (i : Nat) : w.cell? ⟨Q, i, none⟩ = (qcells L O cO E cE)[i]? := h.q.cell i
theorem RC.fz (h : RC w base Q O E cO cE L) (i : Nat) : w.frozen? ⟨Q, i, none⟩ = false := h.q.fz i
theorem RC.co (h : RC w base Q O E cO cE L) (i : Nat) (hi : i < 16) : w.cell? ⟨O, i, none⟩ = some (.int .i64 (at_ L (1 + i * 2))) ∧ w.frozen? ⟨O, i, none⟩ = false := by
  obtain ⟨cur, h1, _, h3⟩ := h.o
  exact ⟨(h1.cell i).trans (h3 i hi), h1.fz i⟩
theorem RC.ce (h : RC w base Q O E cO cE L) (i : Nat) (hi : i < 16) : w.cell? ⟨E, i, none⟩ = some (.int .i64 (at_ L (2 + i * 2))) ∧ w.frozen? ⟨E, i, none⟩ = false := by
  obtain ⟨cur, h1, _, h3⟩ := h.e
  exact ⟨(h1.cell i).trans (h3 i hi), h1.fz i⟩
theorem RC.nQO (h : RC w base Q O E cO cE L) : Q ≠ O := by obtain ⟨_, h1, _⟩ := h.o; exact h.q.tne h1 (by decide)
theorem RC.nQE (h : RC w base Q O E cO cE L) : Q ≠ E := by obtain ⟨_, h1, _⟩ := h.e; exact h.q.tne h1 (by decide)
theorem RC.nOE (h : RC w base Q O E cO cE L) : O ≠ E := by obtain ⟨_, h1, _⟩ := h.o; obtain ⟨_, h2, _⟩ := h.e; exact h1.tne h2 (by decide)
theorem RC.kept (h : RC w base Q O E cO cE L) (g : ∀ k, k = Q ∨ k = O ∨ k = E → w'.heap[k]? = w.heap[k]?) : RC w' base Q O E cO cE L := by
  obtain ⟨c1, h1, h2⟩ := h.o
  obtain ⟨c2, h3, h4⟩ := h.e
  exact ⟨(g Q (.inl rfl)).trans h.q, ⟨c1, (g O (.inr (.inl rfl))).trans h1, h2⟩, ⟨c2, (g E (.inr (.inr rfl))).trans h3, h4⟩, h.len, h.bq, h.bo, h.be, h.hO, h.hE⟩
theorem RC.lt (h : RC w base Q O E cO cE L) : Q < w.heap.size ∧ O < w.heap.size ∧ E < w.heap.size := by
  obtain ⟨c1, h1, _⟩ := h.o
  obtain ⟨c2, h3, _⟩ := h.e
  exact ⟨h.q.lt, h1.lt, h3.lt⟩
theorem RC.below (h : RC w base Q O E cO cE L) (b : Below w.heap.size w w') : RC w' base Q O E cO cE L := h.kept fun k hk => b.block k (by have := h.lt; omega)
theorem RC.drewN (h : RC w base Q O E cO cE L) (n : Nat) : RC (w.drewN n) base Q O E cO cE L := h.kept fun _ _ => rfl
theorem RC.alloc (h : RC w base Q O E cO cE L) (o : Obj) : RC (w.alloc o) base Q O E cO cE L := h.below ((Below.refl _ w).alloc (Nat.le_refl _) o)
theorem RC.other (h : RC w base Q O E cO cE L) {P : Nat} (a : P ≠ Q) (b : P ≠ O) (c : P ≠ E) (k : Nat) (v : Value) : RC (w.setCell ⟨P, k, none⟩ v) base Q O E cO cE L :=
  h.kept fun j hj => Below.heap_setCell _ _ _ _ (by show j ≠ P; omega)
theorem RC.set (h : RC w base Q O E cO cE L) (k : Nat) (hk : 3 ≤ k ∧ k ≤ 11) (v : Int) : RC (w.setCell ⟨Q, k, none⟩ (.int .i64 v)) base Q O E cO cE (L.set (k + 30) v) := by
  obtain ⟨c1, h1, h2, h2'⟩ := h.o
  obtain ⟨c2, h3, h4, h4'⟩ := h.e
  have hl := h.len
  refine ⟨?_, ⟨c1, h1.other h.nQO _ _, h2, fun i hi => ?_⟩, ⟨c2, h3.other h.nQE _ _, h4, fun i hi => ?_⟩, by simp [hl], h.bq, h.bo, h.be, h.hO, h.hE⟩
  · have := h.q.set k (.int .i64 v)
    have e : (qcells L O cO E cE).setIfInBounds k (.int .i64 v) = qcells (L.set (k + 30) v) O cO E cE := by
      rcases (show k = 3 ∨ k = 4 ∨ k = 5 ∨ k = 6 ∨ k = 7 ∨ k = 8 ∨ k = 9 ∨ k = 10 ∨ k = 11 by omega) with rfl | rfl | rfl | rfl | rfl | rfl | rfl | rfl | rfl <;>
        simp [qcells, at_, hl]
    rwa [e] at this
  · rw [at_set_ne (by omega)]; exact h2' i hi
  · rw [at_set_ne (by omega)]; exact h4' i hi
theorem RC.setO (h : RC w base Q O E cO cE L) (i : Nat) (hi : i < 16) (v : Int) : RC (w.setCell ⟨O, i, none⟩ (.int .i64 v)) base Q O E cO cE (L.set (1 + i * 2) v) := by
  obtain ⟨c1, h1, h2, h2'⟩ := h.o
  obtain ⟨c2, h3, h4, h4'⟩ := h.e
  have hl := h.len
  refine ⟨?_, ⟨_, h1.set i _, by simpa using h2, fun j hj => ?_⟩, ⟨c2, h3.other h.nOE _ _, h4, fun j hj => ?_⟩, by simp [hl], h.bq, h.bo, h.be, h.hO, h.hE⟩
  · have e : qcells (L.set (1 + i * 2) v) O cO E cE = qcells L O cO E cE := by
      unfold qcells
      rw [at_set_ne (by omega), at_set_ne (by omega), at_set_ne (by omega), at_set_ne (by omega), at_set_ne (by omega), at_set_ne (by omega), at_set_ne (by omega), at_set_ne (by omega), at_set_ne (by omega), at_set_ne (by omega)]
    rw [e]
    exact h.q.other (Ne.symm h.nQO) _ _
  · have hO := h.hO
    by_cases e : j = i
    · subst e; rw [at_set_self (by omega), Array.getElem?_setIfInBounds_self_of_lt (by omega)]
    · rw [at_set_ne (by omega), ← h2' j hj, Array.getElem?_setIfInBounds_ne (Ne.symm e)]
  · rw [at_set_ne (by omega)]; exact h4' j hj
theorem RC.setE (h : RC w base Q O E cO cE L) (i : Nat) (hi : i < 16) (v : Int) : RC (w.setCell ⟨E, i, none⟩ (.int .i64 v)) base Q O E cO cE (L.set (1 + i * 2 + 1) v) := by
  obtain ⟨c1, h1, h2, h2'⟩ := h.o
  obtain ⟨c2, h3, h4, h4'⟩ := h.e
  have hl := h.len
  refine ⟨?_, ⟨c1, h1.other (Ne.symm h.nOE) _ _, h2, fun j hj => ?_⟩, ⟨_, h3.set i _, by simpa using h4, fun j hj => ?_⟩, by simp [hl], h.bq, h.bo, h.be, h.hO, h.hE⟩
  · have e : qcells (L.set (1 + i * 2 + 1) v) O cO E cE = qcells L O cO E cE := by
      unfold qcells
      rw [at_set_ne (by omega), at_set_ne (by omega), at_set_ne (by omega), at_set_ne (by omega), at_set_ne (by omega), at_set_ne (by omega), at_set_ne (by omega), at_set_ne (by omega), at_set_ne (by omega), at_set_ne (by omega)]
    rw [e]
    exact h.q.other (Ne.symm h.nQE) _ _
  · rw [at_set_ne (by omega)]; exact h2' j hj
  · have hE := h.hE
    by_cases e : j = i
    · subst e; rw [show 2 + j * 2 = 1 + j * 2 + 1 by omega, at_set_self (by omega), Array.getElem?_setIfInBounds_self_of_lt (by omega)]
    · rw [at_set_ne (by omega), ← h4' j hj, Array.getElem?_setIfInBounds_ne (Ne.symm e)]
/-- The reference at work, with the place of its result. -/
structure Rd (w0 w : World) (base Q O E cO cE : Nat) (L : List Int) (Z : Nat) (r : Array Value) : Prop where
  c : RC w base Q O E cO cE L
  o : Only3 w0 w Q O E
  z : Blk w Z r 62
  hz : w0.heap.size ≤ Z
  hq : Q < w0.heap.size ∧ O < w0.heap.size ∧ E < w0.heap.size
variable {w0 : World} {Z : Nat} {r : Array Value}
theorem Rd.drewN (h : Rd w0 w base Q O E cO cE L Z r) (n : Nat) : Rd w0 (w.drewN n) base Q O E cO cE L Z r := ⟨h.c.drewN n, h.o.drewN n, h.z, h.hz, h.hq⟩
theorem Rd.set (h : Rd w0 w base Q O E cO cE L Z r) (k : Nat) (hk : 3 ≤ k ∧ k ≤ 11) (v : Int) : Rd w0 (w.setCell ⟨Q, k, none⟩ (.int .i64 v)) base Q O E cO cE (L.set (k + 30) v) Z r := ⟨h.c.set k hk v, h.o.set (.inl rfl) _ _, h.z.other (by have := h.hz; have := h.hq; omega) _ _, h.hz, h.hq⟩
theorem Rd.setO (h : Rd w0 w base Q O E cO cE L Z r) (i : Nat) (hi : i < 16) (v : Int) : Rd w0 (w.setCell ⟨O, i, none⟩ (.int .i64 v)) base Q O E cO cE (L.set (1 + i * 2) v) Z r := ⟨h.c.setO i hi v, h.o.set (.inr (.inl rfl)) _ _, h.z.other (by have := h.hz; have := h.hq; omega) _ _, h.hz, h.hq⟩
theorem Rd.setE (h : Rd w0 w base Q O E cO cE L Z r) (i : Nat) (hi : i < 16) (v : Int) : Rd w0 (w.setCell ⟨E, i, none⟩ (.int .i64 v)) base Q O E cO cE (L.set (1 + i * 2 + 1) v) Z r := ⟨h.c.setE i hi v, h.o.set (.inr (.inr (.inl rfl))) _ _, h.z.other (by have := h.hz; have := h.hq; omega) _ _, h.hz, h.hq⟩
theorem Rd.store {x y z : Value} (h : Rd w0 w base Q O E cO cE L Z #[x, y, z]) (a b c : Value) : Rd w0 (((w.setCell ⟨Z, 0, none⟩ a).setCell ⟨Z, 1, none⟩ b).setCell ⟨Z, 2, none⟩ c) base Q O E cO cE L Z #[a, b, c] := by
  have h1 := h.hz
  have h2 := h.hq
  exact ⟨((h.c.other (by omega) (by omega) (by omega) 0 a).other (by omega) (by omega) (by omega) 1 b).other (by omega) (by omega) (by omega) 2 c, ((h.o.set (.inr (.inr (.inr h1))) 0 a).set (.inr (.inr (.inr h1))) 1 b).set (.inr (.inr (.inr h1))) 2 c, ((h.z.set 0 a).set 1 b).set 2 c, h1, h2⟩
theorem pre_ref (hc : RC w base Q O E cO cE L) (k s h n p : Int) :
    Rd w ((w.alloc (.cells #[.int .i64 k, .int .i64 s, .int .i64 h, .int .i64 n, .int .i64 p] 46)).alloc (.cells #[.int .i64 0, .bool false, .int .i64 0] 62)) base Q O E cO cE L (w.heap.size + 1) #[.int .i64 0, .bool false, .int .i64 0] ∧ Blk ((w.alloc (.cells #[.int .i64 k, .int .i64 s, .int .i64 h, .int .i64 n, .int .i64 p] 46)).alloc (.cells #[.int .i64 0, .bool false, .int .i64 0] 62)) w.heap.size #[.int .i64 k, .int .i64 s, .int .i64 h, .int .i64 n, .int .i64 p] 46 :=
  ⟨⟨(hc.alloc _).alloc _, ((Only3.refl w Q O E).alloc _).alloc _, by have := Blk.new (w.alloc (.cells #[.int .i64 k, .int .i64 s, .int .i64 h, .int .i64 n, .int .i64 p] 46)) #[.int .i64 0, .bool false, .int .i64 0] 62; simpa using this, by omega, hc.lt⟩, (Blk.new w _ _).alloc _⟩
end
end Go.Proofs.Ytpdgmlljjjeifaa
