/- A disk in memory. -/
import Derived.Test.YtikpmaecbfebkaaDoorDMath
import Derived.Test.YtikpmaecbfebkaaDoorClone
import Derived.Test.YtikpmaecbfebkaaDoorSteps
import Derived.Laws.CopyRow
import Derived.Laws.OwnMore
import Derived.Laws.MakeOwn
import Derived.Laws.Rows
namespace Go.Proofs.YtikpmaecbfebkaaDoor
open Go.RowKit
set_option linter.unusedVariables false

/-- A write's cells. -/
def wcell (x : Nat × List (BitVec 8)) : List Value := .int .i64 (x.1 : Int) :: cellsOf x.2
def wcells (ws : List (Nat × List (BitVec 8))) : List Value := ws.flatMap wcell
theorem wcells_append (a b : List (Nat × List (BitVec 8))) : wcells (a ++ b) = wcells a ++ wcells b := by simp [wcells]
/-- Where a disk lies. -/
structure DM where
  D : Nat
  gi : Nat
  gn : Nat
  ci : Nat
  cn : Nat
  wv : Value
def DM.own (m : DM) (k : Nat) : Prop := k = m.D ∨ k = m.gi ∨ k = m.gn ∨ m.wv.ownBlock = some k
/-- A disk lies there. -/
structure Dsk (w : World) (m : DM) (n : Nat) (s : DS) : Prop where
  ok : s.ok n
  hd : w.heap[m.D]? = some (.cells #[.slice (some ⟨m.gi, 0, none⟩) (256 * n) m.ci, .slice (some ⟨m.gn, 0, none⟩) (256 * n) m.cn, m.wv, .bool s.fa, .bool s.de, .bool s.fu] 69 (0, 0))
  hi : w.ownsRow 0 5 1 (.slice (some ⟨m.gi, 0, none⟩) (256 * n) m.ci) (256 * n) (cellsOf s.img)
  hn : w.ownsRow 0 5 1 (.slice (some ⟨m.gn, 0, none⟩) (256 * n) m.cn) (256 * n) (cellsOf s.now)
  hw : w.ownsRow 0 95 257 m.wv s.ws.length (wcells s.ws)
  ne : m.gi ≠ m.gn
/-- Nothing else has changed. -/
structure Only (m : DM) (w w' : World) : Prop where
  os : w'.os = w.os
  tape : w'.tape = w.tape
  output : w'.output = w.output
  size : w.heap.size ≤ w'.heap.size
  block : ∀ k, k < w.heap.size → ¬ m.own k → w'.heap[k]? = w.heap[k]?
/-- The same disk, its waiting writes perhaps elsewhere. -/
structure DM.next (m m' : DM) (N : Nat) : Prop where
  D : m'.D = m.D
  gi : m'.gi = m.gi
  gn : m'.gn = m.gn
  own : ∀ k, m'.wv.ownBlock = some k → m.wv.ownBlock = some k ∨ N ≤ k
theorem Only.refl (m : DM) (w : World) : Only m w w := ⟨rfl, rfl, rfl, Nat.le_refl _, fun _ _ _ => rfl⟩
theorem Only.of_below {m : DM} {w w' : World} (h : Below w.heap.size w w') : Only m w w' := ⟨h.os, h.tape, h.output, h.size, fun k hk _ => h.block k hk⟩
theorem DM.next.refl (m : DM) (N : Nat) : m.next m N := ⟨rfl, rfl, rfl, fun k h => .inl h⟩
theorem DM.next.own_of {m m' : DM} {N k : Nat} (h : m.next m' N) (ho : m'.own k) : m.own k ∨ N ≤ k := by
  rcases ho with e | e | e | e
  · exact .inl (.inl (by rw [e, h.D]))
  · exact .inl (.inr (.inl (by rw [e, h.gi])))
  · exact .inl (.inr (.inr (.inl (by rw [e, h.gn]))))
  · exact (h.own k e).imp (fun x => .inr (.inr (.inr x))) id
theorem Only.trans {m m' : DM} {a b c : World} (h : Only m a b) (n : m.next m' a.heap.size) (k : Only m' b c) : Only m a c :=
  ⟨k.os.trans h.os, k.tape.trans h.tape, k.output.trans h.output, Nat.le_trans h.size k.size, fun i hi ho => by
    rw [k.block i (Nat.lt_of_lt_of_le hi h.size) (fun e => (n.own_of e).elim ho (fun x => by omega)), h.block i hi ho]⟩
theorem DM.next.trans {m m' m'' : DM} {N N' : Nat} (h : m.next m' N) (k : m'.next m'' N') (hN : N ≤ N') : m.next m'' N :=
  ⟨k.D.trans h.D, k.gi.trans h.gi, k.gn.trans h.gn, fun i hi => by
    rcases k.own i hi with e | e
    · exact h.own i e
    · exact .inr (Nat.le_trans hN e)⟩
theorem owns_same {e : TypeId} {base n size : Nat} {v : Value} {xs : List Value} {w w' : World} (h : w.ownsRow base e size v n xs) (k : ∀ g, v.ownBlock = some g → w'.heap[g]? = w.heap[g]?) : w'.ownsRow base e size v n xs := by
  refine ⟨h.1, h.2.imp id ?_⟩
  rintro ⟨g, cap, cur, rfl, hb, hg, hr⟩
  exact ⟨g, cap, cur, rfl, hb, by rw [k g rfl]; exact hg, hr⟩
theorem Dsk.lt {w : World} {m : DM} {n : Nat} {s : DS} (h : Dsk w m n s) {k : Nat} (hk : m.own k) : k < w.heap.size := by
  rcases hk with rfl | rfl | rfl | e
  · exact (Array.getElem?_eq_some_iff.1 h.hd).1
  · rcases h.hi.2 with ⟨e, _⟩ | ⟨g, c, cur, e, _, hg, _⟩
    · cases e
    · cases e; exact (Array.getElem?_eq_some_iff.1 hg).1
  · rcases h.hn.2 with ⟨e, _⟩ | ⟨g, c, cur, e, _, hg, _⟩
    · cases e
    · cases e; exact (Array.getElem?_eq_some_iff.1 hg).1
  · rcases h.hw.2 with ⟨e1, _⟩ | ⟨g, c, cur, e1, _, hg, _⟩
    · rw [e1] at e; cases e
    · rw [e1] at e; cases e; exact (Array.getElem?_eq_some_iff.1 hg).1
/-- A disk of whose blocks none has changed. -/
theorem Dsk.same {w w' : World} {m : DM} {n : Nat} {s : DS} (h : Dsk w m n s) (k : ∀ g, m.own g → w'.heap[g]? = w.heap[g]?) : Dsk w' m n s :=
  ⟨h.ok, by rw [k m.D (.inl rfl)]; exact h.hd, owns_same h.hi (fun g e => by cases e; exact k m.gi (.inr (.inl rfl))), owns_same h.hn (fun g e => by cases e; exact k m.gn (.inr (.inr (.inl rfl)))), owns_same h.hw (fun g e => k g (.inr (.inr (.inr e)))), h.ne⟩
theorem Dsk.below {w w' : World} {m : DM} {n : Nat} {s : DS} (h : Dsk w m n s) (b : Below w.heap.size w w') : Dsk w' m n s := h.same fun g hg => b.block g (h.lt hg)
/-- Another disk. -/
theorem Dsk.other {w w' : World} {m m2 : DM} {n n2 : Nat} {s s2 : DS} (h : Dsk w m n s) (o : Only m2 w w') (hd : ∀ k, m.own k → ¬ m2.own k) : Dsk w' m n s := h.same fun g hg => o.block g (h.lt hg) (hd g hg)
/-- Its cells. -/
theorem Dsk.cells {w : World} {m : DM} {n : Nat} {s : DS} (h : Dsk w m n s) :
    w.cell? ⟨m.D, 0, none⟩ = some (.slice (some ⟨m.gi, 0, none⟩) (256 * n) m.ci) ∧ w.cell? ⟨m.D, 1, none⟩ = some (.slice (some ⟨m.gn, 0, none⟩) (256 * n) m.cn) ∧ w.cell? ⟨m.D, 2, none⟩ = some m.wv ∧
    w.cell? ⟨m.D, 3, none⟩ = some (.bool s.fa) ∧ w.cell? ⟨m.D, 4, none⟩ = some (.bool s.de) ∧ w.cell? ⟨m.D, 5, none⟩ = some (.bool s.fu) ∧ ∀ i, w.frozen? ⟨m.D, i, none⟩ = false := by
  simp [World.cell?, World.frozen?, h.hd]
/-- The waiting writes' slice. -/
theorem Dsk.wform {w : World} {m : DM} {n : Nat} {s : DS} (h : Dsk w m n s) : ∃ a c, m.wv = .slice a s.ws.length c ∧ (s.ws ≠ [] → ∃ g, a = some ⟨g, 0, none⟩) := by
  rcases h.hw.2 with ⟨e, h0⟩ | ⟨g, c, cur, e, _⟩
  · exact ⟨none, 0, by rw [e, h0], fun hne => absurd (List.eq_nil_of_length_eq_zero h0) hne⟩
  · exact ⟨some ⟨g, 0, none⟩, c, e, fun _ => ⟨g, rfl⟩⟩
theorem wpList_value {P : Program} {ops : Array Oper} {rest : List Oper} {o : Oper} {a : Act} {w w' : World} {Q : Exit → Act → World → Prop} {v : Value} (hgd : o.guard = none) (hx : (execOp a.eval o).run P w = .ok (.value v) w')
    (h : wpList P ops Q rest (a.put o.dst v) w') : wpList P ops Q (o :: rest) a w :=
  wpList_plain hgd fun _ hK => by unfold Oper.wp; rw [hx]; exact hK _ _ h
theorem wpList_skips {P : Program} {ops : Array Oper} {rest : List Oper} {o : Oper} {a : Act} {w w' : World} {Q : Exit → Act → World → Prop} (hgd : o.guard = none) (hx : (execOp a.eval o).run P w = .ok .skip w')
    (h : wpList P ops Q rest (a.put o.dst undef) w') : wpList P ops Q (o :: rest) a w :=
  wpList_plain hgd fun _ hK => by unfold Oper.wp; rw [hx]; exact hK _ _ h
theorem block_put {w : World} {R : Nat} {cs : Array Value} {t : TypeId} {fr : Nat × Nat} (h : w.heap[R]? = some (.cells cs t fr)) (i : Nat) (v : Value) : (w.setCell ⟨R, i, none⟩ v).heap[R]? = some (.cells (cs.setIfInBounds i v) t fr) := by
  have hlt : R < w.heap.size := (Array.getElem?_eq_some_iff.1 h).1
  have hv : w.heap[R] = .cells cs t fr := (Array.getElem?_eq_some_iff.1 h).2
  unfold World.setCell
  simp [Array.getElem?_modify, h]
end Go.Proofs.YtikpmaecbfebkaaDoor
