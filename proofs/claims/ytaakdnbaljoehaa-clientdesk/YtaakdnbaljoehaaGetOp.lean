/- What GetOp does. -/
import Derived.Test.YtaakdnbaljoehaaBacks
import Derived.Laws.Rows
namespace Go.Proofs.Ytaakdnbaljoehaa
open Go.RowKit Cod
set_option linter.unusedVariables false

/-- Amid a form that is read: the Reader, the block K that is filled, the block ahead of it that holds the answer. -/
structure Fill (w0 w : World) (R : Nat) (l : List (BitVec 8)) (at_ why : Nat) (t : TypeId) (zs cs : Array Value) : Prop where
  rdr : Rdr w R l at_ why
  old : w.heap[w0.heap.size]? = some (.cells zs t (0, 0))
  new : w.heap[w0.heap.size + 1]? = some (.cells cs t (0, 0))
  grown : w0.grownBy w (some R)
  lt : R < w0.heap.size
theorem Rdr.lt {w : World} {R : Nat} {l : List (BitVec 8)} {at_ why : Nat} (h : Rdr w R l at_ why) : R < w.heap.size := by
  obtain ⟨a, cap, h, _⟩ := h
  exact (Array.getElem?_eq_some_iff.1 h).1
theorem grown_alloc {w w' : World} {row : Option Nat} (h : w.grownBy w' row) (o : Obj) : w.grownBy (w'.alloc o) row :=
  ⟨h.os, h.tape, h.output, by have := h.size; simp; omega, fun k hk hr => by rw [Below.heap_alloc w' o k (by have := h.size; omega)]; exact h.block k hk hr⟩
theorem grown_cell {w w' : World} {row : Option Nat} (h : w.grownBy w' row) (a : Addr) (v : Value) (ha : w.heap.size ≤ a.block) : w.grownBy (w'.setCell a v) row :=
  ⟨h.os, h.tape, h.output, by simpa [World.setCell] using h.size, fun k hk hr => by rw [Below.heap_setCell _ _ _ k (fun e => by omega)]; exact h.block k hk hr⟩
theorem Fill.start {w : World} {R : Nat} {l : List (BitVec 8)} {at_ why : Nat} (h : Rdr w R l at_ why) (t : TypeId) (zs cs : Array Value) :
    Fill w ((w.alloc (.cells zs t)).alloc (.cells cs t)) R l at_ why t zs cs := by
  have b1 : Below w.heap.size w (w.alloc (.cells zs t)) := (Below.refl _ w).alloc (Nat.le_refl _) _
  have b2 : Below w.heap.size w ((w.alloc (.cells zs t)).alloc (.cells cs t)) := b1.alloc b1.size _
  refine ⟨Rdr.below h b2, ?_, ?_, ?_, h.lt⟩
  · rw [Below.heap_alloc _ _ _ (by simp)]
    exact heap_alloc_new w _
  · have := heap_alloc_new (w.alloc (.cells zs t)) (.cells cs t)
    simpa using this
  · exact grown_alloc (grown_alloc (grown_refl w _) _) _
theorem Fill.call {w0 w w' : World} {R : Nat} {l : List (BitVec 8)} {at_ why at' why' : Nat} {t : TypeId} {zs cs : Array Value} (h : Fill w0 w R l at_ why t zs cs) (hr : Rdr w' R l at' why') (hg : w.grownBy w' (some R)) :
    Fill w0 w' R l at' why' t zs cs := by
  have hlt := h.lt
  have s1 := (Array.getElem?_eq_some_iff.1 h.old).1
  have s2 := (Array.getElem?_eq_some_iff.1 h.new).1
  exact ⟨hr, by rw [hg.block _ s1 (fun e => by have := Option.some.inj e; omega)]; exact h.old, by rw [hg.block _ s2 (fun e => by have := Option.some.inj e; omega)]; exact h.new, h.grown.trans hg, hlt⟩
theorem Seen.since {w w' : World} {a : Option Addr} {len : Nat} {l : List (BitVec 8)} (h : Seen w a len l) (hb : l ≠ [] → ∀ x, a = some x → w'.heap[x.block]? = w.heap[x.block]?) : Seen w' a len l := by
  obtain ⟨h1, h2, h3⟩ := h
  refine ⟨h1, h2, ?_⟩
  rcases h3 with h3 | ⟨b, off, ha, hc⟩
  · exact .inl h3
  · refine .inr ⟨b, off, ha, fun j hj => ?_⟩
    have hq := hb (fun e => by subst e; simp at hj) _ ha
    rw [World.cell?_of_block (w := w) (a := ⟨b, off + j, none⟩) hq]
    exact hc j hj
/-- A Reader is as it was where no block up to its own was changed. -/
theorem Rdr.since {w w' : World} {R : Nat} {l : List (BitVec 8)} {at_ why : Nat} (h : Rdr w R l at_ why) (hb : ∀ k, k ≤ R → w'.heap[k]? = w.heap[k]?) : Rdr w' R l at_ why := by
  obtain ⟨a0, cap, hh, hs, hn, hk, hne, hat, hm⟩ := h
  exact ⟨a0, cap, by rw [hb R (Nat.le_refl _)]; exact hh, hs.since (fun hl x hx => hb _ (Nat.le_of_lt (hne hl x hx))), hn, hk, hne, hat, hm⟩
theorem Rdr.set {w : World} {R : Nat} {l : List (BitVec 8)} {at_ why : Nat} (h : Rdr w R l at_ why) (a : Addr) (v : Value) (hR : R < a.block) : Rdr (w.setCell a v) R l at_ why :=
  h.since (fun k hk => Below.heap_setCell _ _ _ k (fun e => by omega))
theorem Rdr.grown {w w' : World} {R : Nat} {l : List (BitVec 8)} {at_ why : Nat} {row : Option Nat} (h : Rdr w R l at_ why) (hg : w.grownBy w' row) (hr : ∀ g, row = some g → R < g) : Rdr w' R l at_ why :=
  h.since (fun k hk => hg.block k (Nat.lt_of_le_of_lt hk h.lt) (fun e => by have := hr k e.symm; omega))
theorem Fill.grow {w0 w w' : World} {R : Nat} {l : List (BitVec 8)} {at_ why : Nat} {t : TypeId} {zs cs : Array Value} {row : Option Nat} (h : Fill w0 w R l at_ why t zs cs) (hg : w.grownBy w' row) (hr : ∀ g, row = some g → w0.heap.size + 2 ≤ g) :
    Fill w0 w' R l at_ why t zs cs := by
  have hlt := h.lt
  have s1 := (Array.getElem?_eq_some_iff.1 h.old).1
  have s2 := (Array.getElem?_eq_some_iff.1 h.new).1
  have g0 := h.grown
  refine ⟨h.rdr.grown hg (fun g e => by have := hr g e; omega), by rw [hg.block _ s1 (fun e => by have := hr _ e.symm; omega)]; exact h.old, by rw [hg.block _ s2 (fun e => by have := hr _ e.symm; omega)]; exact h.new, ?_, hlt⟩
  exact ⟨hg.os.trans g0.os, hg.tape.trans g0.tape, hg.output.trans g0.output, Nat.le_trans g0.size hg.size, fun k hk hne => (hg.block k (Nat.lt_of_lt_of_le hk g0.size) (fun e => by have := hr k e.symm; omega)).trans (g0.block k hk hne)⟩
theorem Fill.alloc {w0 w : World} {R : Nat} {l : List (BitVec 8)} {at_ why : Nat} {t : TypeId} {zs cs : Array Value} (h : Fill w0 w R l at_ why t zs cs) (o : Obj) : Fill w0 (w.alloc o) R l at_ why t zs cs :=
  h.grow (row := none) (grown_alloc (grown_refl w none) o) (fun g e => by cases e)
theorem Fill.store {w0 w : World} {R : Nat} {l : List (BitVec 8)} {at_ why : Nat} {t : TypeId} {zs cs : Array Value} (h : Fill w0 w R l at_ why t zs cs) (i : Nat) (v : Value) :
    Fill w0 (w.setCell ⟨w0.heap.size + 1, i, none⟩ v) R l at_ why t zs (cs.setIfInBounds i v) := by
  have hlt := h.lt
  exact ⟨h.rdr.set _ v (by show R < w0.heap.size + 1; omega), by rw [Below.heap_setCell _ _ _ _ (by simp)]; exact h.old, set_block h.new i v, grown_cell h.grown _ _ (by simp), hlt⟩
theorem Fill.put {w0 w : World} {R : Nat} {l : List (BitVec 8)} {at_ why : Nat} {t : TypeId} {zs cs : Array Value} (h : Fill w0 w R l at_ why t zs cs) (i : Nat) (v : Value) :
    Fill w0 (w.setCell ⟨w0.heap.size, i, none⟩ v) R l at_ why t (zs.setIfInBounds i v) cs := by
  have hlt := h.lt
  exact ⟨h.rdr.set _ v hlt, set_block h.old i v, by rw [Below.heap_setCell _ _ _ _ (by simp)]; exact h.new, grown_cell h.grown _ _ (by simp), hlt⟩
theorem Fill.cell {w0 w : World} {R : Nat} {l : List (BitVec 8)} {at_ why : Nat} {t : TypeId} {zs cs : Array Value} (h : Fill w0 w R l at_ why t zs cs) (i : Nat) : w.cell? ⟨w0.heap.size + 1, i, none⟩ = cs[i]? ∧ w.frozen? ⟨w0.heap.size + 1, i, none⟩ = false := by
  simp [World.cell?, World.frozen?, h.new]
set_option maxRecDepth 100000 in
set_option maxHeartbeats 1600000 in
theorem getOp_any (R : Nat) (l : List (BitVec 8)) (at_ why : Nat) (w : World) (h : Rdr w R l at_ why) :
    Calls Try.prog 67 #[.pointer (some ⟨R, 0, none⟩)] w fun e w' => e = .returned (rOpV l at_ why).val ∧ Rdr w' R l (rOp7 l at_ why).2.1 (rOp7 l at_ why).2.2 ∧ w.grownBy w' (some R) := by
  generalize hw1 : (w.alloc (.cells #[.int .i64 0, .string ⟨#[]⟩, .string ⟨#[]⟩, .int .i64 0, .string ⟨#[]⟩, .int .i64 0, .int .i64 0] 23)).alloc (.cells #[.int .i64 0, .string ⟨#[]⟩, .string ⟨#[]⟩, .int .i64 0, .string ⟨#[]⟩, .int .i64 0, .int .i64 0] 23) = w1
  have f1 : Hid (Fill w w1 R l at_ why 23 #[.int .i64 0, .string ⟨#[]⟩, .string ⟨#[]⟩, .int .i64 0, .string ⟨#[]⟩, .int .i64 0, .int .i64 0] #[.int .i64 0, .string ⟨#[]⟩, .string ⟨#[]⟩, .int .i64 0, .string ⟨#[]⟩, .int .i64 0, .int .i64 0]) := by rw [← hw1]; exact Fill.start h _ _ _
  have HW : Hid _ := hw1
  have hV : Hid (rOpV l at_ why = ⟨zag (rOp1 l at_ why).1, textOf (rOp2 l at_ why).1, textOf (rOp3 l at_ why).1, zag (rOp4 l at_ why).1, textOf (rOp5 l at_ why).1, zag (rOp6 l at_ why).1, zag (rOp7 l at_ why).1⟩) := (rfl : _ = _)
  rw [hV.out]
  have C1 : Hid (∀ w', Rdr w' R l at_ why → Calls Try.prog 47 #[.pointer (some ⟨R, 0, none⟩)] w' fun e w'' => e = .returned (.int .i64 (zag (rOp1 l at_ why).1)) ∧ Rdr w'' R l (rOp1 l at_ why).2.1 (rOp1 l at_ why).2.2 ∧ w'.grownBy w'' (some R)) := fun w' h => by rw [rOp1]; exact rInt_any R l at_ why w' h
  have C2 : Hid (∀ w', Rdr w' R l (rOp1 l at_ why).2.1 (rOp1 l at_ why).2.2 → Calls Try.prog 80 #[.pointer (some ⟨R, 0, none⟩)] w' fun e w'' => e = .returned (.string (textOf (rOp2 l at_ why).1)) ∧ Rdr w'' R l (rOp2 l at_ why).2.1 (rOp2 l at_ why).2.2 ∧ w'.grownBy w'' (some R)) := fun w' h => by rw [rOp2]; exact rText_any R l (rOp1 l at_ why).2.1 (rOp1 l at_ why).2.2 w' h
  have C3 : Hid (∀ w', Rdr w' R l (rOp2 l at_ why).2.1 (rOp2 l at_ why).2.2 → Calls Try.prog 80 #[.pointer (some ⟨R, 0, none⟩)] w' fun e w'' => e = .returned (.string (textOf (rOp3 l at_ why).1)) ∧ Rdr w'' R l (rOp3 l at_ why).2.1 (rOp3 l at_ why).2.2 ∧ w'.grownBy w'' (some R)) := fun w' h => by rw [rOp3]; exact rText_any R l (rOp2 l at_ why).2.1 (rOp2 l at_ why).2.2 w' h
  have C4 : Hid (∀ w', Rdr w' R l (rOp3 l at_ why).2.1 (rOp3 l at_ why).2.2 → Calls Try.prog 47 #[.pointer (some ⟨R, 0, none⟩)] w' fun e w'' => e = .returned (.int .i64 (zag (rOp4 l at_ why).1)) ∧ Rdr w'' R l (rOp4 l at_ why).2.1 (rOp4 l at_ why).2.2 ∧ w'.grownBy w'' (some R)) := fun w' h => by rw [rOp4]; exact rInt_any R l (rOp3 l at_ why).2.1 (rOp3 l at_ why).2.2 w' h
  have C5 : Hid (∀ w', Rdr w' R l (rOp4 l at_ why).2.1 (rOp4 l at_ why).2.2 → Calls Try.prog 80 #[.pointer (some ⟨R, 0, none⟩)] w' fun e w'' => e = .returned (.string (textOf (rOp5 l at_ why).1)) ∧ Rdr w'' R l (rOp5 l at_ why).2.1 (rOp5 l at_ why).2.2 ∧ w'.grownBy w'' (some R)) := fun w' h => by rw [rOp5]; exact rText_any R l (rOp4 l at_ why).2.1 (rOp4 l at_ why).2.2 w' h
  have C6 : Hid (∀ w', Rdr w' R l (rOp5 l at_ why).2.1 (rOp5 l at_ why).2.2 → Calls Try.prog 47 #[.pointer (some ⟨R, 0, none⟩)] w' fun e w'' => e = .returned (.int .i64 (zag (rOp6 l at_ why).1)) ∧ Rdr w'' R l (rOp6 l at_ why).2.1 (rOp6 l at_ why).2.2 ∧ w'.grownBy w'' (some R)) := fun w' h => by rw [rOp6]; exact rInt_any R l (rOp5 l at_ why).2.1 (rOp5 l at_ why).2.2 w' h
  have C7 : Hid (∀ w', Rdr w' R l (rOp6 l at_ why).2.1 (rOp6 l at_ why).2.2 → Calls Try.prog 47 #[.pointer (some ⟨R, 0, none⟩)] w' fun e w'' => e = .returned (.int .i64 (zag (rOp7 l at_ why).1)) ∧ Rdr w'' R l (rOp7 l at_ why).2.1 (rOp7 l at_ why).2.2 ∧ w'.grownBy w'' (some R)) := fun w' h => by rw [rOp7]; exact rInt_any R l (rOp6 l at_ why).2.1 (rOp6 l at_ why).2.2 w' h
  generalize (rOp1 l at_ why).2.1 = p1 at *
  generalize (rOp1 l at_ why).2.2 = y1 at *
  generalize zag (rOp1 l at_ why).1 = k1 at *
  generalize (rOp2 l at_ why).2.1 = p2 at *
  generalize (rOp2 l at_ why).2.2 = y2 at *
  generalize textOf (rOp2 l at_ why).1 = s2 at *
  generalize (rOp3 l at_ why).2.1 = p3 at *
  generalize (rOp3 l at_ why).2.2 = y3 at *
  generalize textOf (rOp3 l at_ why).1 = s3 at *
  generalize (rOp4 l at_ why).2.1 = p4 at *
  generalize (rOp4 l at_ why).2.2 = y4 at *
  generalize zag (rOp4 l at_ why).1 = k4 at *
  generalize (rOp5 l at_ why).2.1 = p5 at *
  generalize (rOp5 l at_ why).2.2 = y5 at *
  generalize textOf (rOp5 l at_ why).1 = s5 at *
  generalize (rOp6 l at_ why).2.1 = p6 at *
  generalize (rOp6 l at_ why).2.2 = y6 at *
  generalize zag (rOp6 l at_ why).1 = k6 at *
  generalize (rOp7 l at_ why).2.1 = p7 at *
  generalize (rOp7 l at_ why).2.2 = y7 at *
  generalize zag (rOp7 l at_ why).1 = k7 at *
  clear h hw1 hV
  go_enter Try.func67, Try.ntmps67
  go_wp2_with fail
  rw [HW.out]
  refine (C1.out _ f1.out.rdr).mono ?_
  rintro e v1 ⟨rfl, r1, g1⟩
  have d1 : Hid (Fill w v1 R l p1 y1 23 #[.int .i64 0, .string ⟨#[]⟩, .string ⟨#[]⟩, .int .i64 0, .string ⟨#[]⟩, .int .i64 0, .int .i64 0] #[.int .i64 0, .string ⟨#[]⟩, .string ⟨#[]⟩, .int .i64 0, .string ⟨#[]⟩, .int .i64 0, .int .i64 0]) := f1.out.call r1 g1
  have c1 := (d1.out.cell 0).1
  have z1 := (d1.out.cell 0).2
  simp only [List.getElem?_toArray] at c1
  have f2 : Hid (Fill w (v1.setCell ⟨w.heap.size + 1, 0, none⟩ (.int .i64 k1)) R l p1 y1 23 #[.int .i64 0, .string ⟨#[]⟩, .string ⟨#[]⟩, .int .i64 0, .string ⟨#[]⟩, .int .i64 0, .int .i64 0] #[.int .i64 k1, .string ⟨#[]⟩, .string ⟨#[]⟩, .int .i64 0, .string ⟨#[]⟩, .int .i64 0, .int .i64 0]) := d1.out.store 0 _
  clear r1 g1 C1 f1 d1
  go_wp2_with fail
  refine (C2.out _ f2.out.rdr).mono ?_
  rintro e v2 ⟨rfl, r2, g2⟩
  have d2 : Hid (Fill w v2 R l p2 y2 23 #[.int .i64 0, .string ⟨#[]⟩, .string ⟨#[]⟩, .int .i64 0, .string ⟨#[]⟩, .int .i64 0, .int .i64 0] #[.int .i64 k1, .string ⟨#[]⟩, .string ⟨#[]⟩, .int .i64 0, .string ⟨#[]⟩, .int .i64 0, .int .i64 0]) := f2.out.call r2 g2
  have c2 := (d2.out.cell 1).1
  have z2 := (d2.out.cell 1).2
  simp only [List.getElem?_toArray] at c2
  have f3 : Hid (Fill w (v2.setCell ⟨w.heap.size + 1, 1, none⟩ (.string s2)) R l p2 y2 23 #[.int .i64 0, .string ⟨#[]⟩, .string ⟨#[]⟩, .int .i64 0, .string ⟨#[]⟩, .int .i64 0, .int .i64 0] #[.int .i64 k1, .string s2, .string ⟨#[]⟩, .int .i64 0, .string ⟨#[]⟩, .int .i64 0, .int .i64 0]) := d2.out.store 1 _
  clear r2 g2 C2 f2 d2
  go_wp2_with fail
  refine (C3.out _ f3.out.rdr).mono ?_
  rintro e v3 ⟨rfl, r3, g3⟩
  have d3 : Hid (Fill w v3 R l p3 y3 23 #[.int .i64 0, .string ⟨#[]⟩, .string ⟨#[]⟩, .int .i64 0, .string ⟨#[]⟩, .int .i64 0, .int .i64 0] #[.int .i64 k1, .string s2, .string ⟨#[]⟩, .int .i64 0, .string ⟨#[]⟩, .int .i64 0, .int .i64 0]) := f3.out.call r3 g3
  have c3 := (d3.out.cell 2).1
  have z3 := (d3.out.cell 2).2
  simp only [List.getElem?_toArray] at c3
  have f4 : Hid (Fill w (v3.setCell ⟨w.heap.size + 1, 2, none⟩ (.string s3)) R l p3 y3 23 #[.int .i64 0, .string ⟨#[]⟩, .string ⟨#[]⟩, .int .i64 0, .string ⟨#[]⟩, .int .i64 0, .int .i64 0] #[.int .i64 k1, .string s2, .string s3, .int .i64 0, .string ⟨#[]⟩, .int .i64 0, .int .i64 0]) := d3.out.store 2 _
  clear r3 g3 C3 f3 d3
  go_wp2_with fail
  refine (C4.out _ f4.out.rdr).mono ?_
  rintro e v4 ⟨rfl, r4, g4⟩
  have d4 : Hid (Fill w v4 R l p4 y4 23 #[.int .i64 0, .string ⟨#[]⟩, .string ⟨#[]⟩, .int .i64 0, .string ⟨#[]⟩, .int .i64 0, .int .i64 0] #[.int .i64 k1, .string s2, .string s3, .int .i64 0, .string ⟨#[]⟩, .int .i64 0, .int .i64 0]) := f4.out.call r4 g4
  have c4 := (d4.out.cell 3).1
  have z4 := (d4.out.cell 3).2
  simp only [List.getElem?_toArray] at c4
  have f5 : Hid (Fill w (v4.setCell ⟨w.heap.size + 1, 3, none⟩ (.int .i64 k4)) R l p4 y4 23 #[.int .i64 0, .string ⟨#[]⟩, .string ⟨#[]⟩, .int .i64 0, .string ⟨#[]⟩, .int .i64 0, .int .i64 0] #[.int .i64 k1, .string s2, .string s3, .int .i64 k4, .string ⟨#[]⟩, .int .i64 0, .int .i64 0]) := d4.out.store 3 _
  clear r4 g4 C4 f4 d4
  go_wp2_with fail
  refine (C5.out _ f5.out.rdr).mono ?_
  rintro e v5 ⟨rfl, r5, g5⟩
  have d5 : Hid (Fill w v5 R l p5 y5 23 #[.int .i64 0, .string ⟨#[]⟩, .string ⟨#[]⟩, .int .i64 0, .string ⟨#[]⟩, .int .i64 0, .int .i64 0] #[.int .i64 k1, .string s2, .string s3, .int .i64 k4, .string ⟨#[]⟩, .int .i64 0, .int .i64 0]) := f5.out.call r5 g5
  have c5 := (d5.out.cell 4).1
  have z5 := (d5.out.cell 4).2
  simp only [List.getElem?_toArray] at c5
  have f6 : Hid (Fill w (v5.setCell ⟨w.heap.size + 1, 4, none⟩ (.string s5)) R l p5 y5 23 #[.int .i64 0, .string ⟨#[]⟩, .string ⟨#[]⟩, .int .i64 0, .string ⟨#[]⟩, .int .i64 0, .int .i64 0] #[.int .i64 k1, .string s2, .string s3, .int .i64 k4, .string s5, .int .i64 0, .int .i64 0]) := d5.out.store 4 _
  clear r5 g5 C5 f5 d5
  go_wp2_with fail
  refine (C6.out _ f6.out.rdr).mono ?_
  rintro e v6 ⟨rfl, r6, g6⟩
  have d6 : Hid (Fill w v6 R l p6 y6 23 #[.int .i64 0, .string ⟨#[]⟩, .string ⟨#[]⟩, .int .i64 0, .string ⟨#[]⟩, .int .i64 0, .int .i64 0] #[.int .i64 k1, .string s2, .string s3, .int .i64 k4, .string s5, .int .i64 0, .int .i64 0]) := f6.out.call r6 g6
  have c6 := (d6.out.cell 5).1
  have z6 := (d6.out.cell 5).2
  simp only [List.getElem?_toArray] at c6
  have f7 : Hid (Fill w (v6.setCell ⟨w.heap.size + 1, 5, none⟩ (.int .i64 k6)) R l p6 y6 23 #[.int .i64 0, .string ⟨#[]⟩, .string ⟨#[]⟩, .int .i64 0, .string ⟨#[]⟩, .int .i64 0, .int .i64 0] #[.int .i64 k1, .string s2, .string s3, .int .i64 k4, .string s5, .int .i64 k6, .int .i64 0]) := d6.out.store 5 _
  clear r6 g6 C6 f6 d6
  go_wp2_with fail
  refine (C7.out _ f7.out.rdr).mono ?_
  rintro e v7 ⟨rfl, r7, g7⟩
  have d7 : Hid (Fill w v7 R l p7 y7 23 #[.int .i64 0, .string ⟨#[]⟩, .string ⟨#[]⟩, .int .i64 0, .string ⟨#[]⟩, .int .i64 0, .int .i64 0] #[.int .i64 k1, .string s2, .string s3, .int .i64 k4, .string s5, .int .i64 k6, .int .i64 0]) := f7.out.call r7 g7
  have c7 := (d7.out.cell 6).1
  have z7 := (d7.out.cell 6).2
  simp only [List.getElem?_toArray] at c7
  have f8 : Hid (Fill w (v7.setCell ⟨w.heap.size + 1, 6, none⟩ (.int .i64 k7)) R l p7 y7 23 #[.int .i64 0, .string ⟨#[]⟩, .string ⟨#[]⟩, .int .i64 0, .string ⟨#[]⟩, .int .i64 0, .int .i64 0] #[.int .i64 k1, .string s2, .string s3, .int .i64 k4, .string s5, .int .i64 k6, .int .i64 k7]) := d7.out.store 6 _
  clear r7 g7 C7 f7 d7
  obtain ⟨wl, hwl⟩ : ∃ wl, v7.setCell ⟨w.heap.size + 1, 6, none⟩ (.int .i64 k7) = wl := ⟨_, rfl⟩
  rw [hwl] at f8
  have n0 : wl.cell? ⟨w.heap.size + 1, 0, none⟩ = some (.int .i64 k1) := (f8.out.cell 0).1
  have o0 : wl.cell? ⟨w.heap.size, 0, none⟩ = some (.int .i64 0) := by simp [World.cell?, f8.out.old]
  have n1 : wl.cell? ⟨w.heap.size + 1, 1, none⟩ = some (.string s2) := (f8.out.cell 1).1
  have o1 : wl.cell? ⟨w.heap.size, 1, none⟩ = some (.string ⟨#[]⟩) := by simp [World.cell?, f8.out.old]
  have n2 : wl.cell? ⟨w.heap.size + 1, 2, none⟩ = some (.string s3) := (f8.out.cell 2).1
  have o2 : wl.cell? ⟨w.heap.size, 2, none⟩ = some (.string ⟨#[]⟩) := by simp [World.cell?, f8.out.old]
  have n3 : wl.cell? ⟨w.heap.size + 1, 3, none⟩ = some (.int .i64 k4) := (f8.out.cell 3).1
  have o3 : wl.cell? ⟨w.heap.size, 3, none⟩ = some (.int .i64 0) := by simp [World.cell?, f8.out.old]
  have n4 : wl.cell? ⟨w.heap.size + 1, 4, none⟩ = some (.string s5) := (f8.out.cell 4).1
  have o4 : wl.cell? ⟨w.heap.size, 4, none⟩ = some (.string ⟨#[]⟩) := by simp [World.cell?, f8.out.old]
  have n5 : wl.cell? ⟨w.heap.size + 1, 5, none⟩ = some (.int .i64 k6) := (f8.out.cell 5).1
  have o5 : wl.cell? ⟨w.heap.size, 5, none⟩ = some (.int .i64 0) := by simp [World.cell?, f8.out.old]
  have n6 : wl.cell? ⟨w.heap.size + 1, 6, none⟩ = some (.int .i64 k7) := (f8.out.cell 6).1
  have o6 : wl.cell? ⟨w.heap.size, 6, none⟩ = some (.int .i64 0) := by simp [World.cell?, f8.out.old]
  have oz : ∀ i, wl.frozen? ⟨w.heap.size, i, none⟩ = false := fun i => by simp [World.frozen?, f8.out.old]
  go_wp2_with fail
  have ff := (((((((f8.out.put 0 (.int .i64 k1)).put 1 (.string s2)).put 2 (.string s3)).put 3 (.int .i64 k4)).put 4 (.string s5)).put 5 (.int .i64 k6)).put 6 (.int .i64 k7))
  exact bodyPost_ret (results_cell_row rfl _ _ w.heap.size 23 _ _ _ rfl ff.old Try.underlying23 rfl (by kernel_rfl)) rfl ⟨rfl, ff.rdr, ff.grown⟩
end Go.Proofs.Ytaakdnbaljoehaa
