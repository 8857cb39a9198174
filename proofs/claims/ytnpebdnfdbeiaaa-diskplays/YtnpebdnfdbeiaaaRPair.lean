/- A disk and the reference's, of a law's own. -/
import Derived.Test.YtnpebdnfdbeiaaaRAlike
import Derived.Test.YtnpebdnfdbeiaaaRDoT
import Derived.Test.YtnpebdnfdbeiaaaRNew
import Derived.Test.YtnpebdnfdbeiaaaDCopies
namespace Go.Proofs.Ytnpebdnfdbeiaaa
open Go.RowKit
set_option linter.unusedVariables false

/-- A disk and the reference's. -/
structure PairM (w0 w : World) (md : DM) (mr : RM) (n : Nat) (s t : DS) : Prop where
  d : Mine w0 w md n s
  r : RDsk w mr n t
  f : ∀ k, mr.all k → w0.heap.size ≤ k
  a : ∀ k, md.own k → ¬ mr.all k
def Pair (w0 w : World) (D R n : Nat) (s t : DS) : Prop := ∃ md mr, md.D = D ∧ mr.R = R ∧ PairM w0 w md mr n s t
theorem PairM.below {w0 w w' : World} {md : DM} {mr : RM} {n : Nat} {s t : DS} (h : PairM w0 w md mr n s t) (b : Below w.heap.size w w') : PairM w0 w' md mr n s t := ⟨h.d.below b, h.r.below b, h.f, h.a⟩
theorem PairM.done {w0 w w' : World} {md md' : DM} {mr : RM} {n : Nat} {s s' t : DS} (h : PairM w0 w md mr n s t) (r : DoR w w' md md' n s') : PairM w0 w' md' mr n s' t :=
  ⟨h.d.done r, h.r.same (fun k hk => r.o.block k (h.r.lt hk) (fun e => h.a k e hk)), h.f, fun k e hk => (r.n.own_of e).elim (fun x => h.a k x hk) (fun x => by have := h.r.lt hk; omega)⟩
theorem ROnly.low {m : RM} {w w' : World} {N : Nat} (h : ROnly m w w') (hf : ∀ k, m.all k → N ≤ k) (hN : N ≤ w.heap.size) : Below N w w' := ⟨h.os, h.tape, h.output, h.size, fun k hk => h.block k (by omega) (fun e => by have := hf k (.inl e); omega)⟩
theorem PairM.ref {w0 w w' : World} {md : DM} {mr mr' : RM} {n : Nat} {s t t' : DS} (h : PairM w0 w md mr n s t) (r : RDo w w' mr mr' n t') : PairM w0 w' md mr' n s t' := by
  have b := r.o.low h.f h.d.b.size
  refine ⟨⟨h.d.d.same (fun k hk => r.o.block k (h.d.d.lt hk) (fun e => h.a k hk (.inl e))), h.d.f, h.d.b.trans b⟩, r.d, fun k hk => (r.n.all k hk).elim (h.f k) (fun e => Nat.le_trans h.d.b.size e), fun k e hk => (r.n.all k hk).elim (h.a k e) (fun x => by have := h.d.d.lt e; omega)⟩
section
variable {w0 w : World} {D R n : Nat} {s t : DS}
theorem Pair.low (h : Pair w0 w D R n s t) : Below w0.heap.size w0 w := by obtain ⟨_, _, _, _, h⟩ := h; exact h.d.b
theorem Pair.below (h : Pair w0 w D R n s t) {w' : World} (b : Below w.heap.size w w') : Pair w0 w' D R n s t := by obtain ⟨md, mr, e1, e2, h⟩ := h; exact ⟨md, mr, e1, e2, h.below b⟩
theorem pair_do (h : Pair w0 w D R n s t) (o : OpX) (hat : o.At w0) (hk : s.ws.length < 1000000) (hz : o.b.length ≤ 140737488351232) :
    Calls Try.prog 12 #[.pointer (some ⟨D, 0, none⟩), .agg #[.int .i64 o.k, .int .i64 o.n, .slice o.ba o.b.length o.bc, .slice o.la o.zs.length o.lc]] w fun e w' => e = .returned (.int .i64 (doE n s o : Nat)) ∧ Pair w0 w' D R n (doD n s o) t := by
  obtain ⟨md, mr, rfl, rfl, h⟩ := h
  refine (do_any md n s o w0 w h.d.d h.d.b hat h.d.f hk (by omega)).mono ?_
  rintro e w' ⟨m', rfl, r⟩
  exact ⟨rfl, m', mr, r.D, rfl, h.done r⟩
theorem pair_ref (h : Pair w0 w D R n s t) (o : OpX) (hat : o.At w0) (hk : t.ws.length < 1000000) :
    Calls Try.prog 13 #[.pointer (some ⟨R, 0, none⟩), .agg #[.int .i64 o.k, .int .i64 o.n, .slice o.ba o.b.length o.bc, .slice o.la o.zs.length o.lc]] w fun e w' => e = .returned (.int .i64 (doE n t o : Nat)) ∧ Pair w0 w' D R n s (doD n t o) := by
  obtain ⟨md, mr, rfl, rfl, h⟩ := h
  refine (refDo_any mr n t o w0 w h.r h.d.b hat h.f hk).mono ?_
  rintro e w' ⟨m', rfl, r⟩
  exact ⟨rfl, md, m', rfl, r.n.R, h.ref r⟩
theorem pair_alike (h : Pair w0 w D R n s s) (he : s.even) (hn : n ≤ 20) : Calls Try.prog 14 #[.pointer (some ⟨D, 0, none⟩), .pointer (some ⟨R, 0, none⟩)] w fun e w' => e = .returned (.bool true) ∧ Pair w0 w' D R n s s := by
  have H := h
  obtain ⟨md, mr, rfl, rfl, h⟩ := h
  refine (alike_any md mr n s w h.d.d h.r he hn).mono ?_
  rintro e w' ⟨rfl, b⟩
  exact ⟨rfl, H.below b⟩
theorem Pair.cell (h : Pair w0 w D R n s t) : ∃ g c, w.cell? ⟨R, 0, none⟩ = some (.slice (some ⟨g, 0, none⟩) n c) := by
  obtain ⟨md, mr, rfl, rfl, h⟩ := h
  obtain ⟨g, c, e⟩ := h.r.sform
  exact ⟨g, c, by rw [h.r.cells.1, e]⟩
end
/-- A copy beside them. -/
def TrioR (w0 w : World) (C D R n : Nat) (u s t : DS) : Prop := ∃ mc md mr, mc.D = C ∧ md.D = D ∧ mr.R = R ∧ Mine w0 w mc n u ∧ PairM w0 w md mr n s t ∧ ∀ k, mc.own k → ¬ md.own k ∧ ¬ mr.all k
section
variable {w0 w : World} {C D R n : Nat} {u s t : DS}
theorem TrioR.pair (h : TrioR w0 w C D R n u s t) : Pair w0 w D R n s t := by obtain ⟨_, md, mr, _, e1, e2, _, h, _⟩ := h; exact ⟨md, mr, e1, e2, h⟩
theorem TrioR.below (h : TrioR w0 w C D R n u s t) {w' : World} (b : Below w.heap.size w w') : TrioR w0 w' C D R n u s t := by obtain ⟨mc, md, mr, e0, e1, e2, h1, h2, h3⟩ := h; exact ⟨mc, md, mr, e0, e1, e2, h1.below b, h2.below b, h3⟩
theorem trio_copy (h : Pair w0 w D R n s t) : Calls Try.prog 15 #[.pointer (some ⟨D, 0, none⟩)] w fun e w' => ∃ C, e = .returned (.pointer (some ⟨C, 0, none⟩)) ∧ TrioR w0 w' C D R n s s t := by
  obtain ⟨md, mr, rfl, rfl, h⟩ := h
  refine (copy_any md n s w h.d.d).mono ?_
  rintro e w' ⟨mc, rfl, d, b, f⟩
  have hb := h.below b
  exact ⟨mc.D, rfl, mc, md, mr, rfl, rfl, rfl, ⟨d, fun k hk => Nat.le_trans h.d.b.size (f k hk), hb.d.b⟩, hb, fun k hk => ⟨fun e => by have := h.d.d.lt e; have := f k hk; omega, fun e => by have := h.r.lt e; have := f k hk; omega⟩⟩
theorem trio_alike (h : TrioR w0 w C D R n t s t) (he : t.even) (hn : n ≤ 20) : Calls Try.prog 14 #[.pointer (some ⟨C, 0, none⟩), .pointer (some ⟨R, 0, none⟩)] w fun e w' => e = .returned (.bool true) ∧ TrioR w0 w' C D R n t s t := by
  have H := h
  obtain ⟨mc, md, mr, rfl, rfl, rfl, h1, h2, h3⟩ := h
  refine (alike_any mc mr n t w h1.d h2.r he hn).mono ?_
  rintro e w' ⟨rfl, b⟩
  exact ⟨rfl, H.below b⟩
theorem trio_step {mc mc' md : DM} {mr : RM} {w' : World} {u' : DS} (h1 : Mine w0 w mc n u) (h2 : PairM w0 w md mr n s t) (h3 : ∀ k, mc.own k → ¬ md.own k ∧ ¬ mr.all k) (r : DoR w w' mc mc' n u') : TrioR w0 w' mc.D md.D mr.R n u' s t := by
  have k1 := h1.done r
  refine ⟨mc', md, mr, r.D, rfl, rfl, k1, ⟨⟨h2.d.d.same (fun k hk => r.o.block k (h2.d.d.lt hk) (fun e => (h3 k e).1 hk)), h2.d.f, k1.b⟩, h2.r.same (fun k hk => r.o.block k (h2.r.lt hk) (fun e => (h3 k e).2 hk)), h2.f, h2.a⟩, fun k hk => ?_⟩
  rcases r.n.own_of hk with e | e
  · exact h3 k e
  · exact ⟨fun x => by have := h2.d.d.lt x; omega, fun x => by have := h2.r.lt x; omega⟩
theorem trio_write (h : TrioR w0 w C D R n u s t) (i : Int) (a : Option Addr) (len cap : Nat) (b : List (BitVec 8)) (hs : Seen w a len b) (hk : u.ws.length < 1000000) :
    Calls Try.prog 16 #[.pointer (some ⟨C, 0, none⟩), .int .i64 i, .slice a len cap] w fun e w' => e = .returned (.int .i64 (whyW n u i b : Nat)) ∧ TrioR w0 w' C D R n (writeD n u i b) s t := by
  obtain ⟨mc, md, mr, rfl, rfl, rfl, h1, h2, h3⟩ := h
  refine (write_any mc n u i a len cap b w h1.d hs hk).mono ?_
  rintro e w' ⟨m', rfl, e1, e2, e3, e4⟩
  exact ⟨rfl, trio_step h1 h2 h3 ⟨e1, e2, e3, e4⟩⟩
theorem trio_crash (h : TrioR w0 w C D R n u s t) : Calls Try.prog 17 #[.pointer (some ⟨C, 0, none⟩), .slice none 0 0] w fun e w' => e = .returned (.int .i64 0) ∧ Pair w0 w' D R n s t := by
  obtain ⟨mc, md, mr, rfl, rfl, rfl, h1, h2, h3⟩ := h
  refine (crash_any mc n u none 0 0 [] w h1.d ⟨rfl, by simp, (fun z hz => nomatch hz), .inl rfl⟩ (fun y e => by cases e)).mono ?_
  rintro e w' ⟨m', rfl, e1, e2, e3, e4⟩
  exact ⟨rfl, (trio_step h1 h2 h3 ⟨e1, e2, e3, e4⟩).pair⟩
end
theorem loadD_even (l : List (BitVec 8)) : (loadD l).even := rfl
end Go.Proofs.Ytnpebdnfdbeiaaa
