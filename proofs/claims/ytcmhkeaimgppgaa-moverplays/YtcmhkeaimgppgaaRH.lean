/- The reference's mover: what is there while Told takes what a Hold told. -/
import Derived.Test.YtcmhkeaimgppgaaRTests
namespace Go.Proofs.Ytcmhkeaimgppgaa
open Go.RowKit Go.Shelf
attribute [local go_sem] Oper.semAt_some
set_option linter.unusedVariables false

/-- The mover's row, whether or not what has gone fits. -/
structure RH (w V : World) (base : Bs) (G : Nat) (n : Int) (hs : Bool) (k : Nat) (a : Option Addr) (c : Nat) (l : List (BitVec 8)) (x : MvD) : Prop where
  g : V.heap[G]? = some (.cells #[.int .i64 n, .bool hs, .slice a l.length c, .int .i64 (k : Int)] 28 (0, 0))
  own : OwnB V base (.slice a l.length c) l.length (cellsOf l)
  xb : V.heap[w.heap.size]? = some (.cells #[.int .i64 x.slot, .int .i64 x.fr, .int .i64 x.to, .int .i64 x.ep, .int .i64 x.ph, .int .i64 x.n] 37 (0, 0))
  z : V.heap[w.heap.size + 3]? = some (.cells #[.int .i64 0, .int .i64 0, .int .i64 0, .int .i64 0, .int .i64 0] 64 (0, 0))
  ch : OnlyR w V G
  gl : G < w.heap.size
  bG : base.n ≤ G
  len : l.length ≤ 140737488351232
section
variable {w V : World} {base : Bs} {G : Nat} {n : Int} {hs : Bool} {k : Nat} {a : Option Addr} {c : Nat} {l : List (BitVec 8)} {x : MvD}
theorem RH.cell (h : RH w V base G n hs k a c l x) (i : Nat) : V.cell? ⟨G, i, none⟩ = (#[.int .i64 n, .bool hs, .slice a l.length c, .int .i64 (k : Int)] : Array Value)[i]? := by simp only [World.cell?, h.g]; rfl
theorem RH.fz (h : RH w V base G n hs k a c l x) (i : Nat) : V.frozen? ⟨G, i, none⟩ = false := by simp only [World.frozen?, h.g]; rfl
theorem RH.xc (h : RH w V base G n hs k a c l x) (i : Nat) : V.cell? ⟨w.heap.size, i, none⟩ = (#[.int .i64 x.slot, .int .i64 x.fr, .int .i64 x.to, .int .i64 x.ep, .int .i64 x.ph, .int .i64 x.n] : Array Value)[i]? := by simp only [World.cell?, h.xb]; rfl
theorem RH.drewN (h : RH w V base G n hs k a c l x) (q : Nat) : RH w (V.drewN q) base G n hs k a c l x := ⟨h.g, h.own, h.xb, h.z, h.ch.drewN q, h.gl, h.bG, h.len⟩
theorem RH.put (h : RH w V base G n hs k a c l x) (i : Nat) (v : Value) (hs' : Bool) (k' : Nat) (e : (#[.int .i64 n, .bool hs, .slice a l.length c, .int .i64 (k : Int)] : Array Value).setIfInBounds i v = #[.int .i64 n, .bool hs', .slice a l.length c, .int .i64 (k' : Int)]) : RH w (V.setCell ⟨G, i, none⟩ v) base G n hs' k' a c l x := by
  have gl := h.gl
  have eV := setCell_eq_setRow V G i _ _ _ v h.g
  rw [e] at eV
  have o := h.ch.set i v
  rw [eV] at o ⊢
  refine ⟨setRow_self h.g, ⟨owns_kept h.own.1 (fun g e => setRow_other _ _ _ _ ?_), h.own.2⟩, (setRow_other _ _ _ _ (by omega)).trans h.xb, (setRow_other _ _ _ _ (by omega)).trans h.z, o, h.gl, h.bG, h.len⟩
  rintro rfl
  obtain ⟨_, _, cur, hc⟩ := row_kind h.own.1 e
  rw [h.g] at hc
  injection hc with hc
  injection hc with _ hc
  exact absurd hc (by decide)
theorem RH.at0 (h : RH w V base G n hs k a c l x) : RH w (V.setCell ⟨G, 3, none⟩ (.int .i64 0)) base G n hs 0 a c l x := h.put 3 _ hs 0 rfl
theorem RH.yes (h : RH w V base G n hs k a c l x) : RH w (V.setCell ⟨G, 1, none⟩ (.bool true)) base G n true k a c l x := h.put 1 _ true k rfl
theorem RH.in (h : RH w V base G n hs k a c l x) (hk : k ≤ l.length) : RvIn V base G ⟨n, hs, l, k⟩ := ⟨⟨a, c, h.g, h.own⟩, h.bG, hk, h.len⟩
theorem RH.done (h : RH w V base G n hs k a c l x) (hk : k ≤ l.length) {V' : World} (b : Below V.heap.size V V') (cs : Array Value) : RvIn (V'.setRow (w.heap.size + 3) cs) base G ⟨n, hs, l, k⟩ ∧ OnlyR w (V'.setRow (w.heap.size + 3) cs) G ∧ V'.heap[w.heap.size + 3]? = some (.cells #[.int .i64 0, .int .i64 0, .int .i64 0, .int .i64 0, .int .i64 0] 64 (0, 0)) := by
  have gl := h.gl
  have z := (b.block _ (Array.getElem?_eq_some_iff.1 h.z).1).trans h.z
  have o := h.ch.trans (OnlyR.of_below b G)
  exact ⟨((h.in hk).below b).other (Q := w.heap.size + 3) (by omega) z (fun cur z e => by injection e with _ e; exact absurd e (by decide)) (fun g hg _ => setRow_other _ _ _ _ hg), ⟨o.os, o.tape, o.output, by simpa using o.size, fun k hk hn => (setRow_other _ _ _ _ (by omega)).trans (o.block k hk hn)⟩, z⟩
theorem RH.start {N : Nat} {K : MD} {C1 : List Value} {q : AskI} {r : ResD} {W' : World} (h : RT1 w V base G N K x C1 q r) (b : Below (V.setCell ⟨G, 2, none⟩ (.slice none 0 0)).heap.size (V.setCell ⟨G, 2, none⟩ (.slice none 0 0)) W') (ho : W'.ownsRow (V.setCell ⟨G, 2, none⟩ (.slice none 0 0)).heap.size 5 1 (.slice a r.l.length c) r.l.length (cellsOf r.l)) : RH w (W'.setCell ⟨G, 2, none⟩ (.slice a r.l.length c)) base G K.n K.has K.at_ a c r.l x := by
  have gl := h.gl
  obtain ⟨ma, mc, mg, _⟩ := h.m.ex
  have e1 := setCell_eq_setRow V G 2 _ _ _ (.slice none 0 0) mg
  have s1 : (V.setCell ⟨G, 2, none⟩ (.slice none 0 0)).heap.size = V.heap.size := by simp
  have o1 := ((OnlyR.refl V G).set 2 (.slice none 0 0)).trans (OnlyR.of_below b G)
  have g1 : W'.heap[G]? = some (.cells #[.int .i64 K.n, .bool K.has, .slice none 0 0, .int .i64 (K.at_ : Int)] 28 (0, 0)) := by
    refine (b.block _ (by rw [s1]; exact (Array.getElem?_eq_some_iff.1 mg).1)).trans ?_
    rw [e1]
    exact setRow_self mg
  have e2 := setCell_eq_setRow W' G 2 _ _ _ (.slice a r.l.length c) g1
  have o := (h.ch.trans o1).set 2 (.slice a r.l.length c)
  have nk : ∀ {j : Nat} {ob : Obj}, V.heap[j]? = some ob → j ≠ G → (W'.setRow G #[.int .i64 K.n, .bool K.has, .slice a r.l.length c, .int .i64 (K.at_ : Int)]).heap[j]? = some ob := fun hj hn => (setRow_other _ _ _ _ hn).trans ((o1.block _ (Array.getElem?_eq_some_iff.1 hj).1 hn).trans hj)
  have hB := h.bok
  have e3 : W'.setCell ⟨G, 2, none⟩ (.slice a r.l.length c) = W'.setRow G #[.int .i64 K.n, .bool K.has, .slice a r.l.length c, .int .i64 (K.at_ : Int)] := e2
  rw [e3] at o ⊢
  rw [s1] at ho
  refine ⟨setRow_self g1, ⟨owns_kept ⟨ho.1, ho.2.imp id (fun ⟨g, cp, cur, e1, e2, e3⟩ => ⟨g, cp, cur, e1, Nat.le_trans hB.1 e2, e3⟩)⟩ (fun g e => setRow_other _ _ _ _ ?_), fun g e => hB.2 g (row_kind ho e).1⟩, nk h.xb (by omega), nk h.z (by omega), o, gl, h.m.bG, h.res.len⟩
  rintro rfl
  obtain ⟨_, _, cur, hc⟩ := row_kind ho e
  rw [g1] at hc
  injection hc with hc
  injection hc with _ hc
  exact absurd hc (by decide)
end
/-- What stands behind the first store: all but the mover's row. -/
theorem rh_first {w V : World} {base : Bs} {G N : Nat} {K : MD} {x : MvD} {C1 : List Value} {q : AskI} {r : ResD} (h : RT1 w V base G N K x C1 q r) : (V.setCell ⟨G, 2, none⟩ (.slice none 0 0)).heap[G]? = some (.cells #[.int .i64 K.n, .bool K.has, .slice none 0 0, .int .i64 (K.at_ : Int)] 28 (0, 0)) ∧ (V.setCell ⟨G, 2, none⟩ (.slice none 0 0)).heap[w.heap.size + 2]? = some (.cells #[.int .i64 r.why, .bool r.wait, .int .i64 r.rw, .int .i64 r.ra, r.rows, .slice r.da r.l.length r.dc] 42 (0, 0)) ∧ Seen (V.setCell ⟨G, 2, none⟩ (.slice none 0 0)) r.da r.l.length r.l ∧ (∃ v, V.cell? ⟨G, 2, none⟩ = some v) ∧ V.frozen? ⟨G, 2, none⟩ = false := by
  have gl := h.gl
  obtain ⟨ma, mc, mg, _⟩ := h.m.ex
  have e1 := setCell_eq_setRow V G 2 _ _ _ (.slice none 0 0) mg
  refine ⟨?_, (Below.heap_setCell _ _ _ _ (by show w.heap.size + 2 ≠ G; omega)).trans h.rb, seen_onlyR h.res.seen h.m ((OnlyR.refl V G).set 2 _), ⟨.slice ma K.d.length mc, by simp only [World.cell?, mg]; rfl⟩, by simp only [World.frozen?, mg]; rfl⟩
  rw [e1]
  exact setRow_self mg
end Go.Proofs.Ytcmhkeaimgppgaa
