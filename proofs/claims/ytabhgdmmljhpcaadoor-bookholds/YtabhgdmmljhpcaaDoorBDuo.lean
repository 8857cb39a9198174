/- Two books, and the law's own box beside them. -/
import Derived.Test.YtabhgdmmljhpcaaDoorBSame
import Derived.Test.YtabhgdmmljhpcaaDoorBOp
namespace Go.Proofs.YtabhgdmmljhpcaaDoor
open Go.RowKit Cod
set_option linter.unusedVariables false

/-- What a book's owner says, but who holds it. -/
def rw2 (L : List Acc) : List RowB := L.map fun p => (p.nm, p.amt)
theorem rw2_rows (L : List Acc) : rowsOf (-1) L = rw2 L := by
  unfold rowsOf rw2
  rw [List.filter_eq_self.2 (fun p _ => by simp [inSlot])]
theorem rw2_len {A B : List Acc} (h : rw2 A = rw2 B) : A.length = B.length := by
  have := congrArg List.length h
  simpa [rw2] using this
theorem rw2_names {A B : List Acc} (h : rw2 A = rw2 B) : A.map (·.nm) = B.map (·.nm) := by
  have := congrArg (List.map Prod.fst) h
  simpa [rw2, Function.comp_def] using this
theorem rw2_has {A B : List Acc} (h : rw2 A = rw2 B) (s : ByteArray) : hasN A s = hasN B s := by
  rw [Bool.eq_iff_iff, hasN_names, hasN_names, rw2_names h]
theorem under_names (L : List Acc) (s : ByteArray) : under L s = (L.map (·.nm)).countP (fun n => decide (Ahead n s)) := by
  unfold under
  rw [List.countP_map]
  rfl
theorem rw2_under {A B : List Acc} (h : rw2 A = rw2 B) (s : ByteArray) : under A s = under B s := by
  rw [under_names, under_names, rw2_names h]
theorem rw2_ins (L : List Acc) (a : Acc) : rw2 (ins L a) = (rw2 L).take (under L a.nm) ++ (a.nm, a.amt) :: (rw2 L).drop (under L a.nm) := by simp [rw2, ins]
theorem rw2_upd (L : List Acc) (a : Acc) : rw2 (upd L a) = (rw2 L).set (under L a.nm) (a.nm, a.amt) := by simp [rw2, upd, List.map_set]
theorem rw2_get {A B : List Acc} (h : rw2 A = rw2 B) (hA : Sorted A) (hB : Sorted B) {s : ByteArray} {p : Acc} (hp : getA A s = some p) : ∃ q, getA B s = some q ∧ q.nm = p.nm ∧ q.amt = p.amt := by
  rw [getA_iff hA] at hp
  have hm : (p.nm, p.amt) ∈ rw2 B := by rw [← h]; exact List.mem_map.2 ⟨p, hp.1, rfl⟩
  obtain ⟨q, hq, e⟩ := List.mem_map.1 hm
  simp only [Prod.mk.injEq] at e
  exact ⟨q, (getA_iff hB s q).2 ⟨hq, e.1.trans hp.2⟩, e.1, e.2⟩
theorem rw2_none {A B : List Acc} (h : rw2 A = rw2 B) {s : ByteArray} (hp : getA A s = none) : getA B s = none := by
  rw [getA_none] at hp ⊢
  rw [← rw2_has h]
  exact hp
theorem rw2_put {A B : List Acc} (h : rw2 A = rw2 B) (t : ByteArray) (n : Int) : (putP A t n).1 = (putP B t n).1 ∧ rw2 (putP A t n).2 = rw2 (putP B t n).2 := by
  unfold putP
  rw [rw2_has h, rw2_len h]
  split
  · exact ⟨rfl, h⟩
  · split
    · exact ⟨rfl, h⟩
    · split
      · exact ⟨rfl, h⟩
      · split
        · exact ⟨rfl, h⟩
        · exact ⟨rfl, by rw [rw2_ins, rw2_ins, h, rw2_under h]⟩
/-- What is done with an account hangs not on who holds it, nor turns that. -/
structure Blind (f : Acc → Int × Acc) : Prop where
  code : ∀ p q : Acc, q.nm = p.nm → q.amt = p.amt → (f q).1 = (f p).1 ∧ (f q).2.nm = (f p).2.nm ∧ (f q).2.amt = (f p).2.amt
  nm : ∀ p : Acc, (f p).2.nm = p.nm
  by_ : ∀ p : Acc, (f p).2.by_ = p.by_
theorem blind_add (n : Int) : Blind (addP n) := by
  refine ⟨fun p q h1 h2 => ?_, fun p => ?_, fun p => ?_⟩
  · unfold addP
    rw [h2]
    split
    · exact ⟨rfl, h1, h2⟩
    · split
      · exact ⟨rfl, h1, h2⟩
      · exact ⟨rfl, h1, rfl⟩
  · unfold addP
    split
    · rfl
    · split <;> rfl
  · unfold addP
    split
    · rfl
    · split <;> rfl
theorem blind_take (n : Int) : Blind (takeP n) := by
  refine ⟨fun p q h1 h2 => ?_, fun p => ?_, fun p => ?_⟩
  · unfold takeP
    rw [h2]
    split
    · exact ⟨rfl, h1, h2⟩
    · split
      · exact ⟨rfl, h1, h2⟩
      · exact ⟨rfl, h1, rfl⟩
  · unfold takeP
    split
    · rfl
    · split <;> rfl
  · unfold takeP
    split
    · rfl
    · split <;> rfl
theorem rw2_on {A B : List Acc} (h : rw2 A = rw2 B) (hA : Sorted A) (hB : Sorted B) (t : ByteArray) {f : Acc → Int × Acc} (hf : Blind f) : (onP A t f).1 = (onP B t f).1 ∧ rw2 (onP A t f).2 = rw2 (onP B t f).2 := by
  unfold onP
  cases hg : getA A t with
  | none =>
    rw [rw2_none h hg]
    exact ⟨rfl, h⟩
  | some p =>
    obtain ⟨q, hq, e1, e2⟩ := rw2_get h hA hB hg
    rw [hq]
    obtain ⟨c1, c2, c3⟩ := hf.code p q e1 e2
    simp only
    rw [c1]
    by_cases hz : (f p).1 = 0
    · rw [if_pos hz, if_pos hz]
      exact ⟨rfl, by rw [rw2_upd, rw2_upd, c2, c3, h, rw2_under h]⟩
    · rw [if_neg hz, if_neg hz]
      exact ⟨rfl, h⟩
/-- Who holds it is turned alone. -/
theorem rw2_hold {L : List Acc} (hL : Sorted L) (t s : ByteArray) : rw2 (onP L t (holdP s)).2 = rw2 L := by
  unfold onP
  cases hg : getA L t with
  | none => rfl
  | some p =>
    simp only
    by_cases hz : (holdP s p).1 = 0
    · rw [if_pos hz]
      have hnm : (holdP s p).2.nm = p.nm ∧ (holdP s p).2.amt = p.amt := by
        unfold holdP
        split
        · exact ⟨rfl, rfl⟩
        · split <;> exact ⟨rfl, rfl⟩
      have hp := (getA_iff hL t p).1 hg
      obtain ⟨hk, e1, e2⟩ := getA_some hL ((hasN_mem L t).2 ⟨p, hp.1, hp.2⟩)
      rw [hg] at e1
      injection e1 with e1
      rw [rw2_upd, hnm.1, hnm.2, hp.2]
      refine List.ext_getElem (by simp) (fun i h1 h2 => ?_)
      rw [List.getElem_set]
      split
      · rename_i q
        subst q
        have : (rw2 L)[under L t]'(by simpa [rw2] using hk) = (L[under L t].nm, L[under L t].amt) := by simp [rw2]
        rw [this, ← e1, hp.2]
      · rfl
    · rw [if_neg hz]
/-- Nobody holds any of them. -/
def Idle (L : List Acc) : Prop := ∀ p ∈ L, p.by_.size = 0
theorem idle_put {L : List Acc} (h : Idle L) (t : ByteArray) (n : Int) : Idle (putP L t n).2 := by
  unfold putP
  split
  · exact h
  · split
    · exact h
    · split
      · exact h
      · split
        · exact h
        · intro p hp
          rcases (mem_ins _ _ _).1 hp with rfl | hp
          · rfl
          · exact h p hp
theorem idle_on {L : List Acc} (h : Idle L) (hL : Sorted L) (t : ByteArray) {f : Acc → Int × Acc} (hf : Blind f) : Idle (onP L t f).2 := by
  unfold onP
  cases hg : getA L t with
  | none => exact h
  | some p =>
    simp only
    split
    · intro q hq
      rcases mem_upd hq with rfl | hq
      · rw [hf.by_]
        exact h p ((getA_iff hL t p).1 hg).1
      · exact h q hq
    · exact h
theorem idle_held {L : List Acc} (h : Idle L) : heldN L = 0 := by
  unfold heldN
  rw [List.countP_eq_zero]
  intro p hp
  simp only [decide_eq_true_eq]
  exact fun q => q (h p hp)
/-- Two books, and the law's box. -/
structure Duo (w0 w : World) (A : Nat) (sva : Value) (LA : List Acc) (B : Nat) (svb : Value) (LB : List Acc) (K : Nat) (o : OpB) : Prop where
  a : BookIn w w0.heap.size A sva LA
  b : BookIn w w0.heap.size B svb LB
  ne : A ≠ B
  nr : ∀ g, sva.ownBlock = some g → svb.ownBlock ≠ some g
  k : w.heap[K]? = some (.cells #[.int .i64 o.k, .string o.nm, .string o.by_, .int .i64 o.n, .int .i64 o.slot] 37 (0, 0))
  bel : Below w0.heap.size w0 w
section
variable {w0 w w' : World} {A B K : Nat} {sva svb : Value} {LA LB LA' : List Acc} {o : OpB}
theorem Duo.swap (h : Duo w0 w A sva LA B svb LB K o) : Duo w0 w B svb LB A sva LA K o :=
  ⟨h.b, h.a, Ne.symm h.ne, fun g e q => h.nr g q e, h.k, h.bel⟩
theorem Duo.below (h : Duo w0 w A sva LA B svb LB K o) (b : Below w.heap.size w w') : Duo w0 w' A sva LA B svb LB K o :=
  ⟨h.a.below b, h.b.below b, h.ne, h.nr, (b.block _ (Array.getElem?_eq_some_iff.1 h.k).1).trans h.k, h.bel.trans (b.mono h.bel.size)⟩
theorem kind_ne {w : World} {g : Nat} {c1 c2 : Array Value} {t1 t2 : TypeId} (h1 : w.heap[g]? = some (.cells c1 t1 (0, 0))) (h2 : w.heap[g]? = some (.cells c2 t2 (0, 0))) (h : t1 ≠ t2) : False := by
  rw [h1] at h2
  injection h2 with h2
  injection h2 with _ h2
  exact h h2
theorem Duo.turn (h : Duo w0 w A sva LA B svb LB K o) (t : BTold w w' w0.heap.size A sva LA') : ∃ sva', Duo w0 w' A sva' LA' B svb LB K o := by
  obtain ⟨sva', h1, h2, h3⟩ := t
  have hrA : ∀ g, sva.ownBlock = some g → ∃ cur, w.heap[g]? = some (.cells cur 74 (0, 0)) := fun g e => (row_kind h.a.row e).2.2
  have kB : w'.heap[B]? = w.heap[B]? := h2.block B h.b.ltN (Ne.symm h.ne) (fun e => by
    obtain ⟨cur, hc⟩ := hrA B e.symm
    exact kind_ne hc h.b.hN (by decide))
  have kK : w'.heap[K]? = w.heap[K]? := h2.block K (Array.getElem?_eq_some_iff.1 h.k).1 (fun e => by
    have := h.k
    rw [e] at this
    exact kind_ne this h.a.hN (by decide)) (fun e => by
    obtain ⟨cur, hc⟩ := hrA K e.symm
    exact kind_ne hc h.k (by decide))
  have kr : ∀ g, svb.ownBlock = some g → w'.heap[g]? = w.heap[g]? := fun g e => by
    obtain ⟨_, hg, cur, hc⟩ := row_kind h.b.row e
    exact h2.block g hg (fun q => by rw [q] at hc; exact kind_ne hc h.a.hN (by decide)) (fun q => h.nr g q.symm e)
  exact ⟨sva', h1, h.b.keep kB kr, h.ne, fun g e q => by
    rcases h3 g e with x | x
    · exact h.nr g x q
    · have := (row_kind h.b.row q).2.1
      omega, kK.trans h.k, h.bel.trans (h.a.chg_below h2)⟩
theorem Duo.cells (h : Duo w0 w A sva LA B svb LB K o) : w.cell? ⟨K, 0, none⟩ = some (.int .i64 o.k) ∧ w.cell? ⟨K, 1, none⟩ = some (.string o.nm) ∧ w.cell? ⟨K, 2, none⟩ = some (.string o.by_) ∧ w.cell? ⟨K, 3, none⟩ = some (.int .i64 o.n) ∧ w.cell? ⟨K, 4, none⟩ = some (.int .i64 o.slot) := by
  refine ⟨?_, ?_, ?_, ?_, ?_⟩ <;> simp [World.cell?, h.k]
end
end Go.Proofs.YtabhgdmmljhpcaaDoor
