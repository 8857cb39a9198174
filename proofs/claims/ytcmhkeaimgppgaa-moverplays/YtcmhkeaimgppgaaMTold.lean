/- Package mover: what is there while Told goes through the duties. -/
import Derived.Test.YtcmhkeaimgppgaaMDut
namespace Go.Proofs.Ytcmhkeaimgppgaa
open Go.RowKit Go.Shelf
set_option linter.unusedVariables false

/-- What counts of an ask that is answered. -/
structure AskI where
  g : Int
  kind : Int
  slot : Int
  ep : Int
  cat : Int
  last : Bool
  ca : Option Addr
  cn : Nat
  cc : Nat
/-- An ask's cells. -/
structure AskC (C : List Value) (q : AskI) : Prop where
  len : C.length = 18
  c0 : C[0]? = some (.int .i64 q.g)
  c1 : C[1]? = some (.int .i64 q.kind)
  c13 : C[13]? = some (.int .i64 q.slot)
  c14 : C[14]? = some (.int .i64 q.ep)
  c15 : C[15]? = some (.int .i64 q.cat)
  c16 : C[16]? = some (.bool q.last)
  c17 : C[17]? = some (.slice q.ca q.cn q.cc)
  bound : q.cn ≤ 140737488355328
def learnQ (K : MD) (x : MvD) (q : AskI) (r : ResD) : MD × Bool := learnM K x.ph q.kind q.cat q.cn q.last r
def dutyG (x : MvD) (kind : Int) : Option Int := ((dutiesL x).find? (fun y => y.1 == kind)).map (·.2)
def toldM (M : MD) (x : MvD) (q : AskI) (r : ResD) : MD × Bool :=
  match dutyG x q.kind with
  | none => (knowM M x, false)
  | some g => if q.g = g ∧ q.slot = x.slot ∧ q.ep = x.ep then learnQ (knowM M x) x q r else (knowM M x, false)
/-- What it is behind some duties. -/
def stD (K : MD) (x : MvD) (q : AskI) (r : ResD) (pre : List (Int × Int)) : MD × Bool := if pre.any (fun y => y.1 == q.kind) = true then learnQ K x q r else (K, false)
theorem seen_only {W W' : World} {base : Bs} {G : Nat} {M : MD} {a : Option Addr} {n : Nat} {l : List (BitVec 8)} (h : Seen W a n l) (hm : MvIn W base G M) (o : OnlyR W W' G) : Seen W' a n l := by
  obtain ⟨s1, s2, s3⟩ := h
  obtain ⟨ma, mc, g1, _⟩ := hm.ex
  refine ⟨s1, s2, s3.imp id ?_⟩
  rintro ⟨b, off, e1, hc⟩
  refine ⟨b, off, e1, fun j hj => ?_⟩
  have hq := hc j hj
  have hne : b ≠ G := fun e2 => by
    subst e2
    generalize off + j = i at hq
    simp only [World.cell?, g1] at hq
    match i, hq with
    | 0, hq => simp at hq
    | 1, hq => simp at hq
    | 2, hq => simp at hq
    | 3, hq => simp at hq
    | i + 4, hq => simp at hq
  have e3 := o.block b (World.block_lt_of_cell? W _ hq) hne
  simp only [World.cell?, e3]
  exact hq
/-- Every block of cells is as it was. -/
def KeepC (A B : World) : Prop := ∀ (k : Nat) (cs : Array Value) (t : TypeId) (z : Nat × Nat), A.heap[k]? = some (.cells cs t z) → B.heap[k]? = some (.cells cs t z)
theorem KeepC.of_below {A B : World} (b : Below A.heap.size A B) : KeepC A B := fun g cs t z q => (b.block g (Array.getElem?_eq_some_iff.1 q).1).trans q
theorem KeepC.bk {W : World} {l : Nat} {o : Obj} (o' : Obj) (h1 : W.heap[l]? = some o) (h2 : o.isCells = false) : KeepC W (W.putObj l o') := fun g cs t z q => by
  have hne : g ≠ l := fun e2 => by rw [e2, h1] at q; cases q; simp [Obj.isCells] at h2
  rw [World.putObj_heap_other hne]
  exact q
theorem seen_keep {W W' : World} {a : Option Addr} {n : Nat} {l : List (BitVec 8)} (h : Seen W a n l) (k : KeepC W W') : Seen W' a n l := by
  obtain ⟨s1, s2, s3⟩ := h
  refine ⟨s1, s2, s3.imp id ?_⟩
  rintro ⟨b, off, e1, hc⟩
  refine ⟨b, off, e1, fun j hj => ?_⟩
  have hq := hc j hj
  have hlt := World.block_lt_of_cell? W _ hq
  simp only [World.cell?] at hq ⊢
  rw [Array.getElem?_eq_getElem hlt] at hq
  cases ho : W.heap[b] with
  | cells cs t z =>
    have := k b cs t z (by rw [Array.getElem?_eq_getElem hlt, ho])
    rw [this]
    rw [ho] at hq
    exact hq
  | _ => rw [ho] at hq; cases hq
theorem mvIn_keep {w w' : World} {base : Bs} {G : Nat} {M : MD} (h : MvIn w base G M) (k : KeepC w w') : MvIn w' base G M := by
  obtain ⟨a, c, h1, h2⟩ := h.ex
  refine ⟨⟨a, c, k _ _ _ _ h1, owns_kept h2.1 (fun g e => ?_), h2.2⟩, h.bG, h.fits, h.len⟩
  obtain ⟨_, _, cur, hc⟩ := row_kind h2.1 e
  rw [hc]
  exact k _ _ _ _ hc
/-- What is there while Told goes through the duties. -/
structure TI (w W : World) (base : Bs) (G E : Nat) (x : MvD) (C : List Value) (r : ResD) (s : MD × Bool) : Prop where
  m : MvIn W base G s.1
  e : W.heap[E]? = some (.cells #[.bool s.2] 4 (0, 0))
  b4 : W.heap[w.heap.size]? = some (.cells #[.pointer (some ⟨G, 0, none⟩)] 23 (0, 0))
  b5 : W.heap[w.heap.size + 1]? = some (.cells #[.int .i64 x.slot, .int .i64 x.fr, .int .i64 x.to, .int .i64 x.ep, .int .i64 x.ph, .int .i64 x.n] 47 (0, 0))
  b6 : W.heap[w.heap.size + 2]? = some (.cells C.toArray 54 (0, 0))
  b7 : W.heap[w.heap.size + 3]? = some (.cells #[.int .i64 r.why, .bool r.wait, .int .i64 r.rw, .int .i64 r.ra, r.rows, .slice r.da r.l.length r.dc] 57 (0, 0))
  b8 : W.heap[w.heap.size + 4]? = some (.cells #[.int .i64 0, .int .i64 0, .int .i64 0, .int .i64 0, .int .i64 0] 60 (0, 0))
  res : ResIn W r
  ch : OnlyR w W G
  lo : w.heap.size + 4 < E
section
variable {w W W' : World} {base : Bs} {G E : Nat} {x : MvD} {C : List Value} {r : ResD} {s : MD × Bool}
theorem TI.keep (h : TI w W base G E x C r s) (k : KeepC W W') (o : OnlyR w W' G) : TI w W' base G E x C r s :=
  ⟨mvIn_keep h.m k, k _ _ _ _ h.e, k _ _ _ _ h.b4, k _ _ _ _ h.b5, k _ _ _ _ h.b6, k _ _ _ _ h.b7, k _ _ _ _ h.b8, ⟨seen_keep h.res.seen k, h.res.nil, h.res.len⟩, o, h.lo⟩
theorem TI.below (h : TI w W base G E x C r s) (b : Below W.heap.size W W') : TI w W' base G E x C r s := h.keep (KeepC.of_below b) (h.ch.trans (OnlyR.of_below b G))
theorem TI.put (h : TI w W base G E x C r s) {l : Nat} {o : Obj} (o' : Obj) (hl : w.heap.size ≤ l) (h1 : W.heap[l]? = some o) (h2 : o.isCells = false) : TI w (W.putObj l o') base G E x C r s :=
  h.keep (KeepC.bk o' h1 h2) ⟨h.ch.os, h.ch.tape, h.ch.output, by simpa using h.ch.size, fun k hk hn => (World.putObj_heap_other (by omega)).trans (h.ch.block k hk hn)⟩
/-- Behind a call that learns, and the store of what it answered. -/
theorem TI.learn (h : TI w W base G E x C r s) (hg : G < w.heap.size) {M' : MD} (hm : MvIn W' base G M') (o : OnlyR W W' G) (b : Bool) : TI w (W'.setCell ⟨E, 0, none⟩ (.bool b)) base G E x C r (M', b) ∧ W'.cell? ⟨E, 0, none⟩ = some (.bool s.2) ∧ W'.frozen? ⟨E, 0, none⟩ = false ∧ KeepV W (W'.setCell ⟨E, 0, none⟩ (.bool b)) ∧ ∀ B, KeepsFrom B W (W'.setCell ⟨E, 0, none⟩ (.bool b)) := by
  have lo := h.lo
  have kb : ∀ {k : Nat} {cs : Array Value} {t : TypeId} {z : Nat × Nat}, W.heap[k]? = some (.cells cs t z) → k ≠ G → W'.heap[k]? = some (.cells cs t z) := fun q hn => (o.block _ (Array.getElem?_eq_some_iff.1 q).1 hn).trans q
  have e1 : W'.heap[E]? = some (.cells #[.bool s.2] 4 (0, 0)) := kb h.e (by omega)
  have e2 := setCell_eq_setRow W' E 0 _ _ _ (.bool b) e1
  have e3 : ∀ {k : Nat}, k ≠ E → (W'.setCell ⟨E, 0, none⟩ (.bool b)).heap[k]? = W'.heap[k]? := fun hn => Below.heap_setCell _ _ _ _ hn
  have oE : OnlyR W' (W'.setCell ⟨E, 0, none⟩ (.bool b)) E := (OnlyR.refl W' E).set 0 _
  obtain ⟨ma, mc, g1, _⟩ := h.m.ex
  refine ⟨⟨?_, ?_, (e3 (by omega)).trans (kb h.b4 (by omega)), (e3 (by omega)).trans (kb h.b5 (by omega)), (e3 (by omega)).trans (kb h.b6 (by omega)), (e3 (by omega)).trans (kb h.b7 (by omega)), (e3 (by omega)).trans (kb h.b8 (by omega)), ⟨?_, h.res.nil, h.res.len⟩, ?_, lo⟩, by simp [World.cell?, e1], by simp [World.frozen?, e1], fun k cs z q => ?_, fun B => ⟨?_, fun k ob _ q hc => ?_⟩⟩
  · refine hm.other (Q := E) (by omega) e1 (fun cur z e => ?_) (fun g hg _ => e3 hg)
    injection e with _ e
    exact absurd e (by decide)
  · rw [e2]
    exact setRow_self e1
  · have h5 := seen_only h.res.seen h.m o
    obtain ⟨s1, s2, s3⟩ := h5
    refine ⟨s1, s2, s3.imp id ?_⟩
    rintro ⟨bb, off, e5, hc⟩
    refine ⟨bb, off, e5, fun j hj => ?_⟩
    have hq := hc j hj
    have hne : bb ≠ E := fun e6 => by
      subst e6
      generalize off + j = i at hq
      simp only [World.cell?, e1] at hq
      match i, hq with
      | 0, hq => simp at hq
      | i + 1, hq => simp at hq
    have e7 := e3 hne
    simp only [World.cell?, e7]
    exact hq
  · have oW := h.ch.trans o
    exact ⟨oW.os, oW.tape, oW.output, by simpa using oW.size, fun k hk hn => (e3 (by omega)).trans (oW.block k hk hn)⟩
  · have hnG : k ≠ G := fun e6 => by
      subst e6
      rw [g1] at q
      injection q with q
      injection q with _ q
      exact absurd q (by decide)
    have hnE : k ≠ E := fun e6 => by
      subst e6
      rw [h.e] at q
      injection q with q
      injection q with _ q
      exact absurd q (by decide)
    exact (e3 hnE).trans (kb q hnG)
  · have := o.size
    simpa using this
  · have hnG : k ≠ G := fun e6 => by
      subst e6
      rw [g1] at q
      cases q
      simp [Obj.isCells] at hc
    have hnE : k ≠ E := fun e6 => by
      subst e6
      rw [h.e] at q
      cases q
      simp [Obj.isCells] at hc
    exact (e3 hnE).trans ((o.block _ (Array.getElem?_eq_some_iff.1 q).1 hnG).trans q)
end
/-- A duty that is met is met once. -/
theorem duty_once {x : MvD} {pre : List (Int × Int)} {y : Int × Int} {rest : List (Int × Int)} (h : dutiesL x = pre ++ y :: rest) : pre.any (fun z => z.1 == y.1) = false ∧ rest.any (fun z => z.1 == y.1) = false ∧ (dutiesL x).find? (fun z => z.1 == y.1) = some y := by
  have key : ∀ l : List (Int × Int), (l.map (·.1)).Nodup → l = pre ++ y :: rest → pre.any (fun z => z.1 == y.1) = false ∧ rest.any (fun z => z.1 == y.1) = false ∧ l.find? (fun z => z.1 == y.1) = some y := fun l hn hl => by
    subst hl
    rw [List.map_append, List.map_cons] at hn
    have hd := List.nodup_append.1 hn
    have h1 : pre.any (fun z => z.1 == y.1) = false := by
      rw [List.any_eq_false]
      intro z hz
      have := hd.2.2 z.1 (List.mem_map_of_mem hz) y.1 (by simp)
      simpa using this
    have h2 : rest.any (fun z => z.1 == y.1) = false := by
      rw [List.any_eq_false]
      intro z hz
      have := (List.nodup_cons.1 hd.2.1).1
      intro e
      simp only [beq_iff_eq] at e
      exact this (by rw [← e]; exact List.mem_map_of_mem hz)
    refine ⟨h1, h2, ?_⟩
    rw [List.find?_append]
    have : pre.find? (fun z => z.1 == y.1) = none := by
      rw [List.find?_eq_none]
      intro z hz
      rw [List.any_eq_false] at h1
      exact h1 z hz
    rw [this]
    simp
  refine key _ ?_ h
  unfold dutiesL
  repeat' split
  all_goals simp
end Go.Proofs.Ytcmhkeaimgppgaa
