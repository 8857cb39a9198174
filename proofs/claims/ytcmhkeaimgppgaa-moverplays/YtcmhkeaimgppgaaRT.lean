/- The reference's mover: what is there while Told looks at an answer. -/
import Derived.Test.YtcmhkeaimgppgaaRStep
namespace Go.Proofs.Ytcmhkeaimgppgaa
open Go.RowKit Go.Shelf
attribute [local go_sem] Oper.semAt_some
set_option linter.unusedVariables false

/-- What is there behind its first steps. -/
structure RT1 (w V : World) (base : Bs) (G N : Nat) (K : MD) (x : MvD) (C1 : List Value) (q : AskI) (r : ResD) : Prop where
  m : RvIn V base G K
  xb : V.heap[w.heap.size]? = some (.cells #[.int .i64 x.slot, .int .i64 x.fr, .int .i64 x.to, .int .i64 x.ep, .int .i64 x.ph, .int .i64 x.n] 37 (0, 0))
  a0 : V.cell? ⟨w.heap.size + 1, 0, none⟩ = some (.int .i64 q.g)
  rb : V.heap[w.heap.size + 2]? = some (.cells #[.int .i64 r.why, .bool r.wait, .int .i64 r.rw, .int .i64 r.ra, r.rows, .slice r.da r.l.length r.dc] 42 (0, 0))
  z : V.heap[w.heap.size + 3]? = some (.cells #[.int .i64 0, .int .i64 0, .int .i64 0, .int .i64 0, .int .i64 0] 64 (0, 0))
  c : V.heap[N]? = some (.cells C1.toArray 33 (0, 0))
  res : ResIn V r
  ch : OnlyR w V G
  lo : w.heap.size + 3 < N
  gl : G < w.heap.size
  bok : base.ok V.heap.size
theorem heap_four (w : World) (o1 o2 o3 o4 : Obj) : ((((w.alloc o1).alloc o2).alloc o3).alloc o4).heap[w.heap.size]? = some o1 ∧ ((((w.alloc o1).alloc o2).alloc o3).alloc o4).heap[w.heap.size + 1]? = some o2 ∧ ((((w.alloc o1).alloc o2).alloc o3).alloc o4).heap[w.heap.size + 2]? = some o3 ∧ ((((w.alloc o1).alloc o2).alloc o3).alloc o4).heap[w.heap.size + 3]? = some o4 ∧ Below w.heap.size w ((((w.alloc o1).alloc o2).alloc o3).alloc o4) := by
  refine ⟨?_, ?_, ?_, ?_, ((((Below.refl _ w).alloc (Nat.le_refl _) _).alloc (by simp) _).alloc (by simp <;> omega) _).alloc (by simp <;> omega) _⟩
  · rw [Below.heap_alloc _ _ _ (by simp <;> omega), Below.heap_alloc _ _ _ (by simp <;> omega), Below.heap_alloc _ _ _ (by simp), heap_alloc_new]
  · rw [Below.heap_alloc _ _ _ (by simp <;> omega), Below.heap_alloc _ _ _ (by simp), heap_two]
  · rw [Below.heap_alloc _ _ _ (by simp), heap_three]
  · simpa using heap_alloc_new (((w.alloc o1).alloc o2).alloc o3) o4
/-- The reference's bytes are none of the mover's. -/
theorem seen_onlyR {W W' : World} {base : Bs} {G : Nat} {M : MD} {a : Option Addr} {n : Nat} {l : List (BitVec 8)} (h : Seen W a n l) (hm : RvIn W base G M) (o : OnlyR W W' G) : Seen W' a n l := by
  obtain ⟨s1, s2, s3⟩ := h
  obtain ⟨ma, mc, g1, _⟩ := hm.ex
  refine ⟨s1, s2, s3.imp id ?_⟩
  rintro ⟨b, off, e1, hc⟩
  refine ⟨b, off, e1, fun j hj => ?_⟩
  have hq := hc j hj
  have hne : b ≠ G := fun e2 => by
    subst e2
    generalize off + j = i at hq
    simp only [World.cell?, g1] at hq
    match i, hq with
    | 0, hq => simp at hq
    | 1, hq => simp at hq
    | 2, hq => simp at hq
    | 3, hq => simp at hq
    | i + 4, hq => simp at hq
  have e3 := o.block b (World.block_lt_of_cell? W _ hq) hne
  simp only [World.cell?, e3]
  exact hq
theorem rt_start {w : World} {base : Bs} {G : Nat} {R : MD} (h : RvIn w base G R) (hb : base.ok w.heap.size) (x : MvD) (C : List Value) (q : AskI) (hC : AskC C q) (r : ResD) (hr : ResIn w r) (w2 : World) (K : MD) (h2 : RvIn w2 base G K) (o2 : OnlyR ((((w.alloc (.cells #[.int .i64 x.slot, .int .i64 x.fr, .int .i64 x.to, .int .i64 x.ep, .int .i64 x.ph, .int .i64 x.n] 37)).alloc (.cells C.toArray 35)).alloc (.cells #[.int .i64 r.why, .bool r.wait, .int .i64 r.rw, .int .i64 r.ra, r.rows, .slice r.da r.l.length r.dc] 42)).alloc (.cells #[.int .i64 0, .int .i64 0, .int .i64 0, .int .i64 0, .int .i64 0] 64)) w2 G) :
    RT1 w ((w2.alloc (.cells #[.int .i64 0, .int .i64 0, .string ⟨#[]⟩, .string ⟨#[]⟩, .int .i64 0, .string ⟨#[]⟩, .int .i64 0, .int .i64 0, .string ⟨#[]⟩, .string ⟨#[]⟩, .int .i64 0, .int .i64 0, .int .i64 0, .int .i64 0, .int .i64 0, .bool false, .slice none 0 0] 33)).setRow w2.heap.size (C.drop 1).toArray) base G w2.heap.size K x (C.drop 1) q r ∧ w2.rangeAt (w.heap.size + 1) 1 (C.drop 1) := by
  obtain ⟨q1, q2, q3, q4, bA⟩ := heap_four w (.cells #[.int .i64 x.slot, .int .i64 x.fr, .int .i64 x.to, .int .i64 x.ep, .int .i64 x.ph, .int .i64 x.n] 37) (.cells C.toArray 35) (.cells #[.int .i64 r.why, .bool r.wait, .int .i64 r.rw, .int .i64 r.ra, r.rows, .slice r.da r.l.length r.dc] 42) (.cells #[.int .i64 0, .int .i64 0, .int .i64 0, .int .i64 0, .int .i64 0] 64)
  have hlt := h.lt
  have kb : ∀ {k : Nat} {ob : Obj}, ((((w.alloc (.cells #[.int .i64 x.slot, .int .i64 x.fr, .int .i64 x.to, .int .i64 x.ep, .int .i64 x.ph, .int .i64 x.n] 37)).alloc (.cells C.toArray 35)).alloc (.cells #[.int .i64 r.why, .bool r.wait, .int .i64 r.rw, .int .i64 r.ra, r.rows, .slice r.da r.l.length r.dc] 42)).alloc (.cells #[.int .i64 0, .int .i64 0, .int .i64 0, .int .i64 0, .int .i64 0] 64)).heap[k]? = some ob → k ≠ G → w2.heap[k]? = some ob := fun hk hn => (o2.block _ (Array.getElem?_eq_some_iff.1 hk).1 hn).trans hk
  have b3 : Below w2.heap.size w2 ((w2.alloc (.cells #[.int .i64 0, .int .i64 0, .string ⟨#[]⟩, .string ⟨#[]⟩, .int .i64 0, .string ⟨#[]⟩, .int .i64 0, .int .i64 0, .string ⟨#[]⟩, .string ⟨#[]⟩, .int .i64 0, .int .i64 0, .int .i64 0, .int .i64 0, .int .i64 0, .bool false, .slice none 0 0] 33)).setRow w2.heap.size (C.drop 1).toArray) := below_row ((Below.refl _ w2).alloc (Nat.le_refl _) _) (Nat.le_refl _) _
  have k3 : ∀ {k : Nat} {ob : Obj}, ((((w.alloc (.cells #[.int .i64 x.slot, .int .i64 x.fr, .int .i64 x.to, .int .i64 x.ep, .int .i64 x.ph, .int .i64 x.n] 37)).alloc (.cells C.toArray 35)).alloc (.cells #[.int .i64 r.why, .bool r.wait, .int .i64 r.rw, .int .i64 r.ra, r.rows, .slice r.da r.l.length r.dc] 42)).alloc (.cells #[.int .i64 0, .int .i64 0, .int .i64 0, .int .i64 0, .int .i64 0] 64)).heap[k]? = some ob → k ≠ G → ((w2.alloc (.cells #[.int .i64 0, .int .i64 0, .string ⟨#[]⟩, .string ⟨#[]⟩, .int .i64 0, .string ⟨#[]⟩, .int .i64 0, .int .i64 0, .string ⟨#[]⟩, .string ⟨#[]⟩, .int .i64 0, .int .i64 0, .int .i64 0, .int .i64 0, .int .i64 0, .bool false, .slice none 0 0] 33)).setRow w2.heap.size (C.drop 1).toArray).heap[k]? = some ob := fun hk hn => (b3.block _ (Array.getElem?_eq_some_iff.1 (kb hk hn)).1).trans (kb hk hn)
  have e2 := k3 q2 (by omega)
  refine ⟨⟨h2.below b3, k3 q1 (by omega), ?_, k3 q3 (by omega), k3 q4 (by omega), setRow_self (heap_alloc_new w2 _), ⟨(seen_onlyR (hr.seen.below bA) (h.below bA) o2).below b3, hr.nil, hr.len⟩, ((OnlyR.of_below bA G).trans o2).trans (OnlyR.of_below b3 G), Nat.lt_of_lt_of_le (Array.getElem?_eq_some_iff.1 q4).1 o2.size, hlt, hb.mono (Nat.le_trans bA.size (Nat.le_trans o2.size b3.size))⟩, fun j v hv => ?_⟩
  · simp only [World.cell?, e2]
    simpa using hC.c0
  · simp only [World.cell?, kb q2 (by omega)]
    rw [List.getElem?_drop] at hv
    simpa using hv
section
variable {w V : World} {base : Bs} {G N : Nat} {K : MD} {x : MvD} {C1 : List Value} {q : AskI} {r : ResD}
theorem RT1.xc (h : RT1 w V base G N K x C1 q r) (i : Nat) : V.cell? ⟨w.heap.size, i, none⟩ = (#[.int .i64 x.slot, .int .i64 x.fr, .int .i64 x.to, .int .i64 x.ep, .int .i64 x.ph, .int .i64 x.n] : Array Value)[i]? := by simp only [World.cell?, h.xb]; rfl
theorem RT1.rc (h : RT1 w V base G N K x C1 q r) (i : Nat) : V.cell? ⟨w.heap.size + 2, i, none⟩ = (#[.int .i64 r.why, .bool r.wait, .int .i64 r.rw, .int .i64 r.ra, r.rows, .slice r.da r.l.length r.dc] : Array Value)[i]? := by simp only [World.cell?, h.rb]; rfl
theorem RT1.cc (h : RT1 w V base G N K x C1 q r) (i : Nat) : V.cell? ⟨N, i, none⟩ = C1[i]? := by simp only [World.cell?, h.c]; simp
theorem RT1.drewN (h : RT1 w V base G N K x C1 q r) (nq : Nat) : RT1 w (V.drewN nq) base G N K x C1 q r :=
  ⟨h.m.drewN nq, h.xb, h.a0, h.rb, h.z, h.c, ⟨h.res.seen, h.res.nil, h.res.len⟩, h.ch.drewN nq, h.lo, h.gl, h.bok⟩
/-- The end, where something follows. -/
theorem RT1.done (h : RT1 w V base G N K x C1 q r) {V' : World} (b : Below V.heap.size V V') (cs : Array Value) : RvIn (V'.setRow (w.heap.size + 3) cs) base G K ∧ OnlyR w (V'.setRow (w.heap.size + 3) cs) G ∧ V'.heap[w.heap.size + 3]? = some (.cells #[.int .i64 0, .int .i64 0, .int .i64 0, .int .i64 0, .int .i64 0] 64 (0, 0)) := by
  have gl := h.gl
  have z := (b.block _ (Array.getElem?_eq_some_iff.1 h.z).1).trans h.z
  have o := h.ch.trans (OnlyR.of_below b G)
  exact ⟨(h.m.below b).other (Q := w.heap.size + 3) (by omega) z (fun cur z e => by injection e with _ e; exact absurd e (by decide)) (fun g hg _ => setRow_other _ _ _ _ hg), ⟨o.os, o.tape, o.output, by simpa using o.size, fun k hk hn => (setRow_other _ _ _ _ (by omega)).trans (o.block k hk hn)⟩, z⟩
/-- The end, where nothing was learned. -/
theorem RT1.zero (h : RT1 w V base G N K x C1 q r) : RvIn (V.setRow (w.heap.size + 3) #[.int .i64 0, .int .i64 0, .int .i64 0, .int .i64 0, .int .i64 0]) base G K ∧ OnlyR w (V.setRow (w.heap.size + 3) #[.int .i64 0, .int .i64 0, .int .i64 0, .int .i64 0, .int .i64 0]) G := by
  have gl := h.gl
  exact ⟨h.m.other (Q := w.heap.size + 3) (by omega) h.z (fun cur z e => by injection e with _ e; exact absurd e (by decide)) (fun g hg _ => setRow_other _ _ _ _ hg), ⟨h.ch.os, h.ch.tape, h.ch.output, by simpa using h.ch.size, fun k hk hn => (setRow_other _ _ _ _ (by omega)).trans (h.ch.block k hk hn)⟩⟩
end
theorem duty_to {x : MvD} {k g : Int} (h : dutyG x k = some g) : g = if k = 9 then x.to else x.fr := by
  unfold dutyG dutiesL at h
  by_cases h1 : x.ph = 1
  · rw [if_pos h1] at h
    by_cases h8 : k = 8
    · subst h8
      simpa using h.symm
    · simp [Ne.symm h8] at h
  · rw [if_neg h1] at h
    by_cases h2 : x.ph = 2
    · rw [if_pos h2] at h
      by_cases h8 : k = 8
      · subst h8
        simpa using h.symm
      · by_cases h9 : k = 9
        · subst h9
          simpa using h.symm
        · simp [Ne.symm h8, Ne.symm h9] at h
    · rw [if_neg h2] at h
      by_cases h3 : x.ph = 3
      · rw [if_pos h3] at h
        by_cases h10 : k = 10
        · subst h10
          simpa using h.symm
        · simp [Ne.symm h10] at h
      · rw [if_neg h3] at h
        simp at h
theorem toldR_miss {R : MD} {x : MvD} {q : AskI} {r : ResD} (h : ¬ (q.g = (if q.kind = 9 then x.to else x.fr) ∧ q.slot = x.slot ∧ q.ep = x.ep)) : toldR R x q r = (rknowM R x, false) := by
  unfold toldR
  cases hd : dutyG x q.kind with
  | none => rfl
  | some g =>
    dsimp only
    rw [duty_to hd, if_neg h]
theorem toldR_none {R : MD} {x : MvD} {q : AskI} {r : ResD} (h : dutyG x q.kind = none) : toldR R x q r = (rknowM R x, false) := by
  unfold toldR
  rw [h]
theorem toldR_some {R : MD} {x : MvD} {q : AskI} {r : ResD} {g : Int} (h : dutyG x q.kind = some g) (hm : q.g = (if q.kind = 9 then x.to else x.fr) ∧ q.slot = x.slot ∧ q.ep = x.ep) : toldR R x q r = learnQ (rknowM R x) x q r := by
  unfold toldR
  rw [h]
  dsimp only
  rw [duty_to h, if_pos hm]
end Go.Proofs.Ytcmhkeaimgppgaa
