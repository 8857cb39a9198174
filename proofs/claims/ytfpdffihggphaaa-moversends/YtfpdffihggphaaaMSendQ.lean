/- MoverSends: what a round finds and leaves. -/
import Derived.Test.YtfpdffihggphaaaMSendP
namespace Go.Proofs.Ytfpdffihggphaaa
open Go.RowKit Go.Shelf
set_option linter.unusedVariables false

/-- What is there while the pieces are sent. -/
structure SI (w wr : World) (G Bx : Nat) (l : List (BitVec 8)) (k : Nat) (v : Value) : Prop where
  m : MvIn wr ⟨w.heap.size, fun g => v.ownBlock ≠ some g⟩ G (KS l k)
  row : wr.ownsRow w.heap.size 5 1 v k (cellsOf (l.take k))
  x : wr.heap[Bx]? = some (.cells #[.int .i64 3, .int .i64 1, .int .i64 2, .int .i64 4, .int .i64 2, .int .i64 7] 47 (0, 0))
  be : Below w.heap.size w wr
  le : k ≤ l.length
/-- Behind the append. -/
structure SJ (w w6 : World) (Bx g : Nat) (cur : Array Value) (l : List (BitVec 8)) (k n : Nat) (LB : Bool) (ua : Option Addr) (uc : Nat) (va' : Option Addr) (vc' : Nat) : Prop where
  m : MvIn w6 ⟨w.heap.size, fun g => (Value.slice va' (k + n) vc').ownBlock ≠ some g⟩ w.heap.size (KS l k)
  ok : Bs.ok ⟨w.heap.size, fun g => (Value.slice va' (k + n) vc').ownBlock ≠ some g⟩ w6.heap.size
  x : w6.heap[Bx]? = some (.cells #[.int .i64 3, .int .i64 1, .int .i64 2, .int .i64 4, .int .i64 2, .int .i64 7] 47 (0, 0))
  gc : w6.heap[g]? = some (.cells cur 54 (0, 0))
  r : w6.rangeAt g 0 (AskV.cells (PAsk.v ⟨2, 9, 3, 4, k, LB, (l.drop k).take n⟩ (.slice ua n uc)))
  ac : AskC (AskV.cells (PAsk.v ⟨2, 9, 3, 4, k, LB, (l.drop k).take n⟩ (.slice ua n uc))) ⟨2, 9, 3, 4, k, LB, ua, n, uc⟩
  row : w6.ownsRow w.heap.size 5 1 (.slice va' (k + n) vc') (k + n) (cellsOf (l.take (k + n)))
  be : Below w.heap.size w w6
  told : toldM (KS l k) XS ⟨2, 9, 3, 4, k, LB, ua, n, uc⟩ R2 = (KS l (k + n), LB)
  le : k + n ≤ l.length
  lb : decide (k + n = l.length) = LB
  big : l.length ≤ 20000
/-- Ahead of it. -/
structure SK (w w5 : World) (Bx g : Nat) (l : List (BitVec 8)) (k n : Nat) (va : Option Addr) (vc : Nat) (ua : Option Addr) (uc : Nat) : Prop where
  k0 : w5.cell? ⟨g, 0, none⟩ = some (.int .i64 2)
  k1 : w5.cell? ⟨g, 1, none⟩ = some (.int .i64 9)
  k15 : w5.cell? ⟨g, 15, none⟩ = some (.int .i64 (k : Int))
  k17 : w5.cell? ⟨g, 17, none⟩ = some (.slice ua n uc)
  n1 : ¬ ((1000 : Int) < (n : Int))
  n2 : ¬ (1000 < n)
  si : SI w w5 w.heap.size Bx l k (.slice va k vc)
theorem send_step {w wr w5 : World} {Bx g : Nat} {cur : Array Value} {l : List (BitVec 8)} {k : Nat} {va : Option Addr} {vc : Nat} {ua : Option Addr} {uc : Nat} (hSI : SI w wr w.heap.size Bx l k (.slice va k vc)) (hbig : l.length ≤ 20000)
    (hr : w5.rangeAt g 0 (AskV.cells (PAsk.v ⟨2, 9, 3, 4, k, decide (endS l k = l.length), (l.drop k).take (endS l k - k)⟩ (.slice ua ((l.drop k).take (endS l k - k)).length uc)))) (hg : w5.heap[g]? = some (.cells cur 54 (0, 0)))
    (hse : Seen w5 ua ((l.drop k).take (endS l k - k)).length ((l.drop k).take (endS l k - k))) (hn : ua = none → uc = 0) (m5 : MvIn w5 ⟨w.heap.size, fun g => (Value.slice va k vc).ownBlock ≠ some g⟩ w.heap.size (KS l k)) (b5 : Below w.heap.size w w5) (x5 : w5.heap[Bx]? = some (.cells #[.int .i64 3, .int .i64 1, .int .i64 2, .int .i64 4, .int .i64 2, .int .i64 7] 47 (0, 0))) (o5 : OnlyR wr w5 w.heap.size) :
    ∃ (n : Nat) (LB : Bool) (va' : Option Addr) (vc' : Nat) (w6 : World), (Builtin.append_ #[26, 26] 26 #[.slice va k vc, .slice ua n uc]).run Try.prog w5 = .ok (.slice va' (k + n) vc') w6 ∧ SK w w5 Bx g l k n va vc ua uc ∧ SJ w w6 Bx g cur l k n LB ua uc va' vc' := by
  have hle := hSI.le
  have eL := endS_len l k hle
  have eA := endS_app l k hle
  have e6 := f6 l k hle
  have hge := endS_ge l k hle
  have hE1 := endS_le l k hle
  have hE2 := endS_k l k
  rw [eL] at hr hse
  obtain ⟨n, hn0⟩ : ∃ n, endS l k = k + n := ⟨endS l k - k, by omega⟩
  have hsub : k + n - k = n := by omega
  simp only [hn0, hsub] at hr hse e6 eA hE1 hE2
  obtain ⟨LB, hLB⟩ : ∃ LB, decide (k + n = l.length) = LB := ⟨_, rfl⟩
  rw [hLB] at hr
  have r5 : w5.ownsRow w.heap.size 5 1 (.slice va k vc) k (cellsOf (l.take k)) := owns_kept hSI.row (fun b e => by
    obtain ⟨_, hl, cu, hc⟩ := row_kind hSI.row e
    refine o5.block b hl (fun e2 => ?_)
    obtain ⟨ma, mc, mg, _⟩ := hSI.m.ex
    rw [e2, mg] at hc
    injection hc with hc
    injection hc with _ hc
    exact absurd hc (by decide))
  obtain ⟨v6, w6, hrun, hrow6, hgrow, hwhere⟩ := run_append_bytes2 26 w5 w.heap.size (.slice va k vc) k (l.take k) r5 ua n uc _ hse hn (by omega) b5.size
  rw [eA] at hrow6
  obtain ⟨va', vc', rfl, _⟩ := row_form hrow6
  have nRow : ∀ (b : Nat) (cs : Array Value) (t : TypeId) (z : Nat × Nat), w5.heap[b]? = some (.cells cs t z) → t ≠ 5 → (Value.slice va k vc).ownBlock ≠ some b := fun b cs t z hb ht e => by
    obtain ⟨_, _, cu, hc⟩ := row_kind r5 e
    rw [hb] at hc
    injection hc with hc
    injection hc with _ hc
    exact ht hc
  have kb : ∀ (b : Nat) (cs : Array Value) (t : TypeId) (z : Nat × Nat), w5.heap[b]? = some (.cells cs t z) → t ≠ 5 → w6.heap[b]? = some (.cells cs t z) := fun b cs t z hb ht => (hgrow.block b (Array.getElem?_eq_some_iff.1 hb).1 (fun e => nRow b cs t z hb ht e.symm)).trans hb
  have m6 : MvIn w6 ⟨w.heap.size, fun g => (Value.slice va' (k + n) vc').ownBlock ≠ some g⟩ w.heap.size (KS l k) := by
    obtain ⟨ma, mc, mg, mo⟩ := m5.ex
    have mG := m5.grown hgrow (nRow _ _ _ _ mg (by decide)) (fun g hg => hg)
    obtain ⟨pa, pc, pg, po⟩ := mG.ex
    have e9 := kb _ _ _ _ mg (by decide)
    rw [pg] at e9
    injection e9 with e9
    injection e9 with e9
    simp only [Array.mk.injEq, List.cons.injEq, Value.slice.injEq, and_true, true_and] at e9
    obtain ⟨rfl, rfl⟩ := e9
    refine ⟨⟨pa, pc, pg, po.1, fun b e e2 => ?_⟩, mG.bG, mG.fits, mG.len⟩
    rcases hwhere with hw | hw
    · exact po.2 b e (by rw [← hw]; exact e2)
    · rw [hw] at e2
      cases e2
      have := (row_kind mo.1 e).2.1
      omega
  have H6 : Hid (MvIn w6 ⟨w.heap.size, fun g => (Value.slice va' (k + n) vc').ownBlock ≠ some g⟩ w.heap.size (KS l k) ∧ (Bs.ok ⟨w.heap.size, fun g => (Value.slice va' (k + n) vc').ownBlock ≠ some g⟩ w6.heap.size) ∧ w6.heap[Bx]? = some (.cells #[.int .i64 3, .int .i64 1, .int .i64 2, .int .i64 4, .int .i64 2, .int .i64 7] 47 (0, 0)) ∧ w6.heap[g]? = some (.cells cur 54 (0, 0)) ∧ w6.rangeAt g 0 (AskV.cells (PAsk.v ⟨2, 9, 3, 4, k, LB, (l.drop k).take n⟩ (.slice ua n uc)))) := ⟨m6, ⟨Nat.le_trans b5.size hgrow.size, fun b hb e => by have := (row_kind hrow6 e).2.1; omega⟩, kb _ _ _ _ x5 (by decide), kb _ _ _ _ hg (by decide), fun j u hj => by
    have h9 := hr j u hj
    simp only [World.cell?] at h9 ⊢
    rw [kb _ _ _ _ hg (by decide)]
    rw [hg] at h9
    exact h9⟩
  have HAC : Hid (AskC (AskV.cells (PAsk.v ⟨2, 9, 3, 4, k, LB, (l.drop k).take n⟩ (.slice ua n uc))) ⟨2, 9, 3, 4, k, LB, ua, n, uc⟩) := ⟨rfl, rfl, rfl, rfl, rfl, rfl, rfl, rfl, by show n ≤ _; omega⟩
  have HRun : Hid _ := hrun
  have HRow : Hid _ := hrow6
  have HB6 : Hid (Below w.heap.size w w6) := b5.grown hgrow b5.size (fun b e => (row_kind r5 e).1)
  have HF6 : Hid (toldM (KS l k) XS ⟨2, 9, 3, 4, k, LB, ua, n, uc⟩ R2 = (KS l (k + n), LB)) := e6 LB ua uc
  have HKN : Hid (k + n ≤ l.length) := hE1
  have HLB : Hid (decide (k + n = l.length) = LB) := hLB
  have HB5 : Hid (Below w.heap.size w w5) := b5
  have k0 : w5.cell? ⟨g, 0, none⟩ = some (.int .i64 2) := hr 0 _ rfl
  have k1 : w5.cell? ⟨g, 1, none⟩ = some (.int .i64 9) := hr 1 _ rfl
  have k15 : w5.cell? ⟨g, 15, none⟩ = some (.int .i64 (k : Int)) := hr 15 _ rfl
  have k17 : w5.cell? ⟨g, 17, none⟩ = some (.slice ua n uc) := hr 17 _ rfl
  have hn1 : ¬ ((1000 : Int) < (n : Int)) := by omega
  have hn2 : ¬ (1000 < n) := by omega
  have hSI5 : Hid (SI w w5 w.heap.size Bx l k (.slice va k vc)) := ⟨m5, r5, x5, b5, hle⟩
  exact ⟨n, LB, va', vc', w6, hrun, ⟨k0, k1, k15, k17, hn1, hn2, hSI5.out⟩, ⟨H6.out.1, H6.out.2.1, H6.out.2.2.1, H6.out.2.2.2.1, H6.out.2.2.2.2, HAC.out, HRow.out, HB6.out, HF6.out, HKN.out, HLB.out, hbig⟩⟩
theorem wrap_succ (i : Nat) (h : i < 60) : wrap64 ((i : Int) + 1) = ((i + 1 : Nat) : Int) := by unfold wrap64; omega
theorem meas_lt (i : Nat) (h : i < 60) : 60 - (intOf (.int .i64 ((i + 1 : Nat) : Int))).toNat < 60 - (intOf (.int .i64 (i : Int))).toNat := by simp only [intOf]; omega
theorem meas_lt2 (i : Nat) (h : i < 60) : 60 - (intOf (.int .i64 ((i : Int) + 1))).toNat < 60 - (intOf (.int .i64 (i : Int))).toNat := by simp only [intOf]; omega
/-- Behind the answer. -/
theorem send_told {w w6 W7 : World} {Bx g : Nat} {cur : Array Value} {l : List (BitVec 8)} {k n : Nat} {LB : Bool} {ua : Option Addr} {uc : Nat} {va' : Option Addr} {vc' : Nat} (h : SJ w w6 Bx g cur l k n LB ua uc va' vc') (m7 : MvIn W7 ⟨w.heap.size, fun g => (Value.slice va' (k + n) vc').ownBlock ≠ some g⟩ w.heap.size (KS l (k + n))) (o7 : OnlyR w6 W7 w.heap.size) :
    SI w W7 w.heap.size Bx l (k + n) (.slice va' (k + n) vc') ∧ W7.cell? ⟨g, 16, none⟩ = some (.bool LB) := by
  obtain ⟨ma, mc, mg, _⟩ := h.m.ex
  have nGg : g ≠ w.heap.size := fun e => by
    have h9 := h.gc
    rw [e, mg] at h9
    injection h9 with h9
    injection h9 with _ h9
    exact absurd h9 (by decide)
  have nGx : Bx ≠ w.heap.size := fun e => by
    have h9 := h.x
    rw [e, mg] at h9
    injection h9 with h9
    injection h9 with _ h9
    exact absurd h9 (by decide)
  refine ⟨⟨m7, owns_kept h.row (fun b e => ?_), (o7.block _ (Array.getElem?_eq_some_iff.1 h.x).1 nGx).trans h.x, h.be.trans (o7.toBelow (Nat.le_refl _) h.be.size), h.le⟩, ?_⟩
  · obtain ⟨_, hl, cu, hc⟩ := row_kind h.row e
    refine o7.block b hl (fun e2 => ?_)
    rw [e2, mg] at hc
    injection hc with hc
    injection hc with _ hc
    exact absurd hc (by decide)
  · have h9 := h.r 16 _ rfl
    have e9 := o7.block _ (Array.getElem?_eq_some_iff.1 h.gc).1 nGg
    simp only [World.cell?] at h9 ⊢
    rw [e9]
    exact h9
/-- The last piece. -/
theorem send_last {w W7 : World} {Bx : Nat} {l : List (BitVec 8)} {k n : Nat} {va' : Option Addr} {vc' : Nat} (h : SI w W7 w.heap.size Bx l (k + n) (.slice va' (k + n) vc')) (hb : l.length ≤ 20000) (hd : decide (k + n = l.length) = true) :
    (((k + n : Nat) : Int) == ((l.length : Nat) : Int)) = true ∧ ((k : Int) + (n : Int) == ((l.length : Nat) : Int)) = true ∧ Seen W7 va' (k + n) l := by
  have hE : k + n = l.length := of_decide_eq_true hd
  obtain ⟨a9, c9, e9, hs9, _⟩ := owned_seen h.row (by unfold maxLen; omega)
  cases e9
  rw [hE, List.take_length] at hs9
  exact ⟨by rw [hE]; simp, by rw [← hE]; simp, by rw [hE]; exact hs9⟩
theorem send_more {l : List (BitVec 8)} {k n : Nat} (hd : decide (k + n = l.length) = false) : (((k + n : Nat) : Int) == ((l.length : Nat) : Int)) = false ∧ ((k : Int) + (n : Int) == ((l.length : Nat) : Int)) = false := by
  have hE : ¬ (k + n = l.length) := of_decide_eq_false hd
  exact ⟨by simp; omega, by simp; omega⟩
end Go.Proofs.Ytfpdffihggphaaa
