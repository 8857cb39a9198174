/- MoverPlays: both movers in memory, and what was asked last. -/
import Derived.Test.YtcmhkeaimgppgaaRTold
import Derived.Test.YtcmhkeaimgppgaaMOps
import Derived.Test.YtcmhkeaimgppgaaMGiven
import Derived.Test.YtcmhkeaimgppgaaMResult
import Derived.Test.YtcmhkeaimgppgaaMKnown
import Derived.Test.YtcmhkeaimgppgaaGaH
import Derived.Test.YtcmhkeaimgppgaaMKt
import Derived.Deep.MidRow
namespace Go.Proofs.Ytcmhkeaimgppgaa
open Go.RowKit Go.Shelf
set_option linter.unusedVariables false

/-- What is there between two calls. -/
structure PI (w : World) (D : Nat → Prop) (X : World) (G1 G2 L : Nat) (M R : MD) (c : MopV) : Prop where
  m : MvIn X ⟨w.heap.size, D⟩ G1 M
  r : RvIn X ⟨w.heap.size, D⟩ G2 R
  lc : X.heap[L]? = some (.cells c.ask.toArray 35 (0, 0))
  ls : X.ownsRow w.heap.size 5 1 (.slice c.da c.dl.length c.dc) c.dl.length (cellsOf c.dl)
  len : c.dl.length ≤ 140737488351232
  be : Below w.heap.size w X
  lo : w.heap.size ≤ L
section
variable {w X X' : World} {D D' : Nat → Prop} {G1 G2 L : Nat} {M R M' R' : MD} {c c' : MopV}
theorem PI.g1 (h : PI w D X G1 G2 L M R c) : ∃ cs, X.heap[G1]? = some (.cells cs 74 (0, 0)) := by obtain ⟨_, _, g, _⟩ := h.m.ex; exact ⟨_, g⟩
theorem PI.g2 (h : PI w D X G1 G2 L M R c) : ∃ cs, X.heap[G2]? = some (.cells cs 28 (0, 0)) := by obtain ⟨_, _, g, _⟩ := h.r.ex; exact ⟨_, g⟩
theorem cells_ne {X : World} {a b : Nat} {cs cs' : Array Value} {t t' : TypeId} {z z' : Nat × Nat} (h : X.heap[a]? = some (.cells cs t z)) (h' : X.heap[b]? = some (.cells cs' t' z')) (ht : t ≠ t') : a ≠ b := fun e => by
  rw [e, h'] at h
  injection h with h
  injection h with _ h
  exact ht h.symm
/-- A box of another kind stays where but one block is changed. -/
theorem OnlyR.box {X X' : World} {G B : Nat} {cs cs' : Array Value} {t t' : TypeId} {z z' : Nat × Nat} (o : OnlyR X X' G) (hG : X.heap[G]? = some (.cells cs' t' z')) (h : X.heap[B]? = some (.cells cs t z)) (ht : t ≠ t') : X'.heap[B]? = some (.cells cs t z) :=
  (o.block _ (Array.getElem?_eq_some_iff.1 h).1 (cells_ne h hG ht)).trans h
theorem OnlyR.own {X X' : World} {G B n s : Nat} {v : Value} {xs : List Value} {cs' : Array Value} {t t' : TypeId} {z' : Nat × Nat} (o : OnlyR X X' G) (hG : X.heap[G]? = some (.cells cs' t' z')) (h : X.ownsRow B t s v n xs) (ht : t ≠ t') : X'.ownsRow B t s v n xs :=
  owns_kept h fun g e => by
    obtain ⟨_, hl, cur, hc⟩ := row_kind h e
    exact o.block _ hl (cells_ne hc hG ht)
theorem PI.sub (h : PI w D X G1 G2 L M R c) (hD : ∀ g, g < X.heap.size → D g → D' g) : PI w D' X G1 G2 L M R c := ⟨h.m.sub (Nat.le_refl _) hD, h.r.sub (Nat.le_refl _) hD, h.lc, h.ls, h.len, h.be, h.lo⟩
theorem PI.below (h : PI w D X G1 G2 L M R c) (b : Below X.heap.size X X') : PI w D X' G1 G2 L M R c :=
  ⟨h.m.below b, h.r.below b, (b.block _ (Array.getElem?_eq_some_iff.1 h.lc).1).trans h.lc, owns_kept h.ls (fun g e => b.block g (row_kind h.ls e).2.1), h.len, h.be.trans (b.mono h.be.size), h.lo⟩
theorem MvIn.only {b : Bs} {G Q : Nat} {M : MD} {cs : Array Value} {t : TypeId} {z : Nat × Nat} (h : MvIn X b G M) (o : OnlyR X X' Q) (hQ : X.heap[Q]? = some (.cells cs t z)) (h5 : t ≠ 5) (hm : t ≠ 74) : MvIn X' b G M := by
  obtain ⟨a, c, h1, h2⟩ := h.ex
  exact ⟨⟨a, c, o.box hQ h1 (Ne.symm hm), o.own hQ h2.1 (Ne.symm h5), h2.2⟩, h.bG, h.fits, h.len⟩
theorem RvIn.only {b : Bs} {G Q : Nat} {M : MD} {cs : Array Value} {t : TypeId} {z : Nat × Nat} (h : RvIn X b G M) (o : OnlyR X X' Q) (hQ : X.heap[Q]? = some (.cells cs t z)) (h5 : t ≠ 5) (hm : t ≠ 28) : RvIn X' b G M := by
  obtain ⟨a, c, h1, h2⟩ := h.ex
  exact ⟨⟨a, c, o.box hQ h1 (Ne.symm hm), o.own hQ h2.1 (Ne.symm h5), h2.2⟩, h.bG, h.fits, h.len⟩
/-- The program's mover was called. -/
theorem PI.m1 (h : PI w D X G1 G2 L M R c) (o : OnlyR X X' G1) (hm : MvIn X' ⟨w.heap.size, D⟩ G1 M') : PI w D X' G1 G2 L M' R c := by
  obtain ⟨cs, q⟩ := h.g1
  exact ⟨hm, h.r.only o q (by decide) (by decide), o.box q h.lc (by decide), o.own q h.ls (by decide), h.len, h.be.trans (o.toBelow h.m.bG h.be.size), h.lo⟩
/-- The reference's mover was called. -/
theorem PI.r1 (h : PI w D X G1 G2 L M R c) (o : OnlyR X X' G2) (hr : RvIn X' ⟨w.heap.size, D⟩ G2 R') : PI w D X' G1 G2 L M R' c := by
  obtain ⟨cs, q⟩ := h.g2
  exact ⟨h.m.only o q (by decide) (by decide), hr, o.box q h.lc (by decide), o.own q h.ls (by decide), h.len, h.be.trans (o.toBelow h.r.bG h.be.size), h.lo⟩
/-- Another ask is the last one. -/
theorem PI.put (h : PI w D X G1 G2 L M R c) (o : OnlyR X X' L) (hl : X'.heap[L]? = some (.cells c'.ask.toArray 35 (0, 0))) (hs : X'.ownsRow w.heap.size 5 1 (.slice c'.da c'.dl.length c'.dc) c'.dl.length (cellsOf c'.dl)) (hn : c'.dl.length ≤ 140737488351232) : PI w D X' G1 G2 L M R c' :=
  ⟨h.m.only o h.lc (by decide) (by decide), h.r.only o h.lc (by decide) (by decide), hl, hs, hn, h.be.trans (o.toBelow h.lo h.be.size), h.lo⟩
/-- Bytes that are nobody's were spoiled. -/
theorem PI.spoil (h : PI w D X G1 G2 L M R c) {row : Option Nat} (hg : X.grownBy X' row) (hr : ∀ g, row = some g → w.heap.size ≤ g ∧ (∃ cur, X.heap[g]? = some (.cells cur 5 (0, 0))) ∧ ¬ D g ∧ (Value.slice c.da c.dl.length c.dc).ownBlock ≠ some g) : PI w D X' G1 G2 L M R c := by
  have ne : ∀ {B cs t z}, X.heap[B]? = some (.cells cs t z) → t ≠ 5 → row ≠ some B := fun hB ht e => by
    obtain ⟨_, ⟨cur, hc⟩, _⟩ := hr _ e
    exact cells_ne hB hc ht rfl
  obtain ⟨_, q1⟩ := h.g1
  obtain ⟨_, q2⟩ := h.g2
  have hb : Below w.heap.size w X' := h.be.grown hg h.be.size (fun k e => (hr k e).1)
  exact ⟨h.m.grown hg (ne q1 (by decide)) (fun g hd e => (hr g e).2.2.1 hd), h.r.grown hg (ne q2 (by decide)) (fun g hd e => (hr g e).2.2.1 hd),
    (hg.block _ (Array.getElem?_eq_some_iff.1 h.lc).1 (fun e => ne h.lc (by decide) e.symm)).trans h.lc,
    owns_kept h.ls (fun g e => hg.block g (row_kind h.ls e).2.1 (fun e2 => (hr g e2.symm).2.2.2 e)), h.len, hb, h.lo⟩
end
/-- What is asked last, as a call has it. -/
def PAsk.mop (p : PAsk) (a : Option Addr) (c : Nat) (l : List (BitVec 8)) : MopV := ⟨0, ⟨0, 0, 0, 0, 0, 0⟩, p.g, p.k, 0, ⟨#[]⟩, ⟨#[]⟩, 0, ⟨#[]⟩, 0, 0, ⟨#[]⟩, ⟨#[]⟩, 0, 0, p.slot, p.ep, p.at_, p.last, a, c, l, ⟨0, false, 0, 0, .bool false, none, 0, []⟩⟩
theorem PAsk.mop_ask (p : PAsk) (a : Option Addr) (c : Nat) (l : List (BitVec 8)) : (p.mop a c l).ask = AskV.cells (p.v (.slice a l.length c)) := rfl
/-- Nothing was asked. -/
def MopV.none : MopV := ⟨0, ⟨0, 0, 0, 0, 0, 0⟩, 0, 0, 0, ⟨#[]⟩, ⟨#[]⟩, 0, ⟨#[]⟩, 0, 0, ⟨#[]⟩, ⟨#[]⟩, 0, 0, 0, 0, 0, false, Option.none, 0, [], ⟨0, false, 0, 0, .bool false, Option.none, 0, []⟩⟩
/-- An ask, with its bytes, as a call takes it. -/
structure MopV.AskIn (c : MopV) (X : World) : Prop where
  seen : Seen X c.da c.dl.length c.dl
  nil : c.da = Option.none → c.dc = 0
  len : c.dl.length ≤ 140737488351232
theorem MopV.AskIn.below {c : MopV} {X X' : World} (h : c.AskIn X) (b : Below X.heap.size X X') : c.AskIn X' := ⟨h.seen.below b, h.nil, h.len⟩
theorem MopV.AskIn.askC {c : MopV} {X : World} (h : c.AskIn X) : AskC c.ask c.q := ⟨rfl, rfl, rfl, rfl, rfl, rfl, rfl, rfl, by have := h.len; show c.dl.length ≤ _; omega⟩
theorem MopV.In.askIn {c : MopV} {X : World} (h : c.In X) : c.AskIn X := ⟨h.data, h.nil, h.len⟩
theorem PI.askIn {w X : World} {D : Nat → Prop} {G1 G2 L : Nat} {M R : MD} {c : MopV} (h : PI w D X G1 G2 L M R c) : c.AskIn X := by
  obtain ⟨a, cc, e, hs, h0, _⟩ := owned_seen h.ls (by have := h.len; unfold maxLen; omega)
  cases e
  exact ⟨hs, h0, h.len⟩
/-- What Told and a copy of the ask have in common: the same numbers, the bytes somewhere else. -/
def MopV.qq (c : MopV) (a : Option Addr) (cap : Nat) : AskI := ⟨c.g, c.kind, c.slot, c.ep, c.at_, c.last, a, c.dl.length, cap⟩
def MopV.askD (c : MopV) (a : Option Addr) (cap : Nat) : List Value := [.int .i64 c.g, .int .i64 c.kind, .int .i64 c.ok, .string c.of_, .string c.ot, .int .i64 c.oa, .string c.oy, .int .i64 c.os, .int .i64 c.oh, .string c.id, .string c.nm, .int .i64 c.cn, .int .i64 c.why, .int .i64 c.slot, .int .i64 c.ep, .int .i64 c.at_, .bool c.last, .slice a c.dl.length cap]
theorem MopV.askD_c {c : MopV} (h : c.dl.length ≤ 140737488351232) (a : Option Addr) (cap : Nat) : AskC (c.askD a cap) (c.qq a cap) := ⟨rfl, rfl, rfl, rfl, rfl, rfl, rfl, rfl, by show c.dl.length ≤ _; omega⟩
/-- Where the bytes lie plays no part in what becomes of a mover. -/
theorem told_qq (M : MD) (x : MvD) (c : MopV) (a : Option Addr) (cap : Nat) (r r' : ResD) (h1 : r'.why = r.why) (h2 : r'.l = r.l) : toldM M x (c.qq a cap) r' = toldM M x c.q r := by
  obtain ⟨why, wait, rw_, ra, rows, da, dc, l⟩ := r
  obtain ⟨why', wait', rw', ra', rows', da', dc', l'⟩ := r'
  dsimp only at h1 h2
  subst h1 h2
  rfl
end Go.Proofs.Ytcmhkeaimgppgaa

namespace Go.Proofs.Ytcmhkeaimgppgaa
open Go.RowKit Go.Shelf
attribute [local go_sem] Oper.semAt_some
set_option linter.unusedVariables false

theorem exec_storeM {P : Program} {o : Oper} {a : Act} {w : World} (ty : TypeId) (x y : Operand) (ho : o.op = .store ty x y) (g : Nat) (cells : Array Value) (hx : a.eval x = .pointer (some ⟨g, 0, none⟩)) (hy : a.eval y = .agg cells)
    (t : TypeId) (old : Array Value) (hg : w.heap[g]? = some (.cells old t (0, 0))) (hi : (P.info? ty).map (·.size) = some cells.size) (hold : old.size = cells.size) (h1 : cells.all (·.oneCell') = true) : (execOp a.eval o).run P w = .ok .skip (w.setRow g cells) := by
  unfold execOp
  simp only [ho, hx, hy, Instr.storeAt, Instr.sureAddr, Sem.run_bind, Sem.run_pure, Result.andThen_ok, run_storeVar_row w g t ty old cells hg hi hold h1]
theorem exec_allocM (w : World) {a : Act} {o : Oper} (ho : o.op = .alloc 60) : (execOp a.eval o).run Try.prog w = .ok (.value (.pointer (some ⟨w.heap.size, 0, none⟩))) (w.alloc (.cells #[.int .i64 0, .int .i64 0, .int .i64 0, .int .i64 0, .int .i64 0] 60)) := by
  unfold execOp
  simp only [ho]
  kernel_rfl
/-- A region that draws its order, of which no operation panics. -/
theorem wp_region_calmM {P : Program} {ops : Array Oper} {Q : Exit → Act → World → Prop} {S : World → Prop} {id : Nat} {K : Act → World → Prop} {a : Act} {w : World} (hm : P.follows .mixedOrders = true) (hS : S w.drew)
    (h : S w.drew → wpAnyH P .any ops (Exit.then K (fun _ _ _ => False)) S ops.size (Array.replicate ops.size false) a w.drew) : (Code.region id ops true).wp P (Exit.then K Q) a w :=
  Code.wp_mono (fun e a w h => by cases e <;> first | exact h | exact h.elim) (wp_region_held_drew hm hS h)
/-- A box beside a mover is filled. -/
theorem mv_fill {X W : World} {b : Bs} {G B : Nat} {M : MD} (h : MvIn W b G M) (o : OnlyR X W G) (hB : X.heap.size ≤ B) (q : W.heap[B]? = some (.cells #[.int .i64 0, .int .i64 0, .int .i64 0, .int .i64 0, .int .i64 0] 60 (0, 0))) (cs : Array Value) : MvIn (W.setRow B cs) b G M ∧ OnlyR X (W.setRow B cs) G ∧ (W.setRow B cs).heap[B]? = some (.cells cs 60 (0, 0)) := by
  obtain ⟨_, _, g, _⟩ := h.ex
  refine ⟨h.other (cells_ne q g (by decide)) q (fun cur z e => ?_) (fun g hg _ => setRow_other _ _ _ _ hg), ⟨o.os, o.tape, o.output, by have := o.size; simpa [World.setRow] using this, fun k hk hn => (setRow_other _ _ _ _ (by omega)).trans (o.block k hk hn)⟩, setRow_self q⟩
  injection e with _ e
  exact absurd e (by decide)
/-- One part of a row of cells. -/
theorem range_part {w : World} {B o : Nat} {C : List Value} (h : w.rangeAt B o C) (k n : Nat) : w.rangeAt B (o + k) ((C.drop k).take n) := fun j v hv => by
  have e : C[k + j]? = some v := by
    rw [List.getElem?_take] at hv
    split at hv
    · rw [List.getElem?_drop] at hv; exact hv
    · cases hv
  have := h _ v e
  rw [← Nat.add_assoc] at this
  exact this
theorem range_box {w : World} {B : Nat} {C : List Value} {t : TypeId} {z : Nat × Nat} (h : w.heap[B]? = some (.cells C.toArray t z)) : w.rangeAt B 0 C := fun j v hv => by
  simp only [World.cell?, h]
  rw [Nat.zero_add]
  simpa using hv
end Go.Proofs.Ytcmhkeaimgppgaa
