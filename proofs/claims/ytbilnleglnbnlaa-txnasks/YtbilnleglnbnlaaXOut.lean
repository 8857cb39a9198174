/- Package txn: Asks; the law's list of what is asked. -/
import Derived.Test.YtbilnleglnbnlaaXAsks1
namespace Go.Proofs.Ytbilnleglnbnlaa
open Go.RowKit Go.Shelf
attribute [local go_sem] Oper.semAt_some
set_option linter.unusedVariables false

/-- What Asks answers. -/
structure AskFn (w w' : World) (me sh : Int) (ts : List TxnD) (Bk Bm Bs : Nat) (a : Option Addr) (c : Nat) : Prop where
  bel : Below w.heap.size w w'
  k : w'.heap[Bk]? = some (.cells #[.slice a ts.length c] 37 (0, 0))
  m : w'.heap[Bm]? = some (.cells #[.int .i64 me] 3 (0, 0))
  s : w'.heap[Bs]? = some (.cells #[.int .i64 sh] 3 (0, 0))
  row : w'.ownsRow w.heap.size 40 7 (.slice a ts.length c) ts.length (flat TxnD.cells ts)
set_option maxRecDepth 100000 in
set_option maxHeartbeats 1600000 in
theorem asksF_any (me sh : Int) (a : Option Addr) (len cap : Nat) (ts : List TxnD) (w : World) (h : RecsAt TxnD.cells 7 w a len ts) (hnil : a = none → cap = 0) (hm : len ≤ 1000) :
    Calls Try.prog 15 #[.int .i64 me, .int .i64 sh, .slice a len cap] w fun e w' => ∃ Bk Bm Bs a' c', e = .returned (.func (.func 18) #[] #[.pointer (some ⟨Bk, 0, none⟩), .pointer (some ⟨Bm, 0, none⟩), .pointer (some ⟨Bs, 0, none⟩)]) ∧ AskFn w w' me sh ts Bk Bm Bs a' c' := by
  have bV : Below w.heap.size w ((w.alloc (.cells #[.int .i64 me] 3)).alloc (.cells #[.int .i64 sh] 3)) := ((Below.refl _ w).alloc (Nat.le_refl _) _).alloc (by simp) _
  have HC := cloneT_any a len cap ts _ (h.below bV) hnil hm
  have q1 : ((w.alloc (.cells #[.int .i64 me] 3)).alloc (.cells #[.int .i64 sh] 3)).heap[w.heap.size]? = some (.cells #[.int .i64 me] 3 (0, 0)) := by rw [Below.heap_alloc _ _ _ (by simp), heap_alloc_new]
  have q2 := heap_two w (.cells #[.int .i64 me] 3) (.cells #[.int .i64 sh] 3)
  have hl := h.1
  have HB : Hid (Below w.heap.size w ((w.alloc (.cells #[.int .i64 me] 3)).alloc (.cells #[.int .i64 sh] 3))) := bV
  have Q1 : Hid _ := q1
  have Q2 : Hid (((w.alloc (.cells #[.int .i64 me] 3)).alloc (.cells #[.int .i64 sh] 3)).heap[w.heap.size + 1]? = some (.cells #[.int .i64 sh] 3 (0, 0))) := q2
  have HL : Hid (len = ts.length) := hl
  clear h hnil hm bV q1 q2 hl
  go_enter Try.func15, Try.ntmps15
  go_wp2_with fail
  refine HC.mono ?_
  rintro e w2 ⟨v, rfl, o, b⟩
  clear HC
  generalize (w.alloc (.cells #[.int .i64 me] 3)).alloc (.cells #[.int .i64 sh] 3) = V at *
  obtain ⟨a', c', rfl, hat, _⟩ := recs_owned TxnD.cells7 o HL.out
  have O : Hid _ := o
  have B : Hid (Below V.heap.size V w2) := b
  clear o b hat
  go_wp2
  go_ret
  have bA : Below w2.heap.size w2 (w2.alloc (.cells #[.slice a' len c'] 37)) := (Below.refl _ w2).alloc (Nat.le_refl _) _
  have b2 : Below V.heap.size V (w2.alloc (.cells #[.slice a' len c'] 37)) := B.out.trans (bA.mono B.out.size)
  have e := HL.out
  subst e
  refine ⟨w2.heap.size, w.heap.size, w.heap.size + 1, a', c', rfl, HB.out.trans (b2.mono HB.out.size), heap_alloc_new w2 _, (b2.block _ (Array.getElem?_eq_some_iff.1 Q1.out).1).trans Q1.out, (b2.block _ (Array.getElem?_eq_some_iff.1 Q2.out).1).trans Q2.out, ?_⟩
  have o2 := owns_kept O.out (fun g e => bA.block g (row_kind O.out e).2.1)
  exact ⟨o2.1, o2.2.imp id (fun ⟨g, cp, cur, e1, e2, e3⟩ => ⟨g, cp, cur, e1, Nat.le_trans HB.out.size e2, e3⟩)⟩
theorem asks1_seq (n Bk Bm Bs base c : Nat) (a : Option Addr) (ts : List TxnD) (me sh : Int) (w : World) (hk : w.heap[Bk]? = some (.cells #[.slice a ts.length c] 37 (0, 0))) (hm : w.heap[Bm]? = some (.cells #[.int .i64 me] 3 (0, 0))) (hs : w.heap[Bs]? = some (.cells #[.int .i64 sh] 3 (0, 0)))
    (hrow : w.ownsRow base 40 7 (.slice a ts.length c) ts.length (flat TxnD.cells ts)) (hlen : ts.length ≤ 1000) :
    SeqV n Try.prog 18 #[.pointer (some ⟨Bk, 0, none⟩), .pointer (some ⟨Bm, 0, none⟩), .pointer (some ⟨Bs, 0, none⟩)] encA KeepX RA (fun xs => xs = asksL me sh ts) (fun _ => True) w := fun L J Jx W hW hJ hJx pJ pJx hY h0 =>
  asks1_in n L Bk Bm Bs base c a ts me sh J Jx W hJ hJx pJ pJx hY ((hW.block _ (Array.getElem?_eq_some_iff.1 hk).1).trans hk) ((hW.block _ (Array.getElem?_eq_some_iff.1 hm).1).trans hm) ((hW.block _ (Array.getElem?_eq_some_iff.1 hs).1).trans hs) (owns_kept hrow (fun g e => hW.block g (row_kind hrow e).2.1)) hlen h0
theorem info_ask : (Try.prog.info? 49).map (fun i => (i.zero, i.size, i.bytes)) = some (some (.agg (AskV.cells (0, CmdV.zero)).toArray), 18, 200) := by kernel_rfl
/-- A command whose parts are cells. -/
theorem ask_one (x : AskV) (h : x.2.data.oneCell' = true) : ∀ u ∈ AskV.cells x, u.oneCell' = true := fun u hu => by
  simp only [AskV.cells, CmdV.cells, List.mem_cons, List.not_mem_nil, or_false] at hu
  rcases hu with rfl | rfl | rfl | rfl | rfl | rfl | rfl | rfl | rfl | rfl | rfl | rfl | rfl | rfl | rfl | rfl | rfl | rfl <;> first | rfl | exact h
/-- The law's list. -/
structure OutI (w X : World) (pre : List AskV) (v : Value) : Prop where
  bel : Below w.heap.size w X
  bx : X.heap[w.heap.size]? = some (.cells #[v] 41 (0, 0))
  row : X.ownsRow w.heap.size 49 18 v pre.length (flat AskV.cells pre)
theorem OutI.below {w X Z : World} {pre : List AskV} {v : Value} (h : OutI w X pre v) (b : Below X.heap.size X Z) : OutI w Z pre v :=
  ⟨h.bel.trans (b.mono h.bel.size), (b.block _ (Array.getElem?_eq_some_iff.1 h.bx).1).trans h.bx, owns_kept h.row (fun g e => b.block g (row_kind h.row e).2.1)⟩
theorem OutI.put {w X : World} {pre : List AskV} {v : Value} (h : OutI w X pre v) {l : Nat} {o : Obj} (o' : Obj) (hl : w.heap.size < l) (ho : X.heap[l]? = some o) (hc : o.isCells = false) : OutI w (X.putObj l o') pre v := by
  refine ⟨h.bel.grown (grownBy_putObj' X l o') h.bel.size (fun k e => by cases e; omega), (World.putObj_heap_other (by omega)).trans h.bx, owns_kept h.row (fun g e => World.putObj_heap_other (fun e2 => ?_))⟩
  obtain ⟨_, _, cur, q⟩ := row_kind h.row e
  rw [e2, ho] at q
  cases q
  simp [Obj.isCells] at hc
theorem set_of3 {W : World} {K i : Nat} {cs : Array Value} {v : Value} {t : TypeId} (h : W.heap[K]? = some (.cells cs t (0, 0))) : (W.setCell ⟨K, i, none⟩ v).heap[K]? = some (.cells (cs.setIfInBounds i v) t (0, 0)) := by
  rw [setCell_eq_setRow W K i cs t (0, 0) v h]
  exact setRow_heap _ _ _ _ _ _ h
/-- One ask more. -/
theorem OutI.more {w X : World} {pre : List AskV} {v : Value} (h : OutI w X pre v) (hl : pre.length ≤ 4000) (x : AskV) (hx : x.2.data.oneCell' = true) :
    ∃ v' Z, (Builtin.append_ #[41, 41] 41 #[v, .slice (some ⟨X.heap.size, 0, none⟩) 1 1]).run Try.prog (X.alloc (.cells (AskV.cells x).toArray 49)) = .ok v' Z ∧ Z.cell? ⟨w.heap.size, 0, none⟩ = some v ∧ Z.frozen? ⟨w.heap.size, 0, none⟩ = false ∧
      OutI w (Z.setCell ⟨w.heap.size, 0, none⟩ v') (pre ++ [x]) v' ∧ KeepX X (Z.setCell ⟨w.heap.size, 0, none⟩ v') ∧ ∀ B, KeepsFrom B X (Z.setCell ⟨w.heap.size, 0, none⟩ v') := by
  have bX : Below X.heap.size X (X.alloc (.cells (AskV.cells x).toArray 49)) := (Below.refl _ X).alloc (Nat.le_refl _) _
  have h1 := h.below bX
  have hnew := heap_alloc_new X (.cells (AskV.cells x).toArray 49)
  generalize X.alloc (.cells (AskV.cells x).toArray 49) = X1 at h1 hnew bX ⊢
  obtain ⟨i0, hi, hz0, hz1, hz2⟩ := info_parts info_ask
  obtain ⟨v', Z, hr, q1, q2, _, _⟩ := run_append_own_at (P := Try.prog) X1 w.heap.size 41 41 49 i0 _ 18 200 Try.underlying41 hi hz0 hz1 hz2 rfl (by omega) v pre.length (flat AskV.cells pre) h1.row ⟨X.heap.size, 0, none⟩ 1 1 (AskV.cells x) rfl (fun j u hj => by
    rw [Addr.add_lit, Nat.zero_add]
    simp only [World.cell?, hnew]
    simpa using hj) (ask_one x hx) (by unfold maxLen; omega) (by omega) h1.bel.size
  have own : ∀ k cs t z, X1.heap[k]? = some (.cells cs t z) → t ≠ 49 → v.ownBlock ≠ some k := fun k cs t z hk ht e => by
    obtain ⟨_, _, cur, q⟩ := row_kind h1.row e
    rw [hk] at q
    injection q with q
    injection q with _ q
    exact ht q
  have hb : ∀ k, k < X1.heap.size → v.ownBlock ≠ some k → Z.heap[k]? = X1.heap[k]? := fun k hk hn => q2.block k hk (fun e => hn e.symm)
  have k1 : Z.heap[w.heap.size]? = some (.cells #[v] 41 (0, 0)) := (hb _ (Array.getElem?_eq_some_iff.1 h1.bx).1 (own _ _ _ _ h1.bx (by decide))).trans h1.bx
  have e := setCell_eq_setRow Z w.heap.size 0 _ _ _ v' k1
  have el : (pre ++ [x]).length = pre.length + 1 := by simp
  refine ⟨v', Z, hr, by simp [World.cell?, k1], by simp [World.frozen?, k1], ⟨?_, ?_, ?_⟩, ?_, ?_⟩
  · exact Below.setCell (h1.bel.grown q2 h1.bel.size (fun k e => (row_kind h1.row e).1)) (Nat.le_refl _) _
  · exact set_of3 k1
  · rw [el, e, flat_append]
    refine owns_kept ?_ (fun g q => setRow_other _ _ _ _ (fun z => ?_))
    · simpa [flat] using q1
    · subst z
      obtain ⟨_, _, cur, q3⟩ := row_kind q1 q
      rw [k1] at q3
      injection q3 with q3
      injection q3 with _ q3
      exact absurd q3 (by decide)
  · intro k cs t z hk h2 h3
    have hk1 := (bX.block k (Array.getElem?_eq_some_iff.1 hk).1).trans hk
    have hne : k ≠ w.heap.size := fun e2 => by
      rw [e2] at hk1
      rw [h1.bx] at hk1
      injection hk1 with hk1
      injection hk1 with _ hk1
      exact h2 hk1.symm
    rw [e, setRow_other _ _ _ _ hne, hb k (Array.getElem?_eq_some_iff.1 hk1).1 (own _ _ _ _ hk1 h3)]
    exact hk1
  · intro B
    refine ⟨?_, fun k o _ ho hc => ?_⟩
    · have := q2.size; have := bX.size; simp; omega
    · have hk1 := (bX.block k (Array.getElem?_eq_some_iff.1 ho).1).trans ho
      have hne : k ≠ w.heap.size := fun e2 => by
        rw [e2, h1.bx] at hk1
        cases hk1
        simp [Obj.isCells] at hc
      have hno : v.ownBlock ≠ some k := fun e2 => by
        obtain ⟨_, _, cur, q⟩ := row_kind h1.row e2
        rw [hk1] at q
        cases q
        simp [Obj.isCells] at hc
      rw [e, setRow_other _ _ _ _ hne, hb k (Array.getElem?_eq_some_iff.1 hk1).1 hno]
      exact hk1
theorem seqA_some_in (w : World) (d : Nat) (f : Fn) (a b : Array Value) : (Op.equalIn (d + 1) 61 (.func f a b) .nilFunc).run Try.prog w = .ok false w := by
  simp [Op.equalIn, run_underlying Try.underlying61]
theorem seqA_some (w : World) (f : Fn) (a b : Array Value) : (binOp .eql 61 (.func f a b) .nilFunc).run Try.prog w = .ok (.bool false) w := by
  simp only [binOp]
  simp [Op.equal, Op.maxDepth, seqA_some_in w 9999 f a b]
end Go.Proofs.Ytbilnleglnbnlaa
