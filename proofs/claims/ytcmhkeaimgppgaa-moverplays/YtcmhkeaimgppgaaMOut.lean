/- The law's list of what is asked. -/
import Derived.Test.YtcmhkeaimgppgaaGaD
namespace Go.Proofs.Ytcmhkeaimgppgaa
open Go.RowKit Go.Shelf
attribute [local go_sem] Oper.semAt_some
set_option linter.unusedVariables false

theorem info_ask : (Try.prog.info? 54).map (fun i => (i.zero, i.size, i.bytes)) = some (some (.agg (AskV.cells (0, CmdV.zero)).toArray), 18, 200) := by kernel_rfl
/-- A command whose parts are cells. -/
theorem ask_one (x : AskV) (h : x.2.data.oneCell' = true) : ∀ u ∈ AskV.cells x, u.oneCell' = true := fun u hu => by
  simp only [AskV.cells, CmdV.cells, List.mem_cons, List.not_mem_nil, or_false] at hu
  rcases hu with rfl | rfl | rfl | rfl | rfl | rfl | rfl | rfl | rfl | rfl | rfl | rfl | rfl | rfl | rfl | rfl | rfl | rfl <;> first | rfl | exact h
/-- The law's list, in the box Ob. -/
structure OutI (w X : World) (Ob : Nat) (pre : List AskV) (v : Value) : Prop where
  ch : OnlyR w X Ob
  bx : X.heap[Ob]? = some (.cells #[v] 45 (0, 0))
  row : X.ownsRow w.heap.size 54 18 v pre.length (flat AskV.cells pre)
  lt : Ob < w.heap.size
section
variable {w X Z : World} {Ob : Nat} {pre : List AskV} {v : Value}
theorem OutI.below (h : OutI w X Ob pre v) (b : Below X.heap.size X Z) : OutI w Z Ob pre v :=
  ⟨h.ch.trans (OnlyR.of_below b Ob), (b.block _ (Array.getElem?_eq_some_iff.1 h.bx).1).trans h.bx, owns_kept h.row (fun g e => b.block g (row_kind h.row e).2.1), h.lt⟩
theorem OutI.put (h : OutI w X Ob pre v) {l : Nat} {o : Obj} (o' : Obj) (hl : w.heap.size ≤ l) (ho : X.heap[l]? = some o) (hc : o.isCells = false) : OutI w (X.putObj l o') Ob pre v := by
  have hlt := h.lt
  refine ⟨⟨h.ch.os, h.ch.tape, h.ch.output, by simpa using h.ch.size, fun k hk hn => (World.putObj_heap_other (by omega)).trans (h.ch.block k hk hn)⟩, (World.putObj_heap_other (by omega)).trans h.bx, owns_kept h.row (fun g e => World.putObj_heap_other (fun e2 => ?_)), h.lt⟩
  · obtain ⟨_, _, cur, q⟩ := row_kind h.row e
    rw [e2, ho] at q
    cases q
    simp [Obj.isCells] at hc
end
theorem set_of3 {W : World} {K i : Nat} {cs : Array Value} {v : Value} {t : TypeId} (h : W.heap[K]? = some (.cells cs t (0, 0))) : (W.setCell ⟨K, i, none⟩ v).heap[K]? = some (.cells (cs.setIfInBounds i v) t (0, 0)) := by
  rw [setCell_eq_setRow W K i cs t (0, 0) v h]
  exact setRow_heap _ _ _ _ _ _ h
/-- One ask more. -/
theorem OutI.more {w X : World} {Ob : Nat} {pre : List AskV} {v : Value} (h : OutI w X Ob pre v) (hl : pre.length ≤ 4000) (x : AskV) (hx : x.2.data.oneCell' = true) :
    ∃ v' Z, (Builtin.append_ #[45, 45] 45 #[v, .slice (some ⟨X.heap.size, 0, none⟩) 1 1]).run Try.prog (X.alloc (.cells (AskV.cells x).toArray 54)) = .ok v' Z ∧ Z.cell? ⟨Ob, 0, none⟩ = some v ∧ Z.frozen? ⟨Ob, 0, none⟩ = false ∧
      OutI w (Z.setCell ⟨Ob, 0, none⟩ v') Ob (pre ++ [x]) v' ∧ (∀ base u n l, X.ownsRow base 5 1 u n l → (Z.setCell ⟨Ob, 0, none⟩ v').ownsRow base 5 1 u n l) ∧ ∀ B, KeepsFrom B X (Z.setCell ⟨Ob, 0, none⟩ v') := by
  have bX : Below X.heap.size X (X.alloc (.cells (AskV.cells x).toArray 54)) := (Below.refl _ X).alloc (Nat.le_refl _) _
  have h1 := h.below bX
  have hnew := heap_alloc_new X (.cells (AskV.cells x).toArray 54)
  generalize X.alloc (.cells (AskV.cells x).toArray 54) = X1 at h1 hnew bX ⊢
  obtain ⟨i0, hi, hz0, hz1, hz2⟩ := info_parts info_ask
  obtain ⟨v', Z, hr, q1, q2, _, _⟩ := run_append_own_at (P := Try.prog) X1 w.heap.size 45 45 54 i0 _ 18 200 Try.underlying45 hi hz0 hz1 hz2 rfl (by omega) v pre.length (flat AskV.cells pre) h1.row ⟨X.heap.size, 0, none⟩ 1 1 (AskV.cells x) rfl (fun j u hj => by
    rw [Addr.add_lit, Nat.zero_add]
    simp only [World.cell?, hnew]
    simpa using hj) (ask_one x hx) (by unfold maxLen; omega) (by omega) h1.ch.size
  have own : ∀ (k : Nat) (cs : Array Value) (t : TypeId) (z : Nat × Nat), X1.heap[k]? = some (.cells cs t z) → t ≠ 54 → v.ownBlock ≠ some k := fun k cs t z hk ht e => by
    obtain ⟨_, _, cur, q⟩ := row_kind h1.row e
    rw [hk] at q
    injection q with q
    injection q with _ q
    exact ht q
  have hb : ∀ k, k < X1.heap.size → v.ownBlock ≠ some k → Z.heap[k]? = X1.heap[k]? := fun k hk hn => q2.block k hk (fun e => hn e.symm)
  have k1 : Z.heap[Ob]? = some (.cells #[v] 45 (0, 0)) := (hb _ (Array.getElem?_eq_some_iff.1 h1.bx).1 (own _ _ _ _ h1.bx (by decide))).trans h1.bx
  have e := setCell_eq_setRow Z Ob 0 _ _ _ v' k1
  have el : (pre ++ [x]).length = pre.length + 1 := by simp
  have keep : ∀ (k : Nat) (cs : Array Value) (t : TypeId) (z : Nat × Nat), X.heap[k]? = some (.cells cs t z) → t ≠ 45 → t ≠ 54 → (Z.setCell ⟨Ob, 0, none⟩ v').heap[k]? = some (.cells cs t z) := fun k cs t z hk h2 h3 => by
    have hk1 := (bX.block k (Array.getElem?_eq_some_iff.1 hk).1).trans hk
    have hne : k ≠ Ob := fun e2 => by
      rw [e2] at hk1
      rw [h1.bx] at hk1
      injection hk1 with hk1
      injection hk1 with _ hk1
      exact h2 hk1.symm
    rw [e, setRow_other _ _ _ _ hne, hb k (Array.getElem?_eq_some_iff.1 hk1).1 (own _ _ _ _ hk1 h3)]
    exact hk1
  refine ⟨v', Z, hr, by simp [World.cell?, k1], by simp [World.frozen?, k1], ⟨?_, ?_, ?_, h.lt⟩, ?_, ?_⟩
  · rw [e]
    refine ⟨q2.os.trans h1.ch.os, q2.tape.trans h1.ch.tape, q2.output.trans h1.ch.output, by have := q2.size; have := h1.ch.size; simp; omega, fun k hk hn => ?_⟩
    rw [setRow_other _ _ _ _ hn, hb k (by have := h1.ch.size; omega) (fun e2 => by have := (row_kind h1.row e2).1; omega)]
    exact h1.ch.block k hk hn
  · exact set_of3 k1
  · rw [el, e, flat_append]
    refine owns_kept ?_ (fun g q => setRow_other _ _ _ _ (fun z => ?_))
    · simpa [flat] using q1
    · subst z
      obtain ⟨_, _, cur, q3⟩ := row_kind q1 q
      rw [k1] at q3
      injection q3 with q3
      injection q3 with _ q3
      exact absurd q3 (by decide)
  · intro base u n l ho
    refine owns_kept ho (fun g q => ?_)
    obtain ⟨_, _, cur, hg⟩ := row_kind ho q
    rw [hg]
    exact keep g _ _ _ hg (by decide) (by decide)
  · intro B
    refine ⟨?_, fun k o _ ho hc => ?_⟩
    · have := q2.size; have := bX.size; simp; omega
    · have hk1 := (bX.block k (Array.getElem?_eq_some_iff.1 ho).1).trans ho
      have hne : k ≠ Ob := fun e2 => by
        rw [e2, h1.bx] at hk1
        cases hk1
        simp [Obj.isCells] at hc
      have hno : v.ownBlock ≠ some k := fun e2 => by
        obtain ⟨_, _, cur, q⟩ := row_kind h1.row e2
        rw [hk1] at q
        cases q
        simp [Obj.isCells] at hc
      rw [e, setRow_other _ _ _ _ hne, hb k (Array.getElem?_eq_some_iff.1 hk1).1 hno]
      exact hk1
theorem seqA_some_in (w : World) (d : Nat) (f : Fn) (a b : Array Value) : (Op.equalIn (d + 1) 76 (.func f a b) .nilFunc).run Try.prog w = .ok false w := by
  simp [Op.equalIn, run_underlying Try.underlying76]
theorem seqA_some (w : World) (f : Fn) (a b : Array Value) : (binOp .eql 76 (.func f a b) .nilFunc).run Try.prog w = .ok (.bool false) w := by
  simp only [binOp]
  simp [Op.equal, Op.maxDepth, seqA_some_in w 9999 f a b]
theorem build_one (s0 s1 s2 s3 s4 s5 s6 s7 s8 s9 s10 s11 s12 s13 s14 s15 s16 s17 s18 s19 c0 c1 c2 c3 c4 c5 c6 c7 c8 c9 c10 c11 c12 c13 c14 c15 c16 c17 : Value) (X : World) :
    (execOp ({  tmps := #[s0, s1, s2, s3, s4, s5, s6, s7, s8, s9, s10, s11, s12, s13, s14, s15, .agg #[c0, c1, c2, c3, c4, c5, c6, c7, c8, c9, c10, c11, c12, c13, c14, c15, c16, c17], s17, s18, s19], defers := [] } : Act).eval ({ dst := some 17, op := Go.Op.buildSlice 45 1 #[(0, Go.Operand.tmp 16)], type := 45, pos := "law.go:49", after := #[{ on := 1, ground := Go.Ground.data }], guard := none } : Oper)).run Try.prog X = .ok (.value (.slice (some ⟨X.heap.size, 0, none⟩) 1 1)) (X.alloc (.cells #[c0, c1, c2, c3, c4, c5, c6, c7, c8, c9, c10, c11, c12, c13, c14, c15, c16, c17] 54)) := by
  kernel_rfl
set_option maxRecDepth 100000 in
set_option maxHeartbeats 2000000 in
theorem asks_body (lr N : Nat) (Ob Bx : Nat) (s0 s1 s2 s3 s4 s5 s6 s7 s8 s9 s10 s11 s12 s13 s14 s15 s16 s17 s18 s19 c0 c1 c2 c3 c4 c5 c6 c7 c8 c9 c10 c11 c12 c13 c14 c15 c16 c17 : Value) (X Z : World) (va va' : Option Addr) (vn vn' vc vc' : Nat) (Q : Exit → Act → World → Prop)
    (cx : X.cell? ⟨Ob, 0, none⟩ = some (.slice va vn vc)) (hx : X.heap[Bx]? = some (.cells #[c0, c1, c2, c3, c4, c5, c6, c7, c8, c9, c10, c11, c12, c13, c14, c15, c16, c17] 54 (0, 0)))
    (hrun : (Builtin.append_ #[45, 45] 45 #[.slice va vn vc, .slice (some ⟨X.heap.size, 0, none⟩) 1 1]).run Try.prog (X.alloc (.cells #[c0, c1, c2, c3, c4, c5, c6, c7, c8, c9, c10, c11, c12, c13, c14, c15, c16, c17] 54)) = .ok (.slice va' vn' vc') Z)
    (hz : Z.cell? ⟨Ob, 0, none⟩ = some (.slice va vn vc)) (hzf : Z.frozen? ⟨Ob, 0, none⟩ = false)
    (hQ : ∀ act, Q .normal act (Z.setCell ⟨Ob, 0, none⟩ (.slice va' vn' vc'))) :
    (Code.block 1 (Code.region 7 #[{ dst := some 15, op := Go.Op.load 45 (Go.Operand.tmp 5), type := 45, pos := "law.go:49", after := #[], guard := none }, { dst := some 16, op := Go.Op.load 54 (Go.Operand.tmp 7), type := 54, pos := "law.go:49", after := #[], guard := none }, { dst := some 17, op := Go.Op.buildSlice 45 1 #[(0, Go.Operand.tmp 16)], type := 45, pos := "law.go:49", after := #[{ on := 1, ground := Go.Ground.data }], guard := none }, { dst := some 18, op := Go.Op.call { callee := Go.Callee.builtin Go.Builtin.append, args := #[Go.Operand.tmp 15, Go.Operand.tmp 17], argTypes := #[45, 45] }, type := 45, pos := "law.go:49", after := #[{ on := 0, ground := Go.Ground.data }, { on := 2, ground := Go.Ground.data }], guard := none }, { dst := none, op := Go.Op.store 45 (Go.Operand.tmp 5) (Go.Operand.tmp 18), type := 0, pos := "law.go:49", after := #[{ on := 3, ground := Go.Ground.data }, { on := 3, ground := Go.Ground.chain }, { on := 0, ground := Go.Ground.phase }, { on := 1, ground := Go.Ground.phase }, { on := 2, ground := Go.Ground.phase }, { on := 3, ground := Go.Ground.phase }], guard := none }] false)).wpIn (Fence.wide.inRound lr) N Try.prog Q { tmps := #[s0, s1, s2, s3, s4, .pointer (some ⟨Ob, 0, none⟩), s6, .pointer (some ⟨Bx, 0, none⟩), s8, s9, s10, s11, s12, s13, s14, s15, s16, s17, s18, s19], defers := [] } X := by
  refine wpIn_block ?_
  refine wpIn_region_lit (l := [{ dst := some 15, op := Go.Op.load 45 (Go.Operand.tmp 5), type := 45, pos := "law.go:49", after := #[], guard := none }, { dst := some 16, op := Go.Op.load 54 (Go.Operand.tmp 7), type := 54, pos := "law.go:49", after := #[], guard := none }, { dst := some 17, op := Go.Op.buildSlice 45 1 #[(0, Go.Operand.tmp 16)], type := 45, pos := "law.go:49", after := #[{ on := 1, ground := Go.Ground.data }], guard := none }, { dst := some 18, op := Go.Op.call { callee := Go.Callee.builtin Go.Builtin.append, args := #[Go.Operand.tmp 15, Go.Operand.tmp 17], argTypes := #[45, 45] }, type := 45, pos := "law.go:49", after := #[{ on := 0, ground := Go.Ground.data }, { on := 2, ground := Go.Ground.data }], guard := none }, { dst := none, op := Go.Op.store 45 (Go.Operand.tmp 5) (Go.Operand.tmp 18), type := 0, pos := "law.go:49", after := #[{ on := 3, ground := Go.Ground.data }, { on := 3, ground := Go.Ground.chain }, { on := 0, ground := Go.Ground.phase }, { on := 1, ground := Go.Ground.phase }, { on := 2, ground := Go.Ground.phase }, { on := 3, ground := Go.Ground.phase }], guard := none }]) ?_
  refine listIn_value (.slice va vn vc) rfl rfl (fun c => by simp) (w' := X) (by go_simp <;> with_reducible rfl) ?_
  simp only [Act.put, List.setIfInBounds_toArray, List.set_cons_zero, List.set_cons_succ]
  refine listIn_row 54 (.tmp 7) Bx 54 _ (0, 0) _ rfl rfl rfl hx Try.underlying54 rfl (by kernel_rfl) ?_
  simp only [Act.put, List.setIfInBounds_toArray, List.set_cons_zero, List.set_cons_succ]
  refine listIn_value _ rfl rfl (fun c => by simp) (build_one _ _ _ _ _ _ _ _ _ _ _ _ _ _ _ _ undef _ _ _ c0 c1 c2 c3 c4 c5 c6 c7 c8 c9 c10 c11 c12 c13 c14 c15 c16 c17 X) ?_
  simp only [Act.put, List.setIfInBounds_toArray, List.set_cons_zero, List.set_cons_succ]
  refine wpListIn_append_known rfl (.tmp 15) (.tmp 17) 45 45 rfl _ _ rfl rfl _ _ hrun ?_
  simp only [Act.put, List.setIfInBounds_toArray, List.set_cons_zero, List.set_cons_succ]
  refine listIn_effect rfl rfl (fun c => by simp) (w' := Z.setCell ⟨Ob, 0, none⟩ (.slice va' vn' vc')) (by go_simp <;> with_reducible rfl) ?_
  exact hQ _
set_option maxRecDepth 100000 in
set_option maxHeartbeats 2000000 in
theorem asks_assign (lr N : Nat) (Ob : Nat) (s0 s1 s2 s3 s4 s5 s6 s7 s8 s9 s10 s11 s12 s13 s14 s15 s16 s17 s18 s19 c0 c1 c2 c3 c4 c5 c6 c7 c8 c9 c10 c11 c12 c13 c14 c15 c16 c17 : Value) (X : World) (Q : Exit → Act → World → Prop) (hc : (#[c0, c1, c2, c3, c4, c5, c6, c7, c8, c9, c10, c11, c12, c13, c14, c15, c16, c17] : Array Value).all (·.oneCell') = true)
    (hQ : Q .normal { tmps := #[s0, s1, s2, s3, s4, .pointer (some ⟨Ob, 0, none⟩), s6, .pointer (some ⟨X.heap.size, 0, none⟩), s8, s9, s10, s11, s12, s13, .agg #[c0, c1, c2, c3, c4, c5, c6, c7, c8, c9, c10, c11, c12, c13, c14, c15, c16, c17], s15, s16, s17, s18, s19], defers := [] } ((X.alloc (.cells #[.int .i64 0, .int .i64 0, .int .i64 0, .string ⟨#[]⟩, .string ⟨#[]⟩, .int .i64 0, .string ⟨#[]⟩, .int .i64 0, .int .i64 0, .string ⟨#[]⟩, .string ⟨#[]⟩, .int .i64 0, .int .i64 0, .int .i64 0, .int .i64 0, .int .i64 0, .bool false, .slice none 0 0] 54)).setRow X.heap.size #[c0, c1, c2, c3, c4, c5, c6, c7, c8, c9, c10, c11, c12, c13, c14, c15, c16, c17])) :
    (Code.region 6 #[{ dst := some 7, op := Go.Op.alloc 54, type := 0, pos := "law.go:48", after := #[], guard := none }, { dst := none, op := Go.Op.store 54 (Go.Operand.tmp 7) (Go.Operand.tmp 14), type := 0, pos := "law.go:48", after := #[{ on := 0, ground := Go.Ground.data }, { on := 0, ground := Go.Ground.phase }], guard := none }] false).wpIn (Fence.wide.inRound lr) N Try.prog Q { tmps := #[s0, s1, s2, s3, s4, .pointer (some ⟨Ob, 0, none⟩), s6, s7, s8, s9, s10, s11, s12, s13, .agg #[c0, c1, c2, c3, c4, c5, c6, c7, c8, c9, c10, c11, c12, c13, c14, c15, c16, c17], s15, s16, s17, s18, s19], defers := [] } X := by
  have N2 : Hid _ := heap_alloc_new X (.cells #[.int .i64 0, .int .i64 0, .int .i64 0, .string ⟨#[]⟩, .string ⟨#[]⟩, .int .i64 0, .string ⟨#[]⟩, .int .i64 0, .int .i64 0, .string ⟨#[]⟩, .string ⟨#[]⟩, .int .i64 0, .int .i64 0, .int .i64 0, .int .i64 0, .int .i64 0, .bool false, .slice none 0 0] 54)
  have HC : Hid _ := hc
  have HQ : Hid _ := hQ
  clear hc hQ
  gi_wp2_with (first | (refine listIn_store_row 54 (.tmp 7) (.tmp 14) X.heap.size #[c0, c1, c2, c3, c4, c5, c6, c7, c8, c9, c10, c11, c12, c13, c14, c15, c16, c17] 54 _ rfl rfl rfl rfl N2.out (by kernel_rfl) rfl HC.out ?_))
  exact HQ.out
end Go.Proofs.Ytcmhkeaimgppgaa
