/- Package txn: the region that hands an ask on. -/
import Derived.Test.YtogbcciocgpknaaXWant
import Derived.Test.YtogbcciocgpknaaTaP
namespace Go.Proofs.Ytogbcciocgpknaa
open Go.RowKit Go.Shelf
attribute [local go_sem] Oper.semAt_some
set_option linter.unusedVariables false

theorem round_depth {P : Program} {n m l f : Nat} {tmps : Array Value} {assign body : Code} {w : World} {R : Ending → World → Prop} (h : RoundIn Fence.wide n P l f tmps assign body w R) : RoundIn Fence.wide m P l f tmps assign body w R :=
  ⟨h.1, fun c cs _ => h.2 c cs (room_wide _)⟩
/-- A struct is read. -/
theorem op_row {P : Program} {n : Nat} {ops : Array Oper} {Q : Exit → Act → World → Prop} {i : Nat} {oi : Oper} {K : Act → World → Prop} {a : Act} {w : World} (hi : ops[i]? = some oi) (ty : TypeId) (x : Operand) (g : Nat) (t : TypeId) (cs : Array Value) (fr : Nat × Nat) (d : TypeDesc)
    (hw : Region.wanted oi (yielded ops a.tmps) = true) (ho : oi.op = .load ty x) (hx : a.eval x = .pointer (some ⟨g, 0, none⟩)) (hg : w.heap[g]? = some (.cells cs t fr)) (hu : P.underlying ty = some d)
    (hd : (match d with | .struct _ | .array _ _ => true | _ => false) = true) (hz : (P.info? ty).map (·.size) = some cs.size) (h : K (a.put oi.dst (.agg cs)) w) : wpOpIn Fence.wide n P ops Q i K a w :=
  op_value (.agg cs) hi hw (by
    unfold execOp
    simp only [ho, hx, Instr.loadAt, Instr.sureAddr, Sem.run_bind, Sem.run_pure, Result.andThen_ok, run_loadVar_row w g t ty cs fr d hg hu hd hz]) h
abbrev opsA : Array Oper := #[{ dst := some 18, op := Go.Op.load 119 (Go.Operand.tmp 4), type := 119, pos := "txn.go:26", after := #[], guard := none }, { dst := some 19, op := Go.Op.move (Go.Operand.tmp 7), type := 3, pos := "txn.go:26", after := #[], guard := none }, { dst := some 20, op := Go.Op.load 90 (Go.Operand.tmp 6), type := 90, pos := "txn.go:26", after := #[], guard := none }, { dst := some 21, op := Go.Op.call { callee := Go.Callee.value (Go.Operand.func 82), args := #[Go.Operand.tmp 20], argTypes := #[90] }, type := 37, pos := "txn.go:26", after := #[{ on := 2, ground := Go.Ground.data }], guard := none }, { dst := some 22, op := Go.Op.build 40 #[(0, Go.Operand.tmp 19), (1, Go.Operand.tmp 21)], type := 40, pos := "txn.go:26", after := #[{ on := 1, ground := Go.Ground.data }, { on := 3, ground := Go.Ground.data }], guard := none }, { dst := some 23, op := Go.Op.call { callee := Go.Callee.value (Go.Operand.tmp 18), args := #[Go.Operand.tmp 22], argTypes := #[40] }, type := 4, pos := "txn.go:26", after := #[{ on := 0, ground := Go.Ground.data }, { on := 4, ground := Go.Ground.data }, { on := 3, ground := Go.Ground.chain }], guard := none }, { dst := some 24, op := Go.Op.unOp Go.UnOp.not 4 (Go.Operand.tmp 23), type := 4, pos := "txn.go:26", after := #[{ on := 5, ground := Go.Ground.data }], guard := none }]
/-- A command and a group are an ask. -/
theorem build_ask (a0 a1 a2 a3 a4 a5 a6 a7 a8 a9 a10 a11 a12 a13 a14 a15 a16 a17 a18 a20 a22 a23 a24 a25 : Value) (g k ok : Int) (of_ ot : ByteArray) (oa : Int) (oy : ByteArray) (os oh : Int) (id nm : ByteArray) (n why slot ep at_ : Int) (last : Bool) (data : Value) (W : World) :
    (execOp ({ tmps := #[a0, a1, a2, a3, a4, a5, a6, a7, a8, a9, a10, a11, a12, a13, a14, a15, a16, a17, a18, .int .i64 g, a20, .agg #[.int .i64 k, .int .i64 ok, .string of_, .string ot, .int .i64 oa, .string oy, .int .i64 os, .int .i64 oh, .string id, .string nm, .int .i64 n, .int .i64 why, .int .i64 slot, .int .i64 ep, .int .i64 at_, .bool last, data], a22, a23, a24, a25], defers := [] } : Act).eval ({ dst := some 22, op := Go.Op.build 40 #[(0, Go.Operand.tmp 19), (1, Go.Operand.tmp 21)], type := 40, pos := "txn.go:26", after := #[{ on := 1, ground := Go.Ground.data }, { on := 3, ground := Go.Ground.data }], guard := none } : Oper)).run Try.prog W = .ok (.value (.agg #[.int .i64 g, .int .i64 k, .int .i64 ok, .string of_, .string ot, .int .i64 oa, .string oy, .int .i64 os, .int .i64 oh, .string id, .string nm, .int .i64 n, .int .i64 why, .int .i64 slot, .int .i64 ep, .int .i64 at_, .bool last, data])) W := by
  kernel_rfl
set_option maxRecDepth 100000 in
set_option maxHeartbeats 4000000 in
theorem ask_region (m L By B6 : Nat) (s0 s1 s2 s3 s5 s8 s9 s10 s11 s12 s13 s14 s15 s16 s17 u18 u19 u20 u21 u22 u23 u24 u25 : Value) (g : Int) (t : TxnD) (X : World)
    (hy : X.cell? ⟨By, 0, none⟩ = some (.func (.yield L) #[] #[])) (h6 : X.heap[B6]? = some (.cells #[.string t.id, .string t.fr, .string t.ky, .string t.to, .int .i64 t.n, .bool t.done, .int .i64 t.why] 90 (0, 0)))
    (RR : Ending → World → Prop) (hRR : ∀ e W', RR e W' → ∃ b, e = .returned (.bool b))
    (hY : ∀ W1, Below X.heap.size X W1 → YieldAt Fence.wide (m - 1) Try.prog L #[.agg (AskV.cells (g, wantC t)).toArray] W1 RR)
    (Q : Exit → Act → World → Prop) (hP : ∀ c (a a' : Act) w, Q (.panic c) a w → Q (.panic c) a' w)
    (hQ : ∀ b v18 v19 v20 v21 v22 v23 W', RR (.returned (.bool b)) W' → Q .normal { tmps := #[s0, s1, s2, s3, .pointer (some ⟨By, 0, none⟩), s5, .pointer (some ⟨B6, 0, none⟩), .int .i64 g, s8, s9, s10, s11, s12, s13, s14, s15, s16, s17, v18, v19, v20, v21, v22, v23, .bool (!b), u25], defers := [] } W') :
    wpAnyIn Fence.wide m Try.prog .any opsA Q 7 (Array.replicate 7 false) { tmps := #[s0, s1, s2, s3, .pointer (some ⟨By, 0, none⟩), s5, .pointer (some ⟨B6, 0, none⟩), .int .i64 g, s8, s9, s10, s11, s12, s13, s14, s15, s16, s17, u18, u19, u20, u21, u22, u23, u24, u25], defers := [] } X.drew := by
  have hl6 : B6 < X.heap.size := (Array.getElem?_eq_some_iff.1 h6).1
  have hly : By < X.heap.size := World.block_lt_of_cell? X _ hy
  have BD : Hid (Below X.heap.size X X.drew) := (Below.refl _ X).drew
  have HK6 : ∀ W', Below X.heap.size X W' → Hid (W'.heap[B6]? = some (.cells #[.string t.id, .string t.fr, .string t.ky, .string t.to, .int .i64 t.n, .bool t.done, .int .i64 t.why] 90 (0, 0))) := fun W' h => (h.block _ hl6).trans h6
  have HKy : ∀ W', Below X.heap.size X W' → Hid (W'.cell? ⟨By, 0, none⟩ = some (.func (.yield L) #[] #[])) := fun W' h => by
    show W'.cell? ⟨By, 0, none⟩ = _
    rw [h.cell (p := ⟨By, 0, none⟩) hly]
    exact hy
  have HC : ∀ W', Below X.heap.size X W' → Hid (Calls Try.prog 82 #[.agg #[.string t.id, .string t.fr, .string t.ky, .string t.to, .int .i64 t.n, .bool t.done, .int .i64 t.why]] W' fun e W'' => e = .returned (.agg (wantC t).cells.toArray) ∧ Below X.heap.size X W'') := fun W' h => by
    refine (wanted_any t W').mono ?_
    rintro e W'' ⟨rfl, b⟩
    exact ⟨rfl, h.trans (b.mono h.size)⟩
  have HQ : Hid _ := hQ
  have HY : Hid _ := hY
  have HRR : Hid _ := hRR
  clear hy h6 hl6 hly hQ hY hRR
  -- the tail: all but the two last ones are done
  have TAIL : Hid (∀ W1, Below X.heap.size X W1 → wpAnyIn Fence.wide m Try.prog .any opsA Q 2 #[true, true, true, true, true, false, false] { tmps := #[s0, s1, s2, s3, .pointer (some ⟨By, 0, none⟩), s5, .pointer (some ⟨B6, 0, none⟩), .int .i64 g, s8, s9, s10, s11, s12, s13, s14, s15, s16, s17, .func (.yield L) #[] #[], .int .i64 g, .agg #[.string t.id, .string t.fr, .string t.ky, .string t.to, .int .i64 t.n, .bool t.done, .int .i64 t.why], .agg (wantC t).cells.toArray, .agg (AskV.cells (g, wantC t)).toArray, u23, u24, u25], defers := [] } W1) := fun W1 b1 => by
    obtain ⟨fn, tmps, assign, body, hyy, hR⟩ := HY.out W1 b1
    generalize (AskV.cells (g, wantC t)).toArray = ca at *
    refine any_one 5 (by kernel_rfl) ?_
    refine op_round (i := 5) (oi := { dst := some 23, op := Go.Op.call { callee := Go.Callee.value (Go.Operand.tmp 18), args := #[Go.Operand.tmp 22], argTypes := #[40] }, type := 4, pos := "txn.go:26", after := #[{ on := 0, ground := Go.Ground.data }, { on := 4, ground := Go.Ground.data }, { on := 3, ground := Go.Ground.chain }], guard := none }) L fn tmps assign body rfl (by rfl) (by go_simp <;> first | exact hyy | (rw [hyy]; rfl) | (simp [hyy]; done)) ?_
    refine (round_depth hR).mono ?_
    rintro e W4 hr
    obtain ⟨b, rfl⟩ := HRR.out e W4 hr
    refine ⟨_, rfl, ?_⟩
    simp only [Act.put, List.setIfInBounds_toArray, List.set_cons_zero, List.set_cons_succ]
    refine any_one 6 (by kernel_rfl) ?_
    refine op_value (.bool (!b)) (i := 6) (oi := { dst := some 24, op := Go.Op.unOp Go.UnOp.not 4 (Go.Operand.tmp 23), type := 4, pos := "txn.go:26", after := #[{ on := 5, ground := Go.Ground.data }], guard := none }) rfl (by rfl) (by go_simp <;> with_reducible rfl) ?_
    simp only [Act.put, List.setIfInBounds_toArray, List.set_cons_zero, List.set_cons_succ]
    exact wpAnyIn_done (by kernel_rfl) (HQ.out b _ _ _ _ _ _ W4 hr) _
  have HBd : Hid (∀ q18 W, (execOp (({ tmps := #[s0, s1, s2, s3, .pointer (some ⟨By, 0, none⟩), s5, .pointer (some ⟨B6, 0, none⟩), .int .i64 g, s8, s9, s10, s11, s12, s13, s14, s15, s16, s17, q18, .int .i64 g, .agg #[.string t.id, .string t.fr, .string t.ky, .string t.to, .int .i64 t.n, .bool t.done, .int .i64 t.why], .agg (wantC t).cells.toArray, u22, u23, u24, u25], defers := [] } : Act).eval) ({ dst := some 22, op := Go.Op.build 40 #[(0, Go.Operand.tmp 19), (1, Go.Operand.tmp 21)], type := 40, pos := "txn.go:26", after := #[{ on := 1, ground := Go.Ground.data }, { on := 3, ground := Go.Ground.data }], guard := none } : Oper)).run Try.prog W = .ok (.value (.agg (AskV.cells (g, wantC t)).toArray)) W) := fun q18 W => by
    generalize wantC t = c
    obtain ⟨k, ok, of_, ot, oa, oy, os, oh, id, nm, n, why, slot, ep, at_, last, data⟩ := c
    exact build_ask _ _ _ _ _ _ _ _ _ _ _ _ _ _ _ _ _ _ _ _ _ _ _ _ g k ok of_ ot oa oy os oh id nm n why slot ep at_ last data W
  generalize (AskV.cells (g, wantC t)).toArray = ca at *
  generalize (wantC t).cells.toArray = cc at *
  refine any_take 1 (oi := { dst := some 19, op := Go.Op.move (Go.Operand.tmp 7), type := 3, pos := "txn.go:26", after := #[], guard := none }) (.int .i64 g) rfl (by kernel_rfl) (by kernel_rfl) (by kernel_rfl) (fun c a w h => hP c _ _ w h) (by rfl) (fun _ => by go_simp <;> with_reducible rfl) (fun _ => rfl) ?_
  simp only [Act.put, List.setIfInBounds_toArray, List.set_cons_zero, List.set_cons_succ]
  refine any_two 0 2 (by kernel_rfl) ?_ ?_
  · -- 0 2 3 4
    have ky := (HKy _ BD.out).out
    refine op_value (.func (.yield L) #[] #[]) (i := 0) (oi := { dst := some 18, op := Go.Op.load 119 (Go.Operand.tmp 4), type := 119, pos := "txn.go:26", after := #[], guard := none }) rfl (by rfl) (by go_simp <;> with_reducible rfl) ?_
    clear ky
    simp only [Act.put, List.setIfInBounds_toArray, List.set_cons_zero, List.set_cons_succ]
    refine any_one 2 (by kernel_rfl) ?_
    refine op_row (i := 2) (oi := { dst := some 20, op := Go.Op.load 90 (Go.Operand.tmp 6), type := 90, pos := "txn.go:26", after := #[], guard := none }) rfl 90 (.tmp 6) B6 90 _ (0, 0) _ (by rfl) rfl rfl (HK6 _ BD.out).out Try.underlying90 rfl (by kernel_rfl) ?_
    simp only [Act.put, List.setIfInBounds_toArray, List.set_cons_zero, List.set_cons_succ]
    refine any_one 3 (by kernel_rfl) ?_
    refine op_call (i := 3) (oi := { dst := some 21, op := Go.Op.call { callee := Go.Callee.value (Go.Operand.func 82), args := #[Go.Operand.tmp 20], argTypes := #[90] }, type := 37, pos := "txn.go:26", after := #[{ on := 2, ground := Go.Ground.data }], guard := none }) 82 _ rfl (by rfl) (by go_simp <;> with_reducible rfl) ?_
    refine (HC _ BD.out).out.mono ?_
    rintro e W2 ⟨rfl, b2⟩
    have B2 : Hid (Below X.heap.size X W2) := b2
    clear b2
    refine ⟨_, rfl, ?_⟩
    simp only [Act.put, List.setIfInBounds_toArray, List.set_cons_zero, List.set_cons_succ]
    refine any_one 4 (by kernel_rfl) ?_
    refine op_value (.agg ca) (i := 4) (oi := { dst := some 22, op := Go.Op.build 40 #[(0, Go.Operand.tmp 19), (1, Go.Operand.tmp 21)], type := 40, pos := "txn.go:26", after := #[{ on := 1, ground := Go.Ground.data }, { on := 3, ground := Go.Ground.data }], guard := none }) rfl (by rfl) (HBd.out _ _) ?_
    simp only [Act.put, List.setIfInBounds_toArray, List.set_cons_zero, List.set_cons_succ]
    exact TAIL.out _ B2.out
  · -- 2
    refine op_row (i := 2) (oi := { dst := some 20, op := Go.Op.load 90 (Go.Operand.tmp 6), type := 90, pos := "txn.go:26", after := #[], guard := none }) rfl 90 (.tmp 6) B6 90 _ (0, 0) _ (by rfl) rfl rfl (HK6 _ BD.out).out Try.underlying90 rfl (by kernel_rfl) ?_
    simp only [Act.put, List.setIfInBounds_toArray, List.set_cons_zero, List.set_cons_succ]
    refine any_two 0 3 (by kernel_rfl) ?_ ?_
    · -- 0 3 4
      have ky := (HKy _ BD.out).out
      refine op_value (.func (.yield L) #[] #[]) (i := 0) (oi := { dst := some 18, op := Go.Op.load 119 (Go.Operand.tmp 4), type := 119, pos := "txn.go:26", after := #[], guard := none }) rfl (by rfl) (by go_simp <;> with_reducible rfl) ?_
      clear ky
      simp only [Act.put, List.setIfInBounds_toArray, List.set_cons_zero, List.set_cons_succ]
      refine any_one 3 (by kernel_rfl) ?_
      refine op_call (i := 3) (oi := { dst := some 21, op := Go.Op.call { callee := Go.Callee.value (Go.Operand.func 82), args := #[Go.Operand.tmp 20], argTypes := #[90] }, type := 37, pos := "txn.go:26", after := #[{ on := 2, ground := Go.Ground.data }], guard := none }) 82 _ rfl (by rfl) (by go_simp <;> with_reducible rfl) ?_
      refine (HC _ BD.out).out.mono ?_
      rintro e W2 ⟨rfl, b2⟩
      have B2 : Hid (Below X.heap.size X W2) := b2
      clear b2
      refine ⟨_, rfl, ?_⟩
      simp only [Act.put, List.setIfInBounds_toArray, List.set_cons_zero, List.set_cons_succ]
      refine any_one 4 (by kernel_rfl) ?_
      refine op_value (.agg ca) (i := 4) (oi := { dst := some 22, op := Go.Op.build 40 #[(0, Go.Operand.tmp 19), (1, Go.Operand.tmp 21)], type := 40, pos := "txn.go:26", after := #[{ on := 1, ground := Go.Ground.data }, { on := 3, ground := Go.Ground.data }], guard := none }) rfl (by rfl) (HBd.out _ _) ?_
      simp only [Act.put, List.setIfInBounds_toArray, List.set_cons_zero, List.set_cons_succ]
      exact TAIL.out _ B2.out
    · -- 3 4 0
      refine op_call (i := 3) (oi := { dst := some 21, op := Go.Op.call { callee := Go.Callee.value (Go.Operand.func 82), args := #[Go.Operand.tmp 20], argTypes := #[90] }, type := 37, pos := "txn.go:26", after := #[{ on := 2, ground := Go.Ground.data }], guard := none }) 82 _ rfl (by rfl) (by go_simp <;> with_reducible rfl) ?_
      refine (HC _ BD.out).out.mono ?_
      rintro e W2 ⟨rfl, b2⟩
      have B2 : Hid (Below X.heap.size X W2) := b2
      clear b2
      refine ⟨_, rfl, ?_⟩
      simp only [Act.put, List.setIfInBounds_toArray, List.set_cons_zero, List.set_cons_succ]
      refine any_take 4 (oi := { dst := some 22, op := Go.Op.build 40 #[(0, Go.Operand.tmp 19), (1, Go.Operand.tmp 21)], type := 40, pos := "txn.go:26", after := #[{ on := 1, ground := Go.Ground.data }, { on := 3, ground := Go.Ground.data }], guard := none }) (.agg ca) rfl (by kernel_rfl) (by kernel_rfl) (by kernel_rfl) (fun c a w h => hP c _ _ w h) (by rfl) (fun W => HBd.out _ W) (fun _ => rfl) ?_
      simp only [Act.put, List.setIfInBounds_toArray, List.set_cons_zero, List.set_cons_succ]
      refine any_one 0 (by kernel_rfl) ?_
      have ky := (HKy _ B2.out).out
      refine op_value (.func (.yield L) #[] #[]) (i := 0) (oi := { dst := some 18, op := Go.Op.load 119 (Go.Operand.tmp 4), type := 119, pos := "txn.go:26", after := #[], guard := none }) rfl (by rfl) (by go_simp <;> with_reducible rfl) ?_
      clear ky
      simp only [Act.put, List.setIfInBounds_toArray, List.set_cons_zero, List.set_cons_succ]
      exact TAIL.out _ B2.out
end Go.Proofs.Ytogbcciocgpknaa

namespace Go.Proofs.Ytogbcciocgpknaa
open Go.RowKit Go.Shelf
attribute [local go_sem] Oper.semAt_some
set_option linter.unusedVariables false

/-- All that is asked. -/
def askOf (t : TxnD) (g : Int) : AskV := (g, wantC t)
def asksL (me sh : Int) (ts : List TxnD) : List AskV := ts.flatMap fun t => (othersL me sh).map (askOf t)
theorem asksL_snoc (me sh : Int) (ts : List TxnD) (t : TxnD) : asksL me sh (ts ++ [t]) = asksL me sh ts ++ (othersL me sh).map (askOf t) := by simp [asksL]
theorem upto_len (me : Int) : ∀ k, (upto me k).length ≤ k
  | 0 => by simp [upto]
  | k + 1 => by
    have := upto_len me k
    simp only [upto]
    split
    · omega
    · simp; omega
theorem othersL_len (me sh : Int) : (othersL me sh).length ≤ 3 := by
  unfold othersL
  split
  · simp
  · have := upto_len me sh.toNat; omega
theorem asksL_len (me sh : Int) : ∀ ts : List TxnD, (asksL me sh ts).length ≤ 3 * ts.length
  | [] => by simp [asksL]
  | t :: ts => by
    have h := asksL_len me sh ts
    have h2 := othersL_len me sh
    simp only [asksL, List.flatMap_cons, List.length_append, List.length_map, List.length_cons] at h ⊢
    omega
abbrev encA (x : AskV) : Array Value := #[.agg (AskV.cells x).toArray]
def RA (pre : List AskV) (x : AskV) (_ : World) : Prop := pre.length ≤ 4000 ∧ x.2.data = .slice none 0 0
theorem want_data (t : TxnD) : (wantC t).data = .slice none 0 0 := by
  unfold wantC
  split <;> rfl
/-- The mark of a range over a function. -/
def mark (D : Nat) : Deferred := { target := .collected D, args := #[] }
theorem leaves_marks {n : Nat} {P : Program} {fn : Func} {tmps : Array Value} {R : Ending → World → Prop} (hfn : fn.results = #[]) (B : Nat) (C : World → Prop) (hC : ∀ w, C w → R (.returned (.tuple #[])) w)
    (hput : ∀ (w : World) (D : Nat) (o o' : Obj), B ≤ D → C w → w.heap[D]? = some o → o.isCells = false → C (w.putObj D o')) :
    ∀ (Ds : List Nat) (w : World), Ds.Nodup → (∀ D ∈ Ds, B ≤ D ∧ w.heap[D]? = some (.deferred (some []))) → C w → LeavesInM Fence.wide n P fn tmps R (Ds.map mark) .returning w
  | [], w, _, _, hc => ⟨_, results_none hfn _ _ _, hC w hc⟩
  | D :: Ds, w, hn, hd, hc => by
    have h1 := hd D (by simp)
    have hn' := List.nodup_cons.1 hn
    refine ⟨by simp, .inl ⟨D, _, rfl, run_takeDeferred h1.2, ?_⟩⟩
    refine leaves_marks hfn B C hC hput Ds _ hn'.2 (fun D' hD' => ⟨(hd D' (by simp [hD'])).1, ?_⟩) (hput w D _ _ h1.1 hc h1.2 rfl)
    rw [World.putObj_heap_other (fun e => hn'.1 (by rw [← e]; exact hD'))]
    exact (hd D' (by simp [hD'])).2
/-- What Asks' function reads. -/
structure AB (X : World) (L Y Bk Bm Bs base : Nat) (a : Option Addr) (c : Nat) (ts : List TxnD) (me sh : Int) : Prop where
  y : X.heap[Y]? = some (.cells #[.func (.yield L) #[] #[]] 119 (0, 0))
  k : X.heap[Bk]? = some (.cells #[.slice a ts.length c] 91 (0, 0))
  m : X.heap[Bm]? = some (.cells #[.int .i64 me] 3 (0, 0))
  s : X.heap[Bs]? = some (.cells #[.int .i64 sh] 3 (0, 0))
  row : X.ownsRow base 90 7 (.slice a ts.length c) ts.length (flat TxnD.cells ts)
theorem row_keepX {X Z : World} {base n : Nat} {v : Value} {xs : List Value} (h : X.ownsRow base 90 7 v n xs) (k : KeepX X Z) : Z.ownsRow base 90 7 v n xs :=
  owns_kept h (fun g e => by
    obtain ⟨_, _, cur, hc⟩ := row_kind h e
    rw [hc]
    exact k _ _ _ _ hc (by decide) (by decide))
theorem AB.kx {X Z : World} {L Y Bk Bm Bs base : Nat} {a : Option Addr} {c : Nat} {ts : List TxnD} {me sh : Int} (h : AB X L Y Bk Bm Bs base a c ts me sh) (k : KeepX X Z) : AB Z L Y Bk Bm Bs base a c ts me sh :=
  ⟨k _ _ _ _ h.y (by decide) (by decide), k _ _ _ _ h.k (by decide) (by decide), k _ _ _ _ h.m (by decide) (by decide), k _ _ _ _ h.s (by decide) (by decide), row_keepX h.row k⟩
/-- The marks stand. -/
def Marks (B : Nat) (Ds : List Nat) (X : World) : Prop := Ds.Nodup ∧ ∀ D ∈ Ds, B ≤ D ∧ X.heap[D]? = some (.deferred (some []))
theorem Marks.kf {B : Nat} {Ds : List Nat} {X Z : World} (h : Marks B Ds X) (k : KeepsFrom B X Z) : Marks B Ds Z := ⟨h.1, fun D hD => ⟨(h.2 D hD).1, k.same D _ (h.2 D hD).1 (h.2 D hD).2 rfl⟩⟩
theorem Marks.below {B : Nat} {Ds : List Nat} {X Z : World} (h : Marks B Ds X) (b : Below X.heap.size X Z) : Marks B Ds Z := ⟨h.1, fun D hD => ⟨(h.2 D hD).1, (b.block D (Array.getElem?_eq_some_iff.1 (h.2 D hD).2).1).trans (h.2 D hD).2⟩⟩
theorem Marks.put {B : Nat} {Ds : List Nat} {X : World} (h : Marks B Ds X) {l : Nat} (o : Obj) (hl : ∀ D ∈ Ds, D < l) : Marks B Ds (X.putObj l o) := ⟨h.1, fun D hD => ⟨(h.2 D hD).1, (World.putObj_heap_other (by have := hl D hD; omega)).trans (h.2 D hD).2⟩⟩
theorem Marks.lt {B : Nat} {Ds : List Nat} {X : World} (h : Marks B Ds X) : ∀ D ∈ Ds, D < X.heap.size := fun D hD => (Array.getElem?_eq_some_iff.1 (h.2 D hD).2).1
theorem wpIn_scope_wide {n : Nat} {P : Program} {c : Code} {Q : Exit → Act → World → Prop} {a : Act} {w : World} (h : c.wpIn Fence.wide n P (Exit.noGoto Q) a w) : (Code.scope c).wpIn Fence.wide n P Q a w :=
  wpIn_wide.2 (wp_scope_straight (wpIn_wide.1 h))
theorem kf_of_below {B : Nat} {W W' : World} (h : Below W.heap.size W W') : KeepsFrom B W W' := ⟨h.size, fun k o _ ho _ => (h.block k (Array.getElem?_eq_some_iff.1 ho).1).trans ho⟩
theorem kf_more {B B' : Nat} {W W' : World} (h : KeepsFrom B W W') (hB : B ≤ B') : KeepsFrom B' W W' := ⟨h.size, fun k o hk ho hc => h.same k o (Nat.le_trans hB hk) ho hc⟩

set_option maxRecDepth 100000 in
set_option maxHeartbeats 4000000 in
theorem asks1_in (n L Bk Bm Bs base c : Nat) (a : Option Addr) (ts : List TxnD) (me sh : Int) (J Jx : List AskV → World → Prop) (W : World) (hJ : UpB J) (hJx : UpB Jx) (pJ : PutB W.heap.size J) (pJx : PutB W.heap.size Jx)
    (hY : ∀ pre x W1, J pre W1 → RA pre x W1 → YieldAt Fence.wide (n - 1) Try.prog L (encA x) W1 fun e W' => KeepsFrom W.heap.size W1 W' ∧
      ((e = .returned (.bool true) ∧ J (pre ++ [x]) W' ∧ KeepX W1 W') ∨ (e = .returned (.bool false) ∧ Jx (pre ++ [x]) W')))
    (hk : W.heap[Bk]? = some (.cells #[.slice a ts.length c] 91 (0, 0))) (hm : W.heap[Bm]? = some (.cells #[.int .i64 me] 3 (0, 0))) (hs : W.heap[Bs]? = some (.cells #[.int .i64 sh] 3 (0, 0)))
    (hrow : W.ownsRow base 90 7 (.slice a ts.length c) ts.length (flat TxnD.cells ts)) (hlen : ts.length ≤ 1000) (h0 : J [] W) :
    CallsIn Fence.wide n Try.prog 80 #[.func (.yield L) #[] #[], .pointer (some ⟨Bk, 0, none⟩), .pointer (some ⟨Bm, 0, none⟩), .pointer (some ⟨Bs, 0, none⟩)] W fun e W' => (∃ v, e = .returned v) ∧
      ((∃ xs, xs = asksL me sh ts ∧ J xs W') ∨ (∃ pre, True ∧ Jx pre W')) := by
  refine callsIn_of_wp_marks Try.func80 rfl trivial ?_ rfl
  simp only [Try.ntmps80, List.size_toArray, List.length_cons, List.length_nil, Nat.reduceAdd, Nat.reduceSub, Array.replicate_succ, Array.replicate_zero, List.push_toArray, List.append_toArray, List.nil_append, List.cons_append]
  have HY : Hid (∀ pre x W1, J pre W1 → RA pre x W1 → YieldAt Fence.wide (n - 1) Try.prog L (encA x) W1 fun e W' => KeepsFrom W.heap.size W1 W' ∧
      ((e = .returned (.bool true) ∧ J (pre ++ [x]) W' ∧ KeepX W1 W') ∨ (e = .returned (.bool false) ∧ Jx (pre ++ [x]) W'))) := hY
  have HJ : Hid (UpB J) := hJ
  have HJx : Hid (UpB Jx) := hJx
  have PJ : Hid (PutB W.heap.size J) := pJ
  have PJx : Hid (PutB W.heap.size Jx) := pJx
  have HL : Hid (ts.length ≤ 1000) := hlen
  have bV : Below W.heap.size W (W.alloc (.cells #[.func (.yield L) #[] #[]] 119)) := (Below.refl _ W).alloc (Nat.le_refl _) _
  have H0 : Hid (J [] (W.alloc (.cells #[.func (.yield L) #[] #[]] 119))) := hJ _ _ _ h0 bV
  have HA : Hid (AB (W.alloc (.cells #[.func (.yield L) #[] #[]] 119)) L W.heap.size Bk Bm Bs base a c ts me sh) :=
    ⟨heap_alloc_new W _, (bV.block _ (Array.getElem?_eq_some_iff.1 hk).1).trans hk, (bV.block _ (Array.getElem?_eq_some_iff.1 hm).1).trans hm, (bV.block _ (Array.getElem?_eq_some_iff.1 hs).1).trans hs, owns_kept hrow (fun g e => bV.block g (row_kind hrow e).2.1)⟩
  have HSz : Hid (W.heap.size ≤ (W.alloc (.cells #[.func (.yield L) #[] #[]] 119)).heap.size) := bV.size
  have ck : (W.alloc (.cells #[.func (.yield L) #[] #[]] 119)).cell? ⟨Bk, 0, none⟩ = some (.slice a ts.length c) := by simp only [World.cell?, HA.out.k]; rfl
  obtain ⟨m, em⟩ : ∃ m, ts.length = m := ⟨_, rfl⟩
  have EM : Hid (ts.length = m) := em
  rw [em] at ck
  clear hY hJ hJx pJ pJx hk hm hs hrow hlen h0 bV em
  gi_wp2_with fail
  refine wpIn_scope_wide ?_
  gi_wp2_with fail
  refine wpIn_label ?_
  gi_wp2_with fail
  clear ck
  generalize W.alloc (.cells #[.func (.yield L) #[] #[]] 119) = W1 at *
  refine wpIn_loop (fun a' w' => ∃ (k : Nat) (Ds : List Nat) (u6 u7 u11 u12 u13 u14 u15 u16 u17 u18 u19 u20 u21 u22 u23 u24 u25 : Value), k ≤ m ∧
      a' = { tmps := #[.func (.yield L) #[] #[], .pointer (some ⟨Bk, 0, none⟩), .pointer (some ⟨Bm, 0, none⟩), .pointer (some ⟨Bs, 0, none⟩), .pointer (some ⟨W.heap.size, 0, none⟩), undef, u6, u7, .slice a m c, .int .i64 (m : Int), .int .i64 (k : Int), u11, u12, u13, u14, u15, u16, u17, u18, u19, u20, u21, u22, u23, u24, u25], defers := Ds.map mark } ∧
      Hid (J (asksL me sh (ts.take k)) w') ∧ Hid (AB w' L W.heap.size Bk Bm Bs base a c ts me sh) ∧ Hid (Marks W.heap.size Ds w') ∧ Hid (W.heap.size ≤ w'.heap.size))
    (fun a' _ => m - (intOf (a'.tmps.getD 10 undef)).toNat) ?start ?round
  case start => exact ⟨0, [], _, _, _, _, _, _, _, _, _, _, _, _, _, _, _, _, _, Nat.zero_le _, rfl, H0, HA, ⟨List.nodup_nil, fun D hD => by cases hD⟩, HSz⟩
  case round =>
    rintro _ wr ⟨k, Ds, u6, u7, u11, u12, u13, u14, u15, u16, u17, u18, u19, u20, u21, u22, u23, u24, u25, hk, rfl, HJr, HAr, HMr, HSr⟩
    clear H0 HA HSz
    by_cases hlt : k < m
    · have hk2 : k < ts.length := by rw [EM.out]; exact hlt
      obtain ⟨a2, c2, e2, hat, _⟩ := recs_owned TxnD.cells7 HAr.out.row rfl
      cases e2
      obtain ⟨b, off, rfl, hc⟩ := hat.at hk2
      clear hat
      have HT : Hid (ts.take (k + 1) = ts.take k ++ [ts[k]'hk2]) := List.take_succ_eq_append_getElem hk2
      generalize ts[k]'hk2 = t at hc HT
      have y0 := hc 0 _ rfl
      have y1 := hc 1 _ rfl
      have y2 := hc 2 _ rfl
      have y3 := hc 3 _ rfl
      have y4 := hc 4 _ rfl
      have y5 := hc 5 _ rfl
      have y6 := hc 6 _ rfl
      clear hc
      obtain ⟨tid, tfr, tky, tto, tn, td, tw⟩ := t
      simp only [Nat.add_zero] at y0 y1 y2 y3 y4 y5 y6
      obtain ⟨V0, eV0⟩ : ∃ V0, wr.alloc (.cells #[.string tid, .string tfr, .string tky, .string tto, .int .i64 tn, .bool td, .int .i64 tw] 90) = V0 := ⟨_, rfl⟩
      have bV0 : Below wr.heap.size wr V0 := by rw [← eV0]; exact (Below.refl _ wr).alloc (Nat.le_refl _) _
      have sV0 : V0.heap.size = wr.heap.size + 1 := by rw [← eV0]; simp
      have hV0 : V0.heap[wr.heap.size]? = some (.cells #[.string tid, .string tfr, .string tky, .string tto, .int .i64 tn, .bool td, .int .i64 tw] 90 (0, 0)) := by rw [← eV0]; exact heap_alloc_new wr _
      have cm : (wr.alloc (.cells #[.string tid, .string tfr, .string tky, .string tto, .int .i64 tn, .bool td, .int .i64 tw] 90)).cell? ⟨Bm, 0, none⟩ = some (.int .i64 me) := by
        have := (HAr.out.kx (KeepX.of_below bV0)).m
        rw [eV0]
        simp only [World.cell?, this]; rfl
      have cs : (wr.alloc (.cells #[.string tid, .string tfr, .string tky, .string tto, .int .i64 tn, .bool td, .int .i64 tw] 90)).cell? ⟨Bs, 0, none⟩ = some (.int .i64 sh) := by
        have := (HAr.out.kx (KeepX.of_below bV0)).s
        rw [eV0]
        simp only [World.cell?, this]; rfl
      have EV : Hid (wr.alloc (.cells #[.string tid, .string tfr, .string tky, .string tto, .int .i64 tn, .bool td, .int .i64 tw] 90) = V0) := eV0
      have BV : Hid (Below wr.heap.size wr V0) := bV0
      have SV : Hid (V0.heap.size = wr.heap.size + 1) := sV0
      have HV : Hid (V0.heap[wr.heap.size]? = some (.cells #[.string tid, .string tfr, .string tky, .string tto, .int .i64 tn, .bool td, .int .i64 tw] 90 (0, 0))) := hV0
      clear eV0 bV0 sV0 hV0 hk2
      gi_wp2_with fail
      refine ⟨trivial, wide_room _, (callsIn_wide.2 (others_any me sh _)).mono ?_⟩
      rintro e w1 ⟨rfl, rfl⟩
      clear cm cs y0 y1 y2 y3 y4 y5 y6
      rw [EV.out]
      clear EV
      gi_wp2_with fail
      rw [show V0.heap.size + 1 = wr.heap.size + 2 by rw [SV.out], SV.out]
      have bV : Below V0.heap.size V0 ((V0.alloc (.cells #[.int .i64 me] 3)).alloc (.cells #[.int .i64 sh] 3)) := ((Below.refl _ V0).alloc (Nat.le_refl _) _).alloc (by simp) _
      have B2 : Hid (Below wr.heap.size wr ((V0.alloc (.cells #[.int .i64 me] 3)).alloc (.cells #[.int .i64 sh] 3))) := BV.out.trans (bV.mono BV.out.size)
      have qm : Hid (((V0.alloc (.cells #[.int .i64 me] 3)).alloc (.cells #[.int .i64 sh] 3)).heap[wr.heap.size + 1]? = some (.cells #[.int .i64 me] 3 (0, 0))) := by
        show _ = _
        rw [← SV.out, Below.heap_alloc _ _ _ (by simp), heap_alloc_new]
      have qs : Hid (((V0.alloc (.cells #[.int .i64 me] 3)).alloc (.cells #[.int .i64 sh] 3)).heap[wr.heap.size + 2]? = some (.cells #[.int .i64 sh] 3 (0, 0))) := by
        show _ = _
        have := heap_two V0 (.cells #[.int .i64 me] 3) (.cells #[.int .i64 sh] 3)
        rw [SV.out] at this
        exact this
      have q6 : Hid (((V0.alloc (.cells #[.int .i64 me] 3)).alloc (.cells #[.int .i64 sh] 3)).heap[wr.heap.size]? = some (.cells #[.string tid, .string tfr, .string tky, .string tto, .int .i64 tn, .bool td, .int .i64 tw] 90 (0, 0))) := (bV.block _ (by rw [SV.out]; omega)).trans HV.out
      have sV : Hid (((V0.alloc (.cells #[.int .i64 me] 3)).alloc (.cells #[.int .i64 sh] 3)).heap.size = wr.heap.size + 3) := by show _ = _; simp [SV.out]
      generalize (V0.alloc (.cells #[.int .i64 me] 3)).alloc (.cells #[.int .i64 sh] 3) = V at *
      clear bV BV SV HV
      have HPL : Hid ((asksL me sh (ts.take k)).length ≤ 3000) := by
        show _ ≤ _
        have h1 := asksL_len me sh (ts.take k)
        rw [List.length_take] at h1
        have := HL.out
        omega
      refine range_V (n := n) (gf := 83) (lb := #[.pointer (some ⟨wr.heap.size + 2, 0, none⟩), .pointer (some ⟨wr.heap.size + 1, 0, none⟩)]) (w0 := V) rfl (enters_of Try.func83 (by kernel_rfl) rfl)
        (others1_seq (n - 1) (wr.heap.size + 2) (wr.heap.size + 1) me sh V qs.out qm.out) KeepX.tr KeepX.bk (Below.refl _ _) (fun _ => rfl)
        (fun pre' X => J (asksL me sh (ts.take k) ++ pre'.map (askOf ⟨tid, tfr, tky, tto, tn, td, tw⟩)) X ∧ AB X L W.heap.size Bk Bm Bs base (some ⟨b, off, none⟩) c ts me sh ∧ Marks W.heap.size Ds X ∧ X.heap[wr.heap.size]? = some (.cells #[.string tid, .string tfr, .string tky, .string tto, .int .i64 tn, .bool td, .int .i64 tw] 90 (0, 0)))
        (fun c' pre' X => c' = .exit 0 ∧ (∃ pre, Jx pre X) ∧ Marks W.heap.size Ds X)
        ?hI ?hIx ?hIp ?hIxp ⟨by simpa using HJ.out _ _ _ HJr.out B2.out, HAr.out.kx (KeepX.of_below B2.out), HMr.out.below B2.out, q6.out⟩
        (fun pre' x a' X => RO me sh pre' x X ∧ a' = { tmps := #[.func (.yield L) #[] #[], .pointer (some ⟨Bk, 0, none⟩), .pointer (some ⟨Bm, 0, none⟩), .pointer (some ⟨Bs, 0, none⟩), .pointer (some ⟨W.heap.size, 0, none⟩), undef, .pointer (some ⟨wr.heap.size, 0, none⟩), .int .i64 x, .slice (some ⟨b, off, none⟩) m c, .int .i64 (m : Int), .int .i64 (k : Int), .bool true, .pointer (some ⟨b, off + k * 7, none⟩), .agg #[.string tid, .string tfr, .string tky, .string tto, .int .i64 tn, .bool td, .int .i64 tw], .int .i64 me, .int .i64 sh, .func (.func 83) #[] #[.pointer (some ⟨wr.heap.size + 2, 0, none⟩), .pointer (some ⟨wr.heap.size + 1, 0, none⟩)], .int .i64 x, u18, u19, u20, u21, u22, u23, u24, u25], defers := [] })
        ?hAx ?assign ?body ?done ?stop
      case hI =>
        rintro pre' X Z ⟨h1, h2, h3, h4⟩ hb
        exact ⟨HJ.out _ _ _ h1 hb, h2.kx (KeepX.of_below hb), h3.below hb, (hb.block _ (Array.getElem?_eq_some_iff.1 h4).1).trans h4⟩
      case hIx =>
        rintro c' pre' X Z ⟨h1, ⟨pre, h2⟩, h3⟩ hb
        exact ⟨h1, ⟨pre, HJx.out _ _ _ h2 hb⟩, h3.below hb⟩
      case hIp =>
        rintro pre' X l o o' hl ⟨h1, h2, h3, h4⟩ ho hcl
        have hlD : ∀ D ∈ Ds, D < l := fun D hD => by have := HMr.out.lt D hD; have := sV.out; omega
        exact ⟨PJ.out _ _ _ _ _ (by have := HSr.out; have := sV.out; omega) h1 ho hcl, h2.kx (KeepX.bk _ _ _ _ ho hcl), h3.put o' hlD, (World.putObj_heap_other (by have := sV.out; omega)).trans h4⟩
      case hIxp =>
        rintro c' pre' X l o o' hl ⟨h1, ⟨pre, h2⟩, h3⟩ ho hcl
        have hlD : ∀ D ∈ Ds, D < l := fun D hD => by have := HMr.out.lt D hD; have := sV.out; omega
        exact ⟨h1, ⟨pre, PJx.out _ _ _ _ _ (by have := HSr.out; have := sV.out; omega) h2 ho hcl⟩, h3.put o' hlD⟩
      case hAx =>
        rintro pre' x a' _ X Z row ⟨h1, h2⟩ hg hrow
        exact ⟨h1, h2⟩
      case assign =>
        rintro l' pre' x X K hi hr hK
        have HKK : Hid _ := hK
        have HI : Hid _ := hi
        have HR : Hid (RO me sh pre' x X) := hr
        clear hK hi hr
        gi_wp2
        exact HKK.out _ _ (KeepsFrom.refl _ _) (KeepX.refl _) HI.out ⟨HR.out, rfl⟩
      case body =>
        rintro l' pre' x a' X ⟨h1, h2, h3, h4⟩ ⟨hr, rfl⟩
        have cy : X.cell? ⟨W.heap.size, 0, none⟩ = some (.func (.yield L) #[] #[]) := by simp only [World.cell?, h2.y]; rfl
        have H1 : Hid _ := h1
        have H2 : Hid (AB X L W.heap.size Bk Bm Bs base (some ⟨b, off, none⟩) c ts me sh) := h2
        have H3 : Hid (Marks W.heap.size Ds X) := h3
        have H4 : Hid (X.heap[wr.heap.size]? = some (.cells #[.string tid, .string tfr, .string tky, .string tto, .int .i64 tn, .bool td, .int .i64 tw] 90 (0, 0))) := h4
        have HRl : Hid (pre'.length ≤ 3) := by
          obtain ⟨k', e1, e2, e3, e4, e5⟩ := hr
          show _ ≤ _
          have := upto_len me k'
          rw [e2]
          omega
        clear h1 h2 h3 h4 hr
        gi_wp2_with fail
        refine round_any l' (by kernel_rfl) (by kernel_rfl) ?_
        refine ask_region (n - 1 - 1) L W.heap.size wr.heap.size _ _ _ _ _ _ _ _ _ _ _ _ _ _ _ _ _ _ _ _ _ _ _ x ⟨tid, tfr, tky, tto, tn, td, tw⟩ X cy H4.out
          (fun e W' => KeepsFrom W.heap.size X W' ∧ ((e = .returned (.bool true) ∧ J (asksL me sh (ts.take k) ++ pre'.map (askOf ⟨tid, tfr, tky, tto, tn, td, tw⟩) ++ [askOf ⟨tid, tfr, tky, tto, tn, td, tw⟩ x]) W' ∧ KeepX X W') ∨ (e = .returned (.bool false) ∧ ∃ pre, Jx pre W'))) ?_ ?_ _ ?_ ?_
        · rintro e W' ⟨_, (⟨rfl, _⟩ | ⟨rfl, _⟩)⟩
          · exact ⟨_, rfl⟩
          · exact ⟨_, rfl⟩
        · intro W2 b2
          obtain ⟨fn, tmps, assign, body, hyy, hR⟩ := HY.out _ (askOf ⟨tid, tfr, tky, tto, tn, td, tw⟩ x) W2 (HJ.out _ _ _ H1.out b2) ⟨by
            rw [List.length_append, List.length_map]
            have := HPL.out
            have := HRl.out
            omega, want_data _⟩
          refine ⟨fn, tmps, assign, body, hyy, (round_depth hR).mono ?_⟩
          rintro e W' ⟨k1, k2⟩
          exact ⟨(kf_of_below b2).trans k1, k2.imp (fun ⟨e1, e2, e3⟩ => ⟨e1, e2, (KeepX.of_below b2).tr e3⟩) (fun ⟨e1, e2⟩ => ⟨e1, _, e2⟩)⟩
        · intro c1 a1 a2 w1 h
          exact h
        · intro bb v18 v19 v20 v21 v22 v23 W' hr
          obtain ⟨k1, (⟨e1, e2, e3⟩ | ⟨e1, pre, e2⟩)⟩ := hr
          · obtain rfl : bb = true := by simpa using e1
            have E2 : Hid _ := e2
            have E3 : Hid (KeepX X W') := e3
            have KK : Hid (KeepsFrom W.heap.size X W') := k1
            clear e1 e2 e3 k1
            gi_wp2
            refine ⟨kf_more KK.out (by have := HSr.out; have := sV.out; omega), E3.out, by rw [List.map_append, ← List.append_assoc]; exact E2.out, H2.out.kx E3.out, H3.out.kf KK.out, E3.out _ _ _ _ H4.out (by decide) (by decide)⟩
          · obtain rfl : bb = false := by simpa using e1
            have E2 : Hid (Jx pre W') := e2
            have KK : Hid (KeepsFrom W.heap.size X W') := k1
            clear e1 e2 k1
            gi_wp2
            exact ⟨kf_more KK.out (by have := HSr.out; have := sV.out; omega), rfl, ⟨pre, E2.out⟩, H3.out.kf KK.out⟩
      case done =>
        rintro D xs X hD rfl ⟨h1, h2, h3, h4⟩ hK
        have hw : wrap64 ((k : Int) + 1) = ((k + 1 : Nat) : Int) := by have := HL.out; have := EM.out; unfold wrap64; omega
        have H1 : Hid (J (asksL me sh (ts.take (k + 1))) X) := by show J _ X; rw [HT.out, asksL_snoc]; exact h1
        have H2 : Hid (AB X L W.heap.size Bk Bm Bs base (some ⟨b, off, none⟩) c ts me sh) := h2
        have H3 : Hid (Marks W.heap.size (D :: Ds) X) := ⟨List.nodup_cons.2 ⟨fun hm => by have := HMr.out.lt D hm; have := sV.out; omega, h3.1⟩, fun D' hD' => by
          rcases List.mem_cons.1 hD' with rfl | hD'
          · exact ⟨by have := HSr.out; have := sV.out; omega, hK⟩
          · exact h3.2 D' hD'⟩
        have H5 : Hid (W.heap.size ≤ X.heap.size) := by show _ ≤ _; have := (Array.getElem?_eq_some_iff.1 hK).1; have := HSr.out; have := sV.out; omega
        clear h1 h2 h3 h4 hK
        gi_wp2
        rw [hw]
        refine ⟨⟨k + 1, D :: Ds, _, _, _, _, _, _, _, _, _, _, _, _, _, _, _, _, _, by omega, rfl, H1, H2, H3, H5⟩, ?_⟩
        simp [intOf]
        omega
      case stop =>
        rintro D c' pre' X hD _ ⟨rfl, ⟨pre, h2⟩, h3⟩ hK
        have H2 : Hid (Jx pre X) := h2
        have H3 : Hid (Marks W.heap.size (D :: Ds) X) := ⟨List.nodup_cons.2 ⟨fun hm => by have := HMr.out.lt D hm; have := sV.out; omega, h3.1⟩, fun D' hD' => by
          rcases List.mem_cons.1 hD' with rfl | hD'
          · exact ⟨by have := HSr.out; have := sV.out; omega, hK⟩
          · exact h3.2 D' hD'⟩
        clear h2 h3 hK
        gi_wp2
        show LeavesInM Fence.wide n Try.prog Try.f80 _ (fun e W' => (∃ v, e = .returned v) ∧ ((∃ xs, xs = asksL me sh ts ∧ J xs W') ∨ (∃ pre, True ∧ Jx pre W'))) (List.map mark (D :: Ds)) .returning X
        refine leaves_marks rfl W.heap.size (fun w => ∃ pre, Jx pre w) (fun w hc => ⟨⟨_, rfl⟩, .inr (by obtain ⟨p, hp⟩ := hc; exact ⟨p, trivial, hp⟩)⟩) (fun w D o o' hB hc ho hcl => by obtain ⟨p, hp⟩ := hc; exact ⟨p, PJx.out _ _ _ _ _ hB hp ho hcl⟩) (D :: Ds) X H3.out.1 H3.out.2 ⟨pre, H2.out⟩
    · obtain rfl : k = m := by omega
      gi_wp2
      show LeavesInM Fence.wide n Try.prog Try.f80 _ (fun e W' => (∃ v, e = .returned v) ∧ ((∃ xs, xs = asksL me sh ts ∧ J xs W') ∨ (∃ pre, True ∧ Jx pre W'))) (List.map mark Ds) .returning wr
      refine leaves_marks rfl W.heap.size (fun w => J (asksL me sh ts) w) (fun w hc => ⟨⟨_, rfl⟩, .inl ⟨_, rfl, hc⟩⟩) (fun w D o o' hB hc ho hcl => PJ.out _ _ _ _ _ hB hc ho hcl) Ds wr HMr.out.1 HMr.out.2 ?_
      have := HJr.out
      rwa [← EM.out, List.take_length] at this
end Go.Proofs.Ytogbcciocgpknaa

namespace Go.Proofs.Ytogbcciocgpknaa
open Go.RowKit Go.Shelf
attribute [local go_sem] Oper.semAt_some
set_option linter.unusedVariables false

/-- What Asks answers. -/
structure AskFn (w w' : World) (me sh : Int) (ts : List TxnD) (Bk Bm Bs : Nat) (a : Option Addr) (c : Nat) : Prop where
  bel : Below w.heap.size w w'
  k : w'.heap[Bk]? = some (.cells #[.slice a ts.length c] 91 (0, 0))
  m : w'.heap[Bm]? = some (.cells #[.int .i64 me] 3 (0, 0))
  s : w'.heap[Bs]? = some (.cells #[.int .i64 sh] 3 (0, 0))
  row : w'.ownsRow w.heap.size 90 7 (.slice a ts.length c) ts.length (flat TxnD.cells ts)
set_option maxRecDepth 100000 in
set_option maxHeartbeats 1600000 in
theorem asksF_any (me sh : Int) (a : Option Addr) (len cap : Nat) (ts : List TxnD) (w : World) (h : RecsAt TxnD.cells 7 w a len ts) (hnil : a = none → cap = 0) (hm : len ≤ 1000) :
    Calls Try.prog 74 #[.int .i64 me, .int .i64 sh, .slice a len cap] w fun e w' => ∃ Bk Bm Bs a' c', e = .returned (.func (.func 80) #[] #[.pointer (some ⟨Bk, 0, none⟩), .pointer (some ⟨Bm, 0, none⟩), .pointer (some ⟨Bs, 0, none⟩)]) ∧ AskFn w w' me sh ts Bk Bm Bs a' c' := by
  have bV : Below w.heap.size w ((w.alloc (.cells #[.int .i64 me] 3)).alloc (.cells #[.int .i64 sh] 3)) := ((Below.refl _ w).alloc (Nat.le_refl _) _).alloc (by simp) _
  have HC := cloneT_any a len cap ts _ (h.below bV) hnil hm
  have q1 : ((w.alloc (.cells #[.int .i64 me] 3)).alloc (.cells #[.int .i64 sh] 3)).heap[w.heap.size]? = some (.cells #[.int .i64 me] 3 (0, 0)) := by rw [Below.heap_alloc _ _ _ (by simp), heap_alloc_new]
  have q2 := heap_two w (.cells #[.int .i64 me] 3) (.cells #[.int .i64 sh] 3)
  have hl := h.1
  have HB : Hid (Below w.heap.size w ((w.alloc (.cells #[.int .i64 me] 3)).alloc (.cells #[.int .i64 sh] 3))) := bV
  have Q1 : Hid _ := q1
  have Q2 : Hid (((w.alloc (.cells #[.int .i64 me] 3)).alloc (.cells #[.int .i64 sh] 3)).heap[w.heap.size + 1]? = some (.cells #[.int .i64 sh] 3 (0, 0))) := q2
  have HL : Hid (len = ts.length) := hl
  clear h hnil hm bV q1 q2 hl
  go_enter Try.func74, Try.ntmps74
  go_wp2_with fail
  refine HC.mono ?_
  rintro e w2 ⟨v, rfl, o, b⟩
  clear HC
  generalize (w.alloc (.cells #[.int .i64 me] 3)).alloc (.cells #[.int .i64 sh] 3) = V at *
  obtain ⟨a', c', rfl, hat, _⟩ := recs_owned TxnD.cells7 o HL.out
  have O : Hid _ := o
  have B : Hid (Below V.heap.size V w2) := b
  clear o b hat
  go_wp2
  go_ret
  have bA : Below w2.heap.size w2 (w2.alloc (.cells #[.slice a' len c'] 91)) := (Below.refl _ w2).alloc (Nat.le_refl _) _
  have b2 : Below V.heap.size V (w2.alloc (.cells #[.slice a' len c'] 91)) := B.out.trans (bA.mono B.out.size)
  have e := HL.out
  subst e
  refine ⟨w2.heap.size, w.heap.size, w.heap.size + 1, a', c', rfl, HB.out.trans (b2.mono HB.out.size), heap_alloc_new w2 _, (b2.block _ (Array.getElem?_eq_some_iff.1 Q1.out).1).trans Q1.out, (b2.block _ (Array.getElem?_eq_some_iff.1 Q2.out).1).trans Q2.out, ?_⟩
  have o2 := owns_kept O.out (fun g e => bA.block g (row_kind O.out e).2.1)
  exact ⟨o2.1, o2.2.imp id (fun ⟨g, cp, cur, e1, e2, e3⟩ => ⟨g, cp, cur, e1, Nat.le_trans HB.out.size e2, e3⟩)⟩
theorem asks1_seq (n Bk Bm Bs base c : Nat) (a : Option Addr) (ts : List TxnD) (me sh : Int) (w : World) (hk : w.heap[Bk]? = some (.cells #[.slice a ts.length c] 91 (0, 0))) (hm : w.heap[Bm]? = some (.cells #[.int .i64 me] 3 (0, 0))) (hs : w.heap[Bs]? = some (.cells #[.int .i64 sh] 3 (0, 0)))
    (hrow : w.ownsRow base 90 7 (.slice a ts.length c) ts.length (flat TxnD.cells ts)) (hlen : ts.length ≤ 1000) :
    SeqV n Try.prog 80 #[.pointer (some ⟨Bk, 0, none⟩), .pointer (some ⟨Bm, 0, none⟩), .pointer (some ⟨Bs, 0, none⟩)] encA KeepX RA (fun xs => xs = asksL me sh ts) (fun _ => True) w := fun L J Jx W hW hJ hJx pJ pJx hY h0 =>
  asks1_in n L Bk Bm Bs base c a ts me sh J Jx W hJ hJx pJ pJx hY ((hW.block _ (Array.getElem?_eq_some_iff.1 hk).1).trans hk) ((hW.block _ (Array.getElem?_eq_some_iff.1 hm).1).trans hm) ((hW.block _ (Array.getElem?_eq_some_iff.1 hs).1).trans hs) (owns_kept hrow (fun g e => hW.block g (row_kind hrow e).2.1)) hlen h0
theorem info_ask : (Try.prog.info? 40).map (fun i => (i.zero, i.size, i.bytes)) = some (some (.agg (AskV.cells (0, CmdV.zero)).toArray), 18, 200) := by kernel_rfl
/-- A command whose parts are cells. -/
theorem ask_one (x : AskV) (h : x.2.data.oneCell' = true) : ∀ u ∈ AskV.cells x, u.oneCell' = true := fun u hu => by
  simp only [AskV.cells, CmdV.cells, List.mem_cons, List.not_mem_nil, or_false] at hu
  rcases hu with rfl | rfl | rfl | rfl | rfl | rfl | rfl | rfl | rfl | rfl | rfl | rfl | rfl | rfl | rfl | rfl | rfl | rfl <;> first | rfl | exact h
/-- The law's list. -/
structure OutI (w X : World) (pre : List AskV) (v : Value) : Prop where
  bel : Below w.heap.size w X
  bx : X.heap[w.heap.size]? = some (.cells #[v] 87 (0, 0))
  row : X.ownsRow w.heap.size 40 18 v pre.length (flat AskV.cells pre)
theorem OutI.below {w X Z : World} {pre : List AskV} {v : Value} (h : OutI w X pre v) (b : Below X.heap.size X Z) : OutI w Z pre v :=
  ⟨h.bel.trans (b.mono h.bel.size), (b.block _ (Array.getElem?_eq_some_iff.1 h.bx).1).trans h.bx, owns_kept h.row (fun g e => b.block g (row_kind h.row e).2.1)⟩
theorem OutI.put {w X : World} {pre : List AskV} {v : Value} (h : OutI w X pre v) {l : Nat} {o : Obj} (o' : Obj) (hl : w.heap.size < l) (ho : X.heap[l]? = some o) (hc : o.isCells = false) : OutI w (X.putObj l o') pre v := by
  refine ⟨h.bel.grown (grownBy_putObj' X l o') h.bel.size (fun k e => by cases e; omega), (World.putObj_heap_other (by omega)).trans h.bx, owns_kept h.row (fun g e => World.putObj_heap_other (fun e2 => ?_))⟩
  obtain ⟨_, _, cur, q⟩ := row_kind h.row e
  rw [e2, ho] at q
  cases q
  simp [Obj.isCells] at hc
theorem set_of3 {W : World} {K i : Nat} {cs : Array Value} {v : Value} {t : TypeId} (h : W.heap[K]? = some (.cells cs t (0, 0))) : (W.setCell ⟨K, i, none⟩ v).heap[K]? = some (.cells (cs.setIfInBounds i v) t (0, 0)) := by
  rw [setCell_eq_setRow W K i cs t (0, 0) v h]
  exact setRow_heap _ _ _ _ _ _ h
/-- One ask more. -/
theorem OutI.more {w X : World} {pre : List AskV} {v : Value} (h : OutI w X pre v) (hl : pre.length ≤ 4000) (x : AskV) (hx : x.2.data.oneCell' = true) :
    ∃ v' Z, (Builtin.append_ #[87, 87] 87 #[v, .slice (some ⟨X.heap.size, 0, none⟩) 1 1]).run Try.prog (X.alloc (.cells (AskV.cells x).toArray 40)) = .ok v' Z ∧ Z.cell? ⟨w.heap.size, 0, none⟩ = some v ∧ Z.frozen? ⟨w.heap.size, 0, none⟩ = false ∧
      OutI w (Z.setCell ⟨w.heap.size, 0, none⟩ v') (pre ++ [x]) v' ∧ KeepX X (Z.setCell ⟨w.heap.size, 0, none⟩ v') ∧ ∀ B, KeepsFrom B X (Z.setCell ⟨w.heap.size, 0, none⟩ v') := by
  have bX : Below X.heap.size X (X.alloc (.cells (AskV.cells x).toArray 40)) := (Below.refl _ X).alloc (Nat.le_refl _) _
  have h1 := h.below bX
  have hnew := heap_alloc_new X (.cells (AskV.cells x).toArray 40)
  generalize X.alloc (.cells (AskV.cells x).toArray 40) = X1 at h1 hnew bX ⊢
  obtain ⟨i0, hi, hz0, hz1, hz2⟩ := info_parts info_ask
  obtain ⟨v', Z, hr, q1, q2, _, _⟩ := run_append_own_at (P := Try.prog) X1 w.heap.size 87 87 40 i0 _ 18 200 Try.underlying87 hi hz0 hz1 hz2 rfl (by omega) v pre.length (flat AskV.cells pre) h1.row ⟨X.heap.size, 0, none⟩ 1 1 (AskV.cells x) rfl (fun j u hj => by
    rw [Addr.add_lit, Nat.zero_add]
    simp only [World.cell?, hnew]
    simpa using hj) (ask_one x hx) (by unfold maxLen; omega) (by omega) h1.bel.size
  have own : ∀ k cs t z, X1.heap[k]? = some (.cells cs t z) → t ≠ 40 → v.ownBlock ≠ some k := fun k cs t z hk ht e => by
    obtain ⟨_, _, cur, q⟩ := row_kind h1.row e
    rw [hk] at q
    injection q with q
    injection q with _ q
    exact ht q
  have hb : ∀ k, k < X1.heap.size → v.ownBlock ≠ some k → Z.heap[k]? = X1.heap[k]? := fun k hk hn => q2.block k hk (fun e => hn e.symm)
  have k1 : Z.heap[w.heap.size]? = some (.cells #[v] 87 (0, 0)) := (hb _ (Array.getElem?_eq_some_iff.1 h1.bx).1 (own _ _ _ _ h1.bx (by decide))).trans h1.bx
  have e := setCell_eq_setRow Z w.heap.size 0 _ _ _ v' k1
  have el : (pre ++ [x]).length = pre.length + 1 := by simp
  refine ⟨v', Z, hr, by simp [World.cell?, k1], by simp [World.frozen?, k1], ⟨?_, ?_, ?_⟩, ?_, ?_⟩
  · exact Below.setCell (h1.bel.grown q2 h1.bel.size (fun k e => (row_kind h1.row e).1)) (Nat.le_refl _) _
  · exact set_of3 k1
  · rw [el, e, flat_append]
    refine owns_kept ?_ (fun g q => setRow_other _ _ _ _ (fun z => ?_))
    · simpa [flat] using q1
    · subst z
      obtain ⟨_, _, cur, q3⟩ := row_kind q1 q
      rw [k1] at q3
      injection q3 with q3
      injection q3 with _ q3
      exact absurd q3 (by decide)
  · intro k cs t z hk h2 h3
    have hk1 := (bX.block k (Array.getElem?_eq_some_iff.1 hk).1).trans hk
    have hne : k ≠ w.heap.size := fun e2 => by
      rw [e2] at hk1
      rw [h1.bx] at hk1
      injection hk1 with hk1
      injection hk1 with _ hk1
      exact h2 hk1.symm
    rw [e, setRow_other _ _ _ _ hne, hb k (Array.getElem?_eq_some_iff.1 hk1).1 (own _ _ _ _ hk1 h3)]
    exact hk1
  · intro B
    refine ⟨?_, fun k o _ ho hc => ?_⟩
    · have := q2.size; have := bX.size; simp; omega
    · have hk1 := (bX.block k (Array.getElem?_eq_some_iff.1 ho).1).trans ho
      have hne : k ≠ w.heap.size := fun e2 => by
        rw [e2, h1.bx] at hk1
        cases hk1
        simp [Obj.isCells] at hc
      have hno : v.ownBlock ≠ some k := fun e2 => by
        obtain ⟨_, _, cur, q⟩ := row_kind h1.row e2
        rw [hk1] at q
        cases q
        simp [Obj.isCells] at hc
      rw [e, setRow_other _ _ _ _ hne, hb k (Array.getElem?_eq_some_iff.1 hk1).1 hno]
      exact hk1
theorem seqA_some_in (w : World) (d : Nat) (f : Fn) (a b : Array Value) : (Op.equalIn (d + 1) 111 (.func f a b) .nilFunc).run Try.prog w = .ok false w := by
  simp [Op.equalIn, run_underlying Try.underlying111]
theorem seqA_some (w : World) (f : Fn) (a b : Array Value) : (binOp .eql 111 (.func f a b) .nilFunc).run Try.prog w = .ok (.bool false) w := by
  simp only [binOp]
  simp [Op.equal, Op.maxDepth, seqA_some_in w 9999 f a b]
end Go.Proofs.Ytogbcciocgpknaa
