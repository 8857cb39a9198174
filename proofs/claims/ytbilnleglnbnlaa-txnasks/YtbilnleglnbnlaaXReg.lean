/- Package txn: the region that hands an ask on. -/
import Derived.Test.YtbilnleglnbnlaaXWant
import Derived.Test.YtbilnleglnbnlaaXUp
namespace Go.Proofs.Ytbilnleglnbnlaa
open Go.RowKit Go.Shelf
attribute [local go_sem] Oper.semAt_some
set_option linter.unusedVariables false

theorem round_depth {P : Program} {n m l f : Nat} {tmps : Array Value} {assign body : Code} {w : World} {R : Ending → World → Prop} (h : RoundIn Fence.wide n P l f tmps assign body w R) : RoundIn Fence.wide m P l f tmps assign body w R :=
  ⟨h.1, fun c cs _ => h.2 c cs (room_wide _)⟩
/-- A struct is read. -/
theorem op_row {P : Program} {n : Nat} {ops : Array Oper} {Q : Exit → Act → World → Prop} {i : Nat} {oi : Oper} {K : Act → World → Prop} {a : Act} {w : World} (hi : ops[i]? = some oi) (ty : TypeId) (x : Operand) (g : Nat) (t : TypeId) (cs : Array Value) (fr : Nat × Nat) (d : TypeDesc)
    (hw : Region.wanted oi (yielded ops a.tmps) = true) (ho : oi.op = .load ty x) (hx : a.eval x = .pointer (some ⟨g, 0, none⟩)) (hg : w.heap[g]? = some (.cells cs t fr)) (hu : P.underlying ty = some d)
    (hd : (match d with | .struct _ | .array _ _ => true | _ => false) = true) (hz : (P.info? ty).map (·.size) = some cs.size) (h : K (a.put oi.dst (.agg cs)) w) : wpOpIn Fence.wide n P ops Q i K a w :=
  op_value (.agg cs) hi hw (by
    unfold execOp
    simp only [ho, hx, Instr.loadAt, Instr.sureAddr, Sem.run_bind, Sem.run_pure, Result.andThen_ok, run_loadVar_row w g t ty cs fr d hg hu hd hz]) h
abbrev opsA : Array Oper := #[{ dst := some 18, op := Go.Op.load 65 (Go.Operand.tmp 4), type := 65, pos := "txn.go:26", after := #[], guard := none }, { dst := some 19, op := Go.Op.move (Go.Operand.tmp 7), type := 3, pos := "txn.go:26", after := #[], guard := none }, { dst := some 20, op := Go.Op.load 40 (Go.Operand.tmp 6), type := 40, pos := "txn.go:26", after := #[], guard := none }, { dst := some 21, op := Go.Op.call { callee := Go.Callee.value (Go.Operand.func 20), args := #[Go.Operand.tmp 20], argTypes := #[40] }, type := 47, pos := "txn.go:26", after := #[{ on := 2, ground := Go.Ground.data }], guard := none }, { dst := some 22, op := Go.Op.build 49 #[(0, Go.Operand.tmp 19), (1, Go.Operand.tmp 21)], type := 49, pos := "txn.go:26", after := #[{ on := 1, ground := Go.Ground.data }, { on := 3, ground := Go.Ground.data }], guard := none }, { dst := some 23, op := Go.Op.call { callee := Go.Callee.value (Go.Operand.tmp 18), args := #[Go.Operand.tmp 22], argTypes := #[49] }, type := 4, pos := "txn.go:26", after := #[{ on := 0, ground := Go.Ground.data }, { on := 4, ground := Go.Ground.data }, { on := 3, ground := Go.Ground.chain }], guard := none }, { dst := some 24, op := Go.Op.unOp Go.UnOp.not 4 (Go.Operand.tmp 23), type := 4, pos := "txn.go:26", after := #[{ on := 5, ground := Go.Ground.data }], guard := none }]
/-- A command and a group are an ask. -/
theorem build_ask (a0 a1 a2 a3 a4 a5 a6 a7 a8 a9 a10 a11 a12 a13 a14 a15 a16 a17 a18 a20 a22 a23 a24 a25 : Value) (g k ok : Int) (of_ ot : ByteArray) (oa : Int) (oy : ByteArray) (os oh : Int) (id nm : ByteArray) (n why slot ep at_ : Int) (last : Bool) (data : Value) (W : World) :
    (execOp ({ tmps := #[a0, a1, a2, a3, a4, a5, a6, a7, a8, a9, a10, a11, a12, a13, a14, a15, a16, a17, a18, .int .i64 g, a20, .agg #[.int .i64 k, .int .i64 ok, .string of_, .string ot, .int .i64 oa, .string oy, .int .i64 os, .int .i64 oh, .string id, .string nm, .int .i64 n, .int .i64 why, .int .i64 slot, .int .i64 ep, .int .i64 at_, .bool last, data], a22, a23, a24, a25], defers := [] } : Act).eval ({ dst := some 22, op := Go.Op.build 49 #[(0, Go.Operand.tmp 19), (1, Go.Operand.tmp 21)], type := 49, pos := "txn.go:26", after := #[{ on := 1, ground := Go.Ground.data }, { on := 3, ground := Go.Ground.data }], guard := none } : Oper)).run Try.prog W = .ok (.value (.agg #[.int .i64 g, .int .i64 k, .int .i64 ok, .string of_, .string ot, .int .i64 oa, .string oy, .int .i64 os, .int .i64 oh, .string id, .string nm, .int .i64 n, .int .i64 why, .int .i64 slot, .int .i64 ep, .int .i64 at_, .bool last, data])) W := by
  kernel_rfl
set_option maxRecDepth 100000 in
set_option maxHeartbeats 4000000 in
theorem ask_region (m L By B6 : Nat) (s0 s1 s2 s3 s5 s8 s9 s10 s11 s12 s13 s14 s15 s16 s17 u18 u19 u20 u21 u22 u23 u24 u25 : Value) (g : Int) (t : TxnD) (X : World)
    (hy : X.cell? ⟨By, 0, none⟩ = some (.func (.yield L) #[] #[])) (h6 : X.heap[B6]? = some (.cells #[.string t.id, .string t.fr, .string t.ky, .string t.to, .int .i64 t.n, .bool t.done, .int .i64 t.why] 40 (0, 0)))
    (RR : Ending → World → Prop) (hRR : ∀ e W', RR e W' → ∃ b, e = .returned (.bool b))
    (hY : ∀ W1, Below X.heap.size X W1 → YieldAt Fence.wide (m - 1) Try.prog L #[.agg (AskV.cells (g, wantC t)).toArray] W1 RR)
    (Q : Exit → Act → World → Prop) (hP : ∀ c (a a' : Act) w, Q (.panic c) a w → Q (.panic c) a' w)
    (hQ : ∀ b v18 v19 v20 v21 v22 v23 W', RR (.returned (.bool b)) W' → Q .normal { tmps := #[s0, s1, s2, s3, .pointer (some ⟨By, 0, none⟩), s5, .pointer (some ⟨B6, 0, none⟩), .int .i64 g, s8, s9, s10, s11, s12, s13, s14, s15, s16, s17, v18, v19, v20, v21, v22, v23, .bool (!b), u25], defers := [] } W') :
    wpAnyIn Fence.wide m Try.prog .any opsA Q 7 (Array.replicate 7 false) { tmps := #[s0, s1, s2, s3, .pointer (some ⟨By, 0, none⟩), s5, .pointer (some ⟨B6, 0, none⟩), .int .i64 g, s8, s9, s10, s11, s12, s13, s14, s15, s16, s17, u18, u19, u20, u21, u22, u23, u24, u25], defers := [] } X.drew := by
  have hl6 : B6 < X.heap.size := (Array.getElem?_eq_some_iff.1 h6).1
  have hly : By < X.heap.size := World.block_lt_of_cell? X _ hy
  have BD : Hid (Below X.heap.size X X.drew) := (Below.refl _ X).drew
  have HK6 : ∀ W', Below X.heap.size X W' → Hid (W'.heap[B6]? = some (.cells #[.string t.id, .string t.fr, .string t.ky, .string t.to, .int .i64 t.n, .bool t.done, .int .i64 t.why] 40 (0, 0))) := fun W' h => (h.block _ hl6).trans h6
  have HKy : ∀ W', Below X.heap.size X W' → Hid (W'.cell? ⟨By, 0, none⟩ = some (.func (.yield L) #[] #[])) := fun W' h => by
    show W'.cell? ⟨By, 0, none⟩ = _
    rw [h.cell (p := ⟨By, 0, none⟩) hly]
    exact hy
  have HC : ∀ W', Below X.heap.size X W' → Hid (Calls Try.prog 20 #[.agg #[.string t.id, .string t.fr, .string t.ky, .string t.to, .int .i64 t.n, .bool t.done, .int .i64 t.why]] W' fun e W'' => e = .returned (.agg (wantC t).cells.toArray) ∧ Below X.heap.size X W'') := fun W' h => by
    refine (wanted_any t W').mono ?_
    rintro e W'' ⟨rfl, b⟩
    exact ⟨rfl, h.trans (b.mono h.size)⟩
  have HQ : Hid _ := hQ
  have HY : Hid _ := hY
  have HRR : Hid _ := hRR
  clear hy h6 hl6 hly hQ hY hRR
  -- the tail: all but the two last ones are done
  have TAIL : Hid (∀ W1, Below X.heap.size X W1 → wpAnyIn Fence.wide m Try.prog .any opsA Q 2 #[true, true, true, true, true, false, false] { tmps := #[s0, s1, s2, s3, .pointer (some ⟨By, 0, none⟩), s5, .pointer (some ⟨B6, 0, none⟩), .int .i64 g, s8, s9, s10, s11, s12, s13, s14, s15, s16, s17, .func (.yield L) #[] #[], .int .i64 g, .agg #[.string t.id, .string t.fr, .string t.ky, .string t.to, .int .i64 t.n, .bool t.done, .int .i64 t.why], .agg (wantC t).cells.toArray, .agg (AskV.cells (g, wantC t)).toArray, u23, u24, u25], defers := [] } W1) := fun W1 b1 => by
    obtain ⟨fn, tmps, assign, body, hyy, hR⟩ := HY.out W1 b1
    generalize (AskV.cells (g, wantC t)).toArray = ca at *
    refine any_one 5 (by kernel_rfl) ?_
    refine op_round (i := 5) (oi := { dst := some 23, op := Go.Op.call { callee := Go.Callee.value (Go.Operand.tmp 18), args := #[Go.Operand.tmp 22], argTypes := #[49] }, type := 4, pos := "txn.go:26", after := #[{ on := 0, ground := Go.Ground.data }, { on := 4, ground := Go.Ground.data }, { on := 3, ground := Go.Ground.chain }], guard := none }) L fn tmps assign body rfl (by rfl) (by go_simp <;> first | exact hyy | (rw [hyy]; rfl) | (simp [hyy]; done)) ?_
    refine (round_depth hR).mono ?_
    rintro e W4 hr
    obtain ⟨b, rfl⟩ := HRR.out e W4 hr
    refine ⟨_, rfl, ?_⟩
    simp only [Act.put, List.setIfInBounds_toArray, List.set_cons_zero, List.set_cons_succ]
    refine any_one 6 (by kernel_rfl) ?_
    refine op_value (.bool (!b)) (i := 6) (oi := { dst := some 24, op := Go.Op.unOp Go.UnOp.not 4 (Go.Operand.tmp 23), type := 4, pos := "txn.go:26", after := #[{ on := 5, ground := Go.Ground.data }], guard := none }) rfl (by rfl) (by go_simp <;> with_reducible rfl) ?_
    simp only [Act.put, List.setIfInBounds_toArray, List.set_cons_zero, List.set_cons_succ]
    exact wpAnyIn_done (by kernel_rfl) (HQ.out b _ _ _ _ _ _ W4 hr) _
  have HBd : Hid (∀ q18 W, (execOp (({ tmps := #[s0, s1, s2, s3, .pointer (some ⟨By, 0, none⟩), s5, .pointer (some ⟨B6, 0, none⟩), .int .i64 g, s8, s9, s10, s11, s12, s13, s14, s15, s16, s17, q18, .int .i64 g, .agg #[.string t.id, .string t.fr, .string t.ky, .string t.to, .int .i64 t.n, .bool t.done, .int .i64 t.why], .agg (wantC t).cells.toArray, u22, u23, u24, u25], defers := [] } : Act).eval) ({ dst := some 22, op := Go.Op.build 49 #[(0, Go.Operand.tmp 19), (1, Go.Operand.tmp 21)], type := 49, pos := "txn.go:26", after := #[{ on := 1, ground := Go.Ground.data }, { on := 3, ground := Go.Ground.data }], guard := none } : Oper)).run Try.prog W = .ok (.value (.agg (AskV.cells (g, wantC t)).toArray)) W) := fun q18 W => by
    generalize wantC t = c
    obtain ⟨k, ok, of_, ot, oa, oy, os, oh, id, nm, n, why, slot, ep, at_, last, data⟩ := c
    exact build_ask _ _ _ _ _ _ _ _ _ _ _ _ _ _ _ _ _ _ _ _ _ _ _ _ g k ok of_ ot oa oy os oh id nm n why slot ep at_ last data W
  generalize (AskV.cells (g, wantC t)).toArray = ca at *
  generalize (wantC t).cells.toArray = cc at *
  refine any_take 1 (oi := { dst := some 19, op := Go.Op.move (Go.Operand.tmp 7), type := 3, pos := "txn.go:26", after := #[], guard := none }) (.int .i64 g) rfl (by kernel_rfl) (by kernel_rfl) (by kernel_rfl) (fun c a w h => hP c _ _ w h) (by rfl) (fun _ => by go_simp <;> with_reducible rfl) (fun _ => rfl) ?_
  simp only [Act.put, List.setIfInBounds_toArray, List.set_cons_zero, List.set_cons_succ]
  refine any_two 0 2 (by kernel_rfl) ?_ ?_
  · -- 0 2 3 4
    have ky := (HKy _ BD.out).out
    refine op_value (.func (.yield L) #[] #[]) (i := 0) (oi := { dst := some 18, op := Go.Op.load 65 (Go.Operand.tmp 4), type := 65, pos := "txn.go:26", after := #[], guard := none }) rfl (by rfl) (by go_simp <;> with_reducible rfl) ?_
    clear ky
    simp only [Act.put, List.setIfInBounds_toArray, List.set_cons_zero, List.set_cons_succ]
    refine any_one 2 (by kernel_rfl) ?_
    refine op_row (i := 2) (oi := { dst := some 20, op := Go.Op.load 40 (Go.Operand.tmp 6), type := 40, pos := "txn.go:26", after := #[], guard := none }) rfl 40 (.tmp 6) B6 40 _ (0, 0) _ (by rfl) rfl rfl (HK6 _ BD.out).out Try.underlying40 rfl (by kernel_rfl) ?_
    simp only [Act.put, List.setIfInBounds_toArray, List.set_cons_zero, List.set_cons_succ]
    refine any_one 3 (by kernel_rfl) ?_
    refine op_call (i := 3) (oi := { dst := some 21, op := Go.Op.call { callee := Go.Callee.value (Go.Operand.func 20), args := #[Go.Operand.tmp 20], argTypes := #[40] }, type := 47, pos := "txn.go:26", after := #[{ on := 2, ground := Go.Ground.data }], guard := none }) 20 _ rfl (by rfl) (by go_simp <;> with_reducible rfl) ?_
    refine (HC _ BD.out).out.mono ?_
    rintro e W2 ⟨rfl, b2⟩
    have B2 : Hid (Below X.heap.size X W2) := b2
    clear b2
    refine ⟨_, rfl, ?_⟩
    simp only [Act.put, List.setIfInBounds_toArray, List.set_cons_zero, List.set_cons_succ]
    refine any_one 4 (by kernel_rfl) ?_
    refine op_value (.agg ca) (i := 4) (oi := { dst := some 22, op := Go.Op.build 49 #[(0, Go.Operand.tmp 19), (1, Go.Operand.tmp 21)], type := 49, pos := "txn.go:26", after := #[{ on := 1, ground := Go.Ground.data }, { on := 3, ground := Go.Ground.data }], guard := none }) rfl (by rfl) (HBd.out _ _) ?_
    simp only [Act.put, List.setIfInBounds_toArray, List.set_cons_zero, List.set_cons_succ]
    exact TAIL.out _ B2.out
  · -- 2
    refine op_row (i := 2) (oi := { dst := some 20, op := Go.Op.load 40 (Go.Operand.tmp 6), type := 40, pos := "txn.go:26", after := #[], guard := none }) rfl 40 (.tmp 6) B6 40 _ (0, 0) _ (by rfl) rfl rfl (HK6 _ BD.out).out Try.underlying40 rfl (by kernel_rfl) ?_
    simp only [Act.put, List.setIfInBounds_toArray, List.set_cons_zero, List.set_cons_succ]
    refine any_two 0 3 (by kernel_rfl) ?_ ?_
    · -- 0 3 4
      have ky := (HKy _ BD.out).out
      refine op_value (.func (.yield L) #[] #[]) (i := 0) (oi := { dst := some 18, op := Go.Op.load 65 (Go.Operand.tmp 4), type := 65, pos := "txn.go:26", after := #[], guard := none }) rfl (by rfl) (by go_simp <;> with_reducible rfl) ?_
      clear ky
      simp only [Act.put, List.setIfInBounds_toArray, List.set_cons_zero, List.set_cons_succ]
      refine any_one 3 (by kernel_rfl) ?_
      refine op_call (i := 3) (oi := { dst := some 21, op := Go.Op.call { callee := Go.Callee.value (Go.Operand.func 20), args := #[Go.Operand.tmp 20], argTypes := #[40] }, type := 47, pos := "txn.go:26", after := #[{ on := 2, ground := Go.Ground.data }], guard := none }) 20 _ rfl (by rfl) (by go_simp <;> with_reducible rfl) ?_
      refine (HC _ BD.out).out.mono ?_
      rintro e W2 ⟨rfl, b2⟩
      have B2 : Hid (Below X.heap.size X W2) := b2
      clear b2
      refine ⟨_, rfl, ?_⟩
      simp only [Act.put, List.setIfInBounds_toArray, List.set_cons_zero, List.set_cons_succ]
      refine any_one 4 (by kernel_rfl) ?_
      refine op_value (.agg ca) (i := 4) (oi := { dst := some 22, op := Go.Op.build 49 #[(0, Go.Operand.tmp 19), (1, Go.Operand.tmp 21)], type := 49, pos := "txn.go:26", after := #[{ on := 1, ground := Go.Ground.data }, { on := 3, ground := Go.Ground.data }], guard := none }) rfl (by rfl) (HBd.out _ _) ?_
      simp only [Act.put, List.setIfInBounds_toArray, List.set_cons_zero, List.set_cons_succ]
      exact TAIL.out _ B2.out
    · -- 3 4 0
      refine op_call (i := 3) (oi := { dst := some 21, op := Go.Op.call { callee := Go.Callee.value (Go.Operand.func 20), args := #[Go.Operand.tmp 20], argTypes := #[40] }, type := 47, pos := "txn.go:26", after := #[{ on := 2, ground := Go.Ground.data }], guard := none }) 20 _ rfl (by rfl) (by go_simp <;> with_reducible rfl) ?_
      refine (HC _ BD.out).out.mono ?_
      rintro e W2 ⟨rfl, b2⟩
      have B2 : Hid (Below X.heap.size X W2) := b2
      clear b2
      refine ⟨_, rfl, ?_⟩
      simp only [Act.put, List.setIfInBounds_toArray, List.set_cons_zero, List.set_cons_succ]
      refine any_take 4 (oi := { dst := some 22, op := Go.Op.build 49 #[(0, Go.Operand.tmp 19), (1, Go.Operand.tmp 21)], type := 49, pos := "txn.go:26", after := #[{ on := 1, ground := Go.Ground.data }, { on := 3, ground := Go.Ground.data }], guard := none }) (.agg ca) rfl (by kernel_rfl) (by kernel_rfl) (by kernel_rfl) (fun c a w h => hP c _ _ w h) (by rfl) (fun W => HBd.out _ W) (fun _ => rfl) ?_
      simp only [Act.put, List.setIfInBounds_toArray, List.set_cons_zero, List.set_cons_succ]
      refine any_one 0 (by kernel_rfl) ?_
      have ky := (HKy _ B2.out).out
      refine op_value (.func (.yield L) #[] #[]) (i := 0) (oi := { dst := some 18, op := Go.Op.load 65 (Go.Operand.tmp 4), type := 65, pos := "txn.go:26", after := #[], guard := none }) rfl (by rfl) (by go_simp <;> with_reducible rfl) ?_
      clear ky
      simp only [Act.put, List.setIfInBounds_toArray, List.set_cons_zero, List.set_cons_succ]
      exact TAIL.out _ B2.out
end Go.Proofs.Ytbilnleglnbnlaa
