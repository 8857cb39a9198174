/- The law's list of what is asked: one round. -/
import Derived.Test.YtogbcciocgpknaaTaQ
namespace Go.Proofs.Ytogbcciocgpknaa
open Go.RowKit Go.Shelf
attribute [local go_sem] Oper.semAt_some
set_option linter.unusedVariables false

theorem wpListIn_append_known {F : Fence} {n : Nat} {P : Program} {w : World} {ops : Array Oper} {rest : List Oper} {o : Oper} {a : Act} {Q : Exit → Act → World → Prop} (hgd : o.guard = none) (s x : Operand) (t tn : TypeId)
    (ho : o.op = .call { callee := .builtin .append, args := #[s, x], argTypes := #[t, tn] }) (vs vx : Value) (hs : a.eval s = vs) (hx : a.eval x = vx) (v' : Value) (w' : World)
    (hr : (Builtin.append_ #[t, tn] o.type #[vs, vx]).run P w = .ok v' w') (h : wpListIn F n P ops Q rest (a.put o.dst v') w') : wpListIn F n P ops Q (o :: rest) a w := by
  refine wpListIn_plain hgd fun K hK' => ?_
  unfold Oper.wpIn
  refine ⟨?_, ?_⟩
  · simp [Oper.about, ho, resolve, Target.leads, Sem.run_pure]
  · rw [Oper.semAt_plain F _ _ (by rw [ho]; intro c hc'; cases hc')]
    simp [execOp, ho, resolve, invoke, builtin, hs, hx, hr, Result.andThen]
    exact hK' _ _ h
section
variable {F : Fence} {n : Nat} {P : Program} {w w' : World} {ops : Array Oper} {rest : List Oper} {o : Oper} {a : Act} {Q : Exit → Act → World → Prop}
/-- An operation that yields a value, or nothing. -/
theorem listIn_value (v : Value) (hgd : o.guard = none) (ha : o.about P w a.eval = none) (hd : ∀ c, o.op ≠ .defer c) (hx : (execOp a.eval o).run P w = .ok (.value v) w') (h : wpListIn F n P ops Q rest (a.put o.dst v) w') : wpListIn F n P ops Q (o :: rest) a w := by
  refine wpListIn_plain hgd fun K hK' => ?_
  unfold Oper.wpIn
  refine ⟨fun f hf => (by rw [ha] at hf; cases hf), ?_⟩
  rw [Oper.semAt_plain F _ _ hd, hx]
  exact hK' _ _ h
theorem listIn_effect (hgd : o.guard = none) (ha : o.about P w a.eval = none) (hd : ∀ c, o.op ≠ .defer c) (hx : (execOp a.eval o).run P w = .ok .skip w') (h : wpListIn F n P ops Q rest (a.put o.dst undef) w') : wpListIn F n P ops Q (o :: rest) a w := by
  refine wpListIn_plain hgd fun K hK' => ?_
  unfold Oper.wpIn
  refine ⟨fun f hf => (by rw [ha] at hf; cases hf), ?_⟩
  rw [Oper.semAt_plain F _ _ hd, hx]
  exact hK' _ _ h
theorem listIn_row (ty : TypeId) (x : Operand) (g : Nat) (t : TypeId) (cs : Array Value) (fr : Nat × Nat) (d : TypeDesc) (hgd : o.guard = none) (ho : o.op = .load ty x) (hx : a.eval x = .pointer (some ⟨g, 0, none⟩)) (hg : w.heap[g]? = some (.cells cs t fr)) (hu : P.underlying ty = some d)
    (hd : (match d with | .struct _ | .array _ _ => true | _ => false) = true) (hz : (P.info? ty).map (·.size) = some cs.size) (h : wpListIn F n P ops Q rest (a.put o.dst (.agg cs)) w) : wpListIn F n P ops Q (o :: rest) a w :=
  listIn_value (.agg cs) hgd (by simp [Oper.about, ho]) (fun c => by rw [ho]; intro e; cases e) (by
    unfold execOp
    simp only [ho, hx, Instr.loadAt, Instr.sureAddr, Sem.run_bind, Sem.run_pure, Result.andThen_ok, run_loadVar_row w g t ty cs fr d hg hu hd hz]) h
end
theorem zip_one (t : Array Value) (p : Nat) (v : Value) : (#[p].zip #[v]).foldl (fun (t : Array Value) (x : Tmp × Value) => match x with | (p, v) => t.setIfInBounds p v) t = t.setIfInBounds p v := by simp
theorem build_one (s0 s1 s2 s3 s4 s5 s6 s8 s10 s11 s12 s13 s14 s15 s16 s17 s18 s20 s21 s22 s7 s9 : Value) (g k ok : Int) (of_ ot : ByteArray) (oa : Int) (oy : ByteArray) (os oh : Int) (id nm : ByteArray) (n why slot ep at_ : Int) (last : Bool) (X : World) :
    (execOp ({ tmps := #[s0, s1, s2, s3, s4, s5, s6, s7, s8, s9, s10, s11, s12, s13, s14, s15, s16, s17, s18, .agg #[.int .i64 g, .int .i64 k, .int .i64 ok, .string of_, .string ot, .int .i64 oa, .string oy, .int .i64 os, .int .i64 oh, .string id, .string nm, .int .i64 n, .int .i64 why, .int .i64 slot, .int .i64 ep, .int .i64 at_, .bool last, .slice none 0 0], s20, s21, s22], defers := [] } : Act).eval ({ dst := some 20, op := Go.Op.buildSlice 87 1 #[(0, Go.Operand.tmp 19)], type := 87, pos := "law.go:47", after := #[{ on := 1, ground := Go.Ground.data }], guard := none } : Oper)).run Try.prog X = .ok (.value (.slice (some ⟨X.heap.size, 0, none⟩) 1 1)) (X.alloc (.cells #[.int .i64 g, .int .i64 k, .int .i64 ok, .string of_, .string ot, .int .i64 oa, .string oy, .int .i64 os, .int .i64 oh, .string id, .string nm, .int .i64 n, .int .i64 why, .int .i64 slot, .int .i64 ep, .int .i64 at_, .bool last, .slice none 0 0] 40)) := by
  kernel_rfl
set_option maxRecDepth 100000 in
set_option maxHeartbeats 2000000 in
theorem asks_body (lr N : Nat) (Ob Bx : Nat) (s0 s1 s2 s3 s4 s5 s6 s8 s10 s11 s12 s13 s14 s15 s16 s17 s18 s19 s20 s21 s22 : Value) (g k ok : Int) (of_ ot : ByteArray) (oa : Int) (oy : ByteArray) (os oh : Int) (id nm : ByteArray) (n why slot ep at_ : Int) (last : Bool) (X Z : World) (va va' : Option Addr) (vn vn' vc vc' : Nat) (Q : Exit → Act → World → Prop)
    (cx : X.cell? ⟨Ob, 0, none⟩ = some (.slice va vn vc)) (hx : X.heap[Bx]? = some (.cells #[.int .i64 g, .int .i64 k, .int .i64 ok, .string of_, .string ot, .int .i64 oa, .string oy, .int .i64 os, .int .i64 oh, .string id, .string nm, .int .i64 n, .int .i64 why, .int .i64 slot, .int .i64 ep, .int .i64 at_, .bool last, .slice none 0 0] 40 (0, 0)))
    (hrun : (Builtin.append_ #[87, 87] 87 #[.slice va vn vc, .slice (some ⟨X.heap.size, 0, none⟩) 1 1]).run Try.prog (X.alloc (.cells #[.int .i64 g, .int .i64 k, .int .i64 ok, .string of_, .string ot, .int .i64 oa, .string oy, .int .i64 os, .int .i64 oh, .string id, .string nm, .int .i64 n, .int .i64 why, .int .i64 slot, .int .i64 ep, .int .i64 at_, .bool last, .slice none 0 0] 40)) = .ok (.slice va' vn' vc') Z)
    (hz : Z.cell? ⟨Ob, 0, none⟩ = some (.slice va vn vc)) (hzf : Z.frozen? ⟨Ob, 0, none⟩ = false)
    (hQ : ∀ act, Q .normal act (Z.setCell ⟨Ob, 0, none⟩ (.slice va' vn' vc'))) :
    (Code.block 1 (Code.region 7 #[{ dst := some 18, op := Go.Op.load 87 (Go.Operand.tmp 7), type := 87, pos := "law.go:47", after := #[], guard := none }, { dst := some 19, op := Go.Op.load 40 (Go.Operand.tmp 9), type := 40, pos := "law.go:47", after := #[], guard := none }, { dst := some 20, op := Go.Op.buildSlice 87 1 #[(0, Go.Operand.tmp 19)], type := 87, pos := "law.go:47", after := #[{ on := 1, ground := Go.Ground.data }], guard := none }, { dst := some 21, op := Go.Op.call { callee := Go.Callee.builtin Go.Builtin.append, args := #[Go.Operand.tmp 18, Go.Operand.tmp 20], argTypes := #[87, 87] }, type := 87, pos := "law.go:47", after := #[{ on := 0, ground := Go.Ground.data }, { on := 2, ground := Go.Ground.data }], guard := none }, { dst := none, op := Go.Op.store 87 (Go.Operand.tmp 7) (Go.Operand.tmp 21), type := 0, pos := "law.go:47", after := #[{ on := 3, ground := Go.Ground.data }, { on := 3, ground := Go.Ground.chain }, { on := 0, ground := Go.Ground.phase }, { on := 1, ground := Go.Ground.phase }, { on := 2, ground := Go.Ground.phase }, { on := 3, ground := Go.Ground.phase }], guard := none }] false)).wpIn (Fence.wide.inRound lr) N Try.prog Q { tmps := #[s0, s1, s2, s3, s4, s5, s6, .pointer (some ⟨Ob, 0, none⟩), s8, .pointer (some ⟨Bx, 0, none⟩), s10, s11, s12, s13, s14, s15, s16, s17, s18, s19, s20, s21, s22], defers := [] } X := by
  refine wpIn_block ?_
  refine wpIn_region_lit (l := [{ dst := some 18, op := Go.Op.load 87 (Go.Operand.tmp 7), type := 87, pos := "law.go:47", after := #[], guard := none }, { dst := some 19, op := Go.Op.load 40 (Go.Operand.tmp 9), type := 40, pos := "law.go:47", after := #[], guard := none }, { dst := some 20, op := Go.Op.buildSlice 87 1 #[(0, Go.Operand.tmp 19)], type := 87, pos := "law.go:47", after := #[{ on := 1, ground := Go.Ground.data }], guard := none }, { dst := some 21, op := Go.Op.call { callee := Go.Callee.builtin Go.Builtin.append, args := #[Go.Operand.tmp 18, Go.Operand.tmp 20], argTypes := #[87, 87] }, type := 87, pos := "law.go:47", after := #[{ on := 0, ground := Go.Ground.data }, { on := 2, ground := Go.Ground.data }], guard := none }, { dst := none, op := Go.Op.store 87 (Go.Operand.tmp 7) (Go.Operand.tmp 21), type := 0, pos := "law.go:47", after := #[{ on := 3, ground := Go.Ground.data }, { on := 3, ground := Go.Ground.chain }, { on := 0, ground := Go.Ground.phase }, { on := 1, ground := Go.Ground.phase }, { on := 2, ground := Go.Ground.phase }, { on := 3, ground := Go.Ground.phase }], guard := none }]) ?_
  refine listIn_value (.slice va vn vc) rfl rfl (fun c => by simp) (w' := X) (by go_simp <;> with_reducible rfl) ?_
  simp only [Act.put, List.setIfInBounds_toArray, List.set_cons_zero, List.set_cons_succ]
  refine listIn_row 40 (.tmp 9) Bx 40 _ (0, 0) _ rfl rfl rfl hx Try.underlying40 rfl (by kernel_rfl) ?_
  simp only [Act.put, List.setIfInBounds_toArray, List.set_cons_zero, List.set_cons_succ]
  refine listIn_value _ rfl rfl (fun c => by simp) (build_one _ _ _ _ _ _ _ _ _ _ _ _ _ _ _ _ _ _ _ _ _ _ g k ok of_ ot oa oy os oh id nm n why slot ep at_ last X) ?_
  simp only [Act.put, List.setIfInBounds_toArray, List.set_cons_zero, List.set_cons_succ]
  refine wpListIn_append_known rfl (.tmp 18) (.tmp 20) 87 87 rfl _ _ rfl rfl _ _ hrun ?_
  simp only [Act.put, List.setIfInBounds_toArray, List.set_cons_zero, List.set_cons_succ]
  refine listIn_effect rfl rfl (fun c => by simp) (w' := Z.setCell ⟨Ob, 0, none⟩ (.slice va' vn' vc')) (by go_simp <;> with_reducible rfl) ?_
  exact hQ _
set_option maxRecDepth 100000 in
set_option maxHeartbeats 2000000 in
theorem asks_assign (lr N : Nat) (Ob : Nat) (s0 s1 s2 s3 s4 s5 s6 s8 s10 s11 s12 s13 s14 s15 s16 s17 s18 s19 s20 s21 s22 s9 : Value) (g k ok : Int) (of_ ot : ByteArray) (oa : Int) (oy : ByteArray) (os oh : Int) (id nm : ByteArray) (n why slot ep at_ : Int) (last : Bool) (X : World) (Q : Exit → Act → World → Prop)
    (hQ : Q .normal { tmps := #[s0, s1, s2, s3, s4, s5, s6, .pointer (some ⟨Ob, 0, none⟩), s8, .pointer (some ⟨X.heap.size, 0, none⟩), s10, s11, s12, s13, s14, s15, s16, .agg #[.int .i64 g, .int .i64 k, .int .i64 ok, .string of_, .string ot, .int .i64 oa, .string oy, .int .i64 os, .int .i64 oh, .string id, .string nm, .int .i64 n, .int .i64 why, .int .i64 slot, .int .i64 ep, .int .i64 at_, .bool last, .slice none 0 0], s18, s19, s20, s21, s22], defers := [] } (X.alloc (.cells #[.int .i64 g, .int .i64 k, .int .i64 ok, .string of_, .string ot, .int .i64 oa, .string oy, .int .i64 os, .int .i64 oh, .string id, .string nm, .int .i64 n, .int .i64 why, .int .i64 slot, .int .i64 ep, .int .i64 at_, .bool last, .slice none 0 0] 40))) :
    (Code.region 6 #[{ dst := some 9, op := Go.Op.alloc 40, type := 0, pos := "law.go:46", after := #[], guard := none }, { dst := none, op := Go.Op.store 40 (Go.Operand.tmp 9) (Go.Operand.tmp 17), type := 0, pos := "law.go:46", after := #[{ on := 0, ground := Go.Ground.data }, { on := 0, ground := Go.Ground.phase }], guard := none }] false).wpIn (Fence.wide.inRound lr) N Try.prog Q { tmps := #[s0, s1, s2, s3, s4, s5, s6, .pointer (some ⟨Ob, 0, none⟩), s8, s9, s10, s11, s12, s13, s14, s15, s16, .agg #[.int .i64 g, .int .i64 k, .int .i64 ok, .string of_, .string ot, .int .i64 oa, .string oy, .int .i64 os, .int .i64 oh, .string id, .string nm, .int .i64 n, .int .i64 why, .int .i64 slot, .int .i64 ep, .int .i64 at_, .bool last, .slice none 0 0], s18, s19, s20, s21, s22], defers := [] } X := by
  gi_wp2
  exact hQ
end Go.Proofs.Ytogbcciocgpknaa
