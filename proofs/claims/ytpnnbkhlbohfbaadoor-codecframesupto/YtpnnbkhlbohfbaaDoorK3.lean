/- What the iterator over sound frames does. -/
import Derived.Test.YtpnnbkhlbohfbaaDoorIter
namespace Go.Proofs.YtpnnbkhlbohfbaaDoor
open Go.RowKit Go.Shelf Cod
attribute [local go_sem] Oper.semAt_some
set_option linter.unusedVariables false

theorem round_depth {P : Program} {n m l f : Nat} {tmps : Array Value} {assign body : Code} {w : World} {R : Ending → World → Prop} (h : RoundIn Fence.wide n P l f tmps assign body w R) : RoundIn Fence.wide m P l f tmps assign body w R :=
  ⟨h.1, fun c cs _ => h.2 c cs (room_wide _)⟩
/-- A struct is read. -/
theorem op_row {P : Program} {n : Nat} {ops : Array Oper} {Q : Exit → Act → World → Prop} {i : Nat} {oi : Oper} {K : Act → World → Prop} {a : Act} {w : World} (hi : ops[i]? = some oi) (ty : TypeId) (x : Operand) (g : Nat) (t : TypeId) (cs : Array Value) (fr : Nat × Nat) (d : TypeDesc)
    (hw : Region.wanted oi (yielded ops a.tmps) = true) (ho : oi.op = .load ty x) (hx : a.eval x = .pointer (some ⟨g, 0, none⟩)) (hg : w.heap[g]? = some (.cells cs t fr)) (hu : P.underlying ty = some d)
    (hd : (match d with | .struct _ | .array _ _ => true | _ => false) = true) (hz : (P.info? ty).map (·.size) = some cs.size) (h : K (a.put oi.dst (.agg cs)) w) : wpOpIn Fence.wide n P ops Q i K a w :=
  op_value (.agg cs) hi hw (by
    unfold execOp
    simp only [ho, hx, Instr.loadAt, Instr.sureAddr, Sem.run_bind, Sem.run_pure, Result.andThen_ok, run_loadVar_row w g t ty cs fr d hg hu hd hz]) h
abbrev opsF : Array Oper := #[{ dst := some 7, op := Go.Op.load 44 (Go.Operand.tmp 3), type := 44, pos := "frame.go:44", after := #[], guard := none },
  { dst := some 8, op := Go.Op.call { callee := Go.Callee.value (Go.Operand.func 17), args := #[Go.Operand.tmp 7], argTypes := #[44] }, type := 4, pos := "frame.go:44", after := #[{ on := 0, ground := Go.Ground.data }], guard := none },
  { dst := some 9, op := Go.Op.unOp Go.UnOp.not 4 (Go.Operand.tmp 8), type := 4, pos := "frame.go:44", after := #[{ on := 1, ground := Go.Ground.data }], guard := none },
  { dst := some 10, op := Go.Op.move (Go.Operand.tmp 9), type := 4, pos := "frame.go:44", after := #[{ on := 2, ground := Go.Ground.data }, { on := 1, ground := Go.Ground.chain }], guard := none },
  { dst := some 11, op := Go.Op.load 42 (Go.Operand.tmp 2), type := 42, pos := "frame.go:44", after := #[{ on := 3, ground := Go.Ground.guard }], guard := some (3, false) },
  { dst := some 12, op := Go.Op.fieldAddr 44 (Go.Operand.tmp 3) 1, type := 0, pos := "frame.go:44", after := #[{ on := 3, ground := Go.Ground.guard }], guard := some (3, false) },
  { dst := some 13, op := Go.Op.load 22 (Go.Operand.tmp 12), type := 22, pos := "frame.go:44", after := #[{ on := 5, ground := Go.Ground.data }, { on := 3, ground := Go.Ground.guard }], guard := some (3, false) },
  { dst := some 14, op := Go.Op.call { callee := Go.Callee.value (Go.Operand.func 18), args := #[Go.Operand.tmp 13], argTypes := #[22] }, type := 22, pos := "frame.go:44", after := #[{ on := 6, ground := Go.Ground.data }, { on := 3, ground := Go.Ground.chain }, { on := 3, ground := Go.Ground.guard }], guard := some (3, false) },
  { dst := some 15, op := Go.Op.call { callee := Go.Callee.value (Go.Operand.tmp 11), args := #[Go.Operand.tmp 14], argTypes := #[22] }, type := 4, pos := "frame.go:44", after := #[{ on := 4, ground := Go.Ground.data }, { on := 7, ground := Go.Ground.data }, { on := 7, ground := Go.Ground.chain }, { on := 3, ground := Go.Ground.guard }], guard := some (3, false) },
  { dst := some 16, op := Go.Op.unOp Go.UnOp.not 4 (Go.Operand.tmp 15), type := 4, pos := "frame.go:44", after := #[{ on := 8, ground := Go.Ground.data }, { on := 3, ground := Go.Ground.guard }], guard := some (3, false) },
  { dst := some 17, op := Go.Op.pick (Go.Operand.tmp 10) (Go.Operand.const (Go.Value.bool true)) (Go.Operand.tmp 16), type := 4, pos := "frame.go:44", after := #[{ on := 3, ground := Go.Ground.data }, { on := 9, ground := Go.Ground.data }], guard := none }]
set_option maxRecDepth 100000 in
set_option maxHeartbeats 2000000 in
theorem fr_region (m L B1 Bk By Bx : Nat) (t4 t5 t6 u7 u8 u9 u10 u11 u12 u13 u14 u15 u16 u17 : Value) (x : CutV) (l : List (BitVec 8)) (W : World) (hT : Tabs W) (hC : CutIs B1 l x W)
    (hx : W.heap[Bx]? = some (.cells #[.slice x.a2 x.n2 x.c2, .slice x.a3 x.n3 x.c3, .slice x.a4 x.n4 x.c4] 44 (0, 0))) (hy : W.cell? ⟨By, 0, none⟩ = some (.func (.yield L) #[] #[]))
    (RR : Ending → World → Prop) (hRR : ∀ e W', RR e W' → ∃ b, e = .returned (.bool b))
    (hY : cutSum l = four (Crc.more 0#32 (cutBody l)) → ∀ W1 v, Below W.heap.size W W1 → W1.ownsRow W.heap.size 5 1 v x.n3 (cellsOf (cutBody l)) → YieldAt Fence.wide (m - 1) Tryd.prog L #[v] W1 RR)
    (Q : Exit → Act → World → Prop)
    (hQ1 : cutSum l ≠ four (Crc.more 0#32 (cutBody l)) → ∀ s7 s8 s9 s10 s11 s12 s13 s14 s15 s16 W', Below W.heap.size W W' → Q .normal { tmps := #[.func (.yield L) #[] #[], .pointer (some ⟨Bk, 0, none⟩), .pointer (some ⟨By, 0, none⟩), .pointer (some ⟨Bx, 0, none⟩), t4, t5, t6, s7, s8, s9, s10, s11, s12, s13, s14, s15, s16, .bool true], defers := [] } W')
    (hQ2 : ∀ b s7 s8 s9 s10 s11 s12 s13 s14 s15 s16 W', RR (.returned (.bool b)) W' → Q .normal { tmps := #[.func (.yield L) #[] #[], .pointer (some ⟨Bk, 0, none⟩), .pointer (some ⟨By, 0, none⟩), .pointer (some ⟨Bx, 0, none⟩), t4, t5, t6, s7, s8, s9, s10, s11, s12, s13, s14, s15, s16, .bool (!b)], defers := [] } W') :
    wpAnyIn Fence.wide m Tryd.prog .any opsF Q 11 (Array.replicate 11 false) { tmps := #[.func (.yield L) #[] #[], .pointer (some ⟨Bk, 0, none⟩), .pointer (some ⟨By, 0, none⟩), .pointer (some ⟨Bx, 0, none⟩), t4, t5, t6, u7, u8, u9, u10, u11, u12, u13, u14, u15, u16, u17], defers := [] } W.drew := by
  have hlx : Bx < W.heap.size := (Array.getElem?_eq_some_iff.1 hx).1
  have hly : By < W.heap.size := World.block_lt_of_cell? W _ hy
  have BD : Hid (Below W.heap.size W W.drew) := (Below.refl _ W).drew
  have HS := sound_any x.a2 x.a3 x.n2 x.c2 x.n3 x.c3 (.slice x.a4 x.n4 x.c4) _ _ W.drew (hT.below BD.out hT.size) (hC.s2.below BD.out) (hC.s3.below BD.out)
  have HX : Hid (W.drew.heap[Bx]? = some (.cells #[.slice x.a2 x.n2 x.c2, .slice x.a3 x.n3 x.c3, .slice x.a4 x.n4 x.c4] 44 (0, 0))) := hx
  have HKx : ∀ W', Below W.heap.size W W' → Hid (W'.cell? ⟨Bx, 1, none⟩ = some (.slice x.a3 x.n3 x.c3)) := fun W' h => by
    show W'.cell? ⟨Bx, 1, none⟩ = _
    rw [h.cell (p := ⟨Bx, 1, none⟩) hlx]
    simp [World.cell?, hx]
  have HKy : ∀ W', Below W.heap.size W W' → Hid (W'.cell? ⟨By, 0, none⟩ = some (.func (.yield L) #[] #[])) := fun W' h => by
    show W'.cell? ⟨By, 0, none⟩ = _
    rw [h.cell (p := ⟨By, 0, none⟩) hly]
    exact hy
  have HC : ∀ W', Below W.heap.size W W' → Hid (Calls Tryd.prog 18 #[.slice x.a3 x.n3 x.c3] W' fun e W'' => ∃ v, e = .returned v ∧ W''.ownsRow W.heap.size 5 1 v x.n3 (cellsOf (cutBody l)) ∧ Below W.heap.size W W'') := fun W' h => by
    refine (clone_any x.a3 x.n3 x.c3 (cutBody l) W' (hC.s3.below h) hC.m3 (by have := hC.k3; omega)).mono ?_
    rintro e W'' ⟨v, rfl, o, b⟩
    exact ⟨v, rfl, owns_mono o h.size, h.trans (b.mono h.size)⟩
  have HQ1 : Hid _ := hQ1
  have HQ2 : Hid _ := hQ2
  have HY : Hid _ := hY
  have HRR : Hid _ := hRR
  clear hT hC hx hy hlx hly hQ1 hQ2 hY hRR
  refine any_one 0 (by kernel_rfl) ?_
  refine op_row (i := 0) (oi := { dst := some 7, op := Go.Op.load 44 (Go.Operand.tmp 3), type := 44, pos := "frame.go:44", after := #[], guard := none }) rfl 44 (.tmp 3) Bx 44 _ (0, 0) _ (by rfl) rfl rfl HX.out Tryd.underlying44 rfl (by kernel_rfl) ?_
  simp only [Act.put, List.setIfInBounds_toArray, List.set_cons_zero, List.set_cons_succ]
  refine any_one 1 (by kernel_rfl) ?_
  refine op_call (i := 1) (oi := { dst := some 8, op := Go.Op.call { callee := Go.Callee.value (Go.Operand.func 17), args := #[Go.Operand.tmp 7], argTypes := #[44] }, type := 4, pos := "frame.go:44", after := #[{ on := 0, ground := Go.Ground.data }], guard := none }) 17 _ rfl (by rfl) (by go_simp <;> with_reducible rfl) ?_
  refine HS.mono ?_
  rintro e W2 ⟨rfl, b2⟩
  refine ⟨_, rfl, ?_⟩
  simp only [Act.put, List.setIfInBounds_toArray, List.set_cons_zero, List.set_cons_succ]
  have B2 : Hid (Below W.heap.size W W2) := BD.out.trans b2
  clear HS b2 HX BD
  by_cases hs : cutSum l = four (Crc.more 0#32 (cutBody l))
  · rw [decide_eq_true hs]
    have HYs := HY.out hs
    clear HY HQ1 hs
    refine any_one 2 (by kernel_rfl) ?_
    refine op_value (.bool false) (i := 2) (oi := { dst := some 9, op := Go.Op.unOp Go.UnOp.not 4 (Go.Operand.tmp 8), type := 4, pos := "frame.go:44", after := #[{ on := 1, ground := Go.Ground.data }], guard := none }) rfl (by rfl) (by go_simp <;> with_reducible rfl) ?_
    simp only [Act.put, List.setIfInBounds_toArray, List.set_cons_zero, List.set_cons_succ]
    refine any_one 3 (by kernel_rfl) ?_
    refine op_value (.bool false) (i := 3) (oi := { dst := some 10, op := Go.Op.move (Go.Operand.tmp 9), type := 4, pos := "frame.go:44", after := #[{ on := 2, ground := Go.Ground.data }, { on := 1, ground := Go.Ground.chain }], guard := none }) rfl (by rfl) (by go_simp <;> with_reducible rfl) ?_
    simp only [Act.put, List.setIfInBounds_toArray, List.set_cons_zero, List.set_cons_succ]
    refine any_two 4 5 (by kernel_rfl) ?_ ?_
    · -- 4 5 6 7
      have ky := (HKy W2 B2.out).out
      refine op_value (.func (.yield L) #[] #[]) (i := 4) (oi := { dst := some 11, op := Go.Op.load 42 (Go.Operand.tmp 2), type := 42, pos := "frame.go:44", after := #[{ on := 3, ground := Go.Ground.guard }], guard := some (3, false) }) rfl (by rfl) (by go_simp <;> with_reducible rfl) ?_
      simp only [Act.put, List.setIfInBounds_toArray, List.set_cons_zero, List.set_cons_succ]
      refine any_one 5 (by kernel_rfl) ?_
      refine op_value (.pointer (some ⟨Bx, 1, none⟩)) (i := 5) (oi := { dst := some 12, op := Go.Op.fieldAddr 44 (Go.Operand.tmp 3) 1, type := 0, pos := "frame.go:44", after := #[{ on := 3, ground := Go.Ground.guard }], guard := some (3, false) }) rfl (by rfl) (by go_simp <;> with_reducible rfl) ?_
      simp only [Act.put, List.setIfInBounds_toArray, List.set_cons_zero, List.set_cons_succ]
      refine any_one 6 (by kernel_rfl) ?_
      have kx := (HKx W2 B2.out).out
      refine op_value (.slice x.a3 x.n3 x.c3) (i := 6) (oi := { dst := some 13, op := Go.Op.load 22 (Go.Operand.tmp 12), type := 22, pos := "frame.go:44", after := #[{ on := 5, ground := Go.Ground.data }, { on := 3, ground := Go.Ground.guard }], guard := some (3, false) }) rfl (by rfl) (by go_simp <;> with_reducible rfl) ?_
      simp only [Act.put, List.setIfInBounds_toArray, List.set_cons_zero, List.set_cons_succ]
      refine any_one 7 (by kernel_rfl) ?_
      refine op_call (i := 7) (oi := { dst := some 14, op := Go.Op.call { callee := Go.Callee.value (Go.Operand.func 18), args := #[Go.Operand.tmp 13], argTypes := #[22] }, type := 22, pos := "frame.go:44", after := #[{ on := 6, ground := Go.Ground.data }, { on := 3, ground := Go.Ground.chain }, { on := 3, ground := Go.Ground.guard }], guard := some (3, false) }) 18 _ rfl (by rfl) (by go_simp <;> with_reducible rfl) ?_
      refine (HC W2 B2.out).out.mono ?_
      rintro e W3 ⟨v, rfl, o3, b3⟩
      refine ⟨_, rfl, ?_⟩
      simp only [Act.put, List.setIfInBounds_toArray, List.set_cons_zero, List.set_cons_succ]
      obtain ⟨fn, tmps, assign, body, hyy, hR⟩ := HYs W3 v b3 o3
      refine any_one 8 (by kernel_rfl) ?_
      refine op_round (i := 8) (oi := { dst := some 15, op := Go.Op.call { callee := Go.Callee.value (Go.Operand.tmp 11), args := #[Go.Operand.tmp 14], argTypes := #[22] }, type := 4, pos := "frame.go:44", after := #[{ on := 4, ground := Go.Ground.data }, { on := 7, ground := Go.Ground.data }, { on := 7, ground := Go.Ground.chain }, { on := 3, ground := Go.Ground.guard }], guard := some (3, false) }) L fn tmps assign body rfl (by rfl) (by go_simp <;> first | exact hyy | (rw [hyy]; rfl) | (simp [hyy]; done)) ?_
      refine (round_depth hR).mono ?_
      rintro e W4 hr
      obtain ⟨b, rfl⟩ := HRR.out e W4 hr
      refine ⟨_, rfl, ?_⟩
      simp only [Act.put, List.setIfInBounds_toArray, List.set_cons_zero, List.set_cons_succ]
      refine any_one 9 (by kernel_rfl) ?_
      refine op_value (.bool (!b)) (i := 9) (oi := { dst := some 16, op := Go.Op.unOp Go.UnOp.not 4 (Go.Operand.tmp 15), type := 4, pos := "frame.go:44", after := #[{ on := 8, ground := Go.Ground.data }, { on := 3, ground := Go.Ground.guard }], guard := some (3, false) }) rfl (by rfl) (by go_simp <;> with_reducible rfl) ?_
      simp only [Act.put, List.setIfInBounds_toArray, List.set_cons_zero, List.set_cons_succ]
      refine any_one 10 (by kernel_rfl) ?_
      refine op_value (.bool (!b)) (i := 10) (oi := { dst := some 17, op := Go.Op.pick (Go.Operand.tmp 10) (Go.Operand.const (Go.Value.bool true)) (Go.Operand.tmp 16), type := 4, pos := "frame.go:44", after := #[{ on := 3, ground := Go.Ground.data }, { on := 9, ground := Go.Ground.data }], guard := none }) rfl (by rfl) (by go_simp <;> with_reducible rfl) ?_
      simp only [Act.put, List.setIfInBounds_toArray, List.set_cons_zero, List.set_cons_succ]
      exact wpAnyIn_done (by kernel_rfl) (HQ2.out b _ _ _ _ _ _ _ _ _ _ W4 hr) _
    · refine op_value (.pointer (some ⟨Bx, 1, none⟩)) (i := 5) (oi := { dst := some 12, op := Go.Op.fieldAddr 44 (Go.Operand.tmp 3) 1, type := 0, pos := "frame.go:44", after := #[{ on := 3, ground := Go.Ground.guard }], guard := some (3, false) }) rfl (by rfl) (by go_simp <;> with_reducible rfl) ?_
      simp only [Act.put, List.setIfInBounds_toArray, List.set_cons_zero, List.set_cons_succ]
      refine any_two 4 6 (by kernel_rfl) ?_ ?_
      · -- 4 6 7
        have ky := (HKy W2 B2.out).out
        refine op_value (.func (.yield L) #[] #[]) (i := 4) (oi := { dst := some 11, op := Go.Op.load 42 (Go.Operand.tmp 2), type := 42, pos := "frame.go:44", after := #[{ on := 3, ground := Go.Ground.guard }], guard := some (3, false) }) rfl (by rfl) (by go_simp <;> with_reducible rfl) ?_
        simp only [Act.put, List.setIfInBounds_toArray, List.set_cons_zero, List.set_cons_succ]
        refine any_one 6 (by kernel_rfl) ?_
        have kx := (HKx W2 B2.out).out
        refine op_value (.slice x.a3 x.n3 x.c3) (i := 6) (oi := { dst := some 13, op := Go.Op.load 22 (Go.Operand.tmp 12), type := 22, pos := "frame.go:44", after := #[{ on := 5, ground := Go.Ground.data }, { on := 3, ground := Go.Ground.guard }], guard := some (3, false) }) rfl (by rfl) (by go_simp <;> with_reducible rfl) ?_
        simp only [Act.put, List.setIfInBounds_toArray, List.set_cons_zero, List.set_cons_succ]
        refine any_one 7 (by kernel_rfl) ?_
        refine op_call (i := 7) (oi := { dst := some 14, op := Go.Op.call { callee := Go.Callee.value (Go.Operand.func 18), args := #[Go.Operand.tmp 13], argTypes := #[22] }, type := 22, pos := "frame.go:44", after := #[{ on := 6, ground := Go.Ground.data }, { on := 3, ground := Go.Ground.chain }, { on := 3, ground := Go.Ground.guard }], guard := some (3, false) }) 18 _ rfl (by rfl) (by go_simp <;> with_reducible rfl) ?_
        refine (HC W2 B2.out).out.mono ?_
        rintro e W3 ⟨v, rfl, o3, b3⟩
        refine ⟨_, rfl, ?_⟩
        simp only [Act.put, List.setIfInBounds_toArray, List.set_cons_zero, List.set_cons_succ]
        obtain ⟨fn, tmps, assign, body, hyy, hR⟩ := HYs W3 v b3 o3
        refine any_one 8 (by kernel_rfl) ?_
        refine op_round (i := 8) (oi := { dst := some 15, op := Go.Op.call { callee := Go.Callee.value (Go.Operand.tmp 11), args := #[Go.Operand.tmp 14], argTypes := #[22] }, type := 4, pos := "frame.go:44", after := #[{ on := 4, ground := Go.Ground.data }, { on := 7, ground := Go.Ground.data }, { on := 7, ground := Go.Ground.chain }, { on := 3, ground := Go.Ground.guard }], guard := some (3, false) }) L fn tmps assign body rfl (by rfl) (by go_simp <;> first | exact hyy | (rw [hyy]; rfl) | (simp [hyy]; done)) ?_
        refine (round_depth hR).mono ?_
        rintro e W4 hr
        obtain ⟨b, rfl⟩ := HRR.out e W4 hr
        refine ⟨_, rfl, ?_⟩
        simp only [Act.put, List.setIfInBounds_toArray, List.set_cons_zero, List.set_cons_succ]
        refine any_one 9 (by kernel_rfl) ?_
        refine op_value (.bool (!b)) (i := 9) (oi := { dst := some 16, op := Go.Op.unOp Go.UnOp.not 4 (Go.Operand.tmp 15), type := 4, pos := "frame.go:44", after := #[{ on := 8, ground := Go.Ground.data }, { on := 3, ground := Go.Ground.guard }], guard := some (3, false) }) rfl (by rfl) (by go_simp <;> with_reducible rfl) ?_
        simp only [Act.put, List.setIfInBounds_toArray, List.set_cons_zero, List.set_cons_succ]
        refine any_one 10 (by kernel_rfl) ?_
        refine op_value (.bool (!b)) (i := 10) (oi := { dst := some 17, op := Go.Op.pick (Go.Operand.tmp 10) (Go.Operand.const (Go.Value.bool true)) (Go.Operand.tmp 16), type := 4, pos := "frame.go:44", after := #[{ on := 3, ground := Go.Ground.data }, { on := 9, ground := Go.Ground.data }], guard := none }) rfl (by rfl) (by go_simp <;> with_reducible rfl) ?_
        simp only [Act.put, List.setIfInBounds_toArray, List.set_cons_zero, List.set_cons_succ]
        exact wpAnyIn_done (by kernel_rfl) (HQ2.out b _ _ _ _ _ _ _ _ _ _ W4 hr) _
      · -- 6
        have kx := (HKx W2 B2.out).out
        refine op_value (.slice x.a3 x.n3 x.c3) (i := 6) (oi := { dst := some 13, op := Go.Op.load 22 (Go.Operand.tmp 12), type := 22, pos := "frame.go:44", after := #[{ on := 5, ground := Go.Ground.data }, { on := 3, ground := Go.Ground.guard }], guard := some (3, false) }) rfl (by rfl) (by go_simp <;> with_reducible rfl) ?_
        simp only [Act.put, List.setIfInBounds_toArray, List.set_cons_zero, List.set_cons_succ]
        refine any_two 4 7 (by kernel_rfl) ?_ ?_
        · -- 4 7
          have ky := (HKy W2 B2.out).out
          refine op_value (.func (.yield L) #[] #[]) (i := 4) (oi := { dst := some 11, op := Go.Op.load 42 (Go.Operand.tmp 2), type := 42, pos := "frame.go:44", after := #[{ on := 3, ground := Go.Ground.guard }], guard := some (3, false) }) rfl (by rfl) (by go_simp <;> with_reducible rfl) ?_
          simp only [Act.put, List.setIfInBounds_toArray, List.set_cons_zero, List.set_cons_succ]
          refine any_one 7 (by kernel_rfl) ?_
          refine op_call (i := 7) (oi := { dst := some 14, op := Go.Op.call { callee := Go.Callee.value (Go.Operand.func 18), args := #[Go.Operand.tmp 13], argTypes := #[22] }, type := 22, pos := "frame.go:44", after := #[{ on := 6, ground := Go.Ground.data }, { on := 3, ground := Go.Ground.chain }, { on := 3, ground := Go.Ground.guard }], guard := some (3, false) }) 18 _ rfl (by rfl) (by go_simp <;> with_reducible rfl) ?_
          refine (HC W2 B2.out).out.mono ?_
          rintro e W3 ⟨v, rfl, o3, b3⟩
          refine ⟨_, rfl, ?_⟩
          simp only [Act.put, List.setIfInBounds_toArray, List.set_cons_zero, List.set_cons_succ]
          obtain ⟨fn, tmps, assign, body, hyy, hR⟩ := HYs W3 v b3 o3
          refine any_one 8 (by kernel_rfl) ?_
          refine op_round (i := 8) (oi := { dst := some 15, op := Go.Op.call { callee := Go.Callee.value (Go.Operand.tmp 11), args := #[Go.Operand.tmp 14], argTypes := #[22] }, type := 4, pos := "frame.go:44", after := #[{ on := 4, ground := Go.Ground.data }, { on := 7, ground := Go.Ground.data }, { on := 7, ground := Go.Ground.chain }, { on := 3, ground := Go.Ground.guard }], guard := some (3, false) }) L fn tmps assign body rfl (by rfl) (by go_simp <;> first | exact hyy | (rw [hyy]; rfl) | (simp [hyy]; done)) ?_
          refine (round_depth hR).mono ?_
          rintro e W4 hr
          obtain ⟨b, rfl⟩ := HRR.out e W4 hr
          refine ⟨_, rfl, ?_⟩
          simp only [Act.put, List.setIfInBounds_toArray, List.set_cons_zero, List.set_cons_succ]
          refine any_one 9 (by kernel_rfl) ?_
          refine op_value (.bool (!b)) (i := 9) (oi := { dst := some 16, op := Go.Op.unOp Go.UnOp.not 4 (Go.Operand.tmp 15), type := 4, pos := "frame.go:44", after := #[{ on := 8, ground := Go.Ground.data }, { on := 3, ground := Go.Ground.guard }], guard := some (3, false) }) rfl (by rfl) (by go_simp <;> with_reducible rfl) ?_
          simp only [Act.put, List.setIfInBounds_toArray, List.set_cons_zero, List.set_cons_succ]
          refine any_one 10 (by kernel_rfl) ?_
          refine op_value (.bool (!b)) (i := 10) (oi := { dst := some 17, op := Go.Op.pick (Go.Operand.tmp 10) (Go.Operand.const (Go.Value.bool true)) (Go.Operand.tmp 16), type := 4, pos := "frame.go:44", after := #[{ on := 3, ground := Go.Ground.data }, { on := 9, ground := Go.Ground.data }], guard := none }) rfl (by rfl) (by go_simp <;> with_reducible rfl) ?_
          simp only [Act.put, List.setIfInBounds_toArray, List.set_cons_zero, List.set_cons_succ]
          exact wpAnyIn_done (by kernel_rfl) (HQ2.out b _ _ _ _ _ _ _ _ _ _ W4 hr) _
        · -- 7 4
          refine op_call (i := 7) (oi := { dst := some 14, op := Go.Op.call { callee := Go.Callee.value (Go.Operand.func 18), args := #[Go.Operand.tmp 13], argTypes := #[22] }, type := 22, pos := "frame.go:44", after := #[{ on := 6, ground := Go.Ground.data }, { on := 3, ground := Go.Ground.chain }, { on := 3, ground := Go.Ground.guard }], guard := some (3, false) }) 18 _ rfl (by rfl) (by go_simp <;> with_reducible rfl) ?_
          refine (HC W2 B2.out).out.mono ?_
          rintro e W3 ⟨v, rfl, o3, b3⟩
          refine ⟨_, rfl, ?_⟩
          simp only [Act.put, List.setIfInBounds_toArray, List.set_cons_zero, List.set_cons_succ]
          refine any_one 4 (by kernel_rfl) ?_
          have ky := (HKy W3 b3).out
          refine op_value (.func (.yield L) #[] #[]) (i := 4) (oi := { dst := some 11, op := Go.Op.load 42 (Go.Operand.tmp 2), type := 42, pos := "frame.go:44", after := #[{ on := 3, ground := Go.Ground.guard }], guard := some (3, false) }) rfl (by rfl) (by go_simp <;> with_reducible rfl) ?_
          simp only [Act.put, List.setIfInBounds_toArray, List.set_cons_zero, List.set_cons_succ]
          obtain ⟨fn, tmps, assign, body, hyy, hR⟩ := HYs W3 v b3 o3
          refine any_one 8 (by kernel_rfl) ?_
          refine op_round (i := 8) (oi := { dst := some 15, op := Go.Op.call { callee := Go.Callee.value (Go.Operand.tmp 11), args := #[Go.Operand.tmp 14], argTypes := #[22] }, type := 4, pos := "frame.go:44", after := #[{ on := 4, ground := Go.Ground.data }, { on := 7, ground := Go.Ground.data }, { on := 7, ground := Go.Ground.chain }, { on := 3, ground := Go.Ground.guard }], guard := some (3, false) }) L fn tmps assign body rfl (by rfl) (by go_simp <;> first | exact hyy | (rw [hyy]; rfl) | (simp [hyy]; done)) ?_
          refine (round_depth hR).mono ?_
          rintro e W4 hr
          obtain ⟨b, rfl⟩ := HRR.out e W4 hr
          refine ⟨_, rfl, ?_⟩
          simp only [Act.put, List.setIfInBounds_toArray, List.set_cons_zero, List.set_cons_succ]
          refine any_one 9 (by kernel_rfl) ?_
          refine op_value (.bool (!b)) (i := 9) (oi := { dst := some 16, op := Go.Op.unOp Go.UnOp.not 4 (Go.Operand.tmp 15), type := 4, pos := "frame.go:44", after := #[{ on := 8, ground := Go.Ground.data }, { on := 3, ground := Go.Ground.guard }], guard := some (3, false) }) rfl (by rfl) (by go_simp <;> with_reducible rfl) ?_
          simp only [Act.put, List.setIfInBounds_toArray, List.set_cons_zero, List.set_cons_succ]
          refine any_one 10 (by kernel_rfl) ?_
          refine op_value (.bool (!b)) (i := 10) (oi := { dst := some 17, op := Go.Op.pick (Go.Operand.tmp 10) (Go.Operand.const (Go.Value.bool true)) (Go.Operand.tmp 16), type := 4, pos := "frame.go:44", after := #[{ on := 3, ground := Go.Ground.data }, { on := 9, ground := Go.Ground.data }], guard := none }) rfl (by rfl) (by go_simp <;> with_reducible rfl) ?_
          simp only [Act.put, List.setIfInBounds_toArray, List.set_cons_zero, List.set_cons_succ]
          exact wpAnyIn_done (by kernel_rfl) (HQ2.out b _ _ _ _ _ _ _ _ _ _ W4 hr) _
  · rw [decide_eq_false hs]
    have HQs := HQ1.out hs
    clear HY HQ1 HQ2 HRR hs
    refine any_one 2 (by kernel_rfl) ?_
    refine op_value (.bool true) (i := 2) (oi := { dst := some 9, op := Go.Op.unOp Go.UnOp.not 4 (Go.Operand.tmp 8), type := 4, pos := "frame.go:44", after := #[{ on := 1, ground := Go.Ground.data }], guard := none }) rfl (by rfl) (by go_simp <;> with_reducible rfl) ?_
    simp only [Act.put, List.setIfInBounds_toArray, List.set_cons_zero, List.set_cons_succ]
    refine any_one 3 (by kernel_rfl) ?_
    refine op_value (.bool true) (i := 3) (oi := { dst := some 10, op := Go.Op.move (Go.Operand.tmp 9), type := 4, pos := "frame.go:44", after := #[{ on := 2, ground := Go.Ground.data }, { on := 1, ground := Go.Ground.chain }], guard := none }) rfl (by rfl) (by go_simp <;> with_reducible rfl) ?_
    simp only [Act.put, List.setIfInBounds_toArray, List.set_cons_zero, List.set_cons_succ]
    refine any_two 4 5 (by kernel_rfl) ?_ ?_
    · -- 4
      refine op_skip (i := 4) (oi := { dst := some 11, op := Go.Op.load 42 (Go.Operand.tmp 2), type := 42, pos := "frame.go:44", after := #[{ on := 3, ground := Go.Ground.guard }], guard := some (3, false) }) rfl (by rfl) ?_
      simp only [Act.put, List.setIfInBounds_toArray, List.set_cons_zero, List.set_cons_succ]
      refine any_one 5 (by kernel_rfl) ?_
      refine op_skip (i := 5) (oi := { dst := some 12, op := Go.Op.fieldAddr 44 (Go.Operand.tmp 3) 1, type := 0, pos := "frame.go:44", after := #[{ on := 3, ground := Go.Ground.guard }], guard := some (3, false) }) rfl (by rfl) ?_
      simp only [Act.put, List.setIfInBounds_toArray, List.set_cons_zero, List.set_cons_succ]
      refine any_one 6 (by kernel_rfl) ?_
      refine op_skip (i := 6) (oi := { dst := some 13, op := Go.Op.load 22 (Go.Operand.tmp 12), type := 22, pos := "frame.go:44", after := #[{ on := 5, ground := Go.Ground.data }, { on := 3, ground := Go.Ground.guard }], guard := some (3, false) }) rfl (by rfl) ?_
      simp only [Act.put, List.setIfInBounds_toArray, List.set_cons_zero, List.set_cons_succ]
      refine any_one 7 (by kernel_rfl) ?_
      refine op_skip (i := 7) (oi := { dst := some 14, op := Go.Op.call { callee := Go.Callee.value (Go.Operand.func 18), args := #[Go.Operand.tmp 13], argTypes := #[22] }, type := 22, pos := "frame.go:44", after := #[{ on := 6, ground := Go.Ground.data }, { on := 3, ground := Go.Ground.chain }, { on := 3, ground := Go.Ground.guard }], guard := some (3, false) }) rfl (by rfl) ?_
      simp only [Act.put, List.setIfInBounds_toArray, List.set_cons_zero, List.set_cons_succ]
      refine any_one 8 (by kernel_rfl) ?_
      refine op_skip (i := 8) (oi := { dst := some 15, op := Go.Op.call { callee := Go.Callee.value (Go.Operand.tmp 11), args := #[Go.Operand.tmp 14], argTypes := #[22] }, type := 4, pos := "frame.go:44", after := #[{ on := 4, ground := Go.Ground.data }, { on := 7, ground := Go.Ground.data }, { on := 7, ground := Go.Ground.chain }, { on := 3, ground := Go.Ground.guard }], guard := some (3, false) }) rfl (by rfl) ?_
      simp only [Act.put, List.setIfInBounds_toArray, List.set_cons_zero, List.set_cons_succ]
      refine any_one 9 (by kernel_rfl) ?_
      refine op_skip (i := 9) (oi := { dst := some 16, op := Go.Op.unOp Go.UnOp.not 4 (Go.Operand.tmp 15), type := 4, pos := "frame.go:44", after := #[{ on := 8, ground := Go.Ground.data }, { on := 3, ground := Go.Ground.guard }], guard := some (3, false) }) rfl (by rfl) ?_
      simp only [Act.put, List.setIfInBounds_toArray, List.set_cons_zero, List.set_cons_succ]
      refine any_one 10 (by kernel_rfl) ?_
      refine op_value (.bool true) (i := 10) (oi := { dst := some 17, op := Go.Op.pick (Go.Operand.tmp 10) (Go.Operand.const (Go.Value.bool true)) (Go.Operand.tmp 16), type := 4, pos := "frame.go:44", after := #[{ on := 3, ground := Go.Ground.data }, { on := 9, ground := Go.Ground.data }], guard := none }) rfl (by rfl) (by go_simp <;> with_reducible rfl) ?_
      simp only [Act.put, List.setIfInBounds_toArray, List.set_cons_zero, List.set_cons_succ]
      exact wpAnyIn_done (by kernel_rfl) (HQs _ _ _ _ _ _ _ _ _ _ W2 B2.out) _
    · -- 5
      refine op_skip (i := 5) (oi := { dst := some 12, op := Go.Op.fieldAddr 44 (Go.Operand.tmp 3) 1, type := 0, pos := "frame.go:44", after := #[{ on := 3, ground := Go.Ground.guard }], guard := some (3, false) }) rfl (by rfl) ?_
      simp only [Act.put, List.setIfInBounds_toArray, List.set_cons_zero, List.set_cons_succ]
      refine any_two 4 6 (by kernel_rfl) ?_ ?_
      · -- 4
        refine op_skip (i := 4) (oi := { dst := some 11, op := Go.Op.load 42 (Go.Operand.tmp 2), type := 42, pos := "frame.go:44", after := #[{ on := 3, ground := Go.Ground.guard }], guard := some (3, false) }) rfl (by rfl) ?_
        simp only [Act.put, List.setIfInBounds_toArray, List.set_cons_zero, List.set_cons_succ]
        refine any_one 6 (by kernel_rfl) ?_
        refine op_skip (i := 6) (oi := { dst := some 13, op := Go.Op.load 22 (Go.Operand.tmp 12), type := 22, pos := "frame.go:44", after := #[{ on := 5, ground := Go.Ground.data }, { on := 3, ground := Go.Ground.guard }], guard := some (3, false) }) rfl (by rfl) ?_
        simp only [Act.put, List.setIfInBounds_toArray, List.set_cons_zero, List.set_cons_succ]
        refine any_one 7 (by kernel_rfl) ?_
        refine op_skip (i := 7) (oi := { dst := some 14, op := Go.Op.call { callee := Go.Callee.value (Go.Operand.func 18), args := #[Go.Operand.tmp 13], argTypes := #[22] }, type := 22, pos := "frame.go:44", after := #[{ on := 6, ground := Go.Ground.data }, { on := 3, ground := Go.Ground.chain }, { on := 3, ground := Go.Ground.guard }], guard := some (3, false) }) rfl (by rfl) ?_
        simp only [Act.put, List.setIfInBounds_toArray, List.set_cons_zero, List.set_cons_succ]
        refine any_one 8 (by kernel_rfl) ?_
        refine op_skip (i := 8) (oi := { dst := some 15, op := Go.Op.call { callee := Go.Callee.value (Go.Operand.tmp 11), args := #[Go.Operand.tmp 14], argTypes := #[22] }, type := 4, pos := "frame.go:44", after := #[{ on := 4, ground := Go.Ground.data }, { on := 7, ground := Go.Ground.data }, { on := 7, ground := Go.Ground.chain }, { on := 3, ground := Go.Ground.guard }], guard := some (3, false) }) rfl (by rfl) ?_
        simp only [Act.put, List.setIfInBounds_toArray, List.set_cons_zero, List.set_cons_succ]
        refine any_one 9 (by kernel_rfl) ?_
        refine op_skip (i := 9) (oi := { dst := some 16, op := Go.Op.unOp Go.UnOp.not 4 (Go.Operand.tmp 15), type := 4, pos := "frame.go:44", after := #[{ on := 8, ground := Go.Ground.data }, { on := 3, ground := Go.Ground.guard }], guard := some (3, false) }) rfl (by rfl) ?_
        simp only [Act.put, List.setIfInBounds_toArray, List.set_cons_zero, List.set_cons_succ]
        refine any_one 10 (by kernel_rfl) ?_
        refine op_value (.bool true) (i := 10) (oi := { dst := some 17, op := Go.Op.pick (Go.Operand.tmp 10) (Go.Operand.const (Go.Value.bool true)) (Go.Operand.tmp 16), type := 4, pos := "frame.go:44", after := #[{ on := 3, ground := Go.Ground.data }, { on := 9, ground := Go.Ground.data }], guard := none }) rfl (by rfl) (by go_simp <;> with_reducible rfl) ?_
        simp only [Act.put, List.setIfInBounds_toArray, List.set_cons_zero, List.set_cons_succ]
        exact wpAnyIn_done (by kernel_rfl) (HQs _ _ _ _ _ _ _ _ _ _ W2 B2.out) _
      · -- 6
        refine op_skip (i := 6) (oi := { dst := some 13, op := Go.Op.load 22 (Go.Operand.tmp 12), type := 22, pos := "frame.go:44", after := #[{ on := 5, ground := Go.Ground.data }, { on := 3, ground := Go.Ground.guard }], guard := some (3, false) }) rfl (by rfl) ?_
        simp only [Act.put, List.setIfInBounds_toArray, List.set_cons_zero, List.set_cons_succ]
        refine any_two 4 7 (by kernel_rfl) ?_ ?_
        · -- 4
          refine op_skip (i := 4) (oi := { dst := some 11, op := Go.Op.load 42 (Go.Operand.tmp 2), type := 42, pos := "frame.go:44", after := #[{ on := 3, ground := Go.Ground.guard }], guard := some (3, false) }) rfl (by rfl) ?_
          simp only [Act.put, List.setIfInBounds_toArray, List.set_cons_zero, List.set_cons_succ]
          refine any_one 7 (by kernel_rfl) ?_
          refine op_skip (i := 7) (oi := { dst := some 14, op := Go.Op.call { callee := Go.Callee.value (Go.Operand.func 18), args := #[Go.Operand.tmp 13], argTypes := #[22] }, type := 22, pos := "frame.go:44", after := #[{ on := 6, ground := Go.Ground.data }, { on := 3, ground := Go.Ground.chain }, { on := 3, ground := Go.Ground.guard }], guard := some (3, false) }) rfl (by rfl) ?_
          simp only [Act.put, List.setIfInBounds_toArray, List.set_cons_zero, List.set_cons_succ]
          refine any_one 8 (by kernel_rfl) ?_
          refine op_skip (i := 8) (oi := { dst := some 15, op := Go.Op.call { callee := Go.Callee.value (Go.Operand.tmp 11), args := #[Go.Operand.tmp 14], argTypes := #[22] }, type := 4, pos := "frame.go:44", after := #[{ on := 4, ground := Go.Ground.data }, { on := 7, ground := Go.Ground.data }, { on := 7, ground := Go.Ground.chain }, { on := 3, ground := Go.Ground.guard }], guard := some (3, false) }) rfl (by rfl) ?_
          simp only [Act.put, List.setIfInBounds_toArray, List.set_cons_zero, List.set_cons_succ]
          refine any_one 9 (by kernel_rfl) ?_
          refine op_skip (i := 9) (oi := { dst := some 16, op := Go.Op.unOp Go.UnOp.not 4 (Go.Operand.tmp 15), type := 4, pos := "frame.go:44", after := #[{ on := 8, ground := Go.Ground.data }, { on := 3, ground := Go.Ground.guard }], guard := some (3, false) }) rfl (by rfl) ?_
          simp only [Act.put, List.setIfInBounds_toArray, List.set_cons_zero, List.set_cons_succ]
          refine any_one 10 (by kernel_rfl) ?_
          refine op_value (.bool true) (i := 10) (oi := { dst := some 17, op := Go.Op.pick (Go.Operand.tmp 10) (Go.Operand.const (Go.Value.bool true)) (Go.Operand.tmp 16), type := 4, pos := "frame.go:44", after := #[{ on := 3, ground := Go.Ground.data }, { on := 9, ground := Go.Ground.data }], guard := none }) rfl (by rfl) (by go_simp <;> with_reducible rfl) ?_
          simp only [Act.put, List.setIfInBounds_toArray, List.set_cons_zero, List.set_cons_succ]
          exact wpAnyIn_done (by kernel_rfl) (HQs _ _ _ _ _ _ _ _ _ _ W2 B2.out) _
        · -- 7
          refine op_skip (i := 7) (oi := { dst := some 14, op := Go.Op.call { callee := Go.Callee.value (Go.Operand.func 18), args := #[Go.Operand.tmp 13], argTypes := #[22] }, type := 22, pos := "frame.go:44", after := #[{ on := 6, ground := Go.Ground.data }, { on := 3, ground := Go.Ground.chain }, { on := 3, ground := Go.Ground.guard }], guard := some (3, false) }) rfl (by rfl) ?_
          simp only [Act.put, List.setIfInBounds_toArray, List.set_cons_zero, List.set_cons_succ]
          refine any_one 4 (by kernel_rfl) ?_
          refine op_skip (i := 4) (oi := { dst := some 11, op := Go.Op.load 42 (Go.Operand.tmp 2), type := 42, pos := "frame.go:44", after := #[{ on := 3, ground := Go.Ground.guard }], guard := some (3, false) }) rfl (by rfl) ?_
          simp only [Act.put, List.setIfInBounds_toArray, List.set_cons_zero, List.set_cons_succ]
          refine any_one 8 (by kernel_rfl) ?_
          refine op_skip (i := 8) (oi := { dst := some 15, op := Go.Op.call { callee := Go.Callee.value (Go.Operand.tmp 11), args := #[Go.Operand.tmp 14], argTypes := #[22] }, type := 4, pos := "frame.go:44", after := #[{ on := 4, ground := Go.Ground.data }, { on := 7, ground := Go.Ground.data }, { on := 7, ground := Go.Ground.chain }, { on := 3, ground := Go.Ground.guard }], guard := some (3, false) }) rfl (by rfl) ?_
          simp only [Act.put, List.setIfInBounds_toArray, List.set_cons_zero, List.set_cons_succ]
          refine any_one 9 (by kernel_rfl) ?_
          refine op_skip (i := 9) (oi := { dst := some 16, op := Go.Op.unOp Go.UnOp.not 4 (Go.Operand.tmp 15), type := 4, pos := "frame.go:44", after := #[{ on := 8, ground := Go.Ground.data }, { on := 3, ground := Go.Ground.guard }], guard := some (3, false) }) rfl (by rfl) ?_
          simp only [Act.put, List.setIfInBounds_toArray, List.set_cons_zero, List.set_cons_succ]
          refine any_one 10 (by kernel_rfl) ?_
          refine op_value (.bool true) (i := 10) (oi := { dst := some 17, op := Go.Op.pick (Go.Operand.tmp 10) (Go.Operand.const (Go.Value.bool true)) (Go.Operand.tmp 16), type := 4, pos := "frame.go:44", after := #[{ on := 3, ground := Go.Ground.data }, { on := 9, ground := Go.Ground.data }], guard := none }) rfl (by rfl) (by go_simp <;> with_reducible rfl) ?_
          simp only [Act.put, List.setIfInBounds_toArray, List.set_cons_zero, List.set_cons_succ]
          exact wpAnyIn_done (by kernel_rfl) (HQs _ _ _ _ _ _ _ _ _ _ W2 B2.out) _
end Go.Proofs.YtpnnbkhlbohfbaaDoor

namespace Go.Proofs.YtpnnbkhlbohfbaaDoor
open Go.RowKit Go.Shelf Cod
attribute [local go_sem] Oper.semAt_some
set_option linter.unusedVariables false

/-- Frame number k stands, and is sound. -/
def good (l : List (BitVec 8)) (k : Nat) : Prop := cutWhy (rk l k) = 0 ∧ cutSum (rk l k) = four (Crc.more 0#32 (cutBody (rk l k)))
/-- Bytes that are handed on. -/
structure GotV where
  v : Value
  p : List (BitVec 8)
abbrev encG (x : GotV) : Array Value := #[x.v]
def RG (B1 : Nat) (l : List (BitVec 8)) (pre : List GotV) (x : GotV) (W : World) : Prop := good l pre.length ∧ x.p = cutBody (rk l pre.length) ∧ x.p.length ≤ 65536 ∧ W.ownsRow B1 5 1 x.v x.p.length (cellsOf x.p)
theorem cuts1_seq (n B0 B1 Bb : Nat) (a : Option Addr) (len cap : Nat) (l : List (BitVec 8)) (w : World) (hb0 : B0 ≤ w.heap.size) (hb1 : B1 ≤ w.heap.size) (hbox : w.cell? ⟨Bb, 0, none⟩ = some (.slice a len cap)) (hs : Seen w a len l) (hnil : a = none → cap = 0) (hk : len ≤ cap) (hm : len ≤ 140737488355328) (hlo : ∀ y, a = some y → y.block < B1) :
    SeqR n Tryd.prog 55 #[.pointer (some ⟨Bb, 0, none⟩)] encC (Kc B0 B1) (RC B1 l) (fun xs => cutWhy (rk l xs.length) ≠ 0) (fun _ => True) w := fun L J Jx W hW hJ hJx hY h0 =>
  cuts1_in n L B0 B1 Bb a len cap l J Jx W hJ hY (Nat.le_trans hb0 hW.size) (Nat.le_trans hb1 hW.size) ((hW.cell (p := ⟨Bb, 0, none⟩) (World.block_lt_of_cell? w _ hbox)).trans hbox) (hs.below hW) hnil hk hm hlo h0
theorem kf_more {B B' : Nat} {W W' : World} (h : KeepsFrom B W W') (hB : B ≤ B') : KeepsFrom B' W W' := ⟨h.size, fun k o hk ho hc => h.same k o (Nat.le_trans hB hk) ho hc⟩
theorem kf_of_below {B : Nat} {W W' : World} (h : Below W.heap.size W W') : KeepsFrom B W W' := ⟨h.size, fun k o _ ho _ => (h.block k (Array.getElem?_eq_some_iff.1 ho).1).trans ho⟩
theorem Seen.kept {W W' : World} {a : Option Addr} {n : Nat} {l : List (BitVec 8)} {row : Option Nat} (h : Seen W a n l) (hg : W.grownBy W' row) (hrow : ∀ r, row = some r → ∃ o : Obj, W.heap[r]? = some o ∧ o.isCells = false) : Seen W' a n l := by
  obtain ⟨h1, h2, h3⟩ := h
  refine ⟨h1, h2, ?_⟩
  rcases h3 with h3 | ⟨b, off, rfl, hc⟩
  · exact .inl h3
  · exact .inr ⟨b, off, rfl, fun j hj => cell_kept (hc j hj) hg hrow⟩

set_option maxRecDepth 100000 in
set_option maxHeartbeats 2000000 in
theorem frames1_in (n : Nat) (L B0 B1 Bk : Nat) (a : Option Addr) (len cap : Nat) (l : List (BitVec 8)) (J Jx : List GotV → World → Prop) (W : World) (hJ : LowFrom W.heap.size J) (hJx : LowFrom W.heap.size Jx)
    (hY : ∀ pre x W1, J pre W1 → RG B1 l pre x W1 → YieldAt Fence.wide (n - 1) Tryd.prog L (encG x) W1 fun e W' => KeepsFrom W.heap.size W1 W' ∧
      ((e = .returned (.bool true) ∧ J (pre ++ [x]) W' ∧ Kc B0 B1 W1 W') ∨ (e = .returned (.bool false) ∧ Jx (pre ++ [x]) W')))
    (hT : Tabs W) (hb0 : B0 ≤ W.heap.size) (hb1 : B1 ≤ W.heap.size) (hbox : W.cell? ⟨Bk, 0, none⟩ = some (.slice a len cap)) (hs : Seen W a len l) (hnil : a = none → cap = 0) (hk : len ≤ cap) (hm : len ≤ 140737488355328) (hlo : ∀ y, a = some y → y.block < B1) (h0 : J [] W) :
    CallsIn Fence.wide n Tryd.prog 34 #[.func (.yield L) #[] #[], .pointer (some ⟨Bk, 0, none⟩)] W fun e W' => (∃ v, e = .returned v) ∧
      ((∃ xs, ¬ good l xs.length ∧ J xs W') ∨ (∃ pre, True ∧ Jx pre W')) := by
  refine callsIn_of_wp_marks Tryd.func34 rfl trivial ?_ rfl
  simp only [Tryd.ntmps34, List.size_toArray, List.length_cons, List.length_nil, Nat.reduceAdd, Nat.reduceSub, Array.replicate_succ, Array.replicate_zero, List.push_toArray, List.append_toArray, List.nil_append, List.cons_append]
  have HN : Hid (a = none → cap = 0) := hnil
  have HK : Hid (len ≤ cap) := hk
  have HM : Hid (len ≤ 140737488355328) := hm
  have HL : Hid (∀ y, a = some y → y.block < B1) := hlo
  have HY : Hid (∀ pre x W1, J pre W1 → RG B1 l pre x W1 → YieldAt Fence.wide (n - 1) Tryd.prog L (encG x) W1 fun e W' => KeepsFrom W.heap.size W1 W' ∧
      ((e = .returned (.bool true) ∧ J (pre ++ [x]) W' ∧ Kc B0 B1 W1 W') ∨ (e = .returned (.bool false) ∧ Jx (pre ++ [x]) W'))) := hY
  have HB0 : Hid (B0 ≤ W.heap.size) := hb0
  have HB1 : Hid (B1 ≤ W.heap.size) := hb1
  have HJ : Hid (LowFrom W.heap.size J) := hJ
  have HJx : Hid (LowFrom W.heap.size Jx) := hJx
  have HS : Hid (Seen W a len l) := hs
  have HT : Hid (Tabs W) := hT
  have hbx : Bk < W.heap.size := World.block_lt_of_cell? W _ hbox
  have hbox2 : (W.alloc (.cells #[.func (.yield L) #[] #[]] 42)).cell? ⟨Bk, 0, none⟩ = some (.slice a len cap) := by rw [((Below.refl _ W).alloc (Nat.le_refl _) _).cell (p := ⟨Bk, 0, none⟩) hbx]; exact hbox
  clear hnil hk hm hlo hY hb0 hb1 hJ hJx hs hT hbox hbx
  gi_wp2_with fail
  refine ⟨trivial, wide_room _, (callsIn_wide.2 (cuts_any a len cap _)).mono ?_⟩
  rintro e w1 ⟨rfl, rfl⟩
  gi_wp2_with fail
  have bV : Below W.heap.size W ((W.alloc (.cells #[.func (.yield L) #[] #[]] 42)).alloc (.cells #[.slice a len cap] 22)) := ((Below.refl _ W).alloc (Nat.le_refl _) _).alloc (by simp) _
  have yV : ((W.alloc (.cells #[.func (.yield L) #[] #[]] 42)).alloc (.cells #[.slice a len cap] 22)).heap[W.heap.size]? = some (.cells #[.func (.yield L) #[] #[]] 42 (0, 0)) := by
    rw [Below.heap_alloc _ _ _ (by simp), heap_alloc_new]
  have cV : ((W.alloc (.cells #[.func (.yield L) #[] #[]] 42)).alloc (.cells #[.slice a len cap] 22)).cell? ⟨W.heap.size + 1, 0, none⟩ = some (.slice a len cap) := by
    have h := heap_alloc_new (W.alloc (.cells #[.func (.yield L) #[] #[]] 42)) (.cells #[.slice a len cap] 22)
    rw [World.size_alloc] at h
    simp only [World.cell?, h]
    rfl
  have sV : ((W.alloc (.cells #[.func (.yield L) #[] #[]] 42)).alloc (.cells #[.slice a len cap] 22)).heap.size = W.heap.size + 2 := by simp
  generalize (W.alloc (.cells #[.func (.yield L) #[] #[]] 42)).alloc (.cells #[.slice a len cap] 22) = V at *
  refine range_R (n := n) (gf := 55) (lb := #[.pointer (some ⟨W.heap.size + 1, 0, none⟩)]) (w0 := V) rfl (enters_of Tryd.func55 (by kernel_rfl) rfl)
    (cuts1_seq (n - 1) B0 B1 (W.heap.size + 1) a len cap l V (Nat.le_trans HB0.out bV.size) (Nat.le_trans HB1.out bV.size) cV (HS.out.below bV) HN.out HK.out HM.out HL.out) Kc.tr Kc.bk (Below.refl _ _) (fun _ => rfl)
    (fun pre' X => ∃ pre : List GotV, pre.length = pre'.length ∧ J pre X ∧ X.heap[W.heap.size]? = some (.cells #[.func (.yield L) #[] #[]] 42 (0, 0)) ∧ Tabs X ∧ W.heap.size + 2 ≤ X.heap.size)
    (fun c pre' X => c = .ret ∧ ((∃ pre : List GotV, ¬ good l pre.length ∧ J pre X) ∨ ∃ pre, Jx pre X))
    ?hI ?hIx ⟨[], rfl, HJ.out _ _ _ h0 bV, yV, HT.out.below bV HT.out.size, by omega⟩
    (fun pre' x a' X => ∃ Bx, X.heap[Bx]? = some (.cells #[.slice x.a2 x.n2 x.c2, .slice x.a3 x.n3 x.c3, .slice x.a4 x.n4 x.c4] 44 (0, 0)) ∧ RC B1 l pre' x X ∧
      a' = { tmps := #[.func (.yield L) #[] #[], .pointer (some ⟨Bk, 0, none⟩), .pointer (some ⟨W.heap.size, 0, none⟩), .pointer (some ⟨Bx, 0, none⟩), .slice a len cap, .func (.func 55) #[] #[.pointer (some ⟨W.heap.size + 1, 0, none⟩)], .agg #[.slice x.a2 x.n2 x.c2, .slice x.a3 x.n3 x.c3, .slice x.a4 x.n4 x.c4], undef, undef, undef, undef, undef, undef, undef, undef, undef, undef, undef], defers := [] })
    ?hAx ?assign ?body ?done ?stop
  case hI =>
    rintro pre' X Y ⟨pre, h1, h2, h3, h4, h5⟩ hb
    refine ⟨pre, h1, HJ.out _ _ _ h2 (hb.mono (by omega)), (hb.block _ (by omega)).trans h3, h4.below hb (by have := HT.out.size; omega), Nat.le_trans h5 hb.size⟩
  case hIx =>
    rintro c pre' X Y ⟨h1, h2⟩ hb
    refine ⟨h1, h2.imp (fun ⟨pre, g, h⟩ => ⟨pre, g, HJ.out _ _ _ h (hb.mono (by omega))⟩) (fun ⟨pre, h⟩ => ⟨pre, HJx.out _ _ _ h (hb.mono (by omega))⟩)⟩
  case hAx =>
    rintro pre' x a' _ X Y row ⟨Bx, h1, ⟨h2, h3⟩, h4⟩ hg hrow
    have hrow' : ∀ r, row = some r → ∃ o : Obj, X.heap[r]? = some o ∧ o.isCells = false := fun r e => (hrow r e).2
    exact ⟨Bx, (grownBy_keeps_cells hg hrow' h1 rfl).trans h1, ⟨h2, ⟨h3.s2.kept hg hrow', h3.s3.kept hg hrow', h3.m3, h3.k3, h3.s4.kept hg hrow', h3.m4, h3.l4, h3.k4, h3.lo⟩⟩, h4⟩
  case assign =>
    rintro l' pre' x X K ⟨pre, h1, h2, h3, h4, h5⟩ ⟨r1, r2⟩ hK
    have bA : ∀ o, Below X.heap.size X (X.alloc o) := fun o => (Below.refl _ X).alloc (Nat.le_refl _) o
    have HKK : Hid _ := hK
    have H2 : Hid (J pre X) := h2
    have H4 : Hid (Tabs X) := h4
    have R2 : Hid (CutIs B1 (rk l pre'.length) x X) := r2
    clear hK h2 h4 r2
    gi_wp2
    refine HKK.out _ _ ((KeepsOthers.alloc _ _).from _) (Kc.of_below (bA _)) ⟨pre, h1, HJ.out _ _ _ H2.out ((bA _).mono (by omega)), ((bA _).block _ (by omega)).trans h3, H4.out.below (bA _) H4.out.size, by simp; omega⟩ ⟨X.heap.size, heap_alloc_new X _, ⟨r1, R2.out.below (bA _)⟩, rfl⟩
  case body =>
    rintro l' pre' x a' X ⟨pre, h1, h2, h3, h4, h5⟩ ⟨Bx, hbx, ⟨r1, r2⟩, rfl⟩
    have hcy : X.cell? ⟨W.heap.size, 0, none⟩ = some (.func (.yield L) #[] #[]) := by simp only [World.cell?, h3]; rfl
    have n3 : Hid (x.n3 = (cutBody (rk l pre'.length)).length) := r2.s3.1
    have K3 : Hid (x.n3 ≤ 65536) := r2.k3
    have H1 : Hid (pre.length = pre'.length) := h1
    have H2 : Hid (J pre X) := h2
    have H3 : Hid (X.heap[W.heap.size]? = some (.cells #[.func (.yield L) #[] #[]] 42 (0, 0))) := h3
    have H4 : Hid (Tabs X) := h4
    have H5 : Hid (W.heap.size + 2 ≤ X.heap.size) := h5
    have R1 : Hid (cutWhy (rk l pre'.length) = 0) := r1
    have R2 : Hid (CutIs B1 (rk l pre'.length) x X) := r2
    have SV : Hid (V.heap.size = W.heap.size + 2) := sV
    clear h1 h2 h3 h4 h5 r1 r2 sV bV yV cV
    gi_wp2_with fail
    refine round_any l' (by kernel_rfl) (by kernel_rfl) ?_
    refine fr_region (n - 1 - 1) L B1 Bk W.heap.size Bx _ _ _ _ _ _ _ _ _ _ _ _ _ _ x (rk l pre'.length) X H4.out R2.out hbx hcy
      (fun e W' => KeepsFrom W.heap.size X W' ∧ ∃ v, ((e = .returned (.bool true) ∧ J (pre ++ [⟨v, cutBody (rk l pre'.length)⟩]) W' ∧ Kc B0 B1 X W') ∨ (e = .returned (.bool false) ∧ Jx (pre ++ [⟨v, cutBody (rk l pre'.length)⟩]) W'))) ?_ ?_ _ ?_ ?_
    · rintro e W' ⟨_, v, (⟨rfl, _⟩ | ⟨rfl, _⟩)⟩
      · exact ⟨_, rfl⟩
      · exact ⟨_, rfl⟩
    · intro hs W1 v b1 o1
      have hg : good l pre.length := by rw [H1.out]; exact ⟨R1.out, hs⟩
      obtain ⟨fn, tmps, assign, body, hy, hR⟩ := HY.out pre ⟨v, cutBody (rk l pre'.length)⟩ W1 (HJ.out _ _ _ H2.out (b1.mono (by have := H5.out; omega))) ⟨hg, by rw [H1.out], by show (cutBody (rk l pre'.length)).length ≤ 65536; rw [← n3.out]; exact K3.out, by
        show W1.ownsRow B1 5 1 v (cutBody (rk l pre'.length)).length _
        rw [← n3.out]
        exact owns_mono o1 (by have := H5.out; have := HB1.out; omega)⟩
      refine ⟨fn, tmps, assign, body, hy, (round_depth hR).mono ?_⟩
      rintro e W' ⟨k1, k2⟩
      refine ⟨(kf_of_below b1).trans k1, v, ?_⟩
      exact k2.imp (fun ⟨e1, e2, e3⟩ => ⟨e1, e2, (Kc.of_below b1).tr e3⟩) id
    · intro hs s7 s8 s9 s10 s11 s12 s13 s14 s15 s16 W' b'
      gi_wp2
      exact ⟨kf_of_below b', rfl, .inl ⟨pre, fun g => hs (by rw [← H1.out]; exact g.2), HJ.out _ _ _ H2.out (b'.mono (by have := H5.out; omega))⟩⟩
    · intro b s7 s8 s9 s10 s11 s12 s13 s14 s15 s16 W' hr
      obtain ⟨k1, v, (⟨e1, e2, e3⟩ | ⟨e1, e2⟩)⟩ := hr
      · obtain rfl : b = true := by simpa using e1
        have E2 : Hid (J (pre ++ [⟨v, cutBody (rk l pre'.length)⟩]) W') := e2
        have E3 : Hid (Kc B0 B1 X W') := e3
        have KK : Hid (KeepsFrom W.heap.size X W') := k1
        clear e1 e2 e3 k1
        gi_wp2
        refine ⟨kf_more KK.out (by have := SV.out; omega), E3.out, pre ++ [⟨v, cutBody (rk l pre'.length)⟩], by simp [H1.out], E2.out, E3.out.box _ _ _ _ HB0.out H3.out (by decide), E3.out.tab H4.out, Nat.le_trans H5.out KK.out.size⟩
      · obtain rfl : b = false := by simpa using e1
        have E2 : Hid (Jx (pre ++ [⟨v, cutBody (rk l pre'.length)⟩]) W') := e2
        have KK : Hid (KeepsFrom W.heap.size X W') := k1
        clear e1 e2 k1
        gi_wp2
        exact ⟨kf_more KK.out (by have := SV.out; omega), rfl, .inr ⟨_, E2.out⟩⟩
  case done =>
    rintro D xs X hD hS ⟨pre, h1, h2, h3, h4, h5⟩ hK
    have hlo : Below W.heap.size X (X.putObj D (.deferred none)) := (Below.refl _ X).grown (grownBy_putObj' X D _) (by omega) (fun k e => by cases e; omega)
    gi_wp2
    refine ⟨by simp, .inl ⟨_, _, rfl, run_takeDeferred hK, ?_⟩⟩
    exact ⟨_, results_none rfl _ _ _, ⟨_, rfl⟩, .inl ⟨pre, fun g => hS (by rw [← h1]; exact g.1), HJ.out _ _ _ h2 hlo⟩⟩
  case stop =>
    rintro D c pre' X hD _ ⟨rfl, h2⟩ hK
    have hlt : D < X.heap.size := (Array.getElem?_eq_some_iff.1 hK).1
    have hlo : Below W.heap.size X (X.putObj D (.deferred none)) := (Below.refl _ X).grown (grownBy_putObj' X D _) (by omega) (fun k e => by cases e; omega)
    gi_wp2
    refine ⟨by simp, .inl ⟨_, _, rfl, run_takeDeferred hK, ?_⟩⟩
    refine ⟨_, results_none rfl _ _ _, ⟨_, rfl⟩, ?_⟩
    exact h2.imp (fun ⟨pre, g, h⟩ => ⟨pre, g, HJ.out _ _ _ h hlo⟩) (fun ⟨pre, h⟩ => ⟨pre, trivial, HJx.out _ _ _ h hlo⟩)
end Go.Proofs.YtpnnbkhlbohfbaaDoor
