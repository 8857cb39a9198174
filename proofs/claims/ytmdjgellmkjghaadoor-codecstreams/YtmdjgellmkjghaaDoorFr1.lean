/- What the iterator over sound frames does. -/
import Derived.Test.YtmdjgellmkjghaaDoorIter
namespace Go.Proofs.YtmdjgellmkjghaaDoor
open Go.RowKit Go.Shelf Cod
attribute [local go_sem] Oper.semAt_some
set_option linter.unusedVariables false

theorem round_depth {P : Program} {n m l f : Nat} {tmps : Array Value} {assign body : Code} {w : World} {R : Ending → World → Prop} (h : RoundIn Fence.wide n P l f tmps assign body w R) : RoundIn Fence.wide m P l f tmps assign body w R :=
  ⟨h.1, fun c cs _ => h.2 c cs (room_wide _)⟩
/-- A struct is read. -/
theorem op_row {P : Program} {n : Nat} {ops : Array Oper} {Q : Exit → Act → World → Prop} {i : Nat} {oi : Oper} {K : Act → World → Prop} {a : Act} {w : World} (hi : ops[i]? = some oi) (ty : TypeId) (x : Operand) (g : Nat) (t : TypeId) (cs : Array Value) (fr : Nat × Nat) (d : TypeDesc)
    (hw : Region.wanted oi (yielded ops a.tmps) = true) (ho : oi.op = .load ty x) (hx : a.eval x = .pointer (some ⟨g, 0, none⟩)) (hg : w.heap[g]? = some (.cells cs t fr)) (hu : P.underlying ty = some d)
    (hd : (match d with | .struct _ | .array _ _ => true | _ => false) = true) (hz : (P.info? ty).map (·.size) = some cs.size) (h : K (a.put oi.dst (.agg cs)) w) : wpOpIn Fence.wide n P ops Q i K a w :=
  op_value (.agg cs) hi hw (by
    unfold execOp
    simp only [ho, hx, Instr.loadAt, Instr.sureAddr, Sem.run_bind, Sem.run_pure, Result.andThen_ok, run_loadVar_row w g t ty cs fr d hg hu hd hz]) h
abbrev opsF : Array Oper := #[{ dst := some 7, op := Go.Op.load 47 (Go.Operand.tmp 3), type := 47, pos := "frame.go:44", after := #[], guard := none },
  { dst := some 8, op := Go.Op.call { callee := Go.Callee.value (Go.Operand.func 20), args := #[Go.Operand.tmp 7], argTypes := #[47] }, type := 4, pos := "frame.go:44", after := #[{ on := 0, ground := Go.Ground.data }], guard := none },
  { dst := some 9, op := Go.Op.unOp Go.UnOp.not 4 (Go.Operand.tmp 8), type := 4, pos := "frame.go:44", after := #[{ on := 1, ground := Go.Ground.data }], guard := none },
  { dst := some 10, op := Go.Op.move (Go.Operand.tmp 9), type := 4, pos := "frame.go:44", after := #[{ on := 2, ground := Go.Ground.data }, { on := 1, ground := Go.Ground.chain }], guard := none },
  { dst := some 11, op := Go.Op.load 42 (Go.Operand.tmp 2), type := 42, pos := "frame.go:44", after := #[{ on := 3, ground := Go.Ground.guard }], guard := some (3, false) },
  { dst := some 12, op := Go.Op.fieldAddr 47 (Go.Operand.tmp 3) 1, type := 0, pos := "frame.go:44", after := #[{ on := 3, ground := Go.Ground.guard }], guard := some (3, false) },
  { dst := some 13, op := Go.Op.load 22 (Go.Operand.tmp 12), type := 22, pos := "frame.go:44", after := #[{ on := 5, ground := Go.Ground.data }, { on := 3, ground := Go.Ground.guard }], guard := some (3, false) },
  { dst := some 14, op := Go.Op.call { callee := Go.Callee.value (Go.Operand.func 21), args := #[Go.Operand.tmp 13], argTypes := #[22] }, type := 22, pos := "frame.go:44", after := #[{ on := 6, ground := Go.Ground.data }, { on := 3, ground := Go.Ground.chain }, { on := 3, ground := Go.Ground.guard }], guard := some (3, false) },
  { dst := some 15, op := Go.Op.call { callee := Go.Callee.value (Go.Operand.tmp 11), args := #[Go.Operand.tmp 14], argTypes := #[22] }, type := 4, pos := "frame.go:44", after := #[{ on := 4, ground := Go.Ground.data }, { on := 7, ground := Go.Ground.data }, { on := 7, ground := Go.Ground.chain }, { on := 3, ground := Go.Ground.guard }], guard := some (3, false) },
  { dst := some 16, op := Go.Op.unOp Go.UnOp.not 4 (Go.Operand.tmp 15), type := 4, pos := "frame.go:44", after := #[{ on := 8, ground := Go.Ground.data }, { on := 3, ground := Go.Ground.guard }], guard := some (3, false) },
  { dst := some 17, op := Go.Op.pick (Go.Operand.tmp 10) (Go.Operand.const (Go.Value.bool true)) (Go.Operand.tmp 16), type := 4, pos := "frame.go:44", after := #[{ on := 3, ground := Go.Ground.data }, { on := 9, ground := Go.Ground.data }], guard := none }]
set_option maxRecDepth 100000 in
set_option maxHeartbeats 2000000 in
theorem fr_region (m L B1 Bk By Bx : Nat) (t4 t5 t6 u7 u8 u9 u10 u11 u12 u13 u14 u15 u16 u17 : Value) (x : CutV) (l : List (BitVec 8)) (W : World) (hT : Tabs W) (hC : CutIs B1 l x W)
    (hx : W.heap[Bx]? = some (.cells #[.slice x.a2 x.n2 x.c2, .slice x.a3 x.n3 x.c3, .slice x.a4 x.n4 x.c4] 47 (0, 0))) (hy : W.cell? ⟨By, 0, none⟩ = some (.func (.yield L) #[] #[]))
    (RR : Ending → World → Prop) (hRR : ∀ e W', RR e W' → ∃ b, e = .returned (.bool b))
    (hY : cutSum l = four (Crc.more 0#32 (cutBody l)) → ∀ W1 v, Below W.heap.size W W1 → W1.ownsRow W.heap.size 5 1 v x.n3 (cellsOf (cutBody l)) → YieldAt Fence.wide (m - 1) Tryd.prog L #[v] W1 RR)
    (Q : Exit → Act → World → Prop)
    (hQ1 : cutSum l ≠ four (Crc.more 0#32 (cutBody l)) → ∀ s7 s8 s9 s10 s11 s12 s13 s14 s15 s16 W', Below W.heap.size W W' → Q .normal { tmps := #[.func (.yield L) #[] #[], .pointer (some ⟨Bk, 0, none⟩), .pointer (some ⟨By, 0, none⟩), .pointer (some ⟨Bx, 0, none⟩), t4, t5, t6, s7, s8, s9, s10, s11, s12, s13, s14, s15, s16, .bool true], defers := [] } W')
    (hQ2 : ∀ b s7 s8 s9 s10 s11 s12 s13 s14 s15 s16 W', RR (.returned (.bool b)) W' → Q .normal { tmps := #[.func (.yield L) #[] #[], .pointer (some ⟨Bk, 0, none⟩), .pointer (some ⟨By, 0, none⟩), .pointer (some ⟨Bx, 0, none⟩), t4, t5, t6, s7, s8, s9, s10, s11, s12, s13, s14, s15, s16, .bool (!b)], defers := [] } W') :
    wpAnyIn Fence.wide m Tryd.prog .any opsF Q 11 (Array.replicate 11 false) { tmps := #[.func (.yield L) #[] #[], .pointer (some ⟨Bk, 0, none⟩), .pointer (some ⟨By, 0, none⟩), .pointer (some ⟨Bx, 0, none⟩), t4, t5, t6, u7, u8, u9, u10, u11, u12, u13, u14, u15, u16, u17], defers := [] } W.drew := by
  have hlx : Bx < W.heap.size := (Array.getElem?_eq_some_iff.1 hx).1
  have hly : By < W.heap.size := World.block_lt_of_cell? W _ hy
  have BD : Hid (Below W.heap.size W W.drew) := (Below.refl _ W).drew
  have HS := sound_any x.a2 x.a3 x.n2 x.c2 x.n3 x.c3 (.slice x.a4 x.n4 x.c4) _ _ W.drew (hT.below BD.out hT.size) (hC.s2.below BD.out) (hC.s3.below BD.out)
  have HX : Hid (W.drew.heap[Bx]? = some (.cells #[.slice x.a2 x.n2 x.c2, .slice x.a3 x.n3 x.c3, .slice x.a4 x.n4 x.c4] 47 (0, 0))) := hx
  have HKx : ∀ W', Below W.heap.size W W' → Hid (W'.cell? ⟨Bx, 1, none⟩ = some (.slice x.a3 x.n3 x.c3)) := fun W' h => by
    show W'.cell? ⟨Bx, 1, none⟩ = _
    rw [h.cell (p := ⟨Bx, 1, none⟩) hlx]
    simp [World.cell?, hx]
  have HKy : ∀ W', Below W.heap.size W W' → Hid (W'.cell? ⟨By, 0, none⟩ = some (.func (.yield L) #[] #[])) := fun W' h => by
    show W'.cell? ⟨By, 0, none⟩ = _
    rw [h.cell (p := ⟨By, 0, none⟩) hly]
    exact hy
  have HC : ∀ W', Below W.heap.size W W' → Hid (Calls Tryd.prog 21 #[.slice x.a3 x.n3 x.c3] W' fun e W'' => ∃ v, e = .returned v ∧ W''.ownsRow W.heap.size 5 1 v x.n3 (cellsOf (cutBody l)) ∧ Below W.heap.size W W'') := fun W' h => by
    refine (clone_any x.a3 x.n3 x.c3 (cutBody l) W' (hC.s3.below h) hC.m3 (by have := hC.k3; omega)).mono ?_
    rintro e W'' ⟨v, rfl, o, b⟩
    exact ⟨v, rfl, owns_mono o h.size, h.trans (b.mono h.size)⟩
  have HQ1 : Hid _ := hQ1
  have HQ2 : Hid _ := hQ2
  have HY : Hid _ := hY
  have HRR : Hid _ := hRR
  clear hT hC hx hy hlx hly hQ1 hQ2 hY hRR
  refine any_one 0 (by kernel_rfl) ?_
  refine op_row (i := 0) (oi := { dst := some 7, op := Go.Op.load 47 (Go.Operand.tmp 3), type := 47, pos := "frame.go:44", after := #[], guard := none }) rfl 47 (.tmp 3) Bx 47 _ (0, 0) _ (by rfl) rfl rfl HX.out Tryd.underlying47 rfl (by kernel_rfl) ?_
  simp only [Act.put, List.setIfInBounds_toArray, List.set_cons_zero, List.set_cons_succ]
  refine any_one 1 (by kernel_rfl) ?_
  refine op_call (i := 1) (oi := { dst := some 8, op := Go.Op.call { callee := Go.Callee.value (Go.Operand.func 20), args := #[Go.Operand.tmp 7], argTypes := #[47] }, type := 4, pos := "frame.go:44", after := #[{ on := 0, ground := Go.Ground.data }], guard := none }) 20 _ rfl (by rfl) (by go_simp <;> with_reducible rfl) ?_
  refine HS.mono ?_
  rintro e W2 ⟨rfl, b2⟩
  refine ⟨_, rfl, ?_⟩
  simp only [Act.put, List.setIfInBounds_toArray, List.set_cons_zero, List.set_cons_succ]
  have B2 : Hid (Below W.heap.size W W2) := BD.out.trans b2
  clear HS b2 HX BD
  by_cases hs : cutSum l = four (Crc.more 0#32 (cutBody l))
  · rw [decide_eq_true hs]
    have HYs := HY.out hs
    clear HY HQ1 hs
    refine any_one 2 (by kernel_rfl) ?_
    refine op_value (.bool false) (i := 2) (oi := { dst := some 9, op := Go.Op.unOp Go.UnOp.not 4 (Go.Operand.tmp 8), type := 4, pos := "frame.go:44", after := #[{ on := 1, ground := Go.Ground.data }], guard := none }) rfl (by rfl) (by go_simp <;> with_reducible rfl) ?_
    simp only [Act.put, List.setIfInBounds_toArray, List.set_cons_zero, List.set_cons_succ]
    refine any_one 3 (by kernel_rfl) ?_
    refine op_value (.bool false) (i := 3) (oi := { dst := some 10, op := Go.Op.move (Go.Operand.tmp 9), type := 4, pos := "frame.go:44", after := #[{ on := 2, ground := Go.Ground.data }, { on := 1, ground := Go.Ground.chain }], guard := none }) rfl (by rfl) (by go_simp <;> with_reducible rfl) ?_
    simp only [Act.put, List.setIfInBounds_toArray, List.set_cons_zero, List.set_cons_succ]
    refine any_two 4 5 (by kernel_rfl) ?_ ?_
    · -- 4 5 6 7
      have ky := (HKy W2 B2.out).out
      refine op_value (.func (.yield L) #[] #[]) (i := 4) (oi := { dst := some 11, op := Go.Op.load 42 (Go.Operand.tmp 2), type := 42, pos := "frame.go:44", after := #[{ on := 3, ground := Go.Ground.guard }], guard := some (3, false) }) rfl (by rfl) (by go_simp <;> with_reducible rfl) ?_
      simp only [Act.put, List.setIfInBounds_toArray, List.set_cons_zero, List.set_cons_succ]
      refine any_one 5 (by kernel_rfl) ?_
      refine op_value (.pointer (some ⟨Bx, 1, none⟩)) (i := 5) (oi := { dst := some 12, op := Go.Op.fieldAddr 47 (Go.Operand.tmp 3) 1, type := 0, pos := "frame.go:44", after := #[{ on := 3, ground := Go.Ground.guard }], guard := some (3, false) }) rfl (by rfl) (by go_simp <;> with_reducible rfl) ?_
      simp only [Act.put, List.setIfInBounds_toArray, List.set_cons_zero, List.set_cons_succ]
      refine any_one 6 (by kernel_rfl) ?_
      have kx := (HKx W2 B2.out).out
      refine op_value (.slice x.a3 x.n3 x.c3) (i := 6) (oi := { dst := some 13, op := Go.Op.load 22 (Go.Operand.tmp 12), type := 22, pos := "frame.go:44", after := #[{ on := 5, ground := Go.Ground.data }, { on := 3, ground := Go.Ground.guard }], guard := some (3, false) }) rfl (by rfl) (by go_simp <;> with_reducible rfl) ?_
      simp only [Act.put, List.setIfInBounds_toArray, List.set_cons_zero, List.set_cons_succ]
      refine any_one 7 (by kernel_rfl) ?_
      refine op_call (i := 7) (oi := { dst := some 14, op := Go.Op.call { callee := Go.Callee.value (Go.Operand.func 21), args := #[Go.Operand.tmp 13], argTypes := #[22] }, type := 22, pos := "frame.go:44", after := #[{ on := 6, ground := Go.Ground.data }, { on := 3, ground := Go.Ground.chain }, { on := 3, ground := Go.Ground.guard }], guard := some (3, false) }) 21 _ rfl (by rfl) (by go_simp <;> with_reducible rfl) ?_
      refine (HC W2 B2.out).out.mono ?_
      rintro e W3 ⟨v, rfl, o3, b3⟩
      refine ⟨_, rfl, ?_⟩
      simp only [Act.put, List.setIfInBounds_toArray, List.set_cons_zero, List.set_cons_succ]
      obtain ⟨fn, tmps, assign, body, hyy, hR⟩ := HYs W3 v b3 o3
      refine any_one 8 (by kernel_rfl) ?_
      refine op_round (i := 8) (oi := { dst := some 15, op := Go.Op.call { callee := Go.Callee.value (Go.Operand.tmp 11), args := #[Go.Operand.tmp 14], argTypes := #[22] }, type := 4, pos := "frame.go:44", after := #[{ on := 4, ground := Go.Ground.data }, { on := 7, ground := Go.Ground.data }, { on := 7, ground := Go.Ground.chain }, { on := 3, ground := Go.Ground.guard }], guard := some (3, false) }) L fn tmps assign body rfl (by rfl) (by go_simp <;> first | exact hyy | (rw [hyy]; rfl) | (simp [hyy]; done)) ?_
      refine (round_depth hR).mono ?_
      rintro e W4 hr
      obtain ⟨b, rfl⟩ := HRR.out e W4 hr
      refine ⟨_, rfl, ?_⟩
      simp only [Act.put, List.setIfInBounds_toArray, List.set_cons_zero, List.set_cons_succ]
      refine any_one 9 (by kernel_rfl) ?_
      refine op_value (.bool (!b)) (i := 9) (oi := { dst := some 16, op := Go.Op.unOp Go.UnOp.not 4 (Go.Operand.tmp 15), type := 4, pos := "frame.go:44", after := #[{ on := 8, ground := Go.Ground.data }, { on := 3, ground := Go.Ground.guard }], guard := some (3, false) }) rfl (by rfl) (by go_simp <;> with_reducible rfl) ?_
      simp only [Act.put, List.setIfInBounds_toArray, List.set_cons_zero, List.set_cons_succ]
      refine any_one 10 (by kernel_rfl) ?_
      refine op_value (.bool (!b)) (i := 10) (oi := { dst := some 17, op := Go.Op.pick (Go.Operand.tmp 10) (Go.Operand.const (Go.Value.bool true)) (Go.Operand.tmp 16), type := 4, pos := "frame.go:44", after := #[{ on := 3, ground := Go.Ground.data }, { on := 9, ground := Go.Ground.data }], guard := none }) rfl (by rfl) (by go_simp <;> with_reducible rfl) ?_
      simp only [Act.put, List.setIfInBounds_toArray, List.set_cons_zero, List.set_cons_succ]
      exact wpAnyIn_done (by kernel_rfl) (HQ2.out b _ _ _ _ _ _ _ _ _ _ W4 hr) _
    · refine op_value (.pointer (some ⟨Bx, 1, none⟩)) (i := 5) (oi := { dst := some 12, op := Go.Op.fieldAddr 47 (Go.Operand.tmp 3) 1, type := 0, pos := "frame.go:44", after := #[{ on := 3, ground := Go.Ground.guard }], guard := some (3, false) }) rfl (by rfl) (by go_simp <;> with_reducible rfl) ?_
      simp only [Act.put, List.setIfInBounds_toArray, List.set_cons_zero, List.set_cons_succ]
      refine any_two 4 6 (by kernel_rfl) ?_ ?_
      · -- 4 6 7
        have ky := (HKy W2 B2.out).out
        refine op_value (.func (.yield L) #[] #[]) (i := 4) (oi := { dst := some 11, op := Go.Op.load 42 (Go.Operand.tmp 2), type := 42, pos := "frame.go:44", after := #[{ on := 3, ground := Go.Ground.guard }], guard := some (3, false) }) rfl (by rfl) (by go_simp <;> with_reducible rfl) ?_
        simp only [Act.put, List.setIfInBounds_toArray, List.set_cons_zero, List.set_cons_succ]
        refine any_one 6 (by kernel_rfl) ?_
        have kx := (HKx W2 B2.out).out
        refine op_value (.slice x.a3 x.n3 x.c3) (i := 6) (oi := { dst := some 13, op := Go.Op.load 22 (Go.Operand.tmp 12), type := 22, pos := "frame.go:44", after := #[{ on := 5, ground := Go.Ground.data }, { on := 3, ground := Go.Ground.guard }], guard := some (3, false) }) rfl (by rfl) (by go_simp <;> with_reducible rfl) ?_
        simp only [Act.put, List.setIfInBounds_toArray, List.set_cons_zero, List.set_cons_succ]
        refine any_one 7 (by kernel_rfl) ?_
        refine op_call (i := 7) (oi := { dst := some 14, op := Go.Op.call { callee := Go.Callee.value (Go.Operand.func 21), args := #[Go.Operand.tmp 13], argTypes := #[22] }, type := 22, pos := "frame.go:44", after := #[{ on := 6, ground := Go.Ground.data }, { on := 3, ground := Go.Ground.chain }, { on := 3, ground := Go.Ground.guard }], guard := some (3, false) }) 21 _ rfl (by rfl) (by go_simp <;> with_reducible rfl) ?_
        refine (HC W2 B2.out).out.mono ?_
        rintro e W3 ⟨v, rfl, o3, b3⟩
        refine ⟨_, rfl, ?_⟩
        simp only [Act.put, List.setIfInBounds_toArray, List.set_cons_zero, List.set_cons_succ]
        obtain ⟨fn, tmps, assign, body, hyy, hR⟩ := HYs W3 v b3 o3
        refine any_one 8 (by kernel_rfl) ?_
        refine op_round (i := 8) (oi := { dst := some 15, op := Go.Op.call { callee := Go.Callee.value (Go.Operand.tmp 11), args := #[Go.Operand.tmp 14], argTypes := #[22] }, type := 4, pos := "frame.go:44", after := #[{ on := 4, ground := Go.Ground.data }, { on := 7, ground := Go.Ground.data }, { on := 7, ground := Go.Ground.chain }, { on := 3, ground := Go.Ground.guard }], guard := some (3, false) }) L fn tmps assign body rfl (by rfl) (by go_simp <;> first | exact hyy | (rw [hyy]; rfl) | (simp [hyy]; done)) ?_
        refine (round_depth hR).mono ?_
        rintro e W4 hr
        obtain ⟨b, rfl⟩ := HRR.out e W4 hr
        refine ⟨_, rfl, ?_⟩
        simp only [Act.put, List.setIfInBounds_toArray, List.set_cons_zero, List.set_cons_succ]
        refine any_one 9 (by kernel_rfl) ?_
        refine op_value (.bool (!b)) (i := 9) (oi := { dst := some 16, op := Go.Op.unOp Go.UnOp.not 4 (Go.Operand.tmp 15), type := 4, pos := "frame.go:44", after := #[{ on := 8, ground := Go.Ground.data }, { on := 3, ground := Go.Ground.guard }], guard := some (3, false) }) rfl (by rfl) (by go_simp <;> with_reducible rfl) ?_
        simp only [Act.put, List.setIfInBounds_toArray, List.set_cons_zero, List.set_cons_succ]
        refine any_one 10 (by kernel_rfl) ?_
        refine op_value (.bool (!b)) (i := 10) (oi := { dst := some 17, op := Go.Op.pick (Go.Operand.tmp 10) (Go.Operand.const (Go.Value.bool true)) (Go.Operand.tmp 16), type := 4, pos := "frame.go:44", after := #[{ on := 3, ground := Go.Ground.data }, { on := 9, ground := Go.Ground.data }], guard := none }) rfl (by rfl) (by go_simp <;> with_reducible rfl) ?_
        simp only [Act.put, List.setIfInBounds_toArray, List.set_cons_zero, List.set_cons_succ]
        exact wpAnyIn_done (by kernel_rfl) (HQ2.out b _ _ _ _ _ _ _ _ _ _ W4 hr) _
      · -- 6
        have kx := (HKx W2 B2.out).out
        refine op_value (.slice x.a3 x.n3 x.c3) (i := 6) (oi := { dst := some 13, op := Go.Op.load 22 (Go.Operand.tmp 12), type := 22, pos := "frame.go:44", after := #[{ on := 5, ground := Go.Ground.data }, { on := 3, ground := Go.Ground.guard }], guard := some (3, false) }) rfl (by rfl) (by go_simp <;> with_reducible rfl) ?_
        simp only [Act.put, List.setIfInBounds_toArray, List.set_cons_zero, List.set_cons_succ]
        refine any_two 4 7 (by kernel_rfl) ?_ ?_
        · -- 4 7
          have ky := (HKy W2 B2.out).out
          refine op_value (.func (.yield L) #[] #[]) (i := 4) (oi := { dst := some 11, op := Go.Op.load 42 (Go.Operand.tmp 2), type := 42, pos := "frame.go:44", after := #[{ on := 3, ground := Go.Ground.guard }], guard := some (3, false) }) rfl (by rfl) (by go_simp <;> with_reducible rfl) ?_
          simp only [Act.put, List.setIfInBounds_toArray, List.set_cons_zero, List.set_cons_succ]
          refine any_one 7 (by kernel_rfl) ?_
          refine op_call (i := 7) (oi := { dst := some 14, op := Go.Op.call { callee := Go.Callee.value (Go.Operand.func 21), args := #[Go.Operand.tmp 13], argTypes := #[22] }, type := 22, pos := "frame.go:44", after := #[{ on := 6, ground := Go.Ground.data }, { on := 3, ground := Go.Ground.chain }, { on := 3, ground := Go.Ground.guard }], guard := some (3, false) }) 21 _ rfl (by rfl) (by go_simp <;> with_reducible rfl) ?_
          refine (HC W2 B2.out).out.mono ?_
          rintro e W3 ⟨v, rfl, o3, b3⟩
          refine ⟨_, rfl, ?_⟩
          simp only [Act.put, List.setIfInBounds_toArray, List.set_cons_zero, List.set_cons_succ]
          obtain ⟨fn, tmps, assign, body, hyy, hR⟩ := HYs W3 v b3 o3
          refine any_one 8 (by kernel_rfl) ?_
          refine op_round (i := 8) (oi := { dst := some 15, op := Go.Op.call { callee := Go.Callee.value (Go.Operand.tmp 11), args := #[Go.Operand.tmp 14], argTypes := #[22] }, type := 4, pos := "frame.go:44", after := #[{ on := 4, ground := Go.Ground.data }, { on := 7, ground := Go.Ground.data }, { on := 7, ground := Go.Ground.chain }, { on := 3, ground := Go.Ground.guard }], guard := some (3, false) }) L fn tmps assign body rfl (by rfl) (by go_simp <;> first | exact hyy | (rw [hyy]; rfl) | (simp [hyy]; done)) ?_
          refine (round_depth hR).mono ?_
          rintro e W4 hr
          obtain ⟨b, rfl⟩ := HRR.out e W4 hr
          refine ⟨_, rfl, ?_⟩
          simp only [Act.put, List.setIfInBounds_toArray, List.set_cons_zero, List.set_cons_succ]
          refine any_one 9 (by kernel_rfl) ?_
          refine op_value (.bool (!b)) (i := 9) (oi := { dst := some 16, op := Go.Op.unOp Go.UnOp.not 4 (Go.Operand.tmp 15), type := 4, pos := "frame.go:44", after := #[{ on := 8, ground := Go.Ground.data }, { on := 3, ground := Go.Ground.guard }], guard := some (3, false) }) rfl (by rfl) (by go_simp <;> with_reducible rfl) ?_
          simp only [Act.put, List.setIfInBounds_toArray, List.set_cons_zero, List.set_cons_succ]
          refine any_one 10 (by kernel_rfl) ?_
          refine op_value (.bool (!b)) (i := 10) (oi := { dst := some 17, op := Go.Op.pick (Go.Operand.tmp 10) (Go.Operand.const (Go.Value.bool true)) (Go.Operand.tmp 16), type := 4, pos := "frame.go:44", after := #[{ on := 3, ground := Go.Ground.data }, { on := 9, ground := Go.Ground.data }], guard := none }) rfl (by rfl) (by go_simp <;> with_reducible rfl) ?_
          simp only [Act.put, List.setIfInBounds_toArray, List.set_cons_zero, List.set_cons_succ]
          exact wpAnyIn_done (by kernel_rfl) (HQ2.out b _ _ _ _ _ _ _ _ _ _ W4 hr) _
        · -- 7 4
          refine op_call (i := 7) (oi := { dst := some 14, op := Go.Op.call { callee := Go.Callee.value (Go.Operand.func 21), args := #[Go.Operand.tmp 13], argTypes := #[22] }, type := 22, pos := "frame.go:44", after := #[{ on := 6, ground := Go.Ground.data }, { on := 3, ground := Go.Ground.chain }, { on := 3, ground := Go.Ground.guard }], guard := some (3, false) }) 21 _ rfl (by rfl) (by go_simp <;> with_reducible rfl) ?_
          refine (HC W2 B2.out).out.mono ?_
          rintro e W3 ⟨v, rfl, o3, b3⟩
          refine ⟨_, rfl, ?_⟩
          simp only [Act.put, List.setIfInBounds_toArray, List.set_cons_zero, List.set_cons_succ]
          refine any_one 4 (by kernel_rfl) ?_
          have ky := (HKy W3 b3).out
          refine op_value (.func (.yield L) #[] #[]) (i := 4) (oi := { dst := some 11, op := Go.Op.load 42 (Go.Operand.tmp 2), type := 42, pos := "frame.go:44", after := #[{ on := 3, ground := Go.Ground.guard }], guard := some (3, false) }) rfl (by rfl) (by go_simp <;> with_reducible rfl) ?_
          simp only [Act.put, List.setIfInBounds_toArray, List.set_cons_zero, List.set_cons_succ]
          obtain ⟨fn, tmps, assign, body, hyy, hR⟩ := HYs W3 v b3 o3
          refine any_one 8 (by kernel_rfl) ?_
          refine op_round (i := 8) (oi := { dst := some 15, op := Go.Op.call { callee := Go.Callee.value (Go.Operand.tmp 11), args := #[Go.Operand.tmp 14], argTypes := #[22] }, type := 4, pos := "frame.go:44", after := #[{ on := 4, ground := Go.Ground.data }, { on := 7, ground := Go.Ground.data }, { on := 7, ground := Go.Ground.chain }, { on := 3, ground := Go.Ground.guard }], guard := some (3, false) }) L fn tmps assign body rfl (by rfl) (by go_simp <;> first | exact hyy | (rw [hyy]; rfl) | (simp [hyy]; done)) ?_
          refine (round_depth hR).mono ?_
          rintro e W4 hr
          obtain ⟨b, rfl⟩ := HRR.out e W4 hr
          refine ⟨_, rfl, ?_⟩
          simp only [Act.put, List.setIfInBounds_toArray, List.set_cons_zero, List.set_cons_succ]
          refine any_one 9 (by kernel_rfl) ?_
          refine op_value (.bool (!b)) (i := 9) (oi := { dst := some 16, op := Go.Op.unOp Go.UnOp.not 4 (Go.Operand.tmp 15), type := 4, pos := "frame.go:44", after := #[{ on := 8, ground := Go.Ground.data }, { on := 3, ground := Go.Ground.guard }], guard := some (3, false) }) rfl (by rfl) (by go_simp <;> with_reducible rfl) ?_
          simp only [Act.put, List.setIfInBounds_toArray, List.set_cons_zero, List.set_cons_succ]
          refine any_one 10 (by kernel_rfl) ?_
          refine op_value (.bool (!b)) (i := 10) (oi := { dst := some 17, op := Go.Op.pick (Go.Operand.tmp 10) (Go.Operand.const (Go.Value.bool true)) (Go.Operand.tmp 16), type := 4, pos := "frame.go:44", after := #[{ on := 3, ground := Go.Ground.data }, { on := 9, ground := Go.Ground.data }], guard := none }) rfl (by rfl) (by go_simp <;> with_reducible rfl) ?_
          simp only [Act.put, List.setIfInBounds_toArray, List.set_cons_zero, List.set_cons_succ]
          exact wpAnyIn_done (by kernel_rfl) (HQ2.out b _ _ _ _ _ _ _ _ _ _ W4 hr) _
  · rw [decide_eq_false hs]
    have HQs := HQ1.out hs
    clear HY HQ1 HQ2 HRR hs
    refine any_one 2 (by kernel_rfl) ?_
    refine op_value (.bool true) (i := 2) (oi := { dst := some 9, op := Go.Op.unOp Go.UnOp.not 4 (Go.Operand.tmp 8), type := 4, pos := "frame.go:44", after := #[{ on := 1, ground := Go.Ground.data }], guard := none }) rfl (by rfl) (by go_simp <;> with_reducible rfl) ?_
    simp only [Act.put, List.setIfInBounds_toArray, List.set_cons_zero, List.set_cons_succ]
    refine any_one 3 (by kernel_rfl) ?_
    refine op_value (.bool true) (i := 3) (oi := { dst := some 10, op := Go.Op.move (Go.Operand.tmp 9), type := 4, pos := "frame.go:44", after := #[{ on := 2, ground := Go.Ground.data }, { on := 1, ground := Go.Ground.chain }], guard := none }) rfl (by rfl) (by go_simp <;> with_reducible rfl) ?_
    simp only [Act.put, List.setIfInBounds_toArray, List.set_cons_zero, List.set_cons_succ]
    refine any_two 4 5 (by kernel_rfl) ?_ ?_
    · -- 4
      refine op_skip (i := 4) (oi := { dst := some 11, op := Go.Op.load 42 (Go.Operand.tmp 2), type := 42, pos := "frame.go:44", after := #[{ on := 3, ground := Go.Ground.guard }], guard := some (3, false) }) rfl (by rfl) ?_
      simp only [Act.put, List.setIfInBounds_toArray, List.set_cons_zero, List.set_cons_succ]
      refine any_one 5 (by kernel_rfl) ?_
      refine op_skip (i := 5) (oi := { dst := some 12, op := Go.Op.fieldAddr 47 (Go.Operand.tmp 3) 1, type := 0, pos := "frame.go:44", after := #[{ on := 3, ground := Go.Ground.guard }], guard := some (3, false) }) rfl (by rfl) ?_
      simp only [Act.put, List.setIfInBounds_toArray, List.set_cons_zero, List.set_cons_succ]
      refine any_one 6 (by kernel_rfl) ?_
      refine op_skip (i := 6) (oi := { dst := some 13, op := Go.Op.load 22 (Go.Operand.tmp 12), type := 22, pos := "frame.go:44", after := #[{ on := 5, ground := Go.Ground.data }, { on := 3, ground := Go.Ground.guard }], guard := some (3, false) }) rfl (by rfl) ?_
      simp only [Act.put, List.setIfInBounds_toArray, List.set_cons_zero, List.set_cons_succ]
      refine any_one 7 (by kernel_rfl) ?_
      refine op_skip (i := 7) (oi := { dst := some 14, op := Go.Op.call { callee := Go.Callee.value (Go.Operand.func 21), args := #[Go.Operand.tmp 13], argTypes := #[22] }, type := 22, pos := "frame.go:44", after := #[{ on := 6, ground := Go.Ground.data }, { on := 3, ground := Go.Ground.chain }, { on := 3, ground := Go.Ground.guard }], guard := some (3, false) }) rfl (by rfl) ?_
      simp only [Act.put, List.setIfInBounds_toArray, List.set_cons_zero, List.set_cons_succ]
      refine any_one 8 (by kernel_rfl) ?_
      refine op_skip (i := 8) (oi := { dst := some 15, op := Go.Op.call { callee := Go.Callee.value (Go.Operand.tmp 11), args := #[Go.Operand.tmp 14], argTypes := #[22] }, type := 4, pos := "frame.go:44", after := #[{ on := 4, ground := Go.Ground.data }, { on := 7, ground := Go.Ground.data }, { on := 7, ground := Go.Ground.chain }, { on := 3, ground := Go.Ground.guard }], guard := some (3, false) }) rfl (by rfl) ?_
      simp only [Act.put, List.setIfInBounds_toArray, List.set_cons_zero, List.set_cons_succ]
      refine any_one 9 (by kernel_rfl) ?_
      refine op_skip (i := 9) (oi := { dst := some 16, op := Go.Op.unOp Go.UnOp.not 4 (Go.Operand.tmp 15), type := 4, pos := "frame.go:44", after := #[{ on := 8, ground := Go.Ground.data }, { on := 3, ground := Go.Ground.guard }], guard := some (3, false) }) rfl (by rfl) ?_
      simp only [Act.put, List.setIfInBounds_toArray, List.set_cons_zero, List.set_cons_succ]
      refine any_one 10 (by kernel_rfl) ?_
      refine op_value (.bool true) (i := 10) (oi := { dst := some 17, op := Go.Op.pick (Go.Operand.tmp 10) (Go.Operand.const (Go.Value.bool true)) (Go.Operand.tmp 16), type := 4, pos := "frame.go:44", after := #[{ on := 3, ground := Go.Ground.data }, { on := 9, ground := Go.Ground.data }], guard := none }) rfl (by rfl) (by go_simp <;> with_reducible rfl) ?_
      simp only [Act.put, List.setIfInBounds_toArray, List.set_cons_zero, List.set_cons_succ]
      exact wpAnyIn_done (by kernel_rfl) (HQs _ _ _ _ _ _ _ _ _ _ W2 B2.out) _
    · -- 5
      refine op_skip (i := 5) (oi := { dst := some 12, op := Go.Op.fieldAddr 47 (Go.Operand.tmp 3) 1, type := 0, pos := "frame.go:44", after := #[{ on := 3, ground := Go.Ground.guard }], guard := some (3, false) }) rfl (by rfl) ?_
      simp only [Act.put, List.setIfInBounds_toArray, List.set_cons_zero, List.set_cons_succ]
      refine any_two 4 6 (by kernel_rfl) ?_ ?_
      · -- 4
        refine op_skip (i := 4) (oi := { dst := some 11, op := Go.Op.load 42 (Go.Operand.tmp 2), type := 42, pos := "frame.go:44", after := #[{ on := 3, ground := Go.Ground.guard }], guard := some (3, false) }) rfl (by rfl) ?_
        simp only [Act.put, List.setIfInBounds_toArray, List.set_cons_zero, List.set_cons_succ]
        refine any_one 6 (by kernel_rfl) ?_
        refine op_skip (i := 6) (oi := { dst := some 13, op := Go.Op.load 22 (Go.Operand.tmp 12), type := 22, pos := "frame.go:44", after := #[{ on := 5, ground := Go.Ground.data }, { on := 3, ground := Go.Ground.guard }], guard := some (3, false) }) rfl (by rfl) ?_
        simp only [Act.put, List.setIfInBounds_toArray, List.set_cons_zero, List.set_cons_succ]
        refine any_one 7 (by kernel_rfl) ?_
        refine op_skip (i := 7) (oi := { dst := some 14, op := Go.Op.call { callee := Go.Callee.value (Go.Operand.func 21), args := #[Go.Operand.tmp 13], argTypes := #[22] }, type := 22, pos := "frame.go:44", after := #[{ on := 6, ground := Go.Ground.data }, { on := 3, ground := Go.Ground.chain }, { on := 3, ground := Go.Ground.guard }], guard := some (3, false) }) rfl (by rfl) ?_
        simp only [Act.put, List.setIfInBounds_toArray, List.set_cons_zero, List.set_cons_succ]
        refine any_one 8 (by kernel_rfl) ?_
        refine op_skip (i := 8) (oi := { dst := some 15, op := Go.Op.call { callee := Go.Callee.value (Go.Operand.tmp 11), args := #[Go.Operand.tmp 14], argTypes := #[22] }, type := 4, pos := "frame.go:44", after := #[{ on := 4, ground := Go.Ground.data }, { on := 7, ground := Go.Ground.data }, { on := 7, ground := Go.Ground.chain }, { on := 3, ground := Go.Ground.guard }], guard := some (3, false) }) rfl (by rfl) ?_
        simp only [Act.put, List.setIfInBounds_toArray, List.set_cons_zero, List.set_cons_succ]
        refine any_one 9 (by kernel_rfl) ?_
        refine op_skip (i := 9) (oi := { dst := some 16, op := Go.Op.unOp Go.UnOp.not 4 (Go.Operand.tmp 15), type := 4, pos := "frame.go:44", after := #[{ on := 8, ground := Go.Ground.data }, { on := 3, ground := Go.Ground.guard }], guard := some (3, false) }) rfl (by rfl) ?_
        simp only [Act.put, List.setIfInBounds_toArray, List.set_cons_zero, List.set_cons_succ]
        refine any_one 10 (by kernel_rfl) ?_
        refine op_value (.bool true) (i := 10) (oi := { dst := some 17, op := Go.Op.pick (Go.Operand.tmp 10) (Go.Operand.const (Go.Value.bool true)) (Go.Operand.tmp 16), type := 4, pos := "frame.go:44", after := #[{ on := 3, ground := Go.Ground.data }, { on := 9, ground := Go.Ground.data }], guard := none }) rfl (by rfl) (by go_simp <;> with_reducible rfl) ?_
        simp only [Act.put, List.setIfInBounds_toArray, List.set_cons_zero, List.set_cons_succ]
        exact wpAnyIn_done (by kernel_rfl) (HQs _ _ _ _ _ _ _ _ _ _ W2 B2.out) _
      · -- 6
        refine op_skip (i := 6) (oi := { dst := some 13, op := Go.Op.load 22 (Go.Operand.tmp 12), type := 22, pos := "frame.go:44", after := #[{ on := 5, ground := Go.Ground.data }, { on := 3, ground := Go.Ground.guard }], guard := some (3, false) }) rfl (by rfl) ?_
        simp only [Act.put, List.setIfInBounds_toArray, List.set_cons_zero, List.set_cons_succ]
        refine any_two 4 7 (by kernel_rfl) ?_ ?_
        · -- 4
          refine op_skip (i := 4) (oi := { dst := some 11, op := Go.Op.load 42 (Go.Operand.tmp 2), type := 42, pos := "frame.go:44", after := #[{ on := 3, ground := Go.Ground.guard }], guard := some (3, false) }) rfl (by rfl) ?_
          simp only [Act.put, List.setIfInBounds_toArray, List.set_cons_zero, List.set_cons_succ]
          refine any_one 7 (by kernel_rfl) ?_
          refine op_skip (i := 7) (oi := { dst := some 14, op := Go.Op.call { callee := Go.Callee.value (Go.Operand.func 21), args := #[Go.Operand.tmp 13], argTypes := #[22] }, type := 22, pos := "frame.go:44", after := #[{ on := 6, ground := Go.Ground.data }, { on := 3, ground := Go.Ground.chain }, { on := 3, ground := Go.Ground.guard }], guard := some (3, false) }) rfl (by rfl) ?_
          simp only [Act.put, List.setIfInBounds_toArray, List.set_cons_zero, List.set_cons_succ]
          refine any_one 8 (by kernel_rfl) ?_
          refine op_skip (i := 8) (oi := { dst := some 15, op := Go.Op.call { callee := Go.Callee.value (Go.Operand.tmp 11), args := #[Go.Operand.tmp 14], argTypes := #[22] }, type := 4, pos := "frame.go:44", after := #[{ on := 4, ground := Go.Ground.data }, { on := 7, ground := Go.Ground.data }, { on := 7, ground := Go.Ground.chain }, { on := 3, ground := Go.Ground.guard }], guard := some (3, false) }) rfl (by rfl) ?_
          simp only [Act.put, List.setIfInBounds_toArray, List.set_cons_zero, List.set_cons_succ]
          refine any_one 9 (by kernel_rfl) ?_
          refine op_skip (i := 9) (oi := { dst := some 16, op := Go.Op.unOp Go.UnOp.not 4 (Go.Operand.tmp 15), type := 4, pos := "frame.go:44", after := #[{ on := 8, ground := Go.Ground.data }, { on := 3, ground := Go.Ground.guard }], guard := some (3, false) }) rfl (by rfl) ?_
          simp only [Act.put, List.setIfInBounds_toArray, List.set_cons_zero, List.set_cons_succ]
          refine any_one 10 (by kernel_rfl) ?_
          refine op_value (.bool true) (i := 10) (oi := { dst := some 17, op := Go.Op.pick (Go.Operand.tmp 10) (Go.Operand.const (Go.Value.bool true)) (Go.Operand.tmp 16), type := 4, pos := "frame.go:44", after := #[{ on := 3, ground := Go.Ground.data }, { on := 9, ground := Go.Ground.data }], guard := none }) rfl (by rfl) (by go_simp <;> with_reducible rfl) ?_
          simp only [Act.put, List.setIfInBounds_toArray, List.set_cons_zero, List.set_cons_succ]
          exact wpAnyIn_done (by kernel_rfl) (HQs _ _ _ _ _ _ _ _ _ _ W2 B2.out) _
        · -- 7
          refine op_skip (i := 7) (oi := { dst := some 14, op := Go.Op.call { callee := Go.Callee.value (Go.Operand.func 21), args := #[Go.Operand.tmp 13], argTypes := #[22] }, type := 22, pos := "frame.go:44", after := #[{ on := 6, ground := Go.Ground.data }, { on := 3, ground := Go.Ground.chain }, { on := 3, ground := Go.Ground.guard }], guard := some (3, false) }) rfl (by rfl) ?_
          simp only [Act.put, List.setIfInBounds_toArray, List.set_cons_zero, List.set_cons_succ]
          refine any_one 4 (by kernel_rfl) ?_
          refine op_skip (i := 4) (oi := { dst := some 11, op := Go.Op.load 42 (Go.Operand.tmp 2), type := 42, pos := "frame.go:44", after := #[{ on := 3, ground := Go.Ground.guard }], guard := some (3, false) }) rfl (by rfl) ?_
          simp only [Act.put, List.setIfInBounds_toArray, List.set_cons_zero, List.set_cons_succ]
          refine any_one 8 (by kernel_rfl) ?_
          refine op_skip (i := 8) (oi := { dst := some 15, op := Go.Op.call { callee := Go.Callee.value (Go.Operand.tmp 11), args := #[Go.Operand.tmp 14], argTypes := #[22] }, type := 4, pos := "frame.go:44", after := #[{ on := 4, ground := Go.Ground.data }, { on := 7, ground := Go.Ground.data }, { on := 7, ground := Go.Ground.chain }, { on := 3, ground := Go.Ground.guard }], guard := some (3, false) }) rfl (by rfl) ?_
          simp only [Act.put, List.setIfInBounds_toArray, List.set_cons_zero, List.set_cons_succ]
          refine any_one 9 (by kernel_rfl) ?_
          refine op_skip (i := 9) (oi := { dst := some 16, op := Go.Op.unOp Go.UnOp.not 4 (Go.Operand.tmp 15), type := 4, pos := "frame.go:44", after := #[{ on := 8, ground := Go.Ground.data }, { on := 3, ground := Go.Ground.guard }], guard := some (3, false) }) rfl (by rfl) ?_
          simp only [Act.put, List.setIfInBounds_toArray, List.set_cons_zero, List.set_cons_succ]
          refine any_one 10 (by kernel_rfl) ?_
          refine op_value (.bool true) (i := 10) (oi := { dst := some 17, op := Go.Op.pick (Go.Operand.tmp 10) (Go.Operand.const (Go.Value.bool true)) (Go.Operand.tmp 16), type := 4, pos := "frame.go:44", after := #[{ on := 3, ground := Go.Ground.data }, { on := 9, ground := Go.Ground.data }], guard := none }) rfl (by rfl) (by go_simp <;> with_reducible rfl) ?_
          simp only [Act.put, List.setIfInBounds_toArray, List.set_cons_zero, List.set_cons_succ]
          exact wpAnyIn_done (by kernel_rfl) (HQs _ _ _ _ _ _ _ _ _ _ W2 B2.out) _
end Go.Proofs.YtmdjgellmkjghaaDoor
