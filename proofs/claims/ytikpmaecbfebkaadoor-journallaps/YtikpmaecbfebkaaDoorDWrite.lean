/- What Write does. -/
import Derived.Test.YtikpmaecbfebkaaDoorDWait
namespace Go.Proofs.YtikpmaecbfebkaaDoor
open Go.RowKit
set_option linter.unusedVariables false

/-- A struct is read. -/
theorem op_rowD {P : Program} {n : Nat} {ops : Array Oper} {Q : Exit → Act → World → Prop} {i : Nat} {oi : Oper} {K : Act → World → Prop} {a : Act} {w : World} (hi : ops[i]? = some oi) (ty : TypeId) (x : Operand) (g : Nat) (t : TypeId) (cs : Array Value) (fr : Nat × Nat) (d : TypeDesc)
    (hw : Region.wanted oi (yielded ops a.tmps) = true) (ho : oi.op = .load ty x) (hx : a.eval x = .pointer (some ⟨g, 0, none⟩)) (hg : w.heap[g]? = some (.cells cs t fr)) (hu : P.underlying ty = some d)
    (hd : (match d with | .struct _ | .array _ _ => true | _ => false) = true) (hz : (P.info? ty).map (·.size) = some cs.size) (h : K (a.put oi.dst (.agg cs)) w) : wpOpIn Fence.wide n P ops Q i K a w :=
  op_value (.agg cs) hi hw (by
    unfold execOp
    simp only [ho, hx, Instr.loadAt, Instr.sureAddr, Sem.run_bind, Sem.run_pure, Result.andThen_ok, run_loadVar_row w g t ty cs fr d hg hu hd hz]) h
theorem write_nil (i : Int) (v : Value) (w : World) : Calls Tryd.prog 52 #[.pointer none, .int .i64 i, v] w fun e w' => e = .returned (.int .i64 2) ∧ w' = w := by
  go_enter Tryd.func52, Tryd.ntmps52
  go_wp2
  go_ret
  exact ⟨rfl, rfl⟩
set_option maxHeartbeats 800000 in
theorem write_no (m : DM) (n : Nat) (s : DS) (i : Int) (a : Option Addr) (len cap : Nat) (b : List (BitVec 8)) (w : World) (h : Dsk w m n s) (hl : len = b.length) (hw : whyW n s i b ≠ 0) :
    Calls Tryd.prog 52 #[.pointer (some ⟨m.D, 0, none⟩), .int .i64 i, .slice a len cap] w fun e w' => e = .returned (.int .i64 (whyW n s i b : Nat)) ∧ w' = w := by
  obtain ⟨_, _, _, _, c4, c5, _⟩ := h.cells
  have HH := has_any m n s i w h
  clear h
  subst hl
  cases hd : s.de with
  | true =>
    have e : whyW n s i b = 21 := by simp [whyW, hd]
    rw [e]
    rw [hd] at c4
    clear hw HH e
    go_enter Tryd.func52, Tryd.ntmps52
    go_wp2
    go_ret
    exact ⟨rfl, rfl⟩
  | false =>
    rw [hd] at c4
    by_cases hi : 0 ≤ i ∧ i < n
    · rw [decide_eq_true hi] at HH
      by_cases hb : 256 < b.length
      · have e : whyW n s i b = 3 := by simp [whyW, hd, hi, hb]
        rw [e]
        have hb' : (256 : Int) < (b.length : Int) := by omega
        clear hw e hi hb
        go_enter Tryd.func52, Tryd.ntmps52
        go_wp2_with fail
        refine HH.mono ?_
        rintro e w' ⟨rfl, rfl⟩
        go_wp2
        go_ret
        exact ⟨rfl, rfl⟩
      · cases hf : s.fu with
        | false => exact absurd (by simp [whyW, hd, hi, hb, hf]) hw
        | true =>
          have e : whyW n s i b = 4 := by simp [whyW, hd, hi, hb, hf]
          rw [e]
          rw [hf] at c5
          have hb' : decide ((256 : Int) < (b.length : Int)) = false := by simp; omega
          clear hw e hi
          go_enter Tryd.func52, Tryd.ntmps52
          go_wp2_with fail
          refine HH.mono ?_
          rintro e w' ⟨rfl, rfl⟩
          go_wp2
          go_ret
          exact ⟨rfl, rfl⟩
    · rw [decide_eq_false hi] at HH
      have e : whyW n s i b = 1 := by unfold whyW; rw [hd]; simp only [Bool.false_eq_true, if_false]; rw [if_pos hi]
      rw [e]
      clear hw e hi
      go_enter Tryd.func52, Tryd.ntmps52
      go_wp2_with fail
      refine HH.mono ?_
      rintro e w' ⟨rfl, rfl⟩
      go_wp2
      go_ret
      exact ⟨rfl, rfl⟩
set_option maxRecDepth 100000 in
set_option maxHeartbeats 8000000 in
theorem write_ok (m : DM) (n : Nat) (s : DS) (i : Nat) (a : Option Addr) (len cap : Nat) (b : List (BitVec 8)) (w : World) (h : Dsk w m n s) (hs : Seen w a len b) (hde : s.de = false) (hfu : s.fu = false) (hi : i < n) (hl : len ≤ 256) (hk : s.ws.length < 1000000) :
    Calls Tryd.prog 52 #[.pointer (some ⟨m.D, 0, none⟩), .int .i64 (i : Int), .slice a len cap] w fun e w' => ∃ m', e = .returned (.int .i64 0) ∧ m'.D = m.D ∧ Dsk w' m' n (wrote s i b) ∧ Only m w w' ∧ m.next m' w.heap.size := by
  have HH := has_any m n s i w h
  rw [decide_eq_true (by omega)] at HH
  have hbl : b.length ≤ 256 := by rw [← hs.1]; exact hl
  have hpl := pad_length hbl
  -- the write's own row
  obtain ⟨v1, hc1⟩ := copy_new w i a len cap b hs hl
  have bA : Below w.heap.size w (w.alloc (.cells (wcell (i, pad b)).toArray 95)) := (Below.refl _ w).alloc (Nat.le_refl _) _
  have hR : (w.alloc (.cells (wcell (i, pad b)).toArray 95)).heap[w.heap.size]? = some (.cells (wcell (i, pad b)).toArray 95 (0, 0)) := heap_alloc_new w _
  have zA : (w.alloc (.cells (wcell (i, pad b)).toArray 95)).heap.size = w.heap.size + 1 := by simp
  have hd2 : Dsk (w.alloc (.cells (wcell (i, pad b)).toArray 95)).drew m n s := h.below bA.drew
  have hsp : Seen (w.alloc (.cells (wcell (i, pad b)).toArray 95)).drew (some ⟨w.heap.size, 1, none⟩) 256 (pad b) := by
    refine ⟨hpl.symm, by rw [hpl]; unfold maxLen; omega, .inr ⟨w.heap.size, 1, rfl, fun j hj => ?_⟩⟩
    show (w.alloc (.cells (wcell (i, pad b)).toArray 95)).cell? _ = _
    simp only [World.cell?, hR]
    rw [List.getElem?_toArray, Nat.add_comm]
    simp [wcell, cellsOf, hj]
  obtain ⟨v3, w3, hc3, d3, j3⟩ := hd2.patch_now hi (some ⟨w.heap.size, 1, none⟩) 256 (pad b) hsp 3
  have HSc := sector_any m.gn (256 * n) m.cn i (w.alloc (.cells (wcell (i, pad b)).toArray 95)).drew (by have := h.ok.n2; omega) h.caps.2 (by have := h.ok.n2; omega)
  have lgn := h.lt (.inr (.inr (.inl rfl)) : m.own m.gn)
  have hR3 : w3.heap[w.heap.size]? = some (.cells (wcell (i, pad b)).toArray 95 (0, 0)) := by rw [j3.block _ (by omega)]; exact hR
  have d4 : Dsk w3.drew m n { s with now := patch s.now i (pad b) } := d3.below (Below.refl _ w3).drew
  obtain ⟨v5, w5, hr5, c5, f5, ⟨ad5, l5, cp5, rfl⟩, d5, o5, n5⟩ := d4.wait hi (pad b) hpl hk
  have O3 : Only m w w3 := ⟨j3.os.trans rfl, j3.tape.trans rfl, j3.output.trans rfl, by rw [j3.size]; show w.heap.size ≤ (w.alloc _).heap.size; simp, fun k hk ho => by
    rw [j3.block k (fun e => ho (.inr (.inr (.inl e))))]
    exact bA.block k hk⟩
  have z3 : w3.heap.size = w.heap.size + 1 := by rw [j3.size]; show (w.alloc _).heap.size = _; simp
  have hfin : Dsk (w5.setCell ⟨m.D, 2, none⟩ (.slice ad5 l5 cp5)) { m with wv := .slice ad5 l5 cp5 } n (wrote s i b) ∧ Only m w (w5.setCell ⟨m.D, 2, none⟩ (.slice ad5 l5 cp5)) ∧ m.next { m with wv := .slice ad5 l5 cp5 } w.heap.size :=
    ⟨d5, O3.trans (DM.next.refl m _) ⟨o5.os, o5.tape, o5.output, o5.size, o5.block⟩, ⟨rfl, rfl, rfl, fun k e => (n5.own k e).imp id (fun h2 => by have h3 : w3.heap.size ≤ k := h2; omega)⟩⟩
  obtain ⟨_, cn0, _, _, c40, c50, _⟩ := h.cells
  rw [hde] at c40
  rw [hfu] at c50
  obtain ⟨_, cn1, _⟩ := hd2.cells
  obtain ⟨_, _, cw4, _⟩ := d4.cells
  have hl' : decide ((256 : Int) < (len : Int)) = false := by simp; omega
  have FIN : Hid _ := hfin
  have C1 : Hid _ := hc1
  have C3 : Hid _ := hc3
  have R5 : Hid _ := hr5
  have HR3 : Hid (w3.heap[w.heap.size]? = some (.cells (wcell (i, pad b)).toArray 95 (0, 0))) := hR3
  have Z3 : Hid (w3.heap.size = w.heap.size + 1) := z3
  have HPL : Hid ((wcell (i, pad b)).toArray.size = 257) := by show (wcell (i, pad b)).toArray.size = 257; rw [List.size_toArray, wcell_length hpl]
  have CW : ∀ cs o, Hid ((w3.drew.alloc (.cells cs o)).cell? ⟨m.D, 2, none⟩ = some m.wv) := fun cs o => by
    show (w3.drew.alloc (.cells cs o)).cell? ⟨m.D, 2, none⟩ = _
    rw [((Below.refl _ w3.drew).alloc (Nat.le_refl _) _).cell (p := ⟨m.D, 2, none⟩) (World.block_lt_of_cell? _ _ cw4)]
    exact cw4
  have EB : Hid (∀ (ρ : Operand → Value) (o : Oper) (x : Operand) (w : World), o.op = .build 95 #[(0, x)] → ρ x = .int .i64 (i : Int) → (execOp ρ o).run Tryd.prog w = .ok (.value (.agg (wz i))) w) := fun ρ o x w h1 h2 => exec_buildW h1 h2
  have EA : Hid (∀ (ρ : Operand → Value) (o : Oper) (w : World), o.op = .alloc 95 → (execOp ρ o).run Tryd.prog w = .ok (.value (.pointer (some ⟨w.heap.size, 0, none⟩))) (w.alloc (.cells (wz 0) 95))) := fun ρ o w h1 => exec_allocW h1
  have Zi : Hid ((wz (i : Int)).size = 257 ∧ (wz (i : Int)).all (·.oneCell') = true) := ⟨wz_size _, wz_one _⟩
  have Z0 : Hid ((wz 0).size = 257) := wz_size 0
  generalize (wz (i : Int)) = zi at *
  generalize (wz 0) = z0 at *
  generalize (wcell (i, pad b)).toArray = row at *
  clear hfin hc1 hc3 hr5 hR3 z3 O3 d5 o5 n5 d4 d3 j3 hsp hd2 zA hR bA hs hi hl hk hbl hpl lgn cn0 h hde hfu
  go_enter Tryd.func52, Tryd.ntmps52
  go_wp2_with fail
  refine HH.mono ?_
  rintro e w' ⟨rfl, rfl⟩
  go_wp2_with (first
    | refine wpList_value rfl (EB.out _ _ (.tmp 30) _ rfl rfl) ?_
    | refine wpList_value rfl (EA.out _ _ _ rfl) ?_
    | (refine wpList_store_row rfl 95 (.tmp 7) (.tmp 31) rfl w'.heap.size zi rfl rfl 95 z0 (heap_alloc_new w' _) (by rw [Zi.out.1]; kernel_rfl) (by rw [Zi.out.1, Z0.out]) Zi.out.2 ?_; rw [World.setRow_alloc_new])
    | refine wpList_value rfl (exec_sliceW (x := .tmp 32) rfl rfl) ?_
    | refine wpList_value rfl (exec_copy (d := .tmp 33) (s := .tmp 34) (t := 22) (tn := 22) rfl rfl rfl C1.out) ?_)
  refine (wpIn_wide (n := 1)).1 ?_
  refine wpIn_region_any (by kernel_rfl) ?_
  change wpAnyIn _ _ _ _ _ _ _ _ _ (World.drew _)
  refine any_take 0 (oi := { dst := some 36, op := Go.Op.move (Go.Operand.tmp 0), type := 24, pos := "disk.go:93", after := #[], guard := none }) (.pointer (some ⟨m.D, 0, none⟩)) rfl (by kernel_rfl) (by kernel_rfl) (by kernel_rfl) (fun _ _ _ h => h) (by rfl) (by intro wq; go_simp <;> with_reducible rfl) (fun _ => rfl) ?_
  simp only [Act.put, List.setIfInBounds_toArray, List.set_cons_zero, List.set_cons_succ]
  refine any_take 1 (oi := { dst := some 37, op := Go.Op.nilCheck (Go.Operand.tmp 36), type := 0, pos := "disk.go:93", after := #[{ on := 0, ground := Go.Ground.data }], guard := none }) (.pointer (some ⟨m.D, 0, none⟩)) rfl (by kernel_rfl) (by kernel_rfl) (by kernel_rfl) (fun _ _ _ h => h) (by rfl) (by intro wq; go_simp <;> with_reducible rfl) (fun _ => rfl) ?_
  simp only [Act.put, List.setIfInBounds_toArray, List.set_cons_zero, List.set_cons_succ]
  refine any_take 2 (oi := { dst := some 38, op := Go.Op.fieldAddr 69 (Go.Operand.tmp 37) 1, type := 0, pos := "disk.go:93", after := #[{ on := 1, ground := Go.Ground.data }], guard := none }) (.pointer (some ⟨m.D, 1, none⟩)) rfl (by kernel_rfl) (by kernel_rfl) (by kernel_rfl) (fun _ _ _ h => h) (by rfl) (by intro wq; go_simp <;> with_reducible rfl) (fun _ => rfl) ?_
  simp only [Act.put, List.setIfInBounds_toArray, List.set_cons_zero, List.set_cons_succ]
  refine any_take 4 (oi := { dst := some 40, op := Go.Op.move (Go.Operand.tmp 1), type := 3, pos := "disk.go:93", after := #[], guard := none }) (.int .i64 (i : Int)) rfl (by kernel_rfl) (by kernel_rfl) (by kernel_rfl) (fun _ _ _ h => h) (by rfl) (by intro wq; go_simp <;> with_reducible rfl) (fun _ => rfl) ?_
  simp only [Act.put, List.setIfInBounds_toArray, List.set_cons_zero, List.set_cons_succ]
  refine any_take 6 (oi := { dst := some 42, op := Go.Op.fieldAddr 95 (Go.Operand.tmp 7) 1, type := 0, pos := "disk.go:93", after := #[], guard := none }) (.pointer (some ⟨w'.heap.size, 1, none⟩)) rfl (by kernel_rfl) (by kernel_rfl) (by kernel_rfl) (fun _ _ _ h => h) (by rfl) (by intro wq; go_simp <;> with_reducible rfl) (fun _ => rfl) ?_
  simp only [Act.put, List.setIfInBounds_toArray, List.set_cons_zero, List.set_cons_succ]
  refine any_two 3 7 (by kernel_rfl) ?_ ?_
  · -- 3
    refine op_value (.slice (some ⟨m.gn, 0, none⟩) (256 * n) m.cn) (i := 3) (oi := { dst := some 39, op := Go.Op.load 22 (Go.Operand.tmp 38), type := 22, pos := "disk.go:93", after := #[{ on := 2, ground := Go.Ground.data }], guard := none }) rfl (by rfl) (by go_simp <;> with_reducible rfl) ?_
    simp only [Act.put, List.setIfInBounds_toArray, List.set_cons_zero, List.set_cons_succ]
    refine any_two 5 7 (by kernel_rfl) ?_ ?_
    · -- 5
      refine op_call (i := 5) (oi := { dst := some 41, op := Go.Op.call { callee := Go.Callee.value (Go.Operand.func 57), args := #[Go.Operand.tmp 39, Go.Operand.tmp 40], argTypes := #[22, 3] }, type := 22, pos := "disk.go:93", after := #[{ on := 3, ground := Go.Ground.data }, { on := 4, ground := Go.Ground.data }], guard := none }) 57 _ rfl (by rfl) (by go_simp <;> with_reducible rfl) ?_
      refine (HSc).mono ?_
      rintro e w9 ⟨rfl, rfl⟩
      refine ⟨_, rfl, ?_⟩
      simp only [Act.put, List.setIfInBounds_toArray, List.set_cons_zero, List.set_cons_succ]
      refine any_one 7 (by kernel_rfl) ?_
      refine op_value (.slice (some ⟨w'.heap.size, 1, none⟩) 256 256) (i := 7) (oi := { dst := some 43, op := Go.Op.slice 93 (Go.Operand.tmp 42) none none none, type := 22, pos := "disk.go:93", after := #[{ on := 6, ground := Go.Ground.data }], guard := none }) rfl (by rfl) (exec_sliceW rfl rfl) ?_
      simp only [Act.put, List.setIfInBounds_toArray, List.set_cons_zero, List.set_cons_succ]
      refine any_one 8 (by kernel_rfl) ?_
      refine op_value (v3) (i := 8) (oi := { dst := some 44, op := Go.Op.call { callee := Go.Callee.builtin Go.Builtin.copy, args := #[Go.Operand.tmp 41, Go.Operand.tmp 43], argTypes := #[22, 22] }, type := 3, pos := "disk.go:93", after := #[{ on := 5, ground := Go.Ground.data }, { on := 7, ground := Go.Ground.data }, { on := 5, ground := Go.Ground.chain }], guard := none }) rfl (by rfl) (exec_copy (t := 22) (tn := 22) rfl rfl rfl C3.out) ?_
      simp only [Act.put, List.setIfInBounds_toArray, List.set_cons_zero, List.set_cons_succ]
      refine wpAnyIn_done (by kernel_rfl) ?_ _
      go_wp2_with fail
      refine (wpIn_wide (n := 1)).1 ?_
      refine wpIn_region_any (by kernel_rfl) ?_
      change wpAnyIn _ _ _ _ _ _ _ _ _ (World.drew _)
      refine any_take 0 (oi := { dst := some 45, op := Go.Op.move (Go.Operand.tmp 0), type := 24, pos := "disk.go:94", after := #[], guard := none }) (.pointer (some ⟨m.D, 0, none⟩)) rfl (by kernel_rfl) (by kernel_rfl) (by kernel_rfl) (fun _ _ _ h => h) (by rfl) (by intro wq; go_simp <;> with_reducible rfl) (fun _ => rfl) ?_
      simp only [Act.put, List.setIfInBounds_toArray, List.set_cons_zero, List.set_cons_succ]
      refine any_take 1 (oi := { dst := some 46, op := Go.Op.move (Go.Operand.tmp 0), type := 24, pos := "disk.go:94", after := #[], guard := none }) (.pointer (some ⟨m.D, 0, none⟩)) rfl (by kernel_rfl) (by kernel_rfl) (by kernel_rfl) (fun _ _ _ h => h) (by rfl) (by intro wq; go_simp <;> with_reducible rfl) (fun _ => rfl) ?_
      simp only [Act.put, List.setIfInBounds_toArray, List.set_cons_zero, List.set_cons_succ]
      refine any_take 2 (oi := { dst := some 47, op := Go.Op.nilCheck (Go.Operand.tmp 46), type := 0, pos := "disk.go:94", after := #[{ on := 1, ground := Go.Ground.data }], guard := none }) (.pointer (some ⟨m.D, 0, none⟩)) rfl (by kernel_rfl) (by kernel_rfl) (by kernel_rfl) (fun _ _ _ h => h) (by rfl) (by intro wq; go_simp <;> with_reducible rfl) (fun _ => rfl) ?_
      simp only [Act.put, List.setIfInBounds_toArray, List.set_cons_zero, List.set_cons_succ]
      refine any_take 3 (oi := { dst := some 48, op := Go.Op.fieldAddr 69 (Go.Operand.tmp 47) 2, type := 0, pos := "disk.go:94", after := #[{ on := 2, ground := Go.Ground.data }], guard := none }) (.pointer (some ⟨m.D, 2, none⟩)) rfl (by kernel_rfl) (by kernel_rfl) (by kernel_rfl) (fun _ _ _ h => h) (by rfl) (by intro wq; go_simp <;> with_reducible rfl) (fun _ => rfl) ?_
      simp only [Act.put, List.setIfInBounds_toArray, List.set_cons_zero, List.set_cons_succ]
      refine any_two 4 5 (by kernel_rfl) ?_ ?_
      · -- 4
        refine op_value (m.wv) (i := 4) (oi := { dst := some 49, op := Go.Op.load 67 (Go.Operand.tmp 48), type := 67, pos := "disk.go:94", after := #[{ on := 3, ground := Go.Ground.data }], guard := none }) rfl (by rfl) (by go_simp <;> with_reducible rfl) ?_
        simp only [Act.put, List.setIfInBounds_toArray, List.set_cons_zero, List.set_cons_succ]
        refine any_one 5 (by kernel_rfl) ?_
        refine op_rowD (i := 5) (oi := { dst := some 50, op := Go.Op.load 95 (Go.Operand.tmp 7), type := 95, pos := "disk.go:94", after := #[], guard := none }) rfl 95 (.tmp 7) w'.heap.size 95 row (0, 0) _ (by rfl) rfl rfl HR3.out Tryd.underlying95 rfl (by rw [HPL.out]; kernel_rfl) ?_
        simp only [Act.put, List.setIfInBounds_toArray, List.set_cons_zero, List.set_cons_succ]
        refine any_one 6 (by kernel_rfl) ?_
        refine op_value (.slice (some ⟨w3.heap.size, 0, none⟩) 1 1) (i := 6) (oi := { dst := some 51, op := Go.Op.buildSlice 67 1 #[(0, Go.Operand.tmp 50)], type := 67, pos := "disk.go:94", after := #[{ on := 5, ground := Go.Ground.data }], guard := none }) rfl (by rfl) (exec_rowW rfl rfl HPL.out) ?_
        simp only [Act.put, List.setIfInBounds_toArray, List.set_cons_zero, List.set_cons_succ]
        refine any_one 7 (by kernel_rfl) ?_
        refine op_value (.slice ad5 l5 cp5) (i := 7) (oi := { dst := some 52, op := Go.Op.call { callee := Go.Callee.builtin Go.Builtin.append, args := #[Go.Operand.tmp 49, Go.Operand.tmp 51], argTypes := #[67, 67] }, type := 67, pos := "disk.go:94", after := #[{ on := 4, ground := Go.Ground.data }, { on := 6, ground := Go.Ground.data }], guard := none }) rfl (by rfl) (exec_appendW (t := 67) rfl rfl rfl R5.out) ?_
        simp only [Act.put, List.setIfInBounds_toArray, List.set_cons_zero, List.set_cons_succ]
        refine any_one 8 (by kernel_rfl) ?_
        refine op_value (.pointer (some ⟨m.D, 0, none⟩)) (i := 8) (oi := { dst := some 53, op := Go.Op.nilCheck (Go.Operand.tmp 45), type := 0, pos := "disk.go:94", after := #[{ on := 0, ground := Go.Ground.data }, { on := 0, ground := Go.Ground.phase }, { on := 1, ground := Go.Ground.phase }, { on := 2, ground := Go.Ground.phase }, { on := 3, ground := Go.Ground.phase }, { on := 4, ground := Go.Ground.phase }, { on := 5, ground := Go.Ground.phase }, { on := 6, ground := Go.Ground.phase }, { on := 7, ground := Go.Ground.phase }], guard := none }) rfl (by rfl) (by go_simp <;> with_reducible rfl) ?_
        simp only [Act.put, List.setIfInBounds_toArray, List.set_cons_zero, List.set_cons_succ]
        refine any_one 9 (by kernel_rfl) ?_
        refine op_value (.pointer (some ⟨m.D, 2, none⟩)) (i := 9) (oi := { dst := some 54, op := Go.Op.fieldAddr 69 (Go.Operand.tmp 53) 2, type := 0, pos := "disk.go:94", after := #[{ on := 8, ground := Go.Ground.data }, { on := 0, ground := Go.Ground.phase }, { on := 1, ground := Go.Ground.phase }, { on := 2, ground := Go.Ground.phase }, { on := 3, ground := Go.Ground.phase }, { on := 4, ground := Go.Ground.phase }, { on := 5, ground := Go.Ground.phase }, { on := 6, ground := Go.Ground.phase }, { on := 7, ground := Go.Ground.phase }], guard := none }) rfl (by rfl) (by go_simp <;> with_reducible rfl) ?_
        simp only [Act.put, List.setIfInBounds_toArray, List.set_cons_zero, List.set_cons_succ]
        refine any_one 10 (by kernel_rfl) ?_
        refine op_effect (i := 10) (oi := { dst := none, op := Go.Op.store 67 (Go.Operand.tmp 54) (Go.Operand.tmp 52), type := 0, pos := "disk.go:94", after := #[{ on := 9, ground := Go.Ground.data }, { on := 7, ground := Go.Ground.data }, { on := 7, ground := Go.Ground.chain }, { on := 0, ground := Go.Ground.phase }, { on := 1, ground := Go.Ground.phase }, { on := 2, ground := Go.Ground.phase }, { on := 3, ground := Go.Ground.phase }, { on := 4, ground := Go.Ground.phase }, { on := 5, ground := Go.Ground.phase }, { on := 6, ground := Go.Ground.phase }, { on := 7, ground := Go.Ground.phase }], guard := none }) rfl (by rfl) (by go_simp <;> with_reducible rfl) ?_
        simp only [Act.put]
        refine wpAnyIn_done (by kernel_rfl) ?_ _
        go_wp2
        go_ret
        exact ⟨{ m with wv := .slice ad5 l5 cp5 }, rfl, rfl, FIN.out⟩
      · -- 5
        refine op_rowD (i := 5) (oi := { dst := some 50, op := Go.Op.load 95 (Go.Operand.tmp 7), type := 95, pos := "disk.go:94", after := #[], guard := none }) rfl 95 (.tmp 7) w'.heap.size 95 row (0, 0) _ (by rfl) rfl rfl HR3.out Tryd.underlying95 rfl (by rw [HPL.out]; kernel_rfl) ?_
        simp only [Act.put, List.setIfInBounds_toArray, List.set_cons_zero, List.set_cons_succ]
        refine any_two 4 6 (by kernel_rfl) ?_ ?_
        · -- 4
          refine op_value (m.wv) (i := 4) (oi := { dst := some 49, op := Go.Op.load 67 (Go.Operand.tmp 48), type := 67, pos := "disk.go:94", after := #[{ on := 3, ground := Go.Ground.data }], guard := none }) rfl (by rfl) (by go_simp <;> with_reducible rfl) ?_
          simp only [Act.put, List.setIfInBounds_toArray, List.set_cons_zero, List.set_cons_succ]
          refine any_one 6 (by kernel_rfl) ?_
          refine op_value (.slice (some ⟨w3.heap.size, 0, none⟩) 1 1) (i := 6) (oi := { dst := some 51, op := Go.Op.buildSlice 67 1 #[(0, Go.Operand.tmp 50)], type := 67, pos := "disk.go:94", after := #[{ on := 5, ground := Go.Ground.data }], guard := none }) rfl (by rfl) (exec_rowW rfl rfl HPL.out) ?_
          simp only [Act.put, List.setIfInBounds_toArray, List.set_cons_zero, List.set_cons_succ]
          refine any_one 7 (by kernel_rfl) ?_
          refine op_value (.slice ad5 l5 cp5) (i := 7) (oi := { dst := some 52, op := Go.Op.call { callee := Go.Callee.builtin Go.Builtin.append, args := #[Go.Operand.tmp 49, Go.Operand.tmp 51], argTypes := #[67, 67] }, type := 67, pos := "disk.go:94", after := #[{ on := 4, ground := Go.Ground.data }, { on := 6, ground := Go.Ground.data }], guard := none }) rfl (by rfl) (exec_appendW (t := 67) rfl rfl rfl R5.out) ?_
          simp only [Act.put, List.setIfInBounds_toArray, List.set_cons_zero, List.set_cons_succ]
          refine any_one 8 (by kernel_rfl) ?_
          refine op_value (.pointer (some ⟨m.D, 0, none⟩)) (i := 8) (oi := { dst := some 53, op := Go.Op.nilCheck (Go.Operand.tmp 45), type := 0, pos := "disk.go:94", after := #[{ on := 0, ground := Go.Ground.data }, { on := 0, ground := Go.Ground.phase }, { on := 1, ground := Go.Ground.phase }, { on := 2, ground := Go.Ground.phase }, { on := 3, ground := Go.Ground.phase }, { on := 4, ground := Go.Ground.phase }, { on := 5, ground := Go.Ground.phase }, { on := 6, ground := Go.Ground.phase }, { on := 7, ground := Go.Ground.phase }], guard := none }) rfl (by rfl) (by go_simp <;> with_reducible rfl) ?_
          simp only [Act.put, List.setIfInBounds_toArray, List.set_cons_zero, List.set_cons_succ]
          refine any_one 9 (by kernel_rfl) ?_
          refine op_value (.pointer (some ⟨m.D, 2, none⟩)) (i := 9) (oi := { dst := some 54, op := Go.Op.fieldAddr 69 (Go.Operand.tmp 53) 2, type := 0, pos := "disk.go:94", after := #[{ on := 8, ground := Go.Ground.data }, { on := 0, ground := Go.Ground.phase }, { on := 1, ground := Go.Ground.phase }, { on := 2, ground := Go.Ground.phase }, { on := 3, ground := Go.Ground.phase }, { on := 4, ground := Go.Ground.phase }, { on := 5, ground := Go.Ground.phase }, { on := 6, ground := Go.Ground.phase }, { on := 7, ground := Go.Ground.phase }], guard := none }) rfl (by rfl) (by go_simp <;> with_reducible rfl) ?_
          simp only [Act.put, List.setIfInBounds_toArray, List.set_cons_zero, List.set_cons_succ]
          refine any_one 10 (by kernel_rfl) ?_
          refine op_effect (i := 10) (oi := { dst := none, op := Go.Op.store 67 (Go.Operand.tmp 54) (Go.Operand.tmp 52), type := 0, pos := "disk.go:94", after := #[{ on := 9, ground := Go.Ground.data }, { on := 7, ground := Go.Ground.data }, { on := 7, ground := Go.Ground.chain }, { on := 0, ground := Go.Ground.phase }, { on := 1, ground := Go.Ground.phase }, { on := 2, ground := Go.Ground.phase }, { on := 3, ground := Go.Ground.phase }, { on := 4, ground := Go.Ground.phase }, { on := 5, ground := Go.Ground.phase }, { on := 6, ground := Go.Ground.phase }, { on := 7, ground := Go.Ground.phase }], guard := none }) rfl (by rfl) (by go_simp <;> with_reducible rfl) ?_
          simp only [Act.put]
          refine wpAnyIn_done (by kernel_rfl) ?_ _
          go_wp2
          go_ret
          exact ⟨{ m with wv := .slice ad5 l5 cp5 }, rfl, rfl, FIN.out⟩
        · -- 6
          refine op_value (.slice (some ⟨w3.heap.size, 0, none⟩) 1 1) (i := 6) (oi := { dst := some 51, op := Go.Op.buildSlice 67 1 #[(0, Go.Operand.tmp 50)], type := 67, pos := "disk.go:94", after := #[{ on := 5, ground := Go.Ground.data }], guard := none }) rfl (by rfl) (exec_rowW rfl rfl HPL.out) ?_
          simp only [Act.put, List.setIfInBounds_toArray, List.set_cons_zero, List.set_cons_succ]
          refine any_one 4 (by kernel_rfl) ?_
          have cwq : (w3.alloc (.cells row 95)).cell? ⟨m.D, 2, none⟩ = some m.wv := (CW row 95).out
          refine op_value (m.wv) (i := 4) (oi := { dst := some 49, op := Go.Op.load 67 (Go.Operand.tmp 48), type := 67, pos := "disk.go:94", after := #[{ on := 3, ground := Go.Ground.data }], guard := none }) rfl (by rfl) (by go_simp <;> with_reducible rfl) ?_
          simp only [Act.put, List.setIfInBounds_toArray, List.set_cons_zero, List.set_cons_succ]
          refine any_one 7 (by kernel_rfl) ?_
          refine op_value (.slice ad5 l5 cp5) (i := 7) (oi := { dst := some 52, op := Go.Op.call { callee := Go.Callee.builtin Go.Builtin.append, args := #[Go.Operand.tmp 49, Go.Operand.tmp 51], argTypes := #[67, 67] }, type := 67, pos := "disk.go:94", after := #[{ on := 4, ground := Go.Ground.data }, { on := 6, ground := Go.Ground.data }], guard := none }) rfl (by rfl) (exec_appendW (t := 67) rfl rfl rfl R5.out) ?_
          simp only [Act.put, List.setIfInBounds_toArray, List.set_cons_zero, List.set_cons_succ]
          refine any_one 8 (by kernel_rfl) ?_
          refine op_value (.pointer (some ⟨m.D, 0, none⟩)) (i := 8) (oi := { dst := some 53, op := Go.Op.nilCheck (Go.Operand.tmp 45), type := 0, pos := "disk.go:94", after := #[{ on := 0, ground := Go.Ground.data }, { on := 0, ground := Go.Ground.phase }, { on := 1, ground := Go.Ground.phase }, { on := 2, ground := Go.Ground.phase }, { on := 3, ground := Go.Ground.phase }, { on := 4, ground := Go.Ground.phase }, { on := 5, ground := Go.Ground.phase }, { on := 6, ground := Go.Ground.phase }, { on := 7, ground := Go.Ground.phase }], guard := none }) rfl (by rfl) (by go_simp <;> with_reducible rfl) ?_
          simp only [Act.put, List.setIfInBounds_toArray, List.set_cons_zero, List.set_cons_succ]
          refine any_one 9 (by kernel_rfl) ?_
          refine op_value (.pointer (some ⟨m.D, 2, none⟩)) (i := 9) (oi := { dst := some 54, op := Go.Op.fieldAddr 69 (Go.Operand.tmp 53) 2, type := 0, pos := "disk.go:94", after := #[{ on := 8, ground := Go.Ground.data }, { on := 0, ground := Go.Ground.phase }, { on := 1, ground := Go.Ground.phase }, { on := 2, ground := Go.Ground.phase }, { on := 3, ground := Go.Ground.phase }, { on := 4, ground := Go.Ground.phase }, { on := 5, ground := Go.Ground.phase }, { on := 6, ground := Go.Ground.phase }, { on := 7, ground := Go.Ground.phase }], guard := none }) rfl (by rfl) (by go_simp <;> with_reducible rfl) ?_
          simp only [Act.put, List.setIfInBounds_toArray, List.set_cons_zero, List.set_cons_succ]
          refine any_one 10 (by kernel_rfl) ?_
          refine op_effect (i := 10) (oi := { dst := none, op := Go.Op.store 67 (Go.Operand.tmp 54) (Go.Operand.tmp 52), type := 0, pos := "disk.go:94", after := #[{ on := 9, ground := Go.Ground.data }, { on := 7, ground := Go.Ground.data }, { on := 7, ground := Go.Ground.chain }, { on := 0, ground := Go.Ground.phase }, { on := 1, ground := Go.Ground.phase }, { on := 2, ground := Go.Ground.phase }, { on := 3, ground := Go.Ground.phase }, { on := 4, ground := Go.Ground.phase }, { on := 5, ground := Go.Ground.phase }, { on := 6, ground := Go.Ground.phase }, { on := 7, ground := Go.Ground.phase }], guard := none }) rfl (by rfl) (by go_simp <;> with_reducible rfl) ?_
          simp only [Act.put]
          refine wpAnyIn_done (by kernel_rfl) ?_ _
          go_wp2
          go_ret
          exact ⟨{ m with wv := .slice ad5 l5 cp5 }, rfl, rfl, FIN.out⟩
    · -- 7
      refine op_value (.slice (some ⟨w'.heap.size, 1, none⟩) 256 256) (i := 7) (oi := { dst := some 43, op := Go.Op.slice 93 (Go.Operand.tmp 42) none none none, type := 22, pos := "disk.go:93", after := #[{ on := 6, ground := Go.Ground.data }], guard := none }) rfl (by rfl) (exec_sliceW rfl rfl) ?_
      simp only [Act.put, List.setIfInBounds_toArray, List.set_cons_zero, List.set_cons_succ]
      refine any_one 5 (by kernel_rfl) ?_
      refine op_call (i := 5) (oi := { dst := some 41, op := Go.Op.call { callee := Go.Callee.value (Go.Operand.func 57), args := #[Go.Operand.tmp 39, Go.Operand.tmp 40], argTypes := #[22, 3] }, type := 22, pos := "disk.go:93", after := #[{ on := 3, ground := Go.Ground.data }, { on := 4, ground := Go.Ground.data }], guard := none }) 57 _ rfl (by rfl) (by go_simp <;> with_reducible rfl) ?_
      refine (HSc).mono ?_
      rintro e w9 ⟨rfl, rfl⟩
      refine ⟨_, rfl, ?_⟩
      simp only [Act.put, List.setIfInBounds_toArray, List.set_cons_zero, List.set_cons_succ]
      refine any_one 8 (by kernel_rfl) ?_
      refine op_value (v3) (i := 8) (oi := { dst := some 44, op := Go.Op.call { callee := Go.Callee.builtin Go.Builtin.copy, args := #[Go.Operand.tmp 41, Go.Operand.tmp 43], argTypes := #[22, 22] }, type := 3, pos := "disk.go:93", after := #[{ on := 5, ground := Go.Ground.data }, { on := 7, ground := Go.Ground.data }, { on := 5, ground := Go.Ground.chain }], guard := none }) rfl (by rfl) (exec_copy (t := 22) (tn := 22) rfl rfl rfl C3.out) ?_
      simp only [Act.put, List.setIfInBounds_toArray, List.set_cons_zero, List.set_cons_succ]
      refine wpAnyIn_done (by kernel_rfl) ?_ _
      go_wp2_with fail
      refine (wpIn_wide (n := 1)).1 ?_
      refine wpIn_region_any (by kernel_rfl) ?_
      change wpAnyIn _ _ _ _ _ _ _ _ _ (World.drew _)
      refine any_take 0 (oi := { dst := some 45, op := Go.Op.move (Go.Operand.tmp 0), type := 24, pos := "disk.go:94", after := #[], guard := none }) (.pointer (some ⟨m.D, 0, none⟩)) rfl (by kernel_rfl) (by kernel_rfl) (by kernel_rfl) (fun _ _ _ h => h) (by rfl) (by intro wq; go_simp <;> with_reducible rfl) (fun _ => rfl) ?_
      simp only [Act.put, List.setIfInBounds_toArray, List.set_cons_zero, List.set_cons_succ]
      refine any_take 1 (oi := { dst := some 46, op := Go.Op.move (Go.Operand.tmp 0), type := 24, pos := "disk.go:94", after := #[], guard := none }) (.pointer (some ⟨m.D, 0, none⟩)) rfl (by kernel_rfl) (by kernel_rfl) (by kernel_rfl) (fun _ _ _ h => h) (by rfl) (by intro wq; go_simp <;> with_reducible rfl) (fun _ => rfl) ?_
      simp only [Act.put, List.setIfInBounds_toArray, List.set_cons_zero, List.set_cons_succ]
      refine any_take 2 (oi := { dst := some 47, op := Go.Op.nilCheck (Go.Operand.tmp 46), type := 0, pos := "disk.go:94", after := #[{ on := 1, ground := Go.Ground.data }], guard := none }) (.pointer (some ⟨m.D, 0, none⟩)) rfl (by kernel_rfl) (by kernel_rfl) (by kernel_rfl) (fun _ _ _ h => h) (by rfl) (by intro wq; go_simp <;> with_reducible rfl) (fun _ => rfl) ?_
      simp only [Act.put, List.setIfInBounds_toArray, List.set_cons_zero, List.set_cons_succ]
      refine any_take 3 (oi := { dst := some 48, op := Go.Op.fieldAddr 69 (Go.Operand.tmp 47) 2, type := 0, pos := "disk.go:94", after := #[{ on := 2, ground := Go.Ground.data }], guard := none }) (.pointer (some ⟨m.D, 2, none⟩)) rfl (by kernel_rfl) (by kernel_rfl) (by kernel_rfl) (fun _ _ _ h => h) (by rfl) (by intro wq; go_simp <;> with_reducible rfl) (fun _ => rfl) ?_
      simp only [Act.put, List.setIfInBounds_toArray, List.set_cons_zero, List.set_cons_succ]
      refine any_two 4 5 (by kernel_rfl) ?_ ?_
      · -- 4
        refine op_value (m.wv) (i := 4) (oi := { dst := some 49, op := Go.Op.load 67 (Go.Operand.tmp 48), type := 67, pos := "disk.go:94", after := #[{ on := 3, ground := Go.Ground.data }], guard := none }) rfl (by rfl) (by go_simp <;> with_reducible rfl) ?_
        simp only [Act.put, List.setIfInBounds_toArray, List.set_cons_zero, List.set_cons_succ]
        refine any_one 5 (by kernel_rfl) ?_
        refine op_rowD (i := 5) (oi := { dst := some 50, op := Go.Op.load 95 (Go.Operand.tmp 7), type := 95, pos := "disk.go:94", after := #[], guard := none }) rfl 95 (.tmp 7) w'.heap.size 95 row (0, 0) _ (by rfl) rfl rfl HR3.out Tryd.underlying95 rfl (by rw [HPL.out]; kernel_rfl) ?_
        simp only [Act.put, List.setIfInBounds_toArray, List.set_cons_zero, List.set_cons_succ]
        refine any_one 6 (by kernel_rfl) ?_
        refine op_value (.slice (some ⟨w3.heap.size, 0, none⟩) 1 1) (i := 6) (oi := { dst := some 51, op := Go.Op.buildSlice 67 1 #[(0, Go.Operand.tmp 50)], type := 67, pos := "disk.go:94", after := #[{ on := 5, ground := Go.Ground.data }], guard := none }) rfl (by rfl) (exec_rowW rfl rfl HPL.out) ?_
        simp only [Act.put, List.setIfInBounds_toArray, List.set_cons_zero, List.set_cons_succ]
        refine any_one 7 (by kernel_rfl) ?_
        refine op_value (.slice ad5 l5 cp5) (i := 7) (oi := { dst := some 52, op := Go.Op.call { callee := Go.Callee.builtin Go.Builtin.append, args := #[Go.Operand.tmp 49, Go.Operand.tmp 51], argTypes := #[67, 67] }, type := 67, pos := "disk.go:94", after := #[{ on := 4, ground := Go.Ground.data }, { on := 6, ground := Go.Ground.data }], guard := none }) rfl (by rfl) (exec_appendW (t := 67) rfl rfl rfl R5.out) ?_
        simp only [Act.put, List.setIfInBounds_toArray, List.set_cons_zero, List.set_cons_succ]
        refine any_one 8 (by kernel_rfl) ?_
        refine op_value (.pointer (some ⟨m.D, 0, none⟩)) (i := 8) (oi := { dst := some 53, op := Go.Op.nilCheck (Go.Operand.tmp 45), type := 0, pos := "disk.go:94", after := #[{ on := 0, ground := Go.Ground.data }, { on := 0, ground := Go.Ground.phase }, { on := 1, ground := Go.Ground.phase }, { on := 2, ground := Go.Ground.phase }, { on := 3, ground := Go.Ground.phase }, { on := 4, ground := Go.Ground.phase }, { on := 5, ground := Go.Ground.phase }, { on := 6, ground := Go.Ground.phase }, { on := 7, ground := Go.Ground.phase }], guard := none }) rfl (by rfl) (by go_simp <;> with_reducible rfl) ?_
        simp only [Act.put, List.setIfInBounds_toArray, List.set_cons_zero, List.set_cons_succ]
        refine any_one 9 (by kernel_rfl) ?_
        refine op_value (.pointer (some ⟨m.D, 2, none⟩)) (i := 9) (oi := { dst := some 54, op := Go.Op.fieldAddr 69 (Go.Operand.tmp 53) 2, type := 0, pos := "disk.go:94", after := #[{ on := 8, ground := Go.Ground.data }, { on := 0, ground := Go.Ground.phase }, { on := 1, ground := Go.Ground.phase }, { on := 2, ground := Go.Ground.phase }, { on := 3, ground := Go.Ground.phase }, { on := 4, ground := Go.Ground.phase }, { on := 5, ground := Go.Ground.phase }, { on := 6, ground := Go.Ground.phase }, { on := 7, ground := Go.Ground.phase }], guard := none }) rfl (by rfl) (by go_simp <;> with_reducible rfl) ?_
        simp only [Act.put, List.setIfInBounds_toArray, List.set_cons_zero, List.set_cons_succ]
        refine any_one 10 (by kernel_rfl) ?_
        refine op_effect (i := 10) (oi := { dst := none, op := Go.Op.store 67 (Go.Operand.tmp 54) (Go.Operand.tmp 52), type := 0, pos := "disk.go:94", after := #[{ on := 9, ground := Go.Ground.data }, { on := 7, ground := Go.Ground.data }, { on := 7, ground := Go.Ground.chain }, { on := 0, ground := Go.Ground.phase }, { on := 1, ground := Go.Ground.phase }, { on := 2, ground := Go.Ground.phase }, { on := 3, ground := Go.Ground.phase }, { on := 4, ground := Go.Ground.phase }, { on := 5, ground := Go.Ground.phase }, { on := 6, ground := Go.Ground.phase }, { on := 7, ground := Go.Ground.phase }], guard := none }) rfl (by rfl) (by go_simp <;> with_reducible rfl) ?_
        simp only [Act.put]
        refine wpAnyIn_done (by kernel_rfl) ?_ _
        go_wp2
        go_ret
        exact ⟨{ m with wv := .slice ad5 l5 cp5 }, rfl, rfl, FIN.out⟩
      · -- 5
        refine op_rowD (i := 5) (oi := { dst := some 50, op := Go.Op.load 95 (Go.Operand.tmp 7), type := 95, pos := "disk.go:94", after := #[], guard := none }) rfl 95 (.tmp 7) w'.heap.size 95 row (0, 0) _ (by rfl) rfl rfl HR3.out Tryd.underlying95 rfl (by rw [HPL.out]; kernel_rfl) ?_
        simp only [Act.put, List.setIfInBounds_toArray, List.set_cons_zero, List.set_cons_succ]
        refine any_two 4 6 (by kernel_rfl) ?_ ?_
        · -- 4
          refine op_value (m.wv) (i := 4) (oi := { dst := some 49, op := Go.Op.load 67 (Go.Operand.tmp 48), type := 67, pos := "disk.go:94", after := #[{ on := 3, ground := Go.Ground.data }], guard := none }) rfl (by rfl) (by go_simp <;> with_reducible rfl) ?_
          simp only [Act.put, List.setIfInBounds_toArray, List.set_cons_zero, List.set_cons_succ]
          refine any_one 6 (by kernel_rfl) ?_
          refine op_value (.slice (some ⟨w3.heap.size, 0, none⟩) 1 1) (i := 6) (oi := { dst := some 51, op := Go.Op.buildSlice 67 1 #[(0, Go.Operand.tmp 50)], type := 67, pos := "disk.go:94", after := #[{ on := 5, ground := Go.Ground.data }], guard := none }) rfl (by rfl) (exec_rowW rfl rfl HPL.out) ?_
          simp only [Act.put, List.setIfInBounds_toArray, List.set_cons_zero, List.set_cons_succ]
          refine any_one 7 (by kernel_rfl) ?_
          refine op_value (.slice ad5 l5 cp5) (i := 7) (oi := { dst := some 52, op := Go.Op.call { callee := Go.Callee.builtin Go.Builtin.append, args := #[Go.Operand.tmp 49, Go.Operand.tmp 51], argTypes := #[67, 67] }, type := 67, pos := "disk.go:94", after := #[{ on := 4, ground := Go.Ground.data }, { on := 6, ground := Go.Ground.data }], guard := none }) rfl (by rfl) (exec_appendW (t := 67) rfl rfl rfl R5.out) ?_
          simp only [Act.put, List.setIfInBounds_toArray, List.set_cons_zero, List.set_cons_succ]
          refine any_one 8 (by kernel_rfl) ?_
          refine op_value (.pointer (some ⟨m.D, 0, none⟩)) (i := 8) (oi := { dst := some 53, op := Go.Op.nilCheck (Go.Operand.tmp 45), type := 0, pos := "disk.go:94", after := #[{ on := 0, ground := Go.Ground.data }, { on := 0, ground := Go.Ground.phase }, { on := 1, ground := Go.Ground.phase }, { on := 2, ground := Go.Ground.phase }, { on := 3, ground := Go.Ground.phase }, { on := 4, ground := Go.Ground.phase }, { on := 5, ground := Go.Ground.phase }, { on := 6, ground := Go.Ground.phase }, { on := 7, ground := Go.Ground.phase }], guard := none }) rfl (by rfl) (by go_simp <;> with_reducible rfl) ?_
          simp only [Act.put, List.setIfInBounds_toArray, List.set_cons_zero, List.set_cons_succ]
          refine any_one 9 (by kernel_rfl) ?_
          refine op_value (.pointer (some ⟨m.D, 2, none⟩)) (i := 9) (oi := { dst := some 54, op := Go.Op.fieldAddr 69 (Go.Operand.tmp 53) 2, type := 0, pos := "disk.go:94", after := #[{ on := 8, ground := Go.Ground.data }, { on := 0, ground := Go.Ground.phase }, { on := 1, ground := Go.Ground.phase }, { on := 2, ground := Go.Ground.phase }, { on := 3, ground := Go.Ground.phase }, { on := 4, ground := Go.Ground.phase }, { on := 5, ground := Go.Ground.phase }, { on := 6, ground := Go.Ground.phase }, { on := 7, ground := Go.Ground.phase }], guard := none }) rfl (by rfl) (by go_simp <;> with_reducible rfl) ?_
          simp only [Act.put, List.setIfInBounds_toArray, List.set_cons_zero, List.set_cons_succ]
          refine any_one 10 (by kernel_rfl) ?_
          refine op_effect (i := 10) (oi := { dst := none, op := Go.Op.store 67 (Go.Operand.tmp 54) (Go.Operand.tmp 52), type := 0, pos := "disk.go:94", after := #[{ on := 9, ground := Go.Ground.data }, { on := 7, ground := Go.Ground.data }, { on := 7, ground := Go.Ground.chain }, { on := 0, ground := Go.Ground.phase }, { on := 1, ground := Go.Ground.phase }, { on := 2, ground := Go.Ground.phase }, { on := 3, ground := Go.Ground.phase }, { on := 4, ground := Go.Ground.phase }, { on := 5, ground := Go.Ground.phase }, { on := 6, ground := Go.Ground.phase }, { on := 7, ground := Go.Ground.phase }], guard := none }) rfl (by rfl) (by go_simp <;> with_reducible rfl) ?_
          simp only [Act.put]
          refine wpAnyIn_done (by kernel_rfl) ?_ _
          go_wp2
          go_ret
          exact ⟨{ m with wv := .slice ad5 l5 cp5 }, rfl, rfl, FIN.out⟩
        · -- 6
          refine op_value (.slice (some ⟨w3.heap.size, 0, none⟩) 1 1) (i := 6) (oi := { dst := some 51, op := Go.Op.buildSlice 67 1 #[(0, Go.Operand.tmp 50)], type := 67, pos := "disk.go:94", after := #[{ on := 5, ground := Go.Ground.data }], guard := none }) rfl (by rfl) (exec_rowW rfl rfl HPL.out) ?_
          simp only [Act.put, List.setIfInBounds_toArray, List.set_cons_zero, List.set_cons_succ]
          refine any_one 4 (by kernel_rfl) ?_
          have cwq : (w3.alloc (.cells row 95)).cell? ⟨m.D, 2, none⟩ = some m.wv := (CW row 95).out
          refine op_value (m.wv) (i := 4) (oi := { dst := some 49, op := Go.Op.load 67 (Go.Operand.tmp 48), type := 67, pos := "disk.go:94", after := #[{ on := 3, ground := Go.Ground.data }], guard := none }) rfl (by rfl) (by go_simp <;> with_reducible rfl) ?_
          simp only [Act.put, List.setIfInBounds_toArray, List.set_cons_zero, List.set_cons_succ]
          refine any_one 7 (by kernel_rfl) ?_
          refine op_value (.slice ad5 l5 cp5) (i := 7) (oi := { dst := some 52, op := Go.Op.call { callee := Go.Callee.builtin Go.Builtin.append, args := #[Go.Operand.tmp 49, Go.Operand.tmp 51], argTypes := #[67, 67] }, type := 67, pos := "disk.go:94", after := #[{ on := 4, ground := Go.Ground.data }, { on := 6, ground := Go.Ground.data }], guard := none }) rfl (by rfl) (exec_appendW (t := 67) rfl rfl rfl R5.out) ?_
          simp only [Act.put, List.setIfInBounds_toArray, List.set_cons_zero, List.set_cons_succ]
          refine any_one 8 (by kernel_rfl) ?_
          refine op_value (.pointer (some ⟨m.D, 0, none⟩)) (i := 8) (oi := { dst := some 53, op := Go.Op.nilCheck (Go.Operand.tmp 45), type := 0, pos := "disk.go:94", after := #[{ on := 0, ground := Go.Ground.data }, { on := 0, ground := Go.Ground.phase }, { on := 1, ground := Go.Ground.phase }, { on := 2, ground := Go.Ground.phase }, { on := 3, ground := Go.Ground.phase }, { on := 4, ground := Go.Ground.phase }, { on := 5, ground := Go.Ground.phase }, { on := 6, ground := Go.Ground.phase }, { on := 7, ground := Go.Ground.phase }], guard := none }) rfl (by rfl) (by go_simp <;> with_reducible rfl) ?_
          simp only [Act.put, List.setIfInBounds_toArray, List.set_cons_zero, List.set_cons_succ]
          refine any_one 9 (by kernel_rfl) ?_
          refine op_value (.pointer (some ⟨m.D, 2, none⟩)) (i := 9) (oi := { dst := some 54, op := Go.Op.fieldAddr 69 (Go.Operand.tmp 53) 2, type := 0, pos := "disk.go:94", after := #[{ on := 8, ground := Go.Ground.data }, { on := 0, ground := Go.Ground.phase }, { on := 1, ground := Go.Ground.phase }, { on := 2, ground := Go.Ground.phase }, { on := 3, ground := Go.Ground.phase }, { on := 4, ground := Go.Ground.phase }, { on := 5, ground := Go.Ground.phase }, { on := 6, ground := Go.Ground.phase }, { on := 7, ground := Go.Ground.phase }], guard := none }) rfl (by rfl) (by go_simp <;> with_reducible rfl) ?_
          simp only [Act.put, List.setIfInBounds_toArray, List.set_cons_zero, List.set_cons_succ]
          refine any_one 10 (by kernel_rfl) ?_
          refine op_effect (i := 10) (oi := { dst := none, op := Go.Op.store 67 (Go.Operand.tmp 54) (Go.Operand.tmp 52), type := 0, pos := "disk.go:94", after := #[{ on := 9, ground := Go.Ground.data }, { on := 7, ground := Go.Ground.data }, { on := 7, ground := Go.Ground.chain }, { on := 0, ground := Go.Ground.phase }, { on := 1, ground := Go.Ground.phase }, { on := 2, ground := Go.Ground.phase }, { on := 3, ground := Go.Ground.phase }, { on := 4, ground := Go.Ground.phase }, { on := 5, ground := Go.Ground.phase }, { on := 6, ground := Go.Ground.phase }, { on := 7, ground := Go.Ground.phase }], guard := none }) rfl (by rfl) (by go_simp <;> with_reducible rfl) ?_
          simp only [Act.put]
          refine wpAnyIn_done (by kernel_rfl) ?_ _
          go_wp2
          go_ret
          exact ⟨{ m with wv := .slice ad5 l5 cp5 }, rfl, rfl, FIN.out⟩
  · -- 7
    refine op_value (.slice (some ⟨w'.heap.size, 1, none⟩) 256 256) (i := 7) (oi := { dst := some 43, op := Go.Op.slice 93 (Go.Operand.tmp 42) none none none, type := 22, pos := "disk.go:93", after := #[{ on := 6, ground := Go.Ground.data }], guard := none }) rfl (by rfl) (exec_sliceW rfl rfl) ?_
    simp only [Act.put, List.setIfInBounds_toArray, List.set_cons_zero, List.set_cons_succ]
    refine any_one 3 (by kernel_rfl) ?_
    refine op_value (.slice (some ⟨m.gn, 0, none⟩) (256 * n) m.cn) (i := 3) (oi := { dst := some 39, op := Go.Op.load 22 (Go.Operand.tmp 38), type := 22, pos := "disk.go:93", after := #[{ on := 2, ground := Go.Ground.data }], guard := none }) rfl (by rfl) (by go_simp <;> with_reducible rfl) ?_
    simp only [Act.put, List.setIfInBounds_toArray, List.set_cons_zero, List.set_cons_succ]
    refine any_one 5 (by kernel_rfl) ?_
    refine op_call (i := 5) (oi := { dst := some 41, op := Go.Op.call { callee := Go.Callee.value (Go.Operand.func 57), args := #[Go.Operand.tmp 39, Go.Operand.tmp 40], argTypes := #[22, 3] }, type := 22, pos := "disk.go:93", after := #[{ on := 3, ground := Go.Ground.data }, { on := 4, ground := Go.Ground.data }], guard := none }) 57 _ rfl (by rfl) (by go_simp <;> with_reducible rfl) ?_
    refine (HSc).mono ?_
    rintro e w9 ⟨rfl, rfl⟩
    refine ⟨_, rfl, ?_⟩
    simp only [Act.put, List.setIfInBounds_toArray, List.set_cons_zero, List.set_cons_succ]
    refine any_one 8 (by kernel_rfl) ?_
    refine op_value (v3) (i := 8) (oi := { dst := some 44, op := Go.Op.call { callee := Go.Callee.builtin Go.Builtin.copy, args := #[Go.Operand.tmp 41, Go.Operand.tmp 43], argTypes := #[22, 22] }, type := 3, pos := "disk.go:93", after := #[{ on := 5, ground := Go.Ground.data }, { on := 7, ground := Go.Ground.data }, { on := 5, ground := Go.Ground.chain }], guard := none }) rfl (by rfl) (exec_copy (t := 22) (tn := 22) rfl rfl rfl C3.out) ?_
    simp only [Act.put, List.setIfInBounds_toArray, List.set_cons_zero, List.set_cons_succ]
    refine wpAnyIn_done (by kernel_rfl) ?_ _
    go_wp2_with fail
    refine (wpIn_wide (n := 1)).1 ?_
    refine wpIn_region_any (by kernel_rfl) ?_
    change wpAnyIn _ _ _ _ _ _ _ _ _ (World.drew _)
    refine any_take 0 (oi := { dst := some 45, op := Go.Op.move (Go.Operand.tmp 0), type := 24, pos := "disk.go:94", after := #[], guard := none }) (.pointer (some ⟨m.D, 0, none⟩)) rfl (by kernel_rfl) (by kernel_rfl) (by kernel_rfl) (fun _ _ _ h => h) (by rfl) (by intro wq; go_simp <;> with_reducible rfl) (fun _ => rfl) ?_
    simp only [Act.put, List.setIfInBounds_toArray, List.set_cons_zero, List.set_cons_succ]
    refine any_take 1 (oi := { dst := some 46, op := Go.Op.move (Go.Operand.tmp 0), type := 24, pos := "disk.go:94", after := #[], guard := none }) (.pointer (some ⟨m.D, 0, none⟩)) rfl (by kernel_rfl) (by kernel_rfl) (by kernel_rfl) (fun _ _ _ h => h) (by rfl) (by intro wq; go_simp <;> with_reducible rfl) (fun _ => rfl) ?_
    simp only [Act.put, List.setIfInBounds_toArray, List.set_cons_zero, List.set_cons_succ]
    refine any_take 2 (oi := { dst := some 47, op := Go.Op.nilCheck (Go.Operand.tmp 46), type := 0, pos := "disk.go:94", after := #[{ on := 1, ground := Go.Ground.data }], guard := none }) (.pointer (some ⟨m.D, 0, none⟩)) rfl (by kernel_rfl) (by kernel_rfl) (by kernel_rfl) (fun _ _ _ h => h) (by rfl) (by intro wq; go_simp <;> with_reducible rfl) (fun _ => rfl) ?_
    simp only [Act.put, List.setIfInBounds_toArray, List.set_cons_zero, List.set_cons_succ]
    refine any_take 3 (oi := { dst := some 48, op := Go.Op.fieldAddr 69 (Go.Operand.tmp 47) 2, type := 0, pos := "disk.go:94", after := #[{ on := 2, ground := Go.Ground.data }], guard := none }) (.pointer (some ⟨m.D, 2, none⟩)) rfl (by kernel_rfl) (by kernel_rfl) (by kernel_rfl) (fun _ _ _ h => h) (by rfl) (by intro wq; go_simp <;> with_reducible rfl) (fun _ => rfl) ?_
    simp only [Act.put, List.setIfInBounds_toArray, List.set_cons_zero, List.set_cons_succ]
    refine any_two 4 5 (by kernel_rfl) ?_ ?_
    · -- 4
      refine op_value (m.wv) (i := 4) (oi := { dst := some 49, op := Go.Op.load 67 (Go.Operand.tmp 48), type := 67, pos := "disk.go:94", after := #[{ on := 3, ground := Go.Ground.data }], guard := none }) rfl (by rfl) (by go_simp <;> with_reducible rfl) ?_
      simp only [Act.put, List.setIfInBounds_toArray, List.set_cons_zero, List.set_cons_succ]
      refine any_one 5 (by kernel_rfl) ?_
      refine op_rowD (i := 5) (oi := { dst := some 50, op := Go.Op.load 95 (Go.Operand.tmp 7), type := 95, pos := "disk.go:94", after := #[], guard := none }) rfl 95 (.tmp 7) w'.heap.size 95 row (0, 0) _ (by rfl) rfl rfl HR3.out Tryd.underlying95 rfl (by rw [HPL.out]; kernel_rfl) ?_
      simp only [Act.put, List.setIfInBounds_toArray, List.set_cons_zero, List.set_cons_succ]
      refine any_one 6 (by kernel_rfl) ?_
      refine op_value (.slice (some ⟨w3.heap.size, 0, none⟩) 1 1) (i := 6) (oi := { dst := some 51, op := Go.Op.buildSlice 67 1 #[(0, Go.Operand.tmp 50)], type := 67, pos := "disk.go:94", after := #[{ on := 5, ground := Go.Ground.data }], guard := none }) rfl (by rfl) (exec_rowW rfl rfl HPL.out) ?_
      simp only [Act.put, List.setIfInBounds_toArray, List.set_cons_zero, List.set_cons_succ]
      refine any_one 7 (by kernel_rfl) ?_
      refine op_value (.slice ad5 l5 cp5) (i := 7) (oi := { dst := some 52, op := Go.Op.call { callee := Go.Callee.builtin Go.Builtin.append, args := #[Go.Operand.tmp 49, Go.Operand.tmp 51], argTypes := #[67, 67] }, type := 67, pos := "disk.go:94", after := #[{ on := 4, ground := Go.Ground.data }, { on := 6, ground := Go.Ground.data }], guard := none }) rfl (by rfl) (exec_appendW (t := 67) rfl rfl rfl R5.out) ?_
      simp only [Act.put, List.setIfInBounds_toArray, List.set_cons_zero, List.set_cons_succ]
      refine any_one 8 (by kernel_rfl) ?_
      refine op_value (.pointer (some ⟨m.D, 0, none⟩)) (i := 8) (oi := { dst := some 53, op := Go.Op.nilCheck (Go.Operand.tmp 45), type := 0, pos := "disk.go:94", after := #[{ on := 0, ground := Go.Ground.data }, { on := 0, ground := Go.Ground.phase }, { on := 1, ground := Go.Ground.phase }, { on := 2, ground := Go.Ground.phase }, { on := 3, ground := Go.Ground.phase }, { on := 4, ground := Go.Ground.phase }, { on := 5, ground := Go.Ground.phase }, { on := 6, ground := Go.Ground.phase }, { on := 7, ground := Go.Ground.phase }], guard := none }) rfl (by rfl) (by go_simp <;> with_reducible rfl) ?_
      simp only [Act.put, List.setIfInBounds_toArray, List.set_cons_zero, List.set_cons_succ]
      refine any_one 9 (by kernel_rfl) ?_
      refine op_value (.pointer (some ⟨m.D, 2, none⟩)) (i := 9) (oi := { dst := some 54, op := Go.Op.fieldAddr 69 (Go.Operand.tmp 53) 2, type := 0, pos := "disk.go:94", after := #[{ on := 8, ground := Go.Ground.data }, { on := 0, ground := Go.Ground.phase }, { on := 1, ground := Go.Ground.phase }, { on := 2, ground := Go.Ground.phase }, { on := 3, ground := Go.Ground.phase }, { on := 4, ground := Go.Ground.phase }, { on := 5, ground := Go.Ground.phase }, { on := 6, ground := Go.Ground.phase }, { on := 7, ground := Go.Ground.phase }], guard := none }) rfl (by rfl) (by go_simp <;> with_reducible rfl) ?_
      simp only [Act.put, List.setIfInBounds_toArray, List.set_cons_zero, List.set_cons_succ]
      refine any_one 10 (by kernel_rfl) ?_
      refine op_effect (i := 10) (oi := { dst := none, op := Go.Op.store 67 (Go.Operand.tmp 54) (Go.Operand.tmp 52), type := 0, pos := "disk.go:94", after := #[{ on := 9, ground := Go.Ground.data }, { on := 7, ground := Go.Ground.data }, { on := 7, ground := Go.Ground.chain }, { on := 0, ground := Go.Ground.phase }, { on := 1, ground := Go.Ground.phase }, { on := 2, ground := Go.Ground.phase }, { on := 3, ground := Go.Ground.phase }, { on := 4, ground := Go.Ground.phase }, { on := 5, ground := Go.Ground.phase }, { on := 6, ground := Go.Ground.phase }, { on := 7, ground := Go.Ground.phase }], guard := none }) rfl (by rfl) (by go_simp <;> with_reducible rfl) ?_
      simp only [Act.put]
      refine wpAnyIn_done (by kernel_rfl) ?_ _
      go_wp2
      go_ret
      exact ⟨{ m with wv := .slice ad5 l5 cp5 }, rfl, rfl, FIN.out⟩
    · -- 5
      refine op_rowD (i := 5) (oi := { dst := some 50, op := Go.Op.load 95 (Go.Operand.tmp 7), type := 95, pos := "disk.go:94", after := #[], guard := none }) rfl 95 (.tmp 7) w'.heap.size 95 row (0, 0) _ (by rfl) rfl rfl HR3.out Tryd.underlying95 rfl (by rw [HPL.out]; kernel_rfl) ?_
      simp only [Act.put, List.setIfInBounds_toArray, List.set_cons_zero, List.set_cons_succ]
      refine any_two 4 6 (by kernel_rfl) ?_ ?_
      · -- 4
        refine op_value (m.wv) (i := 4) (oi := { dst := some 49, op := Go.Op.load 67 (Go.Operand.tmp 48), type := 67, pos := "disk.go:94", after := #[{ on := 3, ground := Go.Ground.data }], guard := none }) rfl (by rfl) (by go_simp <;> with_reducible rfl) ?_
        simp only [Act.put, List.setIfInBounds_toArray, List.set_cons_zero, List.set_cons_succ]
        refine any_one 6 (by kernel_rfl) ?_
        refine op_value (.slice (some ⟨w3.heap.size, 0, none⟩) 1 1) (i := 6) (oi := { dst := some 51, op := Go.Op.buildSlice 67 1 #[(0, Go.Operand.tmp 50)], type := 67, pos := "disk.go:94", after := #[{ on := 5, ground := Go.Ground.data }], guard := none }) rfl (by rfl) (exec_rowW rfl rfl HPL.out) ?_
        simp only [Act.put, List.setIfInBounds_toArray, List.set_cons_zero, List.set_cons_succ]
        refine any_one 7 (by kernel_rfl) ?_
        refine op_value (.slice ad5 l5 cp5) (i := 7) (oi := { dst := some 52, op := Go.Op.call { callee := Go.Callee.builtin Go.Builtin.append, args := #[Go.Operand.tmp 49, Go.Operand.tmp 51], argTypes := #[67, 67] }, type := 67, pos := "disk.go:94", after := #[{ on := 4, ground := Go.Ground.data }, { on := 6, ground := Go.Ground.data }], guard := none }) rfl (by rfl) (exec_appendW (t := 67) rfl rfl rfl R5.out) ?_
        simp only [Act.put, List.setIfInBounds_toArray, List.set_cons_zero, List.set_cons_succ]
        refine any_one 8 (by kernel_rfl) ?_
        refine op_value (.pointer (some ⟨m.D, 0, none⟩)) (i := 8) (oi := { dst := some 53, op := Go.Op.nilCheck (Go.Operand.tmp 45), type := 0, pos := "disk.go:94", after := #[{ on := 0, ground := Go.Ground.data }, { on := 0, ground := Go.Ground.phase }, { on := 1, ground := Go.Ground.phase }, { on := 2, ground := Go.Ground.phase }, { on := 3, ground := Go.Ground.phase }, { on := 4, ground := Go.Ground.phase }, { on := 5, ground := Go.Ground.phase }, { on := 6, ground := Go.Ground.phase }, { on := 7, ground := Go.Ground.phase }], guard := none }) rfl (by rfl) (by go_simp <;> with_reducible rfl) ?_
        simp only [Act.put, List.setIfInBounds_toArray, List.set_cons_zero, List.set_cons_succ]
        refine any_one 9 (by kernel_rfl) ?_
        refine op_value (.pointer (some ⟨m.D, 2, none⟩)) (i := 9) (oi := { dst := some 54, op := Go.Op.fieldAddr 69 (Go.Operand.tmp 53) 2, type := 0, pos := "disk.go:94", after := #[{ on := 8, ground := Go.Ground.data }, { on := 0, ground := Go.Ground.phase }, { on := 1, ground := Go.Ground.phase }, { on := 2, ground := Go.Ground.phase }, { on := 3, ground := Go.Ground.phase }, { on := 4, ground := Go.Ground.phase }, { on := 5, ground := Go.Ground.phase }, { on := 6, ground := Go.Ground.phase }, { on := 7, ground := Go.Ground.phase }], guard := none }) rfl (by rfl) (by go_simp <;> with_reducible rfl) ?_
        simp only [Act.put, List.setIfInBounds_toArray, List.set_cons_zero, List.set_cons_succ]
        refine any_one 10 (by kernel_rfl) ?_
        refine op_effect (i := 10) (oi := { dst := none, op := Go.Op.store 67 (Go.Operand.tmp 54) (Go.Operand.tmp 52), type := 0, pos := "disk.go:94", after := #[{ on := 9, ground := Go.Ground.data }, { on := 7, ground := Go.Ground.data }, { on := 7, ground := Go.Ground.chain }, { on := 0, ground := Go.Ground.phase }, { on := 1, ground := Go.Ground.phase }, { on := 2, ground := Go.Ground.phase }, { on := 3, ground := Go.Ground.phase }, { on := 4, ground := Go.Ground.phase }, { on := 5, ground := Go.Ground.phase }, { on := 6, ground := Go.Ground.phase }, { on := 7, ground := Go.Ground.phase }], guard := none }) rfl (by rfl) (by go_simp <;> with_reducible rfl) ?_
        simp only [Act.put]
        refine wpAnyIn_done (by kernel_rfl) ?_ _
        go_wp2
        go_ret
        exact ⟨{ m with wv := .slice ad5 l5 cp5 }, rfl, rfl, FIN.out⟩
      · -- 6
        refine op_value (.slice (some ⟨w3.heap.size, 0, none⟩) 1 1) (i := 6) (oi := { dst := some 51, op := Go.Op.buildSlice 67 1 #[(0, Go.Operand.tmp 50)], type := 67, pos := "disk.go:94", after := #[{ on := 5, ground := Go.Ground.data }], guard := none }) rfl (by rfl) (exec_rowW rfl rfl HPL.out) ?_
        simp only [Act.put, List.setIfInBounds_toArray, List.set_cons_zero, List.set_cons_succ]
        refine any_one 4 (by kernel_rfl) ?_
        have cwq : (w3.alloc (.cells row 95)).cell? ⟨m.D, 2, none⟩ = some m.wv := (CW row 95).out
        refine op_value (m.wv) (i := 4) (oi := { dst := some 49, op := Go.Op.load 67 (Go.Operand.tmp 48), type := 67, pos := "disk.go:94", after := #[{ on := 3, ground := Go.Ground.data }], guard := none }) rfl (by rfl) (by go_simp <;> with_reducible rfl) ?_
        simp only [Act.put, List.setIfInBounds_toArray, List.set_cons_zero, List.set_cons_succ]
        refine any_one 7 (by kernel_rfl) ?_
        refine op_value (.slice ad5 l5 cp5) (i := 7) (oi := { dst := some 52, op := Go.Op.call { callee := Go.Callee.builtin Go.Builtin.append, args := #[Go.Operand.tmp 49, Go.Operand.tmp 51], argTypes := #[67, 67] }, type := 67, pos := "disk.go:94", after := #[{ on := 4, ground := Go.Ground.data }, { on := 6, ground := Go.Ground.data }], guard := none }) rfl (by rfl) (exec_appendW (t := 67) rfl rfl rfl R5.out) ?_
        simp only [Act.put, List.setIfInBounds_toArray, List.set_cons_zero, List.set_cons_succ]
        refine any_one 8 (by kernel_rfl) ?_
        refine op_value (.pointer (some ⟨m.D, 0, none⟩)) (i := 8) (oi := { dst := some 53, op := Go.Op.nilCheck (Go.Operand.tmp 45), type := 0, pos := "disk.go:94", after := #[{ on := 0, ground := Go.Ground.data }, { on := 0, ground := Go.Ground.phase }, { on := 1, ground := Go.Ground.phase }, { on := 2, ground := Go.Ground.phase }, { on := 3, ground := Go.Ground.phase }, { on := 4, ground := Go.Ground.phase }, { on := 5, ground := Go.Ground.phase }, { on := 6, ground := Go.Ground.phase }, { on := 7, ground := Go.Ground.phase }], guard := none }) rfl (by rfl) (by go_simp <;> with_reducible rfl) ?_
        simp only [Act.put, List.setIfInBounds_toArray, List.set_cons_zero, List.set_cons_succ]
        refine any_one 9 (by kernel_rfl) ?_
        refine op_value (.pointer (some ⟨m.D, 2, none⟩)) (i := 9) (oi := { dst := some 54, op := Go.Op.fieldAddr 69 (Go.Operand.tmp 53) 2, type := 0, pos := "disk.go:94", after := #[{ on := 8, ground := Go.Ground.data }, { on := 0, ground := Go.Ground.phase }, { on := 1, ground := Go.Ground.phase }, { on := 2, ground := Go.Ground.phase }, { on := 3, ground := Go.Ground.phase }, { on := 4, ground := Go.Ground.phase }, { on := 5, ground := Go.Ground.phase }, { on := 6, ground := Go.Ground.phase }, { on := 7, ground := Go.Ground.phase }], guard := none }) rfl (by rfl) (by go_simp <;> with_reducible rfl) ?_
        simp only [Act.put, List.setIfInBounds_toArray, List.set_cons_zero, List.set_cons_succ]
        refine any_one 10 (by kernel_rfl) ?_
        refine op_effect (i := 10) (oi := { dst := none, op := Go.Op.store 67 (Go.Operand.tmp 54) (Go.Operand.tmp 52), type := 0, pos := "disk.go:94", after := #[{ on := 9, ground := Go.Ground.data }, { on := 7, ground := Go.Ground.data }, { on := 7, ground := Go.Ground.chain }, { on := 0, ground := Go.Ground.phase }, { on := 1, ground := Go.Ground.phase }, { on := 2, ground := Go.Ground.phase }, { on := 3, ground := Go.Ground.phase }, { on := 4, ground := Go.Ground.phase }, { on := 5, ground := Go.Ground.phase }, { on := 6, ground := Go.Ground.phase }, { on := 7, ground := Go.Ground.phase }], guard := none }) rfl (by rfl) (by go_simp <;> with_reducible rfl) ?_
        simp only [Act.put]
        refine wpAnyIn_done (by kernel_rfl) ?_ _
        go_wp2
        go_ret
        exact ⟨{ m with wv := .slice ad5 l5 cp5 }, rfl, rfl, FIN.out⟩
end Go.Proofs.YtikpmaecbfebkaaDoor
