/- The reference's disk: New; what is refused. -/
import Derived.Test.YtnpebdnfdbeiaaaRLoad
namespace Go.Proofs.Ytnpebdnfdbeiaaa
open Go.RowKit
set_option linter.unusedVariables false

set_option maxRecDepth 100000 in
set_option maxHeartbeats 3200000 in
theorem refNew_any (n : Nat) (w : World) (h1 : 1 ≤ n) (h2 : n ≤ 4096) :
    Calls Try.prog 5 #[.int .i64 n] w fun e w' => ∃ R, e = .returned (.tuple #[.pointer (some ⟨R, 0, none⟩), .int .i64 0]) ∧ Below w.heap.size w w' := by
  have g1 : ¬ (n : Int) < 1 := by omega
  have g2 : ¬ (4096 : Int) < (n : Int) := by omega
  have H12 : Hid (1 ≤ n ∧ n ≤ 4096) := ⟨h1, h2⟩
  clear h1 h2
  go_enter Try.func5, Try.ntmps5
  go_wp2_with fail
  have P0 : Hid (RPart w (w.alloc (.cells #[.slice none 0 0, .slice none 0 0, .bool false, .bool false, .bool false] 39)) w.heap.size (.slice none 0 0) [] (fun i => pad (([] : List (BitVec 8)).take 256))) := ⟨heap_alloc_new w _, World.ownsRow_nil _ _ _ _, (fun i hi => nomatch hi), ⟨Nat.le_refl _, (fun g hg => nomatch hg)⟩, (Below.refl _ w).alloc (Nat.le_refl _) _⟩
  have hsz : (w.alloc (.cells #[.slice none 0 0, .slice none 0 0, .bool false, .bool false, .bool false] 39)).heap.size = w.heap.size + 1 := by simp
  go_loopw [5] (fun i wr => ∃ (k : Nat) (gs : List Nat) (sv : Value) (va : Option Addr) (vc : Nat), sv = .slice va gs.length vc ∧ i = .int .i64 k ∧ k = gs.length ∧ Hid (k ≤ n) ∧ Hid (RPart w wr w.heap.size sv gs (fun i => pad (([] : List (BitVec 8)).take 256)))) (fun i _ => n - (intOf i).toNat)
  case atStart => exact ⟨0, [], _, none, 0, rfl, rfl, rfl, Nat.zero_le _, P0.out⟩
  case round =>
    clear P0
    obtain ⟨k, gs, sv, va, vc, rfl, rfl, rfl, hk, HP⟩ := hrel
    by_cases hlt : gs.length < n
    · have h1 : (gs.length : Int) < (n : Int) := by omega
      have HLT : Hid (gs.length < n) := hlt
      have h2 : (gs.length : Int) < 4096 := by have := H12.out.2; omega
      have WK : Hid ((gs.length : Int) + 1 = ((gs.length + 1 : Nat) : Int)) := by show (gs.length : Int) + 1 = ((gs.length + 1 : Nat) : Int); omega
      have HLN : Hid (∀ g, (gs ++ [g]).length = gs.length + 1) := fun g => by simp
      have HF : Hid (Calls Try.prog 19 #[.slice none 0 0] wr.drew _) := full_ref _ _ _ [] wr.drew ⟨rfl, by simp, .inl rfl⟩
      have GROW : Hid (∀ x1 g, Below wr.drew.heap.size wr.drew x1 → wr.drew.heap.size ≤ g → Con x1 g (pad (([] : List (BitVec 8)).take 256)) → _) := fun x1 g bx h0 h1 => RPart.grow (HP.out.below ((Below.refl wr.heap.size wr).drew.trans bx)) h1 rfl (Nat.le_trans HP.out.b.size h0) (by have := H12.out.2; omega)
      have c0 := (HP.out.below (Below.refl wr.heap.size wr).drew).cell.1
      have CB : Hid (∀ x1, Below wr.drew.heap.size wr.drew x1 → x1.cell? ⟨w.heap.size, 0, none⟩ = some (.slice va gs.length vc) ∧ ∀ o, (x1.alloc o).cell? ⟨w.heap.size, 0, none⟩ = some (.slice va gs.length vc)) := fun x1 bx => ⟨(HP.out.below ((Below.refl wr.heap.size wr).drew.trans bx)).cell.1, fun o => ((HP.out.below ((Below.refl wr.heap.size wr).drew.trans bx)).below ((Below.refl x1.heap.size x1).alloc (Nat.le_refl _) o)).cell.1⟩
      clear hlt hk
      go_wp2_with fail
      refine (wpIn_wide (n := 1)).1 ?_
      refine wpIn_region_any (by kernel_rfl) ?_
      change wpAnyIn _ _ _ _ _ _ _ _ _ (World.drew _)
      refine any_take 0 (oi := { dst := some 19, op := Go.Op.move (Go.Operand.tmp 4), type := 28, pos := "ref.go:40", after := #[], guard := none }) (.pointer (some ⟨w.heap.size, 0, none⟩)) rfl (by kernel_rfl) (by kernel_rfl) (by kernel_rfl) (fun _ _ _ h => h) (by rfl) (by intro wq; go_simp <;> with_reducible rfl) (fun _ => rfl) ?_
      simp only [Act.put, List.setIfInBounds_toArray, List.set_cons_zero, List.set_cons_succ]
      refine any_take 1 (oi := { dst := some 20, op := Go.Op.move (Go.Operand.tmp 4), type := 28, pos := "ref.go:40", after := #[], guard := none }) (.pointer (some ⟨w.heap.size, 0, none⟩)) rfl (by kernel_rfl) (by kernel_rfl) (by kernel_rfl) (fun _ _ _ h => h) (by rfl) (by intro wq; go_simp <;> with_reducible rfl) (fun _ => rfl) ?_
      simp only [Act.put, List.setIfInBounds_toArray, List.set_cons_zero, List.set_cons_succ]
      refine any_take 2 (oi := { dst := some 21, op := Go.Op.nilCheck (Go.Operand.tmp 20), type := 0, pos := "ref.go:40", after := #[{ on := 1, ground := Go.Ground.data }], guard := none }) (.pointer (some ⟨w.heap.size, 0, none⟩)) rfl (by kernel_rfl) (by kernel_rfl) (by kernel_rfl) (fun _ _ _ h => h) (by rfl) (by intro wq; go_simp <;> with_reducible rfl) (fun _ => rfl) ?_
      simp only [Act.put, List.setIfInBounds_toArray, List.set_cons_zero, List.set_cons_succ]
      refine any_take 3 (oi := { dst := some 22, op := Go.Op.fieldAddr 39 (Go.Operand.tmp 21) 0, type := 0, pos := "ref.go:40", after := #[{ on := 2, ground := Go.Ground.data }], guard := none }) (.pointer (some ⟨w.heap.size, 0, none⟩)) rfl (by kernel_rfl) (by kernel_rfl) (by kernel_rfl) (fun _ _ _ h => h) (by rfl) (by intro wq; go_simp <;> with_reducible rfl) (fun _ => rfl) ?_
      simp only [Act.put, List.setIfInBounds_toArray, List.set_cons_zero, List.set_cons_succ]
      refine any_two 4 5 (by kernel_rfl) ?_ ?_
      · -- load, call
        refine op_value (.slice va gs.length vc) (i := 4) (oi := { dst := some 23, op := Go.Op.load 36 (Go.Operand.tmp 22), type := 36, pos := "ref.go:40", after := #[{ on := 3, ground := Go.Ground.data }], guard := none }) rfl (by rfl) (by go_simp <;> with_reducible rfl) ?_
        simp only [Act.put, List.setIfInBounds_toArray, List.set_cons_zero, List.set_cons_succ]
        refine any_one 5 (by kernel_rfl) ?_
        refine op_call (i := 5) (oi := { dst := some 24, op := Go.Op.call { callee := Go.Callee.value (Go.Operand.func 19), args := #[Go.Operand.const (Go.Value.slice none 0 0)], argTypes := #[22] }, type := 22, pos := "ref.go:40", after := #[], guard := none }) 19 _ rfl (by rfl) (by go_simp <;> with_reducible rfl) ?_
        refine (HF.out).mono ?_
        rintro e x1 ⟨g, rfl, hg0, hg1, bx⟩
        refine ⟨_, rfl, ?_⟩
        simp only [Act.put, List.setIfInBounds_toArray, List.set_cons_zero, List.set_cons_succ]
        obtain ⟨G, c, x3, hr, k0, k1, pp⟩ := GROW.out x1 g bx hg0 hg1
        have c1 := (CB.out x1 bx).1
        have cA := (CB.out x1 bx).2 (.cells #[.slice (some ⟨g, 0, none⟩) 256 256] 22)
        have HR : Hid _ := hr
        have PP : Hid _ := pp
        clear hr pp bx hg0 hg1
        refine any_one 6 (by kernel_rfl) ?_
        refine op_value (.slice (some ⟨x1.heap.size, 0, none⟩) 1 1) (i := 6) (oi := { dst := some 25, op := Go.Op.buildSlice 36 1 #[(0, Go.Operand.tmp 24)], type := 36, pos := "ref.go:40", after := #[{ on := 5, ground := Go.Ground.data }], guard := none }) rfl (by rfl) (by go_simp <;> with_reducible rfl) ?_
        simp only [Act.put, List.setIfInBounds_toArray, List.set_cons_zero, List.set_cons_succ]
        refine any_one 7 (by kernel_rfl) ?_
        refine op_value (.slice (some ⟨G, 0, none⟩) (gs.length + 1) c) (i := 7) (oi := { dst := some 26, op := Go.Op.call { callee := Go.Callee.builtin Go.Builtin.append, args := #[Go.Operand.tmp 23, Go.Operand.tmp 25], argTypes := #[36, 36] }, type := 36, pos := "ref.go:40", after := #[{ on := 4, ground := Go.Ground.data }, { on := 6, ground := Go.Ground.data }, { on := 5, ground := Go.Ground.chain }], guard := none }) rfl (by rfl) (exec_appendW (t := 36) rfl rfl rfl HR.out) ?_
        simp only [Act.put, List.setIfInBounds_toArray, List.set_cons_zero, List.set_cons_succ]
        refine any_one 8 (by kernel_rfl) ?_
        refine op_value (.pointer (some ⟨w.heap.size, 0, none⟩)) (i := 8) (oi := { dst := some 27, op := Go.Op.nilCheck (Go.Operand.tmp 19), type := 0, pos := "ref.go:40", after := #[{ on := 0, ground := Go.Ground.data }, { on := 0, ground := Go.Ground.phase }, { on := 1, ground := Go.Ground.phase }, { on := 2, ground := Go.Ground.phase }, { on := 3, ground := Go.Ground.phase }, { on := 4, ground := Go.Ground.phase }, { on := 5, ground := Go.Ground.phase }, { on := 6, ground := Go.Ground.phase }, { on := 7, ground := Go.Ground.phase }], guard := none }) rfl (by rfl) (by go_simp <;> with_reducible rfl) ?_
        simp only [Act.put, List.setIfInBounds_toArray, List.set_cons_zero, List.set_cons_succ]
        refine any_one 9 (by kernel_rfl) ?_
        refine op_value (.pointer (some ⟨w.heap.size, 0, none⟩)) (i := 9) (oi := { dst := some 28, op := Go.Op.fieldAddr 39 (Go.Operand.tmp 27) 0, type := 0, pos := "ref.go:40", after := #[{ on := 8, ground := Go.Ground.data }, { on := 0, ground := Go.Ground.phase }, { on := 1, ground := Go.Ground.phase }, { on := 2, ground := Go.Ground.phase }, { on := 3, ground := Go.Ground.phase }, { on := 4, ground := Go.Ground.phase }, { on := 5, ground := Go.Ground.phase }, { on := 6, ground := Go.Ground.phase }, { on := 7, ground := Go.Ground.phase }], guard := none }) rfl (by rfl) (by go_simp <;> with_reducible rfl) ?_
        simp only [Act.put, List.setIfInBounds_toArray, List.set_cons_zero, List.set_cons_succ]
        refine any_one 10 (by kernel_rfl) ?_
        refine op_effect (i := 10) (oi := { dst := none, op := Go.Op.store 36 (Go.Operand.tmp 28) (Go.Operand.tmp 26), type := 0, pos := "ref.go:40", after := #[{ on := 9, ground := Go.Ground.data }, { on := 7, ground := Go.Ground.data }, { on := 7, ground := Go.Ground.chain }, { on := 0, ground := Go.Ground.phase }, { on := 1, ground := Go.Ground.phase }, { on := 2, ground := Go.Ground.phase }, { on := 3, ground := Go.Ground.phase }, { on := 4, ground := Go.Ground.phase }, { on := 5, ground := Go.Ground.phase }, { on := 6, ground := Go.Ground.phase }, { on := 7, ground := Go.Ground.phase }], guard := none }) rfl (by rfl) (by go_simp <;> with_reducible rfl) ?_
        simp only [Act.put]
        refine wpAnyIn_done (by kernel_rfl) ?_ _
        go_wp2
        rw [WK.out]
        go_roundw
        case rel => exact ⟨gs.length + 1, gs ++ [g], _, some ⟨G, 0, none⟩, c, by rw [HLN.out g], rfl, (HLN.out g).symm, HLT.out, PP.out⟩
        case measure => exact less_by HLT.out
      · -- call
        refine op_call (i := 5) (oi := { dst := some 24, op := Go.Op.call { callee := Go.Callee.value (Go.Operand.func 19), args := #[Go.Operand.const (Go.Value.slice none 0 0)], argTypes := #[22] }, type := 22, pos := "ref.go:40", after := #[], guard := none }) 19 _ rfl (by rfl) (by go_simp <;> with_reducible rfl) ?_
        refine (HF.out).mono ?_
        rintro e x1 ⟨g, rfl, hg0, hg1, bx⟩
        refine ⟨_, rfl, ?_⟩
        simp only [Act.put, List.setIfInBounds_toArray, List.set_cons_zero, List.set_cons_succ]
        obtain ⟨G, c, x3, hr, k0, k1, pp⟩ := GROW.out x1 g bx hg0 hg1
        have c1 := (CB.out x1 bx).1
        have cA := (CB.out x1 bx).2 (.cells #[.slice (some ⟨g, 0, none⟩) 256 256] 22)
        have HR : Hid _ := hr
        have PP : Hid _ := pp
        clear hr pp bx hg0 hg1
        refine any_two 4 6 (by kernel_rfl) ?_ ?_
        · -- load
          refine op_value (.slice va gs.length vc) (i := 4) (oi := { dst := some 23, op := Go.Op.load 36 (Go.Operand.tmp 22), type := 36, pos := "ref.go:40", after := #[{ on := 3, ground := Go.Ground.data }], guard := none }) rfl (by rfl) (by go_simp <;> with_reducible rfl) ?_
          simp only [Act.put, List.setIfInBounds_toArray, List.set_cons_zero, List.set_cons_succ]
          refine any_one 6 (by kernel_rfl) ?_
          refine op_value (.slice (some ⟨x1.heap.size, 0, none⟩) 1 1) (i := 6) (oi := { dst := some 25, op := Go.Op.buildSlice 36 1 #[(0, Go.Operand.tmp 24)], type := 36, pos := "ref.go:40", after := #[{ on := 5, ground := Go.Ground.data }], guard := none }) rfl (by rfl) (by go_simp <;> with_reducible rfl) ?_
          simp only [Act.put, List.setIfInBounds_toArray, List.set_cons_zero, List.set_cons_succ]
          refine any_one 7 (by kernel_rfl) ?_
          refine op_value (.slice (some ⟨G, 0, none⟩) (gs.length + 1) c) (i := 7) (oi := { dst := some 26, op := Go.Op.call { callee := Go.Callee.builtin Go.Builtin.append, args := #[Go.Operand.tmp 23, Go.Operand.tmp 25], argTypes := #[36, 36] }, type := 36, pos := "ref.go:40", after := #[{ on := 4, ground := Go.Ground.data }, { on := 6, ground := Go.Ground.data }, { on := 5, ground := Go.Ground.chain }], guard := none }) rfl (by rfl) (exec_appendW (t := 36) rfl rfl rfl HR.out) ?_
          simp only [Act.put, List.setIfInBounds_toArray, List.set_cons_zero, List.set_cons_succ]
          refine any_one 8 (by kernel_rfl) ?_
          refine op_value (.pointer (some ⟨w.heap.size, 0, none⟩)) (i := 8) (oi := { dst := some 27, op := Go.Op.nilCheck (Go.Operand.tmp 19), type := 0, pos := "ref.go:40", after := #[{ on := 0, ground := Go.Ground.data }, { on := 0, ground := Go.Ground.phase }, { on := 1, ground := Go.Ground.phase }, { on := 2, ground := Go.Ground.phase }, { on := 3, ground := Go.Ground.phase }, { on := 4, ground := Go.Ground.phase }, { on := 5, ground := Go.Ground.phase }, { on := 6, ground := Go.Ground.phase }, { on := 7, ground := Go.Ground.phase }], guard := none }) rfl (by rfl) (by go_simp <;> with_reducible rfl) ?_
          simp only [Act.put, List.setIfInBounds_toArray, List.set_cons_zero, List.set_cons_succ]
          refine any_one 9 (by kernel_rfl) ?_
          refine op_value (.pointer (some ⟨w.heap.size, 0, none⟩)) (i := 9) (oi := { dst := some 28, op := Go.Op.fieldAddr 39 (Go.Operand.tmp 27) 0, type := 0, pos := "ref.go:40", after := #[{ on := 8, ground := Go.Ground.data }, { on := 0, ground := Go.Ground.phase }, { on := 1, ground := Go.Ground.phase }, { on := 2, ground := Go.Ground.phase }, { on := 3, ground := Go.Ground.phase }, { on := 4, ground := Go.Ground.phase }, { on := 5, ground := Go.Ground.phase }, { on := 6, ground := Go.Ground.phase }, { on := 7, ground := Go.Ground.phase }], guard := none }) rfl (by rfl) (by go_simp <;> with_reducible rfl) ?_
          simp only [Act.put, List.setIfInBounds_toArray, List.set_cons_zero, List.set_cons_succ]
          refine any_one 10 (by kernel_rfl) ?_
          refine op_effect (i := 10) (oi := { dst := none, op := Go.Op.store 36 (Go.Operand.tmp 28) (Go.Operand.tmp 26), type := 0, pos := "ref.go:40", after := #[{ on := 9, ground := Go.Ground.data }, { on := 7, ground := Go.Ground.data }, { on := 7, ground := Go.Ground.chain }, { on := 0, ground := Go.Ground.phase }, { on := 1, ground := Go.Ground.phase }, { on := 2, ground := Go.Ground.phase }, { on := 3, ground := Go.Ground.phase }, { on := 4, ground := Go.Ground.phase }, { on := 5, ground := Go.Ground.phase }, { on := 6, ground := Go.Ground.phase }, { on := 7, ground := Go.Ground.phase }], guard := none }) rfl (by rfl) (by go_simp <;> with_reducible rfl) ?_
          simp only [Act.put]
          refine wpAnyIn_done (by kernel_rfl) ?_ _
          go_wp2
          rw [WK.out]
          go_roundw
          case rel => exact ⟨gs.length + 1, gs ++ [g], _, some ⟨G, 0, none⟩, c, by rw [HLN.out g], rfl, (HLN.out g).symm, HLT.out, PP.out⟩
          case measure => exact less_by HLT.out
        · -- row, load
          refine op_value (.slice (some ⟨x1.heap.size, 0, none⟩) 1 1) (i := 6) (oi := { dst := some 25, op := Go.Op.buildSlice 36 1 #[(0, Go.Operand.tmp 24)], type := 36, pos := "ref.go:40", after := #[{ on := 5, ground := Go.Ground.data }], guard := none }) rfl (by rfl) (by go_simp <;> with_reducible rfl) ?_
          simp only [Act.put, List.setIfInBounds_toArray, List.set_cons_zero, List.set_cons_succ]
          refine any_one 4 (by kernel_rfl) ?_
          refine op_value (.slice va gs.length vc) (i := 4) (oi := { dst := some 23, op := Go.Op.load 36 (Go.Operand.tmp 22), type := 36, pos := "ref.go:40", after := #[{ on := 3, ground := Go.Ground.data }], guard := none }) rfl (by rfl) (by go_simp <;> with_reducible rfl) ?_
          simp only [Act.put, List.setIfInBounds_toArray, List.set_cons_zero, List.set_cons_succ]
          refine any_one 7 (by kernel_rfl) ?_
          refine op_value (.slice (some ⟨G, 0, none⟩) (gs.length + 1) c) (i := 7) (oi := { dst := some 26, op := Go.Op.call { callee := Go.Callee.builtin Go.Builtin.append, args := #[Go.Operand.tmp 23, Go.Operand.tmp 25], argTypes := #[36, 36] }, type := 36, pos := "ref.go:40", after := #[{ on := 4, ground := Go.Ground.data }, { on := 6, ground := Go.Ground.data }, { on := 5, ground := Go.Ground.chain }], guard := none }) rfl (by rfl) (exec_appendW (t := 36) rfl rfl rfl HR.out) ?_
          simp only [Act.put, List.setIfInBounds_toArray, List.set_cons_zero, List.set_cons_succ]
          refine any_one 8 (by kernel_rfl) ?_
          refine op_value (.pointer (some ⟨w.heap.size, 0, none⟩)) (i := 8) (oi := { dst := some 27, op := Go.Op.nilCheck (Go.Operand.tmp 19), type := 0, pos := "ref.go:40", after := #[{ on := 0, ground := Go.Ground.data }, { on := 0, ground := Go.Ground.phase }, { on := 1, ground := Go.Ground.phase }, { on := 2, ground := Go.Ground.phase }, { on := 3, ground := Go.Ground.phase }, { on := 4, ground := Go.Ground.phase }, { on := 5, ground := Go.Ground.phase }, { on := 6, ground := Go.Ground.phase }, { on := 7, ground := Go.Ground.phase }], guard := none }) rfl (by rfl) (by go_simp <;> with_reducible rfl) ?_
          simp only [Act.put, List.setIfInBounds_toArray, List.set_cons_zero, List.set_cons_succ]
          refine any_one 9 (by kernel_rfl) ?_
          refine op_value (.pointer (some ⟨w.heap.size, 0, none⟩)) (i := 9) (oi := { dst := some 28, op := Go.Op.fieldAddr 39 (Go.Operand.tmp 27) 0, type := 0, pos := "ref.go:40", after := #[{ on := 8, ground := Go.Ground.data }, { on := 0, ground := Go.Ground.phase }, { on := 1, ground := Go.Ground.phase }, { on := 2, ground := Go.Ground.phase }, { on := 3, ground := Go.Ground.phase }, { on := 4, ground := Go.Ground.phase }, { on := 5, ground := Go.Ground.phase }, { on := 6, ground := Go.Ground.phase }, { on := 7, ground := Go.Ground.phase }], guard := none }) rfl (by rfl) (by go_simp <;> with_reducible rfl) ?_
          simp only [Act.put, List.setIfInBounds_toArray, List.set_cons_zero, List.set_cons_succ]
          refine any_one 10 (by kernel_rfl) ?_
          refine op_effect (i := 10) (oi := { dst := none, op := Go.Op.store 36 (Go.Operand.tmp 28) (Go.Operand.tmp 26), type := 0, pos := "ref.go:40", after := #[{ on := 9, ground := Go.Ground.data }, { on := 7, ground := Go.Ground.data }, { on := 7, ground := Go.Ground.chain }, { on := 0, ground := Go.Ground.phase }, { on := 1, ground := Go.Ground.phase }, { on := 2, ground := Go.Ground.phase }, { on := 3, ground := Go.Ground.phase }, { on := 4, ground := Go.Ground.phase }, { on := 5, ground := Go.Ground.phase }, { on := 6, ground := Go.Ground.phase }, { on := 7, ground := Go.Ground.phase }], guard := none }) rfl (by rfl) (by go_simp <;> with_reducible rfl) ?_
          simp only [Act.put]
          refine wpAnyIn_done (by kernel_rfl) ?_ _
          go_wp2
          rw [WK.out]
          go_roundw
          case rel => exact ⟨gs.length + 1, gs ++ [g], _, some ⟨G, 0, none⟩, c, by rw [HLN.out g], rfl, (HLN.out g).symm, HLT.out, PP.out⟩
          case measure => exact less_by HLT.out
    · obtain hk2 : gs.length = n := by have := hk.out; omega
      have h1 : ¬ (gs.length : Int) < (n : Int) := by omega
      clear hlt hk hk2
      go_wp2
      go_ret2
      exact ⟨⟨_, rfl⟩, HP.out.b⟩
set_option maxRecDepth 100000 in
theorem refNew_no (i : Int) (w : World) (h : ¬ (1 ≤ i ∧ i ≤ 4096)) : Calls Try.prog 5 #[.int .i64 i] w fun e w' => e = .returned (.tuple #[.pointer none, .int .i64 1]) ∧ w' = w := by
  rcases Int.lt_or_le i 1 with h1 | h1
  · clear h
    go_enter Try.func5, Try.ntmps5
    go_wp2
    go_ret2
    exact ⟨rfl, rfl⟩
  · have h2 : (4096 : Int) < i := by omega
    have h3 : ¬ i < 1 := by omega
    clear h h1
    go_enter Try.func5, Try.ntmps5
    go_wp2
    go_ret2
    exact ⟨rfl, rfl⟩
set_option maxRecDepth 100000 in
theorem refLoad_no (a : Option Addr) (len cap : Nat) (w : World) (hm : len ≤ maxLen) (h : ¬ (len % 256 = 0 ∧ 1 ≤ len / 256 ∧ len / 256 ≤ 4096)) : Calls Try.prog 8 #[.slice a len cap] w fun e w' => e = .returned (.tuple #[.pointer none, .int .i64 1]) ∧ w' = w := by
  have hm' : (len : Int) ≤ 9223372036854775807 := by unfold maxLen at hm; omega
  have hr : Int.tmod (len : Int) 256 = ((len % 256 : Nat) : Int) := by rw [Int.tmod_eq_emod_of_nonneg (by omega)]; omega
  have hd : Int.tdiv (len : Int) 256 = ((len / 256 : Nat) : Int) := by rw [Int.tdiv_eq_ediv_of_nonneg (by omega)]; omega
  obtain ⟨q, eq⟩ : ∃ q, len / 256 = q := ⟨_, rfl⟩
  obtain ⟨r, er⟩ : ∃ r, len % 256 = r := ⟨_, rfl⟩
  have qb : (q : Int) ≤ 9223372036854775807 := by omega
  rw [eq] at hd h
  rw [er] at hr h
  clear eq er hm
  by_cases h0 : r = 0
  · subst h0
    rcases Nat.lt_or_ge q 1 with h1 | h1
    · obtain rfl : q = 0 := by omega
      clear h h1
      go_enter Try.func8, Try.ntmps8
      go_wp2
      go_ret2
      exact ⟨rfl, rfl⟩
    · have h2 : (4096 : Int) < (q : Int) := by omega
      have h3 : ¬ (q : Int) < 1 := by omega
      clear h h1
      go_enter Try.func8, Try.ntmps8
      go_wp2
      go_ret2
      exact ⟨rfl, rfl⟩
  · have h1 : ((r : Int) == 0) = false := by rw [beq_eq_false_iff_ne]; omega
    have h2 : ¬ ((r : Int) = 0) := by omega
    clear h h0
    go_enter Try.func8, Try.ntmps8
    go_wp2
    go_ret2
    exact ⟨rfl, rfl⟩
set_option maxRecDepth 100000 in
theorem load_no (a : Option Addr) (len cap : Nat) (w : World) (hm : len ≤ maxLen) (h : ¬ (len % 256 = 0 ∧ 1 ≤ len / 256 ∧ len / 256 ≤ 4096)) : Calls Try.prog 7 #[.slice a len cap] w fun e w' => e = .returned (.tuple #[.pointer none, .int .i64 1]) ∧ w' = w := by
  have hm' : (len : Int) ≤ 9223372036854775807 := by unfold maxLen at hm; omega
  have hr : Int.tmod (len : Int) 256 = ((len % 256 : Nat) : Int) := by rw [Int.tmod_eq_emod_of_nonneg (by omega)]; omega
  have hd : Int.tdiv (len : Int) 256 = ((len / 256 : Nat) : Int) := by rw [Int.tdiv_eq_ediv_of_nonneg (by omega)]; omega
  obtain ⟨q, eq⟩ : ∃ q, len / 256 = q := ⟨_, rfl⟩
  obtain ⟨r, er⟩ : ∃ r, len % 256 = r := ⟨_, rfl⟩
  have qb : (q : Int) ≤ 9223372036854775807 := by omega
  rw [eq] at hd h
  rw [er] at hr h
  clear eq er hm
  have hwq : wrap64 (q : Int) = q := by unfold wrap64; omega
  by_cases h0 : r = 0
  · subst h0
    have HA := allowed_any q w
    rw [decide_eq_false (by omega)] at HA
    clear h
    go_enter Try.func7, Try.ntmps7
    go_wp2_with fail
    try rw [hwq]
    refine HA.mono ?_
    rintro e w' ⟨rfl, rfl⟩
    go_wp2
    go_ret2
    exact ⟨rfl, rfl⟩
  · have h1 : ((r : Int) == 0) = false := by rw [beq_eq_false_iff_ne]; omega
    have h2 : ¬ ((r : Int) = 0) := by omega
    clear h h0
    go_enter Try.func7, Try.ntmps7
    go_wp2
    go_ret2
    exact ⟨rfl, rfl⟩
end Go.Proofs.Ytnpebdnfdbeiaaa
