/- Package chart's reference: New, the walk. Written by gen_rw.py. -/
import Derived.Test.YtpdgmlljjjeifaaChRefN
namespace Go.Proofs.Ytpdgmlljjjeifaa
open Go.RowKit
attribute [local go_sem] Oper.semAt_some
set_option linter.unusedVariables false
def ownA (n : Int) (j : Nat) : List Int := (List.range j).map fun (i : Nat) => 1 + (i : Int) % n
theorem ownA_succ (n : Int) (j : Nat) : ownA n (j + 1) = ownA n j ++ [1 + (j : Int) % n] := by simp [ownA, List.range_succ]
set_option maxRecDepth 100000 in
set_option maxHeartbeats 1600000 in
theorem rnew_no (n : Int) (h : ¬ (1 ≤ n ∧ n ≤ 3)) (w : World) : Calls Try.prog 10 #[.int .i64 n] w fun e w' => e = .returned (.tuple #[.pointer none, .int .i64 1]) ∧ w' = w := by
  by_cases h1 : n < 1
  · clear h
    go_enter Try.func10, Try.ntmps10
    go_wp2
    go_ret2
    exact ⟨rfl, rfl⟩
  · have h2 : 3 < n := by omega
    clear h
    go_enter Try.func10, Try.ntmps10
    go_wp2
    go_ret2
    exact ⟨rfl, rfl⟩
/-- What is owned is a row of the reference's chart. -/
theorem own_row {w : World} {base el : Nat} {v : Value} {A : List Int} (h : w.ownsRow base el 1 v 16 (intsL A)) (hA : A.length = 16) : ∃ g c cur, v = .slice (some ⟨g, 0, none⟩) 16 c ∧ base ≤ g ∧ 16 ≤ c ∧ Blk w g cur el ∧ cur.size = c ∧ ∀ i, i < 16 → cur[i]? = some (.int .i64 (at_ A i)) := by
  obtain ⟨h1, h2⟩ := h
  rcases h2 with ⟨_, h3⟩ | ⟨g, cap, cur, e1, e2, e3, e4, e5, e6, e7⟩
  · omega
  · refine ⟨g, cap, cur, e1, e2, e4, e3, by omega, fun i hi => ?_⟩
    have h9 : (cur.toList.take (16 * 1))[i]? = (intsL A)[i]? := by rw [e7]
    rw [List.getElem?_take, if_pos (by omega)] at h9
    have h8 : cur[i]? = (intsL A)[i]? := by rw [← h9]; simp
    rw [h8]
    simp [intsL, at_, hA, hi]
set_option maxRecDepth 100000 in
set_option maxHeartbeats 8000000 in
theorem rnew_ok (n : Int) (h : 1 ≤ n ∧ n ≤ 3) (w : World) : Calls Try.prog 10 #[.int .i64 n] w fun e w' => e = .returned (.tuple #[.pointer (some ⟨w.heap.size, 0, none⟩), .int .i64 0]) ∧ ∃ O E cO cE, RC w' w.heap.size w.heap.size O E cO cE (newL n 16) ∧ Below w.heap.size w w' := by
  have r0 : RN w (w.alloc (.cells #[.int .i64 n, .slice none 0 0, .slice none 0 0, .int .i64 0, .int .i64 0, .int .i64 0, .int .i64 0, .int .i64 0, .int .i64 0, .int .i64 0, .int .i64 0, .int .i64 0] 44)) w.heap.size n (.slice none 0 0) (.slice none 0 0) 0 0 (ownA n 0) (List.replicate 0 0) := ⟨Blk.new _ _ _, ⟨rfl, .inl ⟨rfl, rfl⟩⟩, ⟨rfl, .inl ⟨rfl, rfl⟩⟩, (Below.refl _ w).alloc (Nat.le_refl _) _, Nat.le_refl _⟩
  obtain ⟨wA, eA⟩ : ∃ x, w.alloc (.cells #[.int .i64 n, .slice none 0 0, .slice none 0 0, .int .i64 0, .int .i64 0, .int .i64 0, .int .i64 0, .int .i64 0, .int .i64 0, .int .i64 0, .int .i64 0, .int .i64 0] 44) = x := ⟨_, rfl⟩
  obtain ⟨Q, eQ⟩ : ∃ x, w.heap.size = x := ⟨_, rfl⟩
  rw [eA, eQ] at r0
  rw [eQ]
  have EA : Hid _ := eA
  have EQ : Hid (w.heap.size = Q) := eQ
  have R0 : Hid (∃ vO vE, RN w wA Q n vO vE 0 0 (ownA n 0) (List.replicate 0 0)) := ⟨_, _, r0⟩
  have HN : Hid (1 ≤ n ∧ n ≤ 3) := h
  have q1 : ¬ n < 1 := by omega
  have q2 : ¬ 3 < n := by omega
  clear eA eQ r0 h
  go_enter Try.func10, Try.ntmps10
  go_wp2_with fail
  rw [EA.out, EQ.out]
  clear EA
  go_loopw [5] (fun i wr => ∃ j : Nat, j ≤ 16 ∧ i = .int .i64 (j : Int) ∧ Hid (∃ vO vE, RN w wr Q n vO vE j j (ownA n j) (List.replicate j 0))) (fun i _ => 16 - (intOf i).toNat)
  case atStart => exact ⟨0, by omega, rfl, R0⟩
  case round =>
    obtain ⟨j, hj, rfl, HH⟩ := hrel
    clear R0
    by_cases hj16 : j < 16
    · obtain ⟨vO, vE, r1⟩ := HH.out
      have qn : ¬ n = 0 := by have := HN.out; omega
      have qn' : (n == 0) = false := by simpa using qn
      have qx : wrap64 (1 + (j : Int) % n) = (1 + (j : Int) % n) := by
        have h1 := Int.emod_nonneg (j : Int) qn
        have h2 := Int.emod_lt_of_pos (j : Int) (show 0 < n by have := HN.out; omega)
        have := HN.out
        unfold wrap64
        omega
      obtain ⟨x, ex⟩ : ∃ x, (1 + (j : Int) % n) = x := ⟨_, rfl⟩
      have EX : Hid ((1 + (j : Int) % n) = x) := ex
      have qx1 : wrap64 (1 + (j : Int) % n) = x := qx.trans ex
      have qx2 : IntKind.i64.wrap (1 + (j : Int) % n) = x := (IntWalk.i64_left _).trans qx1
      have C1 : Hid (wr.drew.cell? ⟨Q, 1, none⟩ = some vO) := r1.q.cell 1
      have r2 : RN w (wr.alloc (.cells #[.int .i64 x] 3)).drew Q n vO vE j j (ownA n j) (List.replicate j 0) := (r1.alloc _).drewN 1
      have C2 : Hid ((wr.alloc (.cells #[.int .i64 x] 3)).cell? ⟨Q, 1, none⟩ = some vO) := r2.q.cell 1
      obtain ⟨vO', w5, hr5, o5, g5⟩ := appO r2.o wr.heap.size x (by have := (Blk.new wr #[.int .i64 x] 3).cell 0; exact this) r2.b.size (by omega) 39
      obtain ⟨gO, cpO, rfl, _⟩ := o5.form (by omega)
      have qm : (j : Int).tmod n = (j : Int) % n := Int.tmod_eq_emod_of_nonneg (by omega)
      have R1 : Hid (w5.cell? ⟨Q, 1, none⟩ = some vO ∧ w5.frozen? ⟨Q, 1, none⟩ = false ∧ RN w (w5.setCell ⟨Q, 1, none⟩ (.slice (some ⟨gO, 0, none⟩) (j + 1) cpO)) Q n (.slice (some ⟨gO, 0, none⟩) (j + 1) cpO) vE (j + 1) j (ownA n j ++ [x]) (List.replicate j 0)) := r2.grownO g5 o5
      have XA : Hid ((Builtin.append_ #[39, 39] 39 #[vO, .slice (some ⟨wr.heap.size, 0, none⟩) 1 1]).run Try.prog (wr.alloc (.cells #[.int .i64 x] 3)).drew = .ok (.slice (some ⟨gO, 0, none⟩) (j + 1) cpO) w5) := hr5
      clear hj HH r1 r2 hr5 o5 g5 qx ex
      go_wp2_with fail
      refine wp_region_held_drew (S := fun _ => True) (by kernel_rfl) trivial (fun hHeld => ?_)
      refine take_run (i := 0) (oi := { dst := some 19, op := Go.Op.move (Go.Operand.tmp 4), type := 27, pos := "ref.go:80", after := #[], guard := none }) (v := .pointer (some ⟨Q, 0, none⟩)) rfl (by kernel_rfl) (by kernel_rfl) (by kernel_rfl) (fun _ _ _ h => h) (by rfl) ?_ hHeld ?_
      · (intro wq hSw; go_simp <;> with_reducible rfl)
      try simp only [Act.put, List.setIfInBounds_toArray, List.set_cons_zero, List.set_cons_succ]
      refine take_run (i := 1) (oi := { dst := some 20, op := Go.Op.move (Go.Operand.tmp 4), type := 27, pos := "ref.go:80", after := #[], guard := none }) (v := .pointer (some ⟨Q, 0, none⟩)) rfl (by kernel_rfl) (by kernel_rfl) (by kernel_rfl) (fun _ _ _ h => h) (by rfl) ?_ hHeld ?_
      · (intro wq hSw; go_simp <;> with_reducible rfl)
      try simp only [Act.put, List.setIfInBounds_toArray, List.set_cons_zero, List.set_cons_succ]
      refine take_run (i := 2) (oi := { dst := some 21, op := Go.Op.nilCheck (Go.Operand.tmp 20), type := 0, pos := "ref.go:80", after := #[{ on := 1, ground := Go.Ground.data }], guard := none }) (v := .pointer (some ⟨Q, 0, none⟩)) rfl (by kernel_rfl) (by kernel_rfl) (by kernel_rfl) (fun _ _ _ h => h) (by rfl) ?_ hHeld ?_
      · (intro wq hSw; go_simp <;> with_reducible rfl)
      try simp only [Act.put, List.setIfInBounds_toArray, List.set_cons_zero, List.set_cons_succ]
      refine take_run (i := 3) (oi := { dst := some 22, op := Go.Op.fieldAddr 44 (Go.Operand.tmp 21) 1, type := 0, pos := "ref.go:80", after := #[{ on := 2, ground := Go.Ground.data }], guard := none }) (v := .pointer (some ⟨Q, 1, none⟩)) rfl (by kernel_rfl) (by kernel_rfl) (by kernel_rfl) (fun _ _ _ h => h) (by rfl) ?_ hHeld ?_
      · (intro wq hSw; go_simp <;> with_reducible rfl)
      try simp only [Act.put, List.setIfInBounds_toArray, List.set_cons_zero, List.set_cons_succ]
      refine take_run (i := 5) (oi := { dst := some 24, op := Go.Op.move (Go.Operand.tmp 5), type := 3, pos := "ref.go:80", after := #[], guard := none }) (v := .int .i64 (j : Int)) rfl (by kernel_rfl) (by kernel_rfl) (by kernel_rfl) (fun _ _ _ h => h) (by rfl) ?_ hHeld ?_
      · (intro wq hSw; go_simp <;> with_reducible rfl)
      try simp only [Act.put, List.setIfInBounds_toArray, List.set_cons_zero, List.set_cons_succ]
      refine take_run (i := 6) (oi := { dst := some 25, op := Go.Op.move (Go.Operand.tmp 0), type := 3, pos := "ref.go:80", after := #[], guard := none }) (v := .int .i64 n) rfl (by kernel_rfl) (by kernel_rfl) (by kernel_rfl) (fun _ _ _ h => h) (by rfl) ?_ hHeld ?_
      · (intro wq hSw; go_simp <;> with_reducible rfl)
      try simp only [Act.put, List.setIfInBounds_toArray, List.set_cons_zero, List.set_cons_succ]
      refine take_run (i := 7) (oi := { dst := some 26, op := Go.Op.binOp Go.BinOp.rem 3 (Go.Operand.tmp 24) (Go.Operand.tmp 25) 3, type := 3, pos := "ref.go:80", after := #[{ on := 5, ground := Go.Ground.data }, { on := 6, ground := Go.Ground.data }], guard := none }) (v := .int .i64 ((j : Int) % n)) rfl (by kernel_rfl) (by kernel_rfl) (by kernel_rfl) (fun _ _ _ h => h) (by rfl) ?_ hHeld ?_
      · (intro wq hSw; go_simp <;> with_reducible rfl)
      try simp only [Act.put, List.setIfInBounds_toArray, List.set_cons_zero, List.set_cons_succ]
      refine take_run (i := 8) (oi := { dst := some 27, op := Go.Op.binOp Go.BinOp.add 3 (Go.Operand.const (Go.Value.int Go.IntKind.i64 1)) (Go.Operand.tmp 26) 3, type := 3, pos := "ref.go:80", after := #[{ on := 7, ground := Go.Ground.data }], guard := none }) (v := .int .i64 x) rfl (by kernel_rfl) (by kernel_rfl) (by kernel_rfl) (fun _ _ _ h => h) (by rfl) ?_ hHeld ?_
      · (intro wq hSw; go_simp <;> with_reducible rfl)
      try simp only [Act.put, List.setIfInBounds_toArray, List.set_cons_zero, List.set_cons_succ]
      refine take_two (i := 4) (j := 9) (oi := { dst := some 23, op := Go.Op.load 39 (Go.Operand.tmp 22), type := 39, pos := "ref.go:80", after := #[{ on := 3, ground := Go.Ground.data }], guard := none }) (oj := { dst := some 28, op := Go.Op.buildSlice 39 1 #[(0, Go.Operand.tmp 27)], type := 39, pos := "ref.go:80", after := #[{ on := 8, ground := Go.Ground.data }], guard := none }) (vO) (.slice (some ⟨wr.heap.size, 0, none⟩) 1 1) rfl rfl (by kernel_rfl) (by rfl) (by rfl) (by have cc := C1.out; go_simp <;> with_reducible rfl) trivial (by go_simp <;> with_reducible rfl) trivial ?_ ?_
      · try simp only [Act.put, List.setIfInBounds_toArray, List.set_cons_zero, List.set_cons_succ]
        refine take_val (i := 9) (oi := { dst := some 28, op := Go.Op.buildSlice 39 1 #[(0, Go.Operand.tmp 27)], type := 39, pos := "ref.go:80", after := #[{ on := 8, ground := Go.Ground.data }], guard := none }) (.slice (some ⟨wr.heap.size, 0, none⟩) 1 1) rfl (by kernel_rfl) (by rfl) (by go_simp <;> with_reducible rfl) trivial ?_
        try simp only [Act.put, List.setIfInBounds_toArray, List.set_cons_zero, List.set_cons_succ]
        refine take_val (i := 10) (oi := { dst := some 29, op := Go.Op.call { callee := Go.Callee.builtin Go.Builtin.append, args := #[Go.Operand.tmp 23, Go.Operand.tmp 28], argTypes := #[39, 39] }, type := 39, pos := "ref.go:80", after := #[{ on := 4, ground := Go.Ground.data }, { on := 9, ground := Go.Ground.data }], guard := none }) ((.slice (some ⟨gO, 0, none⟩) (j + 1) cpO)) rfl (by kernel_rfl) (by rfl) (exec_appN (.tmp 23) (.tmp 28) 39 rfl rfl rfl XA.out) trivial ?_
        try simp only [Act.put, List.setIfInBounds_toArray, List.set_cons_zero, List.set_cons_succ]
        refine take_run (i := 11) (oi := { dst := some 30, op := Go.Op.nilCheck (Go.Operand.tmp 19), type := 0, pos := "ref.go:80", after := #[{ on := 0, ground := Go.Ground.data }, { on := 0, ground := Go.Ground.phase }, { on := 1, ground := Go.Ground.phase }, { on := 2, ground := Go.Ground.phase }, { on := 3, ground := Go.Ground.phase }, { on := 4, ground := Go.Ground.phase }, { on := 5, ground := Go.Ground.phase }, { on := 6, ground := Go.Ground.phase }, { on := 7, ground := Go.Ground.phase }, { on := 8, ground := Go.Ground.phase }, { on := 9, ground := Go.Ground.phase }, { on := 10, ground := Go.Ground.phase }], guard := none }) (v := .pointer (some ⟨Q, 0, none⟩)) rfl (by kernel_rfl) (by kernel_rfl) (by kernel_rfl) (fun _ _ _ h => h) (by rfl) ?_ trivial ?_
        · (intro wq hSw; go_simp <;> with_reducible rfl)
        try simp only [Act.put, List.setIfInBounds_toArray, List.set_cons_zero, List.set_cons_succ]
        refine take_run (i := 12) (oi := { dst := some 31, op := Go.Op.fieldAddr 44 (Go.Operand.tmp 30) 1, type := 0, pos := "ref.go:80", after := #[{ on := 11, ground := Go.Ground.data }, { on := 0, ground := Go.Ground.phase }, { on := 1, ground := Go.Ground.phase }, { on := 2, ground := Go.Ground.phase }, { on := 3, ground := Go.Ground.phase }, { on := 4, ground := Go.Ground.phase }, { on := 5, ground := Go.Ground.phase }, { on := 6, ground := Go.Ground.phase }, { on := 7, ground := Go.Ground.phase }, { on := 8, ground := Go.Ground.phase }, { on := 9, ground := Go.Ground.phase }, { on := 10, ground := Go.Ground.phase }], guard := none }) (v := .pointer (some ⟨Q, 1, none⟩)) rfl (by kernel_rfl) (by kernel_rfl) (by kernel_rfl) (fun _ _ _ h => h) (by rfl) ?_ trivial ?_
        · (intro wq hSw; go_simp <;> with_reducible rfl)
        try simp only [Act.put, List.setIfInBounds_toArray, List.set_cons_zero, List.set_cons_succ]
        refine take_eff (i := 13) (oi := { dst := none, op := Go.Op.store 39 (Go.Operand.tmp 31) (Go.Operand.tmp 29), type := 0, pos := "ref.go:80", after := #[{ on := 12, ground := Go.Ground.data }, { on := 10, ground := Go.Ground.data }, { on := 10, ground := Go.Ground.chain }, { on := 0, ground := Go.Ground.phase }, { on := 1, ground := Go.Ground.phase }, { on := 2, ground := Go.Ground.phase }, { on := 3, ground := Go.Ground.phase }, { on := 4, ground := Go.Ground.phase }, { on := 5, ground := Go.Ground.phase }, { on := 6, ground := Go.Ground.phase }, { on := 7, ground := Go.Ground.phase }, { on := 8, ground := Go.Ground.phase }, { on := 9, ground := Go.Ground.phase }, { on := 10, ground := Go.Ground.phase }], guard := none }) rfl (by kernel_rfl) (by rfl) (by have cc := R1.out.1; have cd := R1.out.2.1; go_simp <;> with_reducible rfl) trivial ?_
        try simp only [Act.put]
        refine wpAnyH_done (by kernel_rfl) ?_ _
        clear hHeld
        have R2 : Hid (RN w (w5.setCell ⟨Q, 1, none⟩ (.slice (some ⟨gO, 0, none⟩) (j + 1) cpO)) Q n (.slice (some ⟨gO, 0, none⟩) (j + 1) cpO) vE (j + 1) j (ownA n j ++ [x]) (List.replicate j 0)) := R1.out.2.2
        generalize w5.setCell ⟨Q, 1, none⟩ (.slice (some ⟨gO, 0, none⟩) (j + 1) cpO) = w6 at *
        have c2 : w6.cell? ⟨Q, 2, none⟩ = some vE := R2.out.q.cell 2
        have r3 := R2.out.alloc (.cells #[.int .i64 0] 2)
        obtain ⟨vE', w7, hr7, o7, g7⟩ := appE (w := w6.alloc (.cells #[.int .i64 0] 2)) r3.e w6.heap.size 0 (by have := (Blk.new w6 #[.int .i64 0] 2).cell 0; exact this) r3.b.size (by omega) 40
        obtain ⟨gE, cpE, rfl, _⟩ := o7.form (by omega)
        obtain ⟨k7, f7, r7⟩ := r3.grownE g7 o7
        have X2 : Hid _ := hr7
        have R7 : Hid (RN w (w7.setCell ⟨Q, 2, none⟩ (.slice (some ⟨gE, 0, none⟩) (j + 1) cpE)) Q n (.slice (some ⟨gO, 0, none⟩) (j + 1) cpO) (.slice (some ⟨gE, 0, none⟩) (j + 1) cpE) (j + 1) (j + 1) (ownA n j ++ [x]) (List.replicate j 0 ++ [0])) := r7
        have ltQ := R2.out.q.lt
        clear r3 hr7 o7 g7 r7 R1 XA C1 C2
        go_wp2_with (first | (at_builtin; refine wpList_append_known rfl (.tmp 36) (.tmp 37) 40 40 rfl _ _ rfl rfl _ _ X2.out ?_))
        go_roundw
        case rel => exact ⟨j + 1, by omega, by go_num, ⟨(.slice (some ⟨gO, 0, none⟩) (j + 1) cpO), (.slice (some ⟨gE, 0, none⟩) (j + 1) cpE), by rw [ownA_succ, EX.out]; rw [show List.replicate (j + 1) (0 : Int) = List.replicate j 0 ++ [0] from List.replicate_succ']; exact R7.out⟩⟩
        case measure => simp only [intOf]; omega
      · try simp only [Act.put, List.setIfInBounds_toArray, List.set_cons_zero, List.set_cons_succ]
        refine take_val (i := 4) (oi := { dst := some 23, op := Go.Op.load 39 (Go.Operand.tmp 22), type := 39, pos := "ref.go:80", after := #[{ on := 3, ground := Go.Ground.data }], guard := none }) (vO) rfl (by kernel_rfl) (by rfl) (by have cc := C2.out; go_simp <;> with_reducible rfl) trivial ?_
        try simp only [Act.put, List.setIfInBounds_toArray, List.set_cons_zero, List.set_cons_succ]
        refine take_val (i := 10) (oi := { dst := some 29, op := Go.Op.call { callee := Go.Callee.builtin Go.Builtin.append, args := #[Go.Operand.tmp 23, Go.Operand.tmp 28], argTypes := #[39, 39] }, type := 39, pos := "ref.go:80", after := #[{ on := 4, ground := Go.Ground.data }, { on := 9, ground := Go.Ground.data }], guard := none }) ((.slice (some ⟨gO, 0, none⟩) (j + 1) cpO)) rfl (by kernel_rfl) (by rfl) (exec_appN (.tmp 23) (.tmp 28) 39 rfl rfl rfl XA.out) trivial ?_
        try simp only [Act.put, List.setIfInBounds_toArray, List.set_cons_zero, List.set_cons_succ]
        refine take_run (i := 11) (oi := { dst := some 30, op := Go.Op.nilCheck (Go.Operand.tmp 19), type := 0, pos := "ref.go:80", after := #[{ on := 0, ground := Go.Ground.data }, { on := 0, ground := Go.Ground.phase }, { on := 1, ground := Go.Ground.phase }, { on := 2, ground := Go.Ground.phase }, { on := 3, ground := Go.Ground.phase }, { on := 4, ground := Go.Ground.phase }, { on := 5, ground := Go.Ground.phase }, { on := 6, ground := Go.Ground.phase }, { on := 7, ground := Go.Ground.phase }, { on := 8, ground := Go.Ground.phase }, { on := 9, ground := Go.Ground.phase }, { on := 10, ground := Go.Ground.phase }], guard := none }) (v := .pointer (some ⟨Q, 0, none⟩)) rfl (by kernel_rfl) (by kernel_rfl) (by kernel_rfl) (fun _ _ _ h => h) (by rfl) ?_ trivial ?_
        · (intro wq hSw; go_simp <;> with_reducible rfl)
        try simp only [Act.put, List.setIfInBounds_toArray, List.set_cons_zero, List.set_cons_succ]
        refine take_run (i := 12) (oi := { dst := some 31, op := Go.Op.fieldAddr 44 (Go.Operand.tmp 30) 1, type := 0, pos := "ref.go:80", after := #[{ on := 11, ground := Go.Ground.data }, { on := 0, ground := Go.Ground.phase }, { on := 1, ground := Go.Ground.phase }, { on := 2, ground := Go.Ground.phase }, { on := 3, ground := Go.Ground.phase }, { on := 4, ground := Go.Ground.phase }, { on := 5, ground := Go.Ground.phase }, { on := 6, ground := Go.Ground.phase }, { on := 7, ground := Go.Ground.phase }, { on := 8, ground := Go.Ground.phase }, { on := 9, ground := Go.Ground.phase }, { on := 10, ground := Go.Ground.phase }], guard := none }) (v := .pointer (some ⟨Q, 1, none⟩)) rfl (by kernel_rfl) (by kernel_rfl) (by kernel_rfl) (fun _ _ _ h => h) (by rfl) ?_ trivial ?_
        · (intro wq hSw; go_simp <;> with_reducible rfl)
        try simp only [Act.put, List.setIfInBounds_toArray, List.set_cons_zero, List.set_cons_succ]
        refine take_eff (i := 13) (oi := { dst := none, op := Go.Op.store 39 (Go.Operand.tmp 31) (Go.Operand.tmp 29), type := 0, pos := "ref.go:80", after := #[{ on := 12, ground := Go.Ground.data }, { on := 10, ground := Go.Ground.data }, { on := 10, ground := Go.Ground.chain }, { on := 0, ground := Go.Ground.phase }, { on := 1, ground := Go.Ground.phase }, { on := 2, ground := Go.Ground.phase }, { on := 3, ground := Go.Ground.phase }, { on := 4, ground := Go.Ground.phase }, { on := 5, ground := Go.Ground.phase }, { on := 6, ground := Go.Ground.phase }, { on := 7, ground := Go.Ground.phase }, { on := 8, ground := Go.Ground.phase }, { on := 9, ground := Go.Ground.phase }, { on := 10, ground := Go.Ground.phase }], guard := none }) rfl (by kernel_rfl) (by rfl) (by have cc := R1.out.1; have cd := R1.out.2.1; go_simp <;> with_reducible rfl) trivial ?_
        try simp only [Act.put]
        refine wpAnyH_done (by kernel_rfl) ?_ _
        clear hHeld
        have R2 : Hid (RN w (w5.setCell ⟨Q, 1, none⟩ (.slice (some ⟨gO, 0, none⟩) (j + 1) cpO)) Q n (.slice (some ⟨gO, 0, none⟩) (j + 1) cpO) vE (j + 1) j (ownA n j ++ [x]) (List.replicate j 0)) := R1.out.2.2
        generalize w5.setCell ⟨Q, 1, none⟩ (.slice (some ⟨gO, 0, none⟩) (j + 1) cpO) = w6 at *
        have c2 : w6.cell? ⟨Q, 2, none⟩ = some vE := R2.out.q.cell 2
        have r3 := R2.out.alloc (.cells #[.int .i64 0] 2)
        obtain ⟨vE', w7, hr7, o7, g7⟩ := appE (w := w6.alloc (.cells #[.int .i64 0] 2)) r3.e w6.heap.size 0 (by have := (Blk.new w6 #[.int .i64 0] 2).cell 0; exact this) r3.b.size (by omega) 40
        obtain ⟨gE, cpE, rfl, _⟩ := o7.form (by omega)
        obtain ⟨k7, f7, r7⟩ := r3.grownE g7 o7
        have X2 : Hid _ := hr7
        have R7 : Hid (RN w (w7.setCell ⟨Q, 2, none⟩ (.slice (some ⟨gE, 0, none⟩) (j + 1) cpE)) Q n (.slice (some ⟨gO, 0, none⟩) (j + 1) cpO) (.slice (some ⟨gE, 0, none⟩) (j + 1) cpE) (j + 1) (j + 1) (ownA n j ++ [x]) (List.replicate j 0 ++ [0])) := r7
        have ltQ := R2.out.q.lt
        clear r3 hr7 o7 g7 r7 R1 XA C1 C2
        go_wp2_with (first | (at_builtin; refine wpList_append_known rfl (.tmp 36) (.tmp 37) 40 40 rfl _ _ rfl rfl _ _ X2.out ?_))
        go_roundw
        case rel => exact ⟨j + 1, by omega, by go_num, ⟨(.slice (some ⟨gO, 0, none⟩) (j + 1) cpO), (.slice (some ⟨gE, 0, none⟩) (j + 1) cpE), by rw [ownA_succ, EX.out]; rw [show List.replicate (j + 1) (0 : Int) = List.replicate j 0 ++ [0] from List.replicate_succ']; exact R7.out⟩⟩
        case measure => simp only [intOf]; omega
    · obtain rfl : j = 16 := by omega
      rw [show ((16 : Nat) : Int) = 16 from rfl]
      have HH2 := HH
      clear HH hj hj16
      go_wp2
      go_ret2
      refine ⟨rfl, ?_⟩
      obtain ⟨vO, vE, r1⟩ := HH2.out
      obtain ⟨O, cO, cur, rfl, bO, hO, k1, k2, k3⟩ := own_row r1.o (by simp [ownA])
      obtain ⟨E, cE, cur2, rfl, bE, hE, m1, m2, m3⟩ := own_row r1.e (by simp)
      have e := fun k => newL_at n 16 k (by omega)
      refine ⟨O, E, cO, cE, ⟨?_, ⟨cur, k1, k2, fun i hi => ?_⟩, ⟨cur2, m1, m2, fun i hi => ?_⟩, newL_len _ _, Nat.le_refl _, by rw [← EQ.out]; exact bO, by rw [← EQ.out]; exact bE, hO, hE⟩, by rw [← EQ.out]; exact r1.b⟩
      · have : qcells (newL n 16) O cO E cE = #[.int .i64 n, .slice (some ⟨O, 0, none⟩) 16 cO, .slice (some ⟨E, 0, none⟩) 16 cE, .int .i64 0, .int .i64 0, .int .i64 0, .int .i64 0, .int .i64 0, .int .i64 0, .int .i64 0, .int .i64 0, .int .i64 0] := by
          unfold qcells
          rw [e 0, e 33, e 34, e 35, e 36, e 37, e 38, e 39, e 40, e 41]
          simp
        rw [this]
        exact r1.q
      · rw [k3 i hi, e, if_neg (by omega), if_pos (by omega), show (1 + i * 2) / 2 = i by omega]
        simp [ownA, at_, hi]
      · rw [m3 i hi, e, if_neg (by omega), if_neg (by omega)]
        congr 2
        show (List.replicate 16 (0 : Int)).getD i 0 = 0
        rw [List.getD_eq_getElem?_getD, List.getElem?_replicate]
        split <;> rfl
end Go.Proofs.Ytpdgmlljjjeifaa
