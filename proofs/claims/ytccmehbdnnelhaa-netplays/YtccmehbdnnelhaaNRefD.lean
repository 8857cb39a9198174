/- The reference of package net: Double. -/
import Derived.Test.YtccmehbdnnelhaaNGa
namespace Go.Proofs.Ytccmehbdnnelhaa
open Go.RowKit Go.Maps
attribute [local go_sem] Oper.semAt_some
set_option linter.unusedVariables false
/-- What the reference's Double answers. -/
def RDoubleTold (base R : Nat) (ms : List OpN) (k : Int) (w w' : World) (e : Ending) : Prop :=
  ((k < 0 ∨ (ms.length : Int) ≤ k) ∧ e = .returned (.int .i64 1) ∧ Below w.heap.size w w') ∨
  ∃ (i : Nat) (hi : i < ms.length), k = (i : Int) ∧ ((10000 ≤ ms.length ∧ e = .returned (.int .i64 4) ∧ Below w.heap.size w w') ∨ (ms.length < 10000 ∧ e = .returned (.int .i64 0) ∧ ∃ v', RefIn w' base R v' (ms ++ [ms[i]]) ∧ RKeep base w w'))
theorem below_drew (w : World) : Below w.heap.size w w.drew := (Below.refl _ w).drew
set_option maxRecDepth 100000 in
set_option maxHeartbeats 2000000 in
theorem rdouble_any {w : World} {base R : Nat} {v : Value} {ms : List OpN} (h : RefIn w base R v ms) (k : Int) : Calls Try.prog 19 #[.pointer (some ⟨R, 0, none⟩), .int .i64 k] w fun e w' => RDoubleTold base R ms k w w' e := by
  have HL := rlook_any h k
  have H : Hid (RefIn w base R v ms) := h
  have hbs : base ≤ w.heap.size := Nat.le_of_lt (Nat.lt_of_le_of_lt h.bR h.lt)
  obtain ⟨a, c, ev⟩ := h.form
  clear h
  go_enter Try.func19, Try.ntmps19
  go_wp2_with fail
  refine HL.mono ?_
  rintro e w1 ⟨ft, b1⟩
  clear HL
  rcases ft with ⟨hk, rfl⟩ | ⟨i, hi, rfl, rfl⟩
  · have BS : Hid (Below w.heap.size w (w1.alloc (.cells #[.int .i64 0, .int .i64 0, .slice none 0 0] 48))) := b1.trans (((Below.refl _ w1).alloc (Nat.le_refl _) _).mono b1.size)
    have HKk : Hid (k < 0 ∨ (ms.length : Int) ≤ k) := hk
    clear b1 hbs ev hk
    go_wp2
    go_ret
    exact .inl ⟨HKk.out, rfl, BS.out⟩
  · obtain ⟨o, eo⟩ : ∃ o, ms[i] = o := ⟨_, rfl⟩
    have dO := H.out.dat ms[i] (List.getElem_mem hi)
    rw [eo] at dO
    rw [eo]
    have a2 := (Below.refl _ w1).alloc (Nat.le_refl _) (.cells #[.int .i64 o.f, .int .i64 o.n, .slice o.a o.b.length o.c] 48)
    have n2 := heap_alloc_new w1 (.cells #[.int .i64 o.f, .int .i64 o.n, .slice o.a o.b.length o.c] 48)
    obtain ⟨w2, e2⟩ : ∃ w2, w1.alloc (.cells #[.int .i64 o.f, .int .i64 o.n, .slice o.a o.b.length o.c] 48) = w2 := ⟨_, rfl⟩
    rw [e2] at a2 n2
    have b2 : Below w.heap.size w w2 := b1.trans (a2.mono b1.size)
    have h2 := H.out.below b2
    have d2 := dO.below b2
    obtain ⟨P, eP⟩ : ∃ P, w1.heap.size = P := ⟨_, rfl⟩
    rw [eP] at n2
    have q := h2.c0
    rw [ev] at q
    have B2 : Hid (Below w.heap.size w w2) := b2
    by_cases hf : 10000 ≤ ms.length
    · have HI : Hid (i < ms.length ∧ 10000 ≤ ms.length) := ⟨hi, hf⟩
      obtain ⟨m, em⟩ : ∃ m, ms.length = m := ⟨_, rfl⟩
      rw [em] at q hf
      have h1 : (10000 : Int) ≤ (m : Int) := by omega
      clear hi a2 n2 b1 b2 h2 d2 dO eo hbs em ev hf
      go_wp2_with (first | (rw [e2]) | fail)
      go_ret
      exact .inr ⟨i, HI.out.1, rfl, .inl ⟨HI.out.2, rfl, B2.out⟩⟩
    · have HI : Hid (i < ms.length ∧ ms.length < 10000) := ⟨hi, by omega⟩
      have hd := h2.below (below_drew w2)
      obtain ⟨g, gc, w', hap, fz, cl, r', k'⟩ := hd.grow o (by omega) (d2.below (below_drew w2))
      have bb : base ≤ w2.heap.size := Nat.le_trans hbs b2.size
      have EO : Hid (∃ hi : i < ms.length, ms[i] = o) := ⟨hi, eo⟩
      have FIN : Hid (∃ v', RefIn (w'.setCell ⟨R, 0, none⟩ (.slice (some ⟨g, 0, none⟩) (ms.length + 1) gc)) base R v' (ms ++ [o]) ∧ RKeep base w (w'.setCell ⟨R, 0, none⟩ (.slice (some ⟨g, 0, none⟩) (ms.length + 1) gc))) := ⟨_, r', ((RKeep.of_below b2 hbs).trans (RKeep.of_below (below_drew w2) bb)).trans k'⟩
      obtain ⟨m, em⟩ : ∃ m, ms.length = m := ⟨_, rfl⟩
      rw [ev] at hap cl
      rw [em] at q hf hap FIN cl
      have h1 : ¬ ((10000 : Int) ≤ (m : Int)) := by omega
      have HAP : Hid _ := hap
      have CR : Hid (w2.drew.cell? ⟨R, 0, none⟩ = some (.slice a m c)) := by show _ = _; rw [← q]; rfl
      have CP : Hid (w2.drew.cell? ⟨P, 0, none⟩ = some (.int .i64 o.f) ∧ w2.drew.cell? ⟨P, 1, none⟩ = some (.int .i64 o.n) ∧ w2.drew.cell? ⟨P, 2, none⟩ = some (.slice o.a o.b.length o.c)) := by
        have n3 : w2.drew.heap[P]? = _ := n2
        refine ⟨?_, ?_, ?_⟩ <;> (unfold World.cell?; simp only [n3]; rfl)
      have HC : Hid (w'.cell? ⟨R, 0, none⟩ = some (.slice a m c) ∧ w'.frozen? ⟨R, 0, none⟩ = false) := ⟨cl, fz⟩
      have CRA : Hid ((w2.alloc (.cells #[.int .i64 o.f, .int .i64 o.n, .slice o.a o.b.length o.c] 48)).cell? ⟨R, 0, none⟩ = some (.slice a m c)) := by
        show _ = _
        rw [((Below.refl _ w2).alloc (Nat.le_refl _) _).cell (p := ⟨R, 0, none⟩) (World.block_lt_of_cell? w2 _ q)]
        exact q
      clear hi a2 n2 b1 b2 h2 d2 dO eo hbs em ev hf hd hap fz cl r' k' bb
      go_wp2_with (first | (rw [e2]) | fail)
      refine wp_region_held_drew (S := fun _ => True) (by kernel_rfl) trivial (fun hHeld => ?_)
      refine take_run (i := 0) (oi := { dst := some 22, op := Go.Op.move (Go.Operand.tmp 0), type := 25, pos := "ref.go:67", after := #[], guard := none }) (v := .pointer (some ⟨R, 0, none⟩)) rfl (by kernel_rfl) (by kernel_rfl) (by kernel_rfl) (fun _ _ _ h => h) (by rfl) ?_ hHeld ?_
      · (intro wq hSw; go_simp <;> with_reducible rfl)
      try simp only [Act.put, List.setIfInBounds_toArray, List.set_cons_zero, List.set_cons_succ]
      refine take_run (i := 1) (oi := { dst := some 23, op := Go.Op.move (Go.Operand.tmp 0), type := 25, pos := "ref.go:67", after := #[], guard := none }) (v := .pointer (some ⟨R, 0, none⟩)) rfl (by kernel_rfl) (by kernel_rfl) (by kernel_rfl) (fun _ _ _ h => h) (by rfl) ?_ hHeld ?_
      · (intro wq hSw; go_simp <;> with_reducible rfl)
      try simp only [Act.put, List.setIfInBounds_toArray, List.set_cons_zero, List.set_cons_succ]
      refine take_run (i := 2) (oi := { dst := some 24, op := Go.Op.nilCheck (Go.Operand.tmp 23), type := 0, pos := "ref.go:67", after := #[{ on := 1, ground := Go.Ground.data }], guard := none }) (v := .pointer (some ⟨R, 0, none⟩)) rfl (by kernel_rfl) (by kernel_rfl) (by kernel_rfl) (fun _ _ _ h => h) (by rfl) ?_ hHeld ?_
      · (intro wq hSw; go_simp <;> with_reducible rfl)
      try simp only [Act.put, List.setIfInBounds_toArray, List.set_cons_zero, List.set_cons_succ]
      refine take_run (i := 3) (oi := { dst := some 25, op := Go.Op.fieldAddr 28 (Go.Operand.tmp 24) 0, type := 0, pos := "ref.go:67", after := #[{ on := 2, ground := Go.Ground.data }], guard := none }) (v := .pointer (some ⟨R, 0, none⟩)) rfl (by kernel_rfl) (by kernel_rfl) (by kernel_rfl) (fun _ _ _ h => h) (by rfl) ?_ hHeld ?_
      · (intro wq hSw; go_simp <;> with_reducible rfl)
      try simp only [Act.put, List.setIfInBounds_toArray, List.set_cons_zero, List.set_cons_succ]
      refine take_two (i := 4) (j := 5) (oi := { dst := some 26, op := Go.Op.load 26 (Go.Operand.tmp 25), type := 26, pos := "ref.go:67", after := #[{ on := 3, ground := Go.Ground.data }], guard := none }) (oj := { dst := some 27, op := Go.Op.load 48 (Go.Operand.tmp 5), type := 48, pos := "ref.go:67", after := #[], guard := none }) (.slice a m c) (.agg #[.int .i64 o.f, .int .i64 o.n, .slice o.a o.b.length o.c]) rfl rfl (by kernel_rfl) (by rfl) (by rfl) (by have cc := CR.out; go_simp <;> with_reducible rfl) trivial (by have c0 := CP.out.1; have c1 := CP.out.2.1; have c2 := CP.out.2.2; go_simp <;> with_reducible rfl) trivial ?_ ?_
      · try simp only [Act.put, List.setIfInBounds_toArray, List.set_cons_zero, List.set_cons_succ]
        refine take_val (i := 5) (oi := { dst := some 27, op := Go.Op.load 48 (Go.Operand.tmp 5), type := 48, pos := "ref.go:67", after := #[], guard := none }) (.agg #[.int .i64 o.f, .int .i64 o.n, .slice o.a o.b.length o.c]) rfl (by kernel_rfl) (by rfl) (by have c0 := CP.out.1; have c1 := CP.out.2.1; have c2 := CP.out.2.2; go_simp <;> with_reducible rfl) trivial ?_
        try simp only [Act.put, List.setIfInBounds_toArray, List.set_cons_zero, List.set_cons_succ]
        refine take_val (i := 6) (oi := { dst := some 28, op := Go.Op.buildSlice 26 1 #[(0, Go.Operand.tmp 27)], type := 26, pos := "ref.go:67", after := #[{ on := 5, ground := Go.Ground.data }], guard := none }) (.slice (some ⟨w2.heap.size, 0, none⟩) 1 1) rfl (by kernel_rfl) (by rfl) (by go_simp <;> with_reducible rfl) trivial ?_
        try simp only [Act.put, List.setIfInBounds_toArray, List.set_cons_zero, List.set_cons_succ]
        refine take_val (i := 7) (oi := { dst := some 29, op := Go.Op.call { callee := Go.Callee.builtin Go.Builtin.append, args := #[Go.Operand.tmp 26, Go.Operand.tmp 28], argTypes := #[26, 26] }, type := 26, pos := "ref.go:67", after := #[{ on := 4, ground := Go.Ground.data }, { on := 6, ground := Go.Ground.data }], guard := none }) (.slice (some ⟨g, 0, none⟩) (m + 1) gc) rfl (by kernel_rfl) (by rfl) (exec_appN (.tmp 26) (.tmp 28) 26 rfl rfl rfl HAP.out) trivial ?_
        try simp only [Act.put, List.setIfInBounds_toArray, List.set_cons_zero, List.set_cons_succ]
        refine take_run (i := 8) (oi := { dst := some 30, op := Go.Op.nilCheck (Go.Operand.tmp 22), type := 0, pos := "ref.go:67", after := #[{ on := 0, ground := Go.Ground.data }, { on := 0, ground := Go.Ground.phase }, { on := 1, ground := Go.Ground.phase }, { on := 2, ground := Go.Ground.phase }, { on := 3, ground := Go.Ground.phase }, { on := 4, ground := Go.Ground.phase }, { on := 5, ground := Go.Ground.phase }, { on := 6, ground := Go.Ground.phase }, { on := 7, ground := Go.Ground.phase }], guard := none }) (v := .pointer (some ⟨R, 0, none⟩)) rfl (by kernel_rfl) (by kernel_rfl) (by kernel_rfl) (fun _ _ _ h => h) (by rfl) ?_ trivial ?_
        · (intro wq hSw; go_simp <;> with_reducible rfl)
        try simp only [Act.put, List.setIfInBounds_toArray, List.set_cons_zero, List.set_cons_succ]
        refine take_run (i := 9) (oi := { dst := some 31, op := Go.Op.fieldAddr 28 (Go.Operand.tmp 30) 0, type := 0, pos := "ref.go:67", after := #[{ on := 8, ground := Go.Ground.data }, { on := 0, ground := Go.Ground.phase }, { on := 1, ground := Go.Ground.phase }, { on := 2, ground := Go.Ground.phase }, { on := 3, ground := Go.Ground.phase }, { on := 4, ground := Go.Ground.phase }, { on := 5, ground := Go.Ground.phase }, { on := 6, ground := Go.Ground.phase }, { on := 7, ground := Go.Ground.phase }], guard := none }) (v := .pointer (some ⟨R, 0, none⟩)) rfl (by kernel_rfl) (by kernel_rfl) (by kernel_rfl) (fun _ _ _ h => h) (by rfl) ?_ trivial ?_
        · (intro wq hSw; go_simp <;> with_reducible rfl)
        try simp only [Act.put, List.setIfInBounds_toArray, List.set_cons_zero, List.set_cons_succ]
        refine take_eff (i := 10) (oi := { dst := none, op := Go.Op.store 26 (Go.Operand.tmp 31) (Go.Operand.tmp 29), type := 0, pos := "ref.go:67", after := #[{ on := 9, ground := Go.Ground.data }, { on := 7, ground := Go.Ground.data }, { on := 7, ground := Go.Ground.chain }, { on := 0, ground := Go.Ground.phase }, { on := 1, ground := Go.Ground.phase }, { on := 2, ground := Go.Ground.phase }, { on := 3, ground := Go.Ground.phase }, { on := 4, ground := Go.Ground.phase }, { on := 5, ground := Go.Ground.phase }, { on := 6, ground := Go.Ground.phase }, { on := 7, ground := Go.Ground.phase }], guard := none }) rfl (by kernel_rfl) (by rfl) (by have cc := HC.out.1; have cd := HC.out.2; go_simp <;> with_reducible rfl) trivial ?_
        try simp only [Act.put]
        refine wpAnyH_done (by kernel_rfl) ?_ _
        clear hHeld
        go_wp2
        go_ret
        obtain ⟨hh, ee⟩ := EO.out
        exact .inr ⟨i, hh, rfl, .inr ⟨HI.out.2, rfl, by rw [ee]; exact FIN.out⟩⟩
      · try simp only [Act.put, List.setIfInBounds_toArray, List.set_cons_zero, List.set_cons_succ]
        refine take_two (i := 4) (j := 6) (oi := { dst := some 26, op := Go.Op.load 26 (Go.Operand.tmp 25), type := 26, pos := "ref.go:67", after := #[{ on := 3, ground := Go.Ground.data }], guard := none }) (oj := { dst := some 28, op := Go.Op.buildSlice 26 1 #[(0, Go.Operand.tmp 27)], type := 26, pos := "ref.go:67", after := #[{ on := 5, ground := Go.Ground.data }], guard := none }) (.slice a m c) (.slice (some ⟨w2.heap.size, 0, none⟩) 1 1) rfl rfl (by kernel_rfl) (by rfl) (by rfl) (by have cc := CR.out; go_simp <;> with_reducible rfl) trivial (by go_simp <;> with_reducible rfl) trivial ?_ ?_
        · try simp only [Act.put, List.setIfInBounds_toArray, List.set_cons_zero, List.set_cons_succ]
          refine take_val (i := 6) (oi := { dst := some 28, op := Go.Op.buildSlice 26 1 #[(0, Go.Operand.tmp 27)], type := 26, pos := "ref.go:67", after := #[{ on := 5, ground := Go.Ground.data }], guard := none }) (.slice (some ⟨w2.heap.size, 0, none⟩) 1 1) rfl (by kernel_rfl) (by rfl) (by go_simp <;> with_reducible rfl) trivial ?_
          try simp only [Act.put, List.setIfInBounds_toArray, List.set_cons_zero, List.set_cons_succ]
          refine take_val (i := 7) (oi := { dst := some 29, op := Go.Op.call { callee := Go.Callee.builtin Go.Builtin.append, args := #[Go.Operand.tmp 26, Go.Operand.tmp 28], argTypes := #[26, 26] }, type := 26, pos := "ref.go:67", after := #[{ on := 4, ground := Go.Ground.data }, { on := 6, ground := Go.Ground.data }], guard := none }) (.slice (some ⟨g, 0, none⟩) (m + 1) gc) rfl (by kernel_rfl) (by rfl) (exec_appN (.tmp 26) (.tmp 28) 26 rfl rfl rfl HAP.out) trivial ?_
          try simp only [Act.put, List.setIfInBounds_toArray, List.set_cons_zero, List.set_cons_succ]
          refine take_run (i := 8) (oi := { dst := some 30, op := Go.Op.nilCheck (Go.Operand.tmp 22), type := 0, pos := "ref.go:67", after := #[{ on := 0, ground := Go.Ground.data }, { on := 0, ground := Go.Ground.phase }, { on := 1, ground := Go.Ground.phase }, { on := 2, ground := Go.Ground.phase }, { on := 3, ground := Go.Ground.phase }, { on := 4, ground := Go.Ground.phase }, { on := 5, ground := Go.Ground.phase }, { on := 6, ground := Go.Ground.phase }, { on := 7, ground := Go.Ground.phase }], guard := none }) (v := .pointer (some ⟨R, 0, none⟩)) rfl (by kernel_rfl) (by kernel_rfl) (by kernel_rfl) (fun _ _ _ h => h) (by rfl) ?_ trivial ?_
          · (intro wq hSw; go_simp <;> with_reducible rfl)
          try simp only [Act.put, List.setIfInBounds_toArray, List.set_cons_zero, List.set_cons_succ]
          refine take_run (i := 9) (oi := { dst := some 31, op := Go.Op.fieldAddr 28 (Go.Operand.tmp 30) 0, type := 0, pos := "ref.go:67", after := #[{ on := 8, ground := Go.Ground.data }, { on := 0, ground := Go.Ground.phase }, { on := 1, ground := Go.Ground.phase }, { on := 2, ground := Go.Ground.phase }, { on := 3, ground := Go.Ground.phase }, { on := 4, ground := Go.Ground.phase }, { on := 5, ground := Go.Ground.phase }, { on := 6, ground := Go.Ground.phase }, { on := 7, ground := Go.Ground.phase }], guard := none }) (v := .pointer (some ⟨R, 0, none⟩)) rfl (by kernel_rfl) (by kernel_rfl) (by kernel_rfl) (fun _ _ _ h => h) (by rfl) ?_ trivial ?_
          · (intro wq hSw; go_simp <;> with_reducible rfl)
          try simp only [Act.put, List.setIfInBounds_toArray, List.set_cons_zero, List.set_cons_succ]
          refine take_eff (i := 10) (oi := { dst := none, op := Go.Op.store 26 (Go.Operand.tmp 31) (Go.Operand.tmp 29), type := 0, pos := "ref.go:67", after := #[{ on := 9, ground := Go.Ground.data }, { on := 7, ground := Go.Ground.data }, { on := 7, ground := Go.Ground.chain }, { on := 0, ground := Go.Ground.phase }, { on := 1, ground := Go.Ground.phase }, { on := 2, ground := Go.Ground.phase }, { on := 3, ground := Go.Ground.phase }, { on := 4, ground := Go.Ground.phase }, { on := 5, ground := Go.Ground.phase }, { on := 6, ground := Go.Ground.phase }, { on := 7, ground := Go.Ground.phase }], guard := none }) rfl (by kernel_rfl) (by rfl) (by have cc := HC.out.1; have cd := HC.out.2; go_simp <;> with_reducible rfl) trivial ?_
          try simp only [Act.put]
          refine wpAnyH_done (by kernel_rfl) ?_ _
          clear hHeld
          go_wp2
          go_ret
          obtain ⟨hh, ee⟩ := EO.out
          exact .inr ⟨i, hh, rfl, .inr ⟨HI.out.2, rfl, by rw [ee]; exact FIN.out⟩⟩
        · try simp only [Act.put, List.setIfInBounds_toArray, List.set_cons_zero, List.set_cons_succ]
          refine take_val (i := 4) (oi := { dst := some 26, op := Go.Op.load 26 (Go.Operand.tmp 25), type := 26, pos := "ref.go:67", after := #[{ on := 3, ground := Go.Ground.data }], guard := none }) (.slice a m c) rfl (by kernel_rfl) (by rfl) (by have cc := CRA.out; go_simp <;> with_reducible rfl) trivial ?_
          try simp only [Act.put, List.setIfInBounds_toArray, List.set_cons_zero, List.set_cons_succ]
          refine take_val (i := 7) (oi := { dst := some 29, op := Go.Op.call { callee := Go.Callee.builtin Go.Builtin.append, args := #[Go.Operand.tmp 26, Go.Operand.tmp 28], argTypes := #[26, 26] }, type := 26, pos := "ref.go:67", after := #[{ on := 4, ground := Go.Ground.data }, { on := 6, ground := Go.Ground.data }], guard := none }) (.slice (some ⟨g, 0, none⟩) (m + 1) gc) rfl (by kernel_rfl) (by rfl) (exec_appN (.tmp 26) (.tmp 28) 26 rfl rfl rfl HAP.out) trivial ?_
          try simp only [Act.put, List.setIfInBounds_toArray, List.set_cons_zero, List.set_cons_succ]
          refine take_run (i := 8) (oi := { dst := some 30, op := Go.Op.nilCheck (Go.Operand.tmp 22), type := 0, pos := "ref.go:67", after := #[{ on := 0, ground := Go.Ground.data }, { on := 0, ground := Go.Ground.phase }, { on := 1, ground := Go.Ground.phase }, { on := 2, ground := Go.Ground.phase }, { on := 3, ground := Go.Ground.phase }, { on := 4, ground := Go.Ground.phase }, { on := 5, ground := Go.Ground.phase }, { on := 6, ground := Go.Ground.phase }, { on := 7, ground := Go.Ground.phase }], guard := none }) (v := .pointer (some ⟨R, 0, none⟩)) rfl (by kernel_rfl) (by kernel_rfl) (by kernel_rfl) (fun _ _ _ h => h) (by rfl) ?_ trivial ?_
          · (intro wq hSw; go_simp <;> with_reducible rfl)
          try simp only [Act.put, List.setIfInBounds_toArray, List.set_cons_zero, List.set_cons_succ]
          refine take_run (i := 9) (oi := { dst := some 31, op := Go.Op.fieldAddr 28 (Go.Operand.tmp 30) 0, type := 0, pos := "ref.go:67", after := #[{ on := 8, ground := Go.Ground.data }, { on := 0, ground := Go.Ground.phase }, { on := 1, ground := Go.Ground.phase }, { on := 2, ground := Go.Ground.phase }, { on := 3, ground := Go.Ground.phase }, { on := 4, ground := Go.Ground.phase }, { on := 5, ground := Go.Ground.phase }, { on := 6, ground := Go.Ground.phase }, { on := 7, ground := Go.Ground.phase }], guard := none }) (v := .pointer (some ⟨R, 0, none⟩)) rfl (by kernel_rfl) (by kernel_rfl) (by kernel_rfl) (fun _ _ _ h => h) (by rfl) ?_ trivial ?_
          · (intro wq hSw; go_simp <;> with_reducible rfl)
          try simp only [Act.put, List.setIfInBounds_toArray, List.set_cons_zero, List.set_cons_succ]
          refine take_eff (i := 10) (oi := { dst := none, op := Go.Op.store 26 (Go.Operand.tmp 31) (Go.Operand.tmp 29), type := 0, pos := "ref.go:67", after := #[{ on := 9, ground := Go.Ground.data }, { on := 7, ground := Go.Ground.data }, { on := 7, ground := Go.Ground.chain }, { on := 0, ground := Go.Ground.phase }, { on := 1, ground := Go.Ground.phase }, { on := 2, ground := Go.Ground.phase }, { on := 3, ground := Go.Ground.phase }, { on := 4, ground := Go.Ground.phase }, { on := 5, ground := Go.Ground.phase }, { on := 6, ground := Go.Ground.phase }, { on := 7, ground := Go.Ground.phase }], guard := none }) rfl (by kernel_rfl) (by rfl) (by have cc := HC.out.1; have cd := HC.out.2; go_simp <;> with_reducible rfl) trivial ?_
          try simp only [Act.put]
          refine wpAnyH_done (by kernel_rfl) ?_ _
          clear hHeld
          go_wp2
          go_ret
          obtain ⟨hh, ee⟩ := EO.out
          exact .inr ⟨i, hh, rfl, .inr ⟨HI.out.2, rfl, by rw [ee]; exact FIN.out⟩⟩
end Go.Proofs.Ytccmehbdnnelhaa
