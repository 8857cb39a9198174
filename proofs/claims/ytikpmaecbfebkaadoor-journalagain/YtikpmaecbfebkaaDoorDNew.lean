/- What New does. -/
import Derived.Test.YtikpmaecbfebkaaDoorDRead
import Derived.Test.YtikpmaecbfebkaaDoorRanges
namespace Go.Proofs.YtikpmaecbfebkaaDoor
open Go.RowKit
set_option linter.unusedVariables false

theorem new_no (i : Int) (w : World) (h : ¬ (1 ≤ i ∧ i ≤ 4096)) : Calls Tryd.prog 15 #[.int .i64 i] w fun e w' => e = .returned (.tuple #[.pointer none, .int .i64 1]) ∧ w' = w := by
  have HA := allowed_any i w
  rw [decide_eq_false h] at HA
  clear h
  go_enter Tryd.func15, Tryd.ntmps15
  go_wp2_with fail
  refine HA.mono ?_
  rintro e w' ⟨rfl, rfl⟩
  go_wp2
  go_ret2
  exact ⟨rfl, rfl⟩
/-- Two rows of 0 and a box. -/
theorem fresh_dsk {w w1 w2 : World} {L n ga gb : Nat} (hn1 : 1 ≤ n) (hn2 : n ≤ 4096) (hL : L = 256 * n) (o1 : w1.ownsRow w.heap.size 5 1 (.slice (some ⟨ga, 0, none⟩) L L) L (cellsOf (List.replicate L 0#8))) (g1 : w.grownBy w1 none) (z1 : w1.heap.size = w.heap.size + 1) (ea : ga = w.heap.size)
    (o2 : w2.ownsRow w1.heap.size 5 1 (.slice (some ⟨gb, 0, none⟩) L L) L (cellsOf (List.replicate L 0#8))) (g2 : w1.grownBy w2 none) (z2 : w2.heap.size = w1.heap.size + 1) (eb : gb = w1.heap.size) (gi gn : Nat) (hg : (gi = ga ∧ gn = gb) ∨ (gi = gb ∧ gn = ga)) :
    Dsk (w2.alloc (.cells #[.slice (some ⟨gi, 0, none⟩) L L, .slice (some ⟨gn, 0, none⟩) L L, .slice none 0 0, .bool false, .bool false, .bool false] 69)) ⟨w2.heap.size, gi, gn, L, L, .slice none 0 0⟩ n (newD n) ∧
    Below w.heap.size w (w2.alloc (.cells #[.slice (some ⟨gi, 0, none⟩) L L, .slice (some ⟨gn, 0, none⟩) L L, .slice none 0 0, .bool false, .bool false, .bool false] 69)) ∧
    ∀ k, (⟨w2.heap.size, gi, gn, L, L, .slice none 0 0⟩ : DM).own k → w.heap.size ≤ k := by
  have b1 : Below w.heap.size w w1 := (Below.refl _ w).grown g1 (Nat.le_refl _) (fun k e => by cases e)
  have b2 : Below w1.heap.size w1 w2 := (Below.refl _ w1).grown g2 (Nat.le_refl _) (fun k e => by cases e)
  have b3 : ∀ o, Below w2.heap.size w2 (w2.alloc o) := fun o => (Below.refl _ w2).alloc (Nat.le_refl _) o
  have k1 : ∀ o, (w2.alloc o).ownsRow 0 5 1 (.slice (some ⟨ga, 0, none⟩) L L) L (cellsOf (List.replicate L 0#8)) := fun o => by
    refine owns_same (w := w1) ⟨o1.1, o1.2.imp id fun ⟨g, cap, cur, e1, e2, e3⟩ => ⟨g, cap, cur, e1, Nat.zero_le _, e3⟩⟩ (fun g e => ?_)
    obtain rfl : ga = g := by simpa [Value.ownBlock] using e
    rw [(b3 o).block _ (by omega), b2.block _ (by omega)]
  have k2 : ∀ o, (w2.alloc o).ownsRow 0 5 1 (.slice (some ⟨gb, 0, none⟩) L L) L (cellsOf (List.replicate L 0#8)) := fun o => by
    refine owns_same (w := w2) ⟨o2.1, o2.2.imp id fun ⟨g, cap, cur, e1, e2, e3⟩ => ⟨g, cap, cur, e1, Nat.zero_le _, e3⟩⟩ (fun g e => ?_)
    obtain rfl : gb = g := by simpa [Value.ownBlock] using e
    rw [(b3 o).block _ (by omega)]
  subst hL
  refine ⟨⟨newD_ok hn1 hn2, heap_alloc_new w2 _, ?_, ?_, World.ownsRow_nil _ _ _ _, ?_⟩, b1.trans (((b2.trans ((b3 _).mono (by omega))).mono (by omega))), ?_⟩
  · rcases hg with ⟨rfl, rfl⟩ | ⟨rfl, rfl⟩
    · exact k1 _
    · exact k2 _
  · rcases hg with ⟨rfl, rfl⟩ | ⟨rfl, rfl⟩
    · exact k2 _
    · exact k1 _
  · show gi ≠ gn
    rcases hg with ⟨rfl, rfl⟩ | ⟨rfl, rfl⟩ <;> omega
  · rintro k (e | e | e | e)
    · have e' : k = w2.heap.size := e; omega
    · have e' : k = gi := e; rcases hg with ⟨h1, h2⟩ | ⟨h1, h2⟩ <;> omega
    · have e' : k = gn := e; rcases hg with ⟨h1, h2⟩ | ⟨h1, h2⟩ <;> omega
    · cases e
set_option maxHeartbeats 800000 in
theorem new_any (n : Nat) (w : World) (h1 : 1 ≤ n) (h2 : n ≤ 4096) : Calls Tryd.prog 15 #[.int .i64 n] w fun e w' => ∃ m : DM, e = .returned (.tuple #[.pointer (some ⟨m.D, 0, none⟩), .int .i64 0]) ∧ Dsk w' m n (newD n) ∧ Below w.heap.size w w' ∧ ∀ k, m.own k → w.heap.size ≤ k := by
  have HA := allowed_any n w
  rw [decide_eq_true (by omega)] at HA
  obtain ⟨L, hL⟩ : ∃ L, L = 256 * n := ⟨_, rfl⟩
  have hwr : IntKind.i64.wrap ((n : Int) * 256) = (L : Int) := by rw [IntKind.wrap_i64]; omega
  obtain ⟨w1, m1, o1, g1, z1⟩ := make_bytes w.drew L (by omega)
  obtain ⟨w2, m2, o2, g2, z2⟩ := make_bytes w1 L (by omega)
  have HD : Hid _ := fresh_dsk h1 h2 hL o1 g1 z1 rfl o2 g2 z2 rfl
  have M1 : Hid _ := m1
  have M2 : Hid _ := m2
  have Z1 : Hid (w1.heap.size = w.heap.size + 1) := z1
  clear h1 h2 hL m1 m2 o1 g1 z1 o2 g2 z2
  go_enter Tryd.func15, Tryd.ntmps15
  go_wp2_with fail
  refine HA.mono ?_
  rintro e w' ⟨rfl, rfl⟩
  go_wp2_with fail
  refine (wpIn_wide (n := 1)).1 ?_
  refine wpIn_region_any (by kernel_rfl) ?_
  change wpAnyIn _ _ _ _ _ _ _ _ _ (World.drew _)
  refine any_take 0 (oi := { dst := some 10, op := Go.Op.move (Go.Operand.tmp 4), type := 3, pos := "disk.go:32", after := #[], guard := none }) (.int .i64 (L : Int)) rfl (by kernel_rfl) (by kernel_rfl) (by kernel_rfl) (fun _ _ _ h => h) (by rfl) (by intro wq; go_simp <;> with_reducible rfl) (fun _ => rfl) ?_
  simp only [Act.put, List.setIfInBounds_toArray, List.set_cons_zero, List.set_cons_succ]
  refine any_take 2 (oi := { dst := some 12, op := Go.Op.move (Go.Operand.tmp 4), type := 3, pos := "disk.go:32", after := #[], guard := none }) (.int .i64 (L : Int)) rfl (by kernel_rfl) (by kernel_rfl) (by kernel_rfl) (fun _ _ _ h => h) (by rfl) (by intro wq; go_simp <;> with_reducible rfl) (fun _ => rfl) ?_
  simp only [Act.put, List.setIfInBounds_toArray, List.set_cons_zero, List.set_cons_succ]
  refine any_two 1 3 (by kernel_rfl) ?_ ?_
  · -- the image first
    refine op_value (.slice (some ⟨w'.heap.size, 0, none⟩) L L) (i := 1) (oi := { dst := some 11, op := Go.Op.makeSlice 22 (Go.Operand.tmp 10) (Go.Operand.tmp 10), type := 22, pos := "disk.go:32", after := #[{ on := 0, ground := Go.Ground.data }, { on := 0, ground := Go.Ground.data }], guard := none }) rfl (by rfl) (exec_make (t := 22) rfl rfl rfl M1.out) ?_
    simp only [Act.put, List.setIfInBounds_toArray, List.set_cons_zero, List.set_cons_succ]
    refine any_one 3 (by kernel_rfl) ?_
    refine op_value (.slice (some ⟨w1.heap.size, 0, none⟩) L L) (i := 3) (oi := { dst := some 13, op := Go.Op.makeSlice 22 (Go.Operand.tmp 12) (Go.Operand.tmp 12), type := 22, pos := "disk.go:32", after := #[{ on := 2, ground := Go.Ground.data }, { on := 2, ground := Go.Ground.data }], guard := none }) rfl (by rfl) (exec_make (t := 22) rfl rfl rfl M2.out) ?_
    simp only [Act.put, List.setIfInBounds_toArray, List.set_cons_zero, List.set_cons_succ]
    refine any_one 4 (by kernel_rfl) ?_
    refine op_value (.agg #[.slice (some ⟨w'.heap.size, 0, none⟩) L L, .slice (some ⟨w1.heap.size, 0, none⟩) L L, .slice none 0 0, .bool false, .bool false, .bool false]) (i := 4) (oi := { dst := some 14, op := Go.Op.build 69 #[(0, Go.Operand.tmp 11), (1, Go.Operand.tmp 13)], type := 69, pos := "disk.go:32", after := #[{ on := 1, ground := Go.Ground.data }, { on := 3, ground := Go.Ground.data }], guard := none }) rfl (by rfl) (by go_simp <;> with_reducible rfl) ?_
    simp only [Act.put, List.setIfInBounds_toArray, List.set_cons_zero, List.set_cons_succ]
    refine any_one 5 (by kernel_rfl) ?_
    refine op_value (.pointer (some ⟨w2.heap.size, 0, none⟩)) (i := 5) (oi := { dst := some 15, op := Go.Op.box 69 (Go.Operand.tmp 14), type := 24, pos := "disk.go:32", after := #[{ on := 4, ground := Go.Ground.data }], guard := none }) rfl (by rfl) (by go_simp <;> with_reducible rfl) ?_
    simp only [Act.put, List.setIfInBounds_toArray, List.set_cons_zero, List.set_cons_succ]
    refine any_one 6 (by kernel_rfl) ?_
    refine op_value (.pointer (some ⟨w2.heap.size, 0, none⟩)) (i := 6) (oi := { dst := some 2, op := Go.Op.assign (Go.Operand.tmp 15), type := 24, pos := "disk.go:32", after := #[{ on := 5, ground := Go.Ground.data }, { on := 0, ground := Go.Ground.phase }, { on := 1, ground := Go.Ground.phase }, { on := 2, ground := Go.Ground.phase }, { on := 3, ground := Go.Ground.phase }, { on := 4, ground := Go.Ground.phase }, { on := 5, ground := Go.Ground.phase }], guard := none }) rfl (by rfl) (by go_simp <;> with_reducible rfl) ?_
    simp only [Act.put, List.setIfInBounds_toArray, List.set_cons_zero, List.set_cons_succ]
    refine any_one 7 (by kernel_rfl) ?_
    refine op_value (.int .i64 0) (i := 7) (oi := { dst := some 3, op := Go.Op.assign (Go.Operand.const (Go.Value.int Go.IntKind.i64 0)), type := 25, pos := "disk.go:32", after := #[{ on := 6, ground := Go.Ground.chain }, { on := 0, ground := Go.Ground.phase }, { on := 1, ground := Go.Ground.phase }, { on := 2, ground := Go.Ground.phase }, { on := 3, ground := Go.Ground.phase }, { on := 4, ground := Go.Ground.phase }, { on := 5, ground := Go.Ground.phase }, { on := 6, ground := Go.Ground.phase }], guard := none }) rfl (by rfl) (by go_simp <;> with_reducible rfl) ?_
    simp only [Act.put, List.setIfInBounds_toArray, List.set_cons_zero, List.set_cons_succ]
    refine wpAnyIn_done (by kernel_rfl) ?_ _
    go_wp2
    go_ret2
    obtain ⟨d1, d2, d3⟩ := HD.out w'.heap.size w1.heap.size (.inl ⟨rfl, rfl⟩)
    exact ⟨⟨w2.heap.size, w'.heap.size, w1.heap.size, L, L, .slice none 0 0⟩, rfl, d1, ⟨d2.os, d2.tape, d2.output, d2.size, d2.block⟩, d3⟩
  · -- what is read first
    refine op_value (.slice (some ⟨w'.heap.size, 0, none⟩) L L) (i := 3) (oi := { dst := some 13, op := Go.Op.makeSlice 22 (Go.Operand.tmp 12) (Go.Operand.tmp 12), type := 22, pos := "disk.go:32", after := #[{ on := 2, ground := Go.Ground.data }, { on := 2, ground := Go.Ground.data }], guard := none }) rfl (by rfl) (exec_make (t := 22) rfl rfl rfl M1.out) ?_
    simp only [Act.put, List.setIfInBounds_toArray, List.set_cons_zero, List.set_cons_succ]
    refine any_one 1 (by kernel_rfl) ?_
    refine op_value (.slice (some ⟨w1.heap.size, 0, none⟩) L L) (i := 1) (oi := { dst := some 11, op := Go.Op.makeSlice 22 (Go.Operand.tmp 10) (Go.Operand.tmp 10), type := 22, pos := "disk.go:32", after := #[{ on := 0, ground := Go.Ground.data }, { on := 0, ground := Go.Ground.data }], guard := none }) rfl (by rfl) (exec_make (t := 22) rfl rfl rfl M2.out) ?_
    simp only [Act.put, List.setIfInBounds_toArray, List.set_cons_zero, List.set_cons_succ]
    refine any_one 4 (by kernel_rfl) ?_
    refine op_value (.agg #[.slice (some ⟨w1.heap.size, 0, none⟩) L L, .slice (some ⟨w'.heap.size, 0, none⟩) L L, .slice none 0 0, .bool false, .bool false, .bool false]) (i := 4) (oi := { dst := some 14, op := Go.Op.build 69 #[(0, Go.Operand.tmp 11), (1, Go.Operand.tmp 13)], type := 69, pos := "disk.go:32", after := #[{ on := 1, ground := Go.Ground.data }, { on := 3, ground := Go.Ground.data }], guard := none }) rfl (by rfl) (by go_simp <;> with_reducible rfl) ?_
    simp only [Act.put, List.setIfInBounds_toArray, List.set_cons_zero, List.set_cons_succ]
    refine any_one 5 (by kernel_rfl) ?_
    refine op_value (.pointer (some ⟨w2.heap.size, 0, none⟩)) (i := 5) (oi := { dst := some 15, op := Go.Op.box 69 (Go.Operand.tmp 14), type := 24, pos := "disk.go:32", after := #[{ on := 4, ground := Go.Ground.data }], guard := none }) rfl (by rfl) (by go_simp <;> with_reducible rfl) ?_
    simp only [Act.put, List.setIfInBounds_toArray, List.set_cons_zero, List.set_cons_succ]
    refine any_one 6 (by kernel_rfl) ?_
    refine op_value (.pointer (some ⟨w2.heap.size, 0, none⟩)) (i := 6) (oi := { dst := some 2, op := Go.Op.assign (Go.Operand.tmp 15), type := 24, pos := "disk.go:32", after := #[{ on := 5, ground := Go.Ground.data }, { on := 0, ground := Go.Ground.phase }, { on := 1, ground := Go.Ground.phase }, { on := 2, ground := Go.Ground.phase }, { on := 3, ground := Go.Ground.phase }, { on := 4, ground := Go.Ground.phase }, { on := 5, ground := Go.Ground.phase }], guard := none }) rfl (by rfl) (by go_simp <;> with_reducible rfl) ?_
    simp only [Act.put, List.setIfInBounds_toArray, List.set_cons_zero, List.set_cons_succ]
    refine any_one 7 (by kernel_rfl) ?_
    refine op_value (.int .i64 0) (i := 7) (oi := { dst := some 3, op := Go.Op.assign (Go.Operand.const (Go.Value.int Go.IntKind.i64 0)), type := 25, pos := "disk.go:32", after := #[{ on := 6, ground := Go.Ground.chain }, { on := 0, ground := Go.Ground.phase }, { on := 1, ground := Go.Ground.phase }, { on := 2, ground := Go.Ground.phase }, { on := 3, ground := Go.Ground.phase }, { on := 4, ground := Go.Ground.phase }, { on := 5, ground := Go.Ground.phase }, { on := 6, ground := Go.Ground.phase }], guard := none }) rfl (by rfl) (by go_simp <;> with_reducible rfl) ?_
    simp only [Act.put, List.setIfInBounds_toArray, List.set_cons_zero, List.set_cons_succ]
    refine wpAnyIn_done (by kernel_rfl) ?_ _
    go_wp2
    go_ret2
    obtain ⟨d1, d2, d3⟩ := HD.out w1.heap.size w'.heap.size (.inr ⟨rfl, rfl⟩)
    exact ⟨⟨w2.heap.size, w1.heap.size, w'.heap.size, L, L, .slice none 0 0⟩, rfl, d1, ⟨d2.os, d2.tape, d2.output, d2.size, d2.block⟩, d3⟩
theorem image_nil (w : World) : Calls Tryd.prog 35 #[.pointer none] w fun e w' => e = .returned (.slice none 0 0) ∧ w' = w := by
  go_enter Tryd.func35, Tryd.ntmps35
  go_wp2
  go_ret
  exact ⟨rfl, rfl⟩
theorem Dsk.seen_all {w : World} {m : DM} {n : Nat} {s : DS} (h : Dsk w m n s) : Seen w (some ⟨m.gi, 0, none⟩) (256 * n) s.img ∧ Seen w (some ⟨m.gn, 0, none⟩) (256 * n) s.now :=
  ⟨seen_owned h.hi h.ok.li (by have := h.ok.n2; unfold maxLen; omega), seen_owned h.hn h.ok.ln (by have := h.ok.n2; unfold maxLen; omega)⟩
theorem image_any (m : DM) (n : Nat) (s : DS) (w : World) (h : Dsk w m n s) : Calls Tryd.prog 35 #[.pointer (some ⟨m.D, 0, none⟩)] w fun e w' => ∃ v, e = .returned v ∧ w'.ownsRow w.heap.size 5 1 v (256 * n) (cellsOf s.img) ∧ Below w.heap.size w w' := by
  have HC := clone_any (some ⟨m.gi, 0, none⟩) (256 * n) m.ci s.img w h.seen_all.1 (fun e => by cases e) (by have := h.ok.n2; omega)
  obtain ⟨c0, _⟩ := h.cells
  clear h
  go_enter Tryd.func35, Tryd.ntmps35
  go_wp2_with fail
  refine HC.mono ?_
  rintro e w' ⟨v, rfl, o, b⟩
  have O : Hid _ := o
  have B : Hid (Below w.heap.size w w') := b
  clear o b
  go_wp2
  go_ret
  exact ⟨_, rfl, O.out, B.out⟩
end Go.Proofs.YtikpmaecbfebkaaDoor
