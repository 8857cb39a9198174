/- Package chart: the small calls. -/
import Derived.Test.YtpdgmlljjjeifaaChMem
import Derived.Laws.StructEq
namespace Go.Proofs.Ytpdgmlljjjeifaa
open Go.RowKit
attribute [local go_sem] Oper.semAt_some
set_option linter.unusedVariables false
/-- A slot's owner, its epoch. -/
def own_ (L : List Int) (n : Int) : Int := if 0 ≤ n ∧ n < 16 then at_ L (1 + n.toNat * 2) else 0
def epo_ (L : List Int) (n : Int) : Int := if 0 ≤ n ∧ n < 16 then at_ L (2 + n.toNat * 2) else 0
/-- May a move or an audit begin? -/
def may_ (L : List Int) : Bool := decide (at_ L 38 = 0 ∧ at_ L 41 = 0 ∧ at_ L 33 < 1152921504606846976)
section
variable {w w' : World} {base R : Nat} {L : List Int}
theorem canBe_any (n : Int) (w : World) : Calls Try.prog 29 #[.int .i64 n] w fun e w' => e = .returned (.bool (decide (1 ≤ n ∧ n ≤ 3))) ∧ w' = w := by
  go_enter Try.func29, Try.ntmps29
  go_wp2
  all_goals go_ret
  · refine ⟨?_, rfl⟩
    show Ending.returned (Value.bool (decide (n ≤ 3))) = _
    congr 2
    simp only [decide_eq_decide]
    omega
  · refine ⟨?_, rfl⟩
    show Ending.returned (Value.bool false) = _
    congr 2
    simp only [Bool.false_eq, Bool.and_eq_false_iff, decide_eq_false_iff_not]
    omega
theorem isSlot_any (n : Int) (w : World) : Calls Try.prog 55 #[.int .i64 n] w fun e w' => e = .returned (.bool (decide (0 ≤ n ∧ n < 16))) ∧ w' = w := by
  go_enter Try.func55, Try.ntmps55
  go_wp2
  all_goals go_ret
  · refine ⟨?_, rfl⟩
    show Ending.returned (Value.bool (decide (n < 16))) = _
    congr 2
    simp only [decide_eq_decide]
    omega
  · refine ⟨?_, rfl⟩
    show Ending.returned (Value.bool false) = _
    congr 2
    simp only [Bool.false_eq, Bool.and_eq_false_iff, decide_eq_false_iff_not]
    omega
theorem isShard_any (h : CIn w base R L) (n : Int) : Calls Try.prog 56 #[.pointer (some ⟨R, 0, none⟩), .int .i64 n] w fun e w' => e = .returned (.bool (decide (1 ≤ n ∧ n ≤ at_ L 0))) ∧ w' = w := by
  have c0 := h.cell 0 (by omega)
  clear h
  generalize at_ L 0 = s at *
  go_enter Try.func56, Try.ntmps56
  go_wp2
  all_goals go_ret
  · refine ⟨?_, rfl⟩
    show Ending.returned (Value.bool (decide (n ≤ s))) = _
    congr 2
    simp only [decide_eq_decide]
    omega
  · refine ⟨?_, rfl⟩
    show Ending.returned (Value.bool false) = _
    congr 2
    simp only [Bool.false_eq, Bool.and_eq_false_iff, decide_eq_false_iff_not]
    omega
set_option maxRecDepth 100000 in
theorem of_any (h : CIn w base R L) (n : Int) : Calls Try.prog 42 #[.pointer (some ⟨R, 0, none⟩), .int .i64 n] w fun e w' => e = .returned (.agg #[.int .i64 (own_ L n), .int .i64 (epo_ L n)]) ∧ Below w.heap.size w w' := by
  by_cases hn : 0 ≤ n ∧ n < 16
  · obtain ⟨k, rfl⟩ : ∃ k : Nat, n = (k : Int) := ⟨n.toNat, by omega⟩
    have hk : k < 16 := by omega
    have hlt := h.lt
    have c1 : ∀ o, (w.alloc o).cell? ⟨R, 1 + k * 2, none⟩ = some (.int .i64 (at_ L (1 + k * 2))) := fun o => (h.alloc o).cell _ (by omega)
    have c2 : ∀ o, (w.alloc o).cell? ⟨R, 1 + k * 2 + 1, none⟩ = some (.int .i64 (at_ L (2 + k * 2))) := fun o => by rw [(h.alloc o).cell (1 + k * 2 + 1) (by omega)]; congr 3; omega
    have e1 : own_ L (k : Int) = at_ L (1 + k * 2) := by unfold own_; rw [if_pos hn]; rfl
    have e2 : epo_ L (k : Int) = at_ L (2 + k * 2) := by unfold epo_; rw [if_pos hn]; rfl
    have hd : decide (0 ≤ (k : Int) ∧ (k : Int) < 16) = true := decide_eq_true hn
    rw [e1, e2]
    have HS : ∀ w', Calls Try.prog 55 #[.int .i64 (k : Int)] w' fun e w2 => e = .returned (.bool true) ∧ w2 = w' := fun w' => by have := isSlot_any (k : Int) w'; rw [hd] at this; exact this
    clear h hn e1 e2 hd
    generalize at_ L (1 + k * 2) = v1 at *
    generalize at_ L (2 + k * 2) = v2 at *
    go_enter Try.func42, Try.ntmps42
    go_wp2_with fail
    refine (HS _).mono ?_
    rintro e w2 ⟨rfl, rfl⟩
    go_wp2
    exact bodyPost_ret (results_cell_row rfl _ _ w.heap.size 71 _ _ _ rfl (heap_alloc_new w _) Try.underlying71 rfl (by kernel_rfl)) rfl ⟨rfl, (Below.refl _ w).alloc (Nat.le_refl _) _⟩
  · have hd : decide (0 ≤ n ∧ n < 16) = false := decide_eq_false hn
    have e1 : own_ L n = 0 := by unfold own_; rw [if_neg hn]
    have e2 : epo_ L n = 0 := by unfold epo_; rw [if_neg hn]
    rw [e1, e2]
    have HS : ∀ w', Calls Try.prog 55 #[.int .i64 n] w' fun e w2 => e = .returned (.bool false) ∧ w2 = w' := fun w' => by have := isSlot_any n w'; rw [hd] at this; exact this
    clear h hn e1 e2 hd
    go_enter Try.func42, Try.ntmps42
    go_wp2_with fail
    refine (HS _).mono ?_
    rintro e w2 ⟨rfl, rfl⟩
    go_wp2
    exact bodyPost_ret (results_cell_row rfl _ _ w.heap.size 71 _ _ _ rfl (heap_alloc_new w _) Try.underlying71 rfl (by kernel_rfl)) rfl ⟨rfl, (Below.refl _ w).alloc (Nat.le_refl _) _⟩
set_option maxRecDepth 100000 in
theorem of_nil (n : Int) (w : World) : Calls Try.prog 42 #[.pointer none, .int .i64 n] w fun e w' => e = .returned (.agg #[.int .i64 0, .int .i64 0]) ∧ Below w.heap.size w w' := by
  go_enter Try.func42, Try.ntmps42
  go_wp2
  exact bodyPost_ret (results_cell_row rfl _ _ w.heap.size 71 _ _ _ rfl (heap_alloc_new w _) Try.underlying71 rfl (by kernel_rfl)) rfl ⟨rfl, (Below.refl _ w).alloc (Nat.le_refl _) _⟩
theorem fld0 (a b : Int) (w : World) : (Instr.field 71 (.agg #[.int .i64 a, .int .i64 b]) 0).run Try.prog w = .ok (.int .i64 a) w := by kernel_rfl
theorem fld1 (a b : Int) (w : World) : (Instr.field 71 (.agg #[.int .i64 a, .int .i64 b]) 1).run Try.prog w = .ok (.int .i64 b) w := by kernel_rfl
set_option maxRecDepth 100000 in
theorem owner_any (h : CIn w base R L) (n : Int) : Calls Try.prog 21 #[.pointer (some ⟨R, 0, none⟩), .int .i64 n] w fun e w' => e = .returned (.int .i64 (own_ L n)) ∧ Below w.heap.size w w' := by
  have HO := of_any h n
  have f0 := fld0
  clear h
  go_enter Try.func21, Try.ntmps21
  go_wp2_with fail
  refine HO.mono ?_
  rintro e w1 ⟨rfl, b1⟩
  go_wp2
  go_ret
  exact ⟨rfl, b1⟩
set_option maxRecDepth 100000 in
theorem epoch_any (h : CIn w base R L) (n : Int) : Calls Try.prog 22 #[.pointer (some ⟨R, 0, none⟩), .int .i64 n] w fun e w' => e = .returned (.int .i64 (epo_ L n)) ∧ Below w.heap.size w w' := by
  have HO := of_any h n
  have f0 := fld1
  clear h
  go_enter Try.func22, Try.ntmps22
  go_wp2_with fail
  refine HO.mono ?_
  rintro e w1 ⟨rfl, b1⟩
  go_wp2
  go_ret
  exact ⟨rfl, b1⟩
set_option maxRecDepth 100000 in
theorem owner_nil (n : Int) (w : World) : Calls Try.prog 21 #[.pointer none, .int .i64 n] w fun e w' => e = .returned (.int .i64 0) ∧ Below w.heap.size w w' := by
  have HO := of_nil n w
  have f0 := fld0
  go_enter Try.func21, Try.ntmps21
  go_wp2_with fail
  refine HO.mono ?_
  rintro e w1 ⟨rfl, b1⟩
  go_wp2
  go_ret
  exact ⟨rfl, b1⟩
set_option maxRecDepth 100000 in
theorem epoch_nil (n : Int) (w : World) : Calls Try.prog 22 #[.pointer none, .int .i64 n] w fun e w' => e = .returned (.int .i64 0) ∧ Below w.heap.size w w' := by
  have HO := of_nil n w
  have f0 := fld1
  go_enter Try.func22, Try.ntmps22
  go_wp2_with fail
  refine HO.mono ?_
  rintro e w1 ⟨rfl, b1⟩
  go_wp2
  go_ret
  exact ⟨rfl, b1⟩
set_option maxRecDepth 100000 in
theorem may_any (h : CIn w base R L) : Calls Try.prog 57 #[.pointer (some ⟨R, 0, none⟩)] w fun e w' => e = .returned (.bool (may_ L)) ∧ w' = w := by
  have c1 := h.cell 38 (by omega)
  have c2 := h.cell 41 (by omega)
  have c3 := h.cell 33 (by omega)
  clear h
  unfold may_
  generalize at_ L 38 = a at *
  generalize at_ L 41 = b at *
  generalize at_ L 33 = c at *
  go_enter Try.func57, Try.ntmps57
  go_wp2
  all_goals go_ret
  · subst_vars
    refine ⟨?_, rfl⟩
    show Ending.returned (Value.bool (decide (c < 1152921504606846976))) = _
    simp
  · refine ⟨?_, rfl⟩
    show Ending.returned (Value.bool false) = _
    simp [*]
  · refine ⟨?_, rfl⟩
    show Ending.returned (Value.bool false) = _
    simp [*]
set_option maxRecDepth 100000 in
theorem begins_any (h : CIn w base R L) (hb : -9223372036854775808 ≤ at_ L 33 ∧ at_ L 33 < 1152921504606846976) : Calls Try.prog 58 #[.pointer (some ⟨R, 0, none⟩)] w fun e w' => e = .returned (.agg #[.int .i64 0, .bool true, .int .i64 (at_ L 33 + 1)]) ∧ CIn w' base R (L.set 33 (at_ L 33 + 1)) ∧ OnlyR w w' R := by
  have c3 := h.cell 33 (by omega)
  have f3 := h.fz 33
  have q : wrap64 (at_ L 33 + 1) = at_ L 33 + 1 := by unfold wrap64; omega
  have hS := h.set 33 (at_ L 33 + 1)
  have c4 := hS.cell 33 (by omega)
  rw [at_set_self (by rw [h.len]; omega)] at c4
  clear hb
  generalize at_ L 33 = c at *
  have hlt := h.lt
  have HS : Hid (CIn (w.setCell ⟨R, 33, none⟩ (.int .i64 (c + 1))) base R (L.set 33 (c + 1))) := hS
  clear h hS
  go_enter Try.func58, Try.ntmps58
  go_wp2
  refine bodyPost_ret (results_cell_row rfl _ _ (w.setCell ⟨R, 33, none⟩ (.int .i64 (c + 1))).heap.size 35 _ _ _ (by simp) (heap_alloc_new _ _) Try.underlying35 rfl (by kernel_rfl)) rfl ⟨rfl, HS.out.alloc _, ((OnlyR.refl w R).set _ _).alloc _⟩
set_option maxRecDepth 100000 in
set_option maxHeartbeats 1600000 in
theorem next_any (h : CIn w base R L) (n p a b : Int) : Calls Try.prog 59 #[.pointer (some ⟨R, 0, none⟩), .agg #[.int .i64 n, .int .i64 p], .agg #[.int .i64 a, .int .i64 b]] w fun e w' =>
    (¬ (at_ L 40 = n ∧ at_ L 41 = p) ∧ e = .returned (.agg #[.int .i64 5, .bool false, .int .i64 0]) ∧ CIn w' base R L ∧ OnlyR w w' R) ∨
    ((at_ L 40 = n ∧ at_ L 41 = p) ∧ e = .returned (.agg #[.int .i64 0, .bool false, .int .i64 n]) ∧ CIn w' base R ((L.set 40 a).set 41 b) ∧ OnlyR w w' R) := by
  have hlt := h.lt
  have d0 : Dd w (((w.alloc (.cells #[.int .i64 n, .int .i64 p] 74)).alloc (.cells #[.int .i64 a, .int .i64 b] 74)).alloc (.cells #[.int .i64 0, .bool false, .int .i64 0] 35)) base R L (w.heap.size + 1 + 1) #[.int .i64 0, .bool false, .int .i64 0] :=
    ⟨((h.alloc _).alloc _).alloc _, (((OnlyR.refl w R).alloc _).alloc _).alloc _, by have := Blk.new ((w.alloc (.cells #[.int .i64 n, .int .i64 p] 74)).alloc (.cells #[.int .i64 a, .int .i64 b] 74)) #[.int .i64 0, .bool false, .int .i64 0] 35; simpa using this, by omega, hlt⟩
  have p1 : Blk (((w.alloc (.cells #[.int .i64 n, .int .i64 p] 74)).alloc (.cells #[.int .i64 a, .int .i64 b] 74)).alloc (.cells #[.int .i64 0, .bool false, .int .i64 0] 35)) w.heap.size #[.int .i64 n, .int .i64 p] 74 := ((Blk.new w _ _).alloc _).alloc _
  have p2 : Blk (((w.alloc (.cells #[.int .i64 n, .int .i64 p] 74)).alloc (.cells #[.int .i64 a, .int .i64 b] 74)).alloc (.cells #[.int .i64 0, .bool false, .int .i64 0] 35)) (w.heap.size + 1) #[.int .i64 a, .int .i64 b] 74 := by have := (Blk.new (w.alloc (.cells #[.int .i64 n, .int .i64 p] 74)) #[.int .i64 a, .int .i64 b] 74).alloc (.cells #[.int .i64 0, .bool false, .int .i64 0] 35); simpa using this
  obtain ⟨wA, eA⟩ : ∃ wA, (((w.alloc (.cells #[.int .i64 n, .int .i64 p] 74)).alloc (.cells #[.int .i64 a, .int .i64 b] 74)).alloc (.cells #[.int .i64 0, .bool false, .int .i64 0] 35)) = wA := ⟨_, rfl⟩
  rw [eA] at d0 p1 p2
  have EA : Hid _ := eA
  have c0 := d0.c.cell 40 (by omega)
  have c1 := d0.c.cell 41 (by omega)
  have f0 := d0.c.fz 40
  have f1 := d0.c.fz 41
  have x0 := p1.cell 0
  have x1 := p1.cell 1
  have y0 := p2.cell 0
  have y1 := p2.cell 1
  have z0 := d0.q.cell 0
  have z1 := d0.q.cell 1
  have z2 := d0.q.cell 2
  have g0 := d0.q.fz 0
  have g1 := d0.q.fz 1
  have g2 := d0.q.fz 2
  simp only [List.getElem?_toArray, List.getElem?_cons_zero, List.getElem?_cons_succ] at x0 x1 y0 y1 z0 z1 z2
  have D : Hid (Dd w wA base R L (w.heap.size + 1 + 1) #[.int .i64 0, .bool false, .int .i64 0]) := d0
  clear h d0 p1 p2 eA
  generalize at_ L 40 = x at *
  generalize at_ L 41 = y at *
  by_cases hx : x = n
  · by_cases hy : y = p
    · go_enter Try.func59, Try.ntmps59
      go_wp2
      rw [EA.out]
      go_region
      go_wp2
      have dd := (((D.out.set 40 a).set 41 b).store (.int .i64 0) (.bool false) (.int .i64 n)).drewN 1
      exact bodyPost_ret (results_cell_row rfl _ _ (w.heap.size + 1 + 1) 35 _ _ _ rfl dd.q Try.underlying35 rfl (by kernel_rfl)) rfl (.inr ⟨⟨hx, hy⟩, rfl, dd.c, dd.o⟩)
    · go_enter Try.func59, Try.ntmps59
      go_wp2
      rw [EA.out]
      go_region
      go_wp2
      have dd := (D.out.store (.int .i64 5) (.bool false) (.int .i64 0)).drewN 1
      refine bodyPost_ret (results_cell_row rfl _ _ (w.heap.size + 1 + 1) 35 _ _ _ rfl dd.q Try.underlying35 rfl (by kernel_rfl)) rfl (.inl ⟨fun e => hy e.2, rfl, dd.c, dd.o⟩)
  · go_enter Try.func59, Try.ntmps59
    go_wp2
    rw [EA.out]
    go_region
    go_wp2
    have dd := (D.out.store (.int .i64 5) (.bool false) (.int .i64 0)).drewN 1
    refine bodyPost_ret (results_cell_row rfl _ _ (w.heap.size + 1 + 1) 35 _ _ _ rfl dd.q Try.underlying35 rfl (by kernel_rfl)) rfl (.inl ⟨fun e => hx e.1, rfl, dd.c, dd.o⟩)
end
end Go.Proofs.Ytpdgmlljjjeifaa
