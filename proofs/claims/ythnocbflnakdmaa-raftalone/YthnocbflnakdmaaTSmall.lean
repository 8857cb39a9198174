/- Package raft: a replica alone: the small calls. -/
import Derived.Test.YthnocbflnakdmaaTMem
namespace Go.Proofs.Ythnocbflnakdmaa
open Go.RowKit
attribute [local go_sem] Oper.semAt_some
set_option linter.unusedVariables false

theorem ix0 (w : World) : (Instr.index 74 (.agg #[.bool true, .bool false, .bool false, .bool false, .bool false]) (.int .i64 0)).run Try.prog w = .ok (.bool true) w := by kernel_rfl
theorem ix1 (w : World) : (Instr.index 74 (.agg #[.bool true, .bool false, .bool false, .bool false, .bool false]) (.int .i64 1)).run Try.prog w = .ok (.bool false) w := by kernel_rfl
theorem ix2 (w : World) : (Instr.index 74 (.agg #[.bool true, .bool false, .bool false, .bool false, .bool false]) (.int .i64 2)).run Try.prog w = .ok (.bool false) w := by kernel_rfl
theorem ix3 (w : World) : (Instr.index 74 (.agg #[.bool true, .bool false, .bool false, .bool false, .bool false]) (.int .i64 3)).run Try.prog w = .ok (.bool false) w := by kernel_rfl
theorem ix4 (w : World) : (Instr.index 74 (.agg #[.bool true, .bool false, .bool false, .bool false, .bool false]) (.int .i64 4)).run Try.prog w = .ok (.bool false) w := by kernel_rfl
section
variable {w w' : World} {base R lg : Nat} {d : RD} {sv : Value} {L : List EntV}
set_option maxRecDepth 100000 in
set_option maxHeartbeats 1600000 in
theorem timeout_one (h : Solo w base R lg d sv L) : Calls Try.prog 41 #[.pointer (some ⟨R, 0, none⟩)] w fun e w' => e = .returned (.int .i64 10) ∧ w' = w := by
  have c1 : w.cell? ⟨R, 1, none⟩ = some (.int .i64 0) := h.cell 1
  have c11 : w.cell? ⟨R, 11, none⟩ = some (.slice none 0 0) := h.cell 11
  clear h
  go_enter Try.func41, Try.ntmps41
  go_wp2
  go_ret
  exact ⟨rfl, rfl⟩
set_option maxRecDepth 100000 in
set_option maxHeartbeats 1600000 in
theorem elected_one (h : Solo w base R lg d sv L) (hv : d.v0 = true) : Calls Try.prog 49 #[.pointer (some ⟨R, 0, none⟩)] w fun e w' => e = .returned (.bool true) ∧ w' = w := by
  have c2 : w.cell? ⟨R, 2, none⟩ = some (.int .i64 1) := h.cell 2
  have v0 : w.cell? ⟨R, 12, none⟩ = some (.bool true) := by have := h.cell 12; rw [show (d.cells lg)[12]? = some (.bool d.v0) from rfl, hv] at this; exact this
  have v1 : w.cell? ⟨R, 13, none⟩ = some (.bool false) := h.cell 13
  have v2 : w.cell? ⟨R, 14, none⟩ = some (.bool false) := h.cell 14
  have v3 : w.cell? ⟨R, 15, none⟩ = some (.bool false) := h.cell 15
  have v4 : w.cell? ⟨R, 16, none⟩ = some (.bool false) := h.cell 16
  have i0 := ix0
  have i1 := ix1
  have i2 := ix2
  have i3 := ix3
  have i4 := ix4
  clear h
  go_enter Try.func49, Try.ntmps49
  go_wp2
  go_loopw [3, 10] (fun c i wr => wr = w ∧ ((c = .int .i64 0 ∧ i = .int .i64 0) ∨ (c = .int .i64 1 ∧ (i = .int .i64 1 ∨ i = .int .i64 2 ∨ i = .int .i64 3 ∨ i = .int .i64 4 ∨ i = .int .i64 5)))) (fun _ i _ => 5 - (intOf i).toNat)
  case atStart => exact ⟨rfl, .inl ⟨rfl, rfl⟩⟩
  case round =>
    obtain ⟨rfl, (⟨rfl, rfl⟩ | ⟨rfl, (rfl | rfl | rfl | rfl | rfl)⟩)⟩ := hrel
    · go_wp2
      go_roundw
      case rel => simp
      case measure => simp [intOf]
    · go_wp2
      go_roundw
      case rel => simp
      case measure => simp [intOf]
    · go_wp2
      go_roundw
      case rel => simp
      case measure => simp [intOf]
    · go_wp2
      go_roundw
      case rel => simp
      case measure => simp [intOf]
    · go_wp2
      go_roundw
      case rel => simp
      case measure => simp [intOf]
    · go_wp2
      go_ret
      exact ⟨rfl, rfl⟩
set_option maxRecDepth 100000 in
set_option maxHeartbeats 1600000 in
theorem toOthers_one (h : Solo w base R lg d sv L) (f : Value) : Calls Try.prog 47 #[.pointer (some ⟨R, 0, none⟩), f] w fun e w' => e = .returned (.slice none 0 0) ∧ w' = w := by
  have c1 : w.cell? ⟨R, 1, none⟩ = some (.int .i64 0) := h.cell 1
  have c2 : w.cell? ⟨R, 2, none⟩ = some (.int .i64 1) := h.cell 2
  clear h
  go_enter Try.func47, Try.ntmps47
  go_wp2
  go_loopw [5, 11] (fun l i wr => wr = w ∧ l = .slice none 0 0 ∧ (i = .int .i64 0 ∨ i = .int .i64 1)) (fun _ i _ => 1 - (intOf i).toNat)
  case atStart => exact ⟨rfl, rfl, .inl rfl⟩
  case round =>
    obtain ⟨rfl, rfl, (rfl | rfl)⟩ := hrel
    · go_wp2
      go_roundw
      case rel => simp
      case measure => simp [intOf]
    · go_wp2
      go_ret
      exact ⟨rfl, rfl⟩
set_option maxRecDepth 100000 in
set_option maxHeartbeats 1600000 in
theorem sendAll_one (h : Solo w base R lg d sv L) : Calls Try.prog 31 #[.pointer (some ⟨R, 0, none⟩)] w fun e w' => e = .returned (.slice none 0 0) ∧ w' = w := by
  have HT := fun f => toOthers_one h f
  clear h
  go_enter Try.func31, Try.ntmps31
  go_wp2_with fail
  refine (HT _).mono ?_
  rintro e w1 ⟨rfl, rfl⟩
  go_wp2
  go_ret
  exact ⟨rfl, rfl⟩
set_option maxRecDepth 100000 in
set_option maxHeartbeats 1600000 in
theorem tick_idle (h : Solo w base R lg d sv L) (hr : d.role ≠ 2) (he : 0 ≤ d.el) (ht : d.el + 1 < d.tm) (h10 : d.tm = 10) : Calls Try.prog 15 #[.pointer (some ⟨R, 0, none⟩)] w fun e w' => e = .returned (.slice none 0 0) ∧ Solo w' base R lg { d with el := d.el + 1 } sv L ∧ Below base w w' := by
  have c5 : w.cell? ⟨R, 5, none⟩ = some (.int .i64 d.role) := h.cell 5
  have c9 : w.cell? ⟨R, 9, none⟩ = some (.int .i64 d.el) := h.cell 9
  have f9 := h.fz 9
  obtain ⟨s1, b1⟩ := h.set 9 (.int .i64 (d.el + 1)) { d with el := d.el + 1 } rfl
  have c10 : (w.setCell ⟨R, 9, none⟩ (.int .i64 (d.el + 1))).cell? ⟨R, 10, none⟩ = some (.int .i64 10) := by have := s1.cell 10; rw [show (RD.cells { d with el := d.el + 1 } lg)[10]? = some (.int .i64 d.tm) from rfl, h10] at this; exact this
  have S1 : Hid _ := And.intro s1 b1
  have q0 : (d.role == 2) = false := by simpa using hr
  have q1 : ¬ d.role = 2 := hr
  have q2 : wrap64 (d.el + 1) = d.el + 1 := by unfold wrap64; omega
  have q3 : decide (d.el + 1 < 10) = true := decide_eq_true (by omega)
  obtain ⟨e1, ee⟩ : ∃ e1, d.el + 1 = e1 := ⟨_, rfl⟩
  obtain ⟨el, eel⟩ : ∃ el, d.el = el := ⟨_, rfl⟩
  obtain ⟨ro, ero⟩ : ∃ ro, d.role = ro := ⟨_, rfl⟩
  have q2' : wrap64 (d.el + 1) = e1 := by rw [q2]; exact ee
  rw [ee] at S1 c10 q3
  rw [ee]
  rw [eel] at c9 q2'
  rw [ero] at c5 q0 q1
  clear h s1 b1 hr ht h10 he q2 ee eel ero
  go_enter Try.func15, Try.ntmps15
  go_wp2
  go_quiet (fail)
  go_wp2
  go_ret
  exact ⟨rfl, S1.out.1.drewN _, below_drewN' S1.out.2 _⟩
end
end Go.Proofs.Ythnocbflnakdmaa
