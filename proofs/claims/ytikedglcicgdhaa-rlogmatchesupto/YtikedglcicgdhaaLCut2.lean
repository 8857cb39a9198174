/- Package rlog: Cut; the calls of nil. -/
import Derived.Test.YtikedglcicgdhaaLCut
namespace Go.Proofs.Ytikedglcicgdhaa
open Go.RowKit
attribute [local go_sem] Oper.semAt_some
set_option linter.unusedVariables false

section
variable {w : World} {base N : Nat} {B T : Int} {sv : Value} {L : List EntV}
set_option maxRecDepth 100000 in
set_option maxHeartbeats 1600000 in
theorem cut_no (h : LogIn w base N B T sv L) (at_ : Int) (hat : at_ ≤ B ∨ B + L.length + 1 < at_) : Calls Try.prog 20 #[.pointer (some ⟨N, 0, none⟩), .int .i64 at_] w fun e w' => e = .returned (.int .i64 1) ∧ Below w.heap.size w w' := by
  have HL := last_any h
  have H : Hid (LogIn w base N B T sv L) := h
  have hB := h.bB
  have hl := h.len
  have q1 : wrap64 (B + (L.length : Int) + 1) = B + L.length + 1 := by unfold wrap64; omega
  obtain ⟨m, em⟩ : ∃ m : Int, B + (L.length : Int) = m := ⟨_, rfl⟩
  obtain ⟨m1, em1⟩ : ∃ m1 : Int, m + 1 = m1 := ⟨_, rfl⟩
  rw [em] at HL hat
  rw [em1] at hat
  have q2 : wrap64 (m + 1) = m1 := by unfold wrap64; omega
  clear h q1 em em1 hB hl
  by_cases hlo : at_ ≤ B
  · have q3 : decide (at_ ≤ B) = true := decide_eq_true hlo
    clear hat hlo
    go_enter Try.func20, Try.ntmps20
    go_wp2_with fail
    refine HL.mono ?_
    clear HL
    rintro e w1 ⟨rfl, b1⟩
    have c0 := (H.out.below b1).c0
    go_wp2
    go_ret
    exact ⟨rfl, b1⟩
  · have q3 : decide (at_ ≤ B) = false := decide_eq_false hlo
    have q4 : decide (m1 < at_) = true := decide_eq_true (by omega)
    clear hat hlo
    go_enter Try.func20, Try.ntmps20
    go_wp2_with fail
    refine HL.mono ?_
    clear HL
    rintro e w1 ⟨rfl, b1⟩
    have c0 := (H.out.below b1).c0
    go_wp2
    go_ret
    exact ⟨rfl, b1⟩
set_option maxRecDepth 100000 in
set_option maxHeartbeats 1600000 in
theorem cut_ok (h : LogIn w base N B T sv L) (at_ : Int) (k : Nat) (hk : k ≤ L.length) (hat : at_ = B + 1 + k) : Calls Try.prog 20 #[.pointer (some ⟨N, 0, none⟩), .int .i64 at_] w fun e w' => e = .returned (.int .i64 0) ∧ ∃ sv', LogIn w' base N B T sv' (L.take k) ∧ Chg w w' N sv.ownBlock ∧ sv'.ownBlock = sv.ownBlock := by
  have HL := last_any h
  have H : Hid (LogIn w base N B T sv L) := h
  have hB := h.bB
  have hl := h.len
  obtain ⟨m, em⟩ : ∃ m : Int, B + (L.length : Int) = m := ⟨_, rfl⟩
  obtain ⟨m1, em1⟩ : ∃ m1 : Int, m + 1 = m1 := ⟨_, rfl⟩
  rw [em] at HL
  have q2 : wrap64 (m + 1) = m1 := by unfold wrap64; omega
  have q3 : decide (at_ ≤ B) = false := decide_eq_false (by omega)
  have q4 : decide (m1 < at_) = false := decide_eq_false (by omega)
  have q5 : wrap64 (at_ - B) = ((k + 1 : Nat) : Int) := by unfold wrap64; omega
  have q6 : k < 4097 := by omega
  have HK : Hid (k ≤ L.length) := hk
  clear h em em1 hB hl hat hk
  go_enter Try.func20, Try.ntmps20
  go_wp2_with fail
  refine HL.mono ?_
  clear HL
  rintro e w1 ⟨rfl, b1⟩
  have c0 := (H.out.below b1).c0
  have HKp := keep_any (H.out.below b1) k HK.out
  go_wp2_with fail
  refine HKp.mono ?_
  clear HKp
  rintro e w2 ⟨rfl, sv2, l2, g2, s2⟩
  go_wp2
  go_ret
  exact ⟨rfl, sv2, l2, (Chg.of_below b1 _ _).trans g2 (fun g e => .inl e), s2⟩
end
section
variable (w : World)
theorem base_nil : Calls Try.prog 17 #[.pointer none] w fun e w' => e = .returned (.tuple #[.int .i64 0, .int .i64 0]) ∧ w' = w := by
  go_enter Try.func17, Try.ntmps17
  go_wp2
  go_ret2
  exact ⟨rfl, rfl⟩
theorem last_nil : Calls Try.prog 16 #[.pointer none] w fun e w' => e = .returned (.tuple #[.int .i64 0, .int .i64 0]) ∧ w' = w := by
  go_enter Try.func16, Try.ntmps16
  go_wp2
  go_ret2
  exact ⟨rfl, rfl⟩
theorem term_nil (k : Int) : Calls Try.prog 10 #[.pointer none, .int .i64 k] w fun e w' => e = .returned (.tuple #[.int .i64 0, .int .i64 2]) ∧ w' = w := by
  go_enter Try.func10, Try.ntmps10
  go_wp2
  go_ret2
  exact ⟨rfl, rfl⟩
theorem match_nil (k t : Int) : Calls Try.prog 12 #[.pointer none, .int .i64 k, .int .i64 t, .slice none 0 0] w fun e w' => e = .returned (.tuple #[.int .i64 0, .int .i64 0, .int .i64 2]) ∧ w' = w := by
  go_enter Try.func12, Try.ntmps12
  go_wp2
  go_ret3
  exact ⟨rfl, rfl⟩
theorem append_nil : Calls Try.prog 19 #[.pointer none, .slice none 0 0] w fun e w' => e = .returned (.int .i64 2) ∧ w' = w := by
  go_enter Try.func19, Try.ntmps19
  go_wp2
  go_ret
  exact ⟨rfl, rfl⟩
theorem cut_nil (k : Int) : Calls Try.prog 20 #[.pointer none, .int .i64 k] w fun e w' => e = .returned (.int .i64 2) ∧ w' = w := by
  go_enter Try.func20, Try.ntmps20
  go_wp2
  go_ret
  exact ⟨rfl, rfl⟩
theorem compact_nil (k : Int) : Calls Try.prog 14 #[.pointer none, .int .i64 k] w fun e w' => e = .returned (.int .i64 2) ∧ w' = w := by
  go_enter Try.func14, Try.ntmps14
  go_wp2
  go_ret
  exact ⟨rfl, rfl⟩
theorem len_nil : Calls Try.prog 21 #[.pointer none] w fun e w' => e = .returned (.int .i64 0) ∧ w' = w := by
  go_enter Try.func21, Try.ntmps21
  go_wp2
  go_ret
  exact ⟨rfl, rfl⟩
theorem part_nil (k m : Int) : Calls Try.prog 11 #[.pointer none, .int .i64 k, .int .i64 m] w fun e w' => e = .returned (.slice none 0 0) ∧ w' = w := by
  go_enter Try.func11, Try.ntmps11
  go_wp2
  go_ret
  exact ⟨rfl, rfl⟩
theorem newer_nil (k m : Int) : Calls Try.prog 22 #[.pointer none, .int .i64 k, .int .i64 m] w fun e w' => e = .returned (.bool false) ∧ w' = w := by
  go_enter Try.func22, Try.ntmps22
  go_wp2
  go_ret
  exact ⟨rfl, rfl⟩
theorem copy_nil : Calls Try.prog 13 #[.pointer none] w fun e w' => e = .returned (.pointer none) ∧ w' = w := by
  go_enter Try.func13, Try.ntmps13
  go_wp2
  go_ret
  exact ⟨rfl, rfl⟩
set_option maxRecDepth 100000 in
set_option maxHeartbeats 1600000 in
theorem each_nil : Calls Try.prog 18 #[.pointer none] w fun e w' => e = .returned (.func (.func 33) #[] #[.pointer (some ⟨w.heap.size, 0, none⟩)]) ∧ w' = w.alloc (.cells #[.pointer none] 23) := by
  have HC := copy_nil w
  go_enter Try.func18, Try.ntmps18
  go_wp2_with fail
  refine HC.mono ?_
  rintro e w1 ⟨rfl, rfl⟩
  clear HC
  go_wp2
  go_ret
  exact ⟨rfl, rfl⟩
end
end Go.Proofs.Ytikedglcicgdhaa
