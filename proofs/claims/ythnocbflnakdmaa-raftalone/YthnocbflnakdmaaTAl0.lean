/- Package raft: New that refuses; Log of a replica alone. -/
import Derived.Test.YthnocbflnakdmaaTNew
namespace Go.Proofs.Ythnocbflnakdmaa
open Go.RowKit
attribute [local go_sem] Oper.semAt_some
set_option linter.unusedVariables false
section
variable {w w' : World} {base R lg N : Nat} {d : RD} {sv : Value} {L : List EntV}
theorem lastT_in (h : LogIn w base N 0 0 sv L) : 0 ≤ lastT 0 L ∧ lastT 0 L ≤ 1152921504606846976 := by
  unfold lastT
  cases e : L.getLast? with
  | none => simp
  | some x => have := h.bE x (List.mem_of_getLast? e); simp only; omega
set_option maxRecDepth 100000 in
set_option maxHeartbeats 1600000 in
theorem new_refused (h : LogIn w base N 0 0 sv L) (t : Int) (ht : t < lastT 0 L ∨ 1152921504606846976 < t) : Calls Try.prog 26 #[.int .i64 0, .int .i64 0, .int .i64 1, .int .i64 t, .int .i64 (-1), .pointer (some ⟨N, 0, none⟩), .int .i64 0] w fun e w' => e = .returned (.tuple #[.pointer none, .int .i64 1]) ∧ Below w.heap.size w w' := by
  have HB := base_any h
  have H : Hid _ := h
  obtain ⟨u, eu⟩ : ∃ u, lastT 0 L = u := ⟨_, rfl⟩
  rw [eu] at ht
  have EU : Hid (lastT 0 L = u) := eu
  clear h eu
  go_enter Try.func26, Try.ntmps26
  go_wp2_with fail
  refine HB.mono ?_
  clear HB
  rintro e w1 ⟨rfl, b1⟩
  have HL := last_any (H.out.below b1)
  rw [Int.zero_add, EU.out] at HL
  have B1 : Hid (Below w.heap.size w w1) := b1
  clear b1
  go_wp2_with fail
  refine HL.mono ?_
  clear HL
  rintro e w2 ⟨rfl, b2⟩
  have B2 : Hid (Below w.heap.size w w2) := B1.out.trans (b2.mono B1.out.size)
  clear b2 B1
  by_cases h1 : t < u
  · have q3 : decide (t < u) = true := decide_eq_true h1
    go_wp2
    go_ret2
    exact ⟨rfl, B2.out⟩
  · have q2 : decide (t < u) = false := decide_eq_false h1
    have h2 : 1152921504606846976 < t := by omega
    have q3 : decide (1152921504606846976 < t) = true := decide_eq_true h2
    go_wp2
    go_ret2
    exact ⟨rfl, B2.out⟩
set_option maxRecDepth 100000 in
set_option maxHeartbeats 1600000 in
theorem log_one (h : Solo w base R lg d sv L) : Calls Try.prog 19 #[.pointer (some ⟨R, 0, none⟩)] w fun e w' => ∃ N' sv', e = .returned (.pointer (some ⟨N', 0, none⟩)) ∧ LogIn w' w.heap.size N' 0 0 sv' L ∧ Below w.heap.size w w' := by
  have c8 : w.cell? ⟨R, 8, none⟩ = some (.pointer (some ⟨lg, 0, none⟩)) := h.cell 8
  have HC := copy_any h.log
  clear h
  go_enter Try.func19, Try.ntmps19
  go_wp2_with fail
  refine HC.mono ?_
  clear HC
  rintro e w1 ⟨N', sv', rfl, l1, b1⟩
  have F : Hid _ := And.intro l1 b1
  clear l1 b1
  go_wp2
  go_ret
  exact ⟨N', sv', rfl, F.out.1, F.out.2⟩
end
end Go.Proofs.Ythnocbflnakdmaa
