/- Package chart: New, and what is read of a chart. -/
import Derived.Test.YtpdgmlljjjeifaaChDo
namespace Go.Proofs.Ytpdgmlljjjeifaa
open Go.RowKit
attribute [local go_sem] Oper.semAt_some
set_option linter.unusedVariables false
/-- A new chart, so far. -/
def newL (sh : Int) : Nat → List Int
  | 0 => sh :: List.replicate 41 0
  | j + 1 => (newL sh j).set (1 + j * 2) (1 + (j : Int) % sh)
theorem newL_len (sh : Int) : ∀ j, (newL sh j).length = 42
  | 0 => by simp [newL]
  | j + 1 => by simp [newL, newL_len sh j]
section
variable {w w' : World} {base R : Nat} {L : List Int}
set_option maxRecDepth 100000 in
set_option maxHeartbeats 1600000 in
theorem new_no (n : Int) (h : ¬ (1 ≤ n ∧ n ≤ 3)) (w : World) : Calls Try.prog 9 #[.int .i64 n] w fun e w' => e = .returned (.tuple #[.pointer none, .int .i64 1]) ∧ w' = w := by
  have HC := canBe_any n w
  rw [decide_eq_false h] at HC
  clear h
  go_enter Try.func9, Try.ntmps9
  go_wp2_with fail
  refine HC.mono ?_
  rintro e w1 ⟨rfl, rfl⟩
  go_wp2
  go_ret2
  exact ⟨rfl, rfl⟩
set_option maxRecDepth 100000 in
set_option maxHeartbeats 1600000 in
theorem new_ok (n : Int) (h : 1 ≤ n ∧ n ≤ 3) (w : World) : Calls Try.prog 9 #[.int .i64 n] w fun e w' => e = .returned (.tuple #[.pointer (some ⟨w.heap.size, 0, none⟩), .int .i64 0]) ∧ CIn w' w.heap.size w.heap.size (newL n 16) ∧ Below w.heap.size w w' := by
  have HC := canBe_any n w
  rw [decide_eq_true h] at HC
  have c0 : CIn (w.alloc (.cells (ints (newL n 0)) 76)) w.heap.size w.heap.size (newL n 0) := ⟨heap_alloc_new w _, newL_len _ _, Nat.le_refl _⟩
  have b0 : Below w.heap.size w (w.alloc (.cells (ints (newL n 0)) 76)) := (Below.refl _ w).alloc (Nat.le_refl _) _
  have el : ints (newL n 0) = #[.int .i64 n, .int .i64 0, .int .i64 0, .int .i64 0, .int .i64 0, .int .i64 0, .int .i64 0, .int .i64 0, .int .i64 0, .int .i64 0, .int .i64 0, .int .i64 0, .int .i64 0, .int .i64 0, .int .i64 0, .int .i64 0, .int .i64 0, .int .i64 0, .int .i64 0, .int .i64 0, .int .i64 0, .int .i64 0, .int .i64 0, .int .i64 0, .int .i64 0, .int .i64 0, .int .i64 0, .int .i64 0, .int .i64 0, .int .i64 0, .int .i64 0, .int .i64 0, .int .i64 0, .int .i64 0, .int .i64 0, .int .i64 0, .int .i64 0, .int .i64 0, .int .i64 0, .int .i64 0, .int .i64 0, .int .i64 0] := rfl
  rw [el] at c0 b0
  obtain ⟨wA, eA⟩ : ∃ wA, (w.alloc (.cells #[.int .i64 n, .int .i64 0, .int .i64 0, .int .i64 0, .int .i64 0, .int .i64 0, .int .i64 0, .int .i64 0, .int .i64 0, .int .i64 0, .int .i64 0, .int .i64 0, .int .i64 0, .int .i64 0, .int .i64 0, .int .i64 0, .int .i64 0, .int .i64 0, .int .i64 0, .int .i64 0, .int .i64 0, .int .i64 0, .int .i64 0, .int .i64 0, .int .i64 0, .int .i64 0, .int .i64 0, .int .i64 0, .int .i64 0, .int .i64 0, .int .i64 0, .int .i64 0, .int .i64 0, .int .i64 0, .int .i64 0, .int .i64 0, .int .i64 0, .int .i64 0, .int .i64 0, .int .i64 0, .int .i64 0, .int .i64 0] 76)) = wA := ⟨_, rfl⟩
  rw [eA] at c0 b0
  obtain ⟨R, eR⟩ : ∃ R, w.heap.size = R := ⟨_, rfl⟩
  have EA : Hid _ := eA
  have ER : Hid (w.heap.size = R) := eR
  rw [eR] at c0 b0
  have H0 : Hid (CIn wA R R (newL n 0) ∧ Below R w wA) := ⟨c0, b0⟩
  have HN : Hid (1 ≤ n ∧ n ≤ 3) := h
  rw [eR]
  clear c0 b0 eA eR h el
  go_enter Try.func9, Try.ntmps9
  go_wp2_with fail
  refine HC.mono ?_
  clear HC
  rintro e w1 ⟨rfl, rfl⟩
  go_wp2_with fail
  rw [EA.out, ER.out]
  go_loopw [12] (fun i wr => ∃ j : Nat, j ≤ 16 ∧ i = .int .i64 (j : Int) ∧ Hid (CIn wr R R (newL n j) ∧ Below R w1 wr)) (fun i _ => 16 - (intOf i).toNat)
  case atStart => exact ⟨0, by omega, rfl, H0⟩
  case round =>
    obtain ⟨j, hj, rfl, HH⟩ := hrel
    clear H0
    by_cases hj5 : j < 16
    · have q0 : decide ((j : Int) < 16) = true := decide_eq_true (by omega)
      have q3 : wrap64 ((j : Int) + 1) = ((j + 1 : Nat) : Int) := by unfold wrap64; omega
      have u0 := HH.out.1.cell (1 + j * 2) (by omega)
      have f0 := HH.out.1.fz (1 + j * 2)
      generalize at_ (newL n j) (1 + j * 2) = u at *
      have qn : ¬ n = 0 := by have := HN.out; omega
      have qn' : (n == 0) = false := by simpa using qn
      have q4 : wrap64 (1 + (j : Int) % n) = 1 + (j : Int) % n := by
        have h1 := Int.emod_nonneg (j : Int) qn
        have h2 := Int.emod_lt_of_pos (j : Int) (show 0 < n by have := HN.out; omega)
        have := HN.out
        unfold wrap64
        omega
      have C1 := HH.out.1.set (1 + j * 2) (1 + (j : Int) % n)
      have B1 := (OnlyR.refl wr R).set (1 + j * 2) (.int .i64 (1 + (j : Int) % n))
      have HN' : Hid (CIn ((wr.setCell ⟨R, 1 + j * 2, none⟩ (.int .i64 (1 + (j : Int) % n))).drewN 1) R R (newL n (j + 1)) ∧ Below R w1 ((wr.setCell ⟨R, 1 + j * 2, none⟩ (.int .i64 (1 + (j : Int) % n))).drewN 1)) := ⟨C1.drewN 1, HH.out.2.trans ((B1.drewN 1).toBelow (Nat.le_refl _) (Nat.le_of_lt HH.out.1.lt))⟩
      clear hj C1 B1
      go_wp2_with fail
      go_region
      rw [q4]
      clear q4
      go_wp2
      go_roundw
      case rel => exact ⟨j + 1, by omega, by simp, HN'⟩
      case measure => simp only [intOf]; omega
    · obtain rfl : j = 16 := by omega
      clear hj hj5
      go_wp2
      go_ret2
      exact ⟨rfl, HH.out.1, HH.out.2⟩
end
end Go.Proofs.Ytpdgmlljjjeifaa
