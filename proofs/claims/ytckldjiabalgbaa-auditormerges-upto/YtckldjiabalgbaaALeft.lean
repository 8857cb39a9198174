/- Package auditor: New, Left. -/
import Derived.Test.YtckldjiabalgbaaAKnow
namespace Go.Proofs.Ytckldjiabalgbaa
open Go.RowKit
attribute [local go_sem] Oper.semAt_some
set_option linter.unusedVariables false

/-- New, of a number that can be. -/
theorem newA_ok (S : Nat) (h1 : 1 ≤ S) (h3 : S ≤ 3) (w : World) : Calls Try.prog 18 #[.int .i64 (S : Int)] w fun e w' => e = .returned (.pointer (some ⟨w.heap.size, 0, none⟩)) ∧ AuIn w' w.heap.size ⟨S, 0, 0, false, false, false, .slice none 0 0, .slice none 0 0, .slice none 0 0, false⟩ ∧ Below w.heap.size w w' := by
  have b : Hid (Below w.heap.size w (w.alloc (.cells #[.int .i64 (S : Int), .int .i64 0, .int .i64 0, .bool false, .bool false, .bool false, .slice none 0 0, .slice none 0 0, .slice none 0 0, .bool false] 71))) := (Below.refl _ w).alloc (Nat.le_refl _) _
  have g : Hid _ := heap_alloc_new w (.cells #[.int .i64 (S : Int), .int .i64 0, .int .i64 0, .bool false, .bool false, .bool false, .slice none 0 0, .slice none 0 0, .slice none 0 0, .bool false] 71)
  have m1 : ¬ (S : Int) < 1 := by omega
  have m3 : ¬ 3 < (S : Int) := by omega
  clear h1 h3
  go_enter Try.func18, Try.ntmps18
  go_wp2
  go_ret
  exact ⟨rfl, g.out, b.out⟩
def ansD (D : AuD) : Nat → Bool
  | 0 => D.a0
  | 1 => D.a1
  | _ => D.a2
/-- How many of the first ones have not answered. -/
def leftN (D : AuD) : Nat → Nat
  | 0 => 0
  | i + 1 => leftN D i + (if ansD D i = true then 0 else 1)
theorem leftN_le (D : AuD) : ∀ i, leftN D i ≤ i
  | 0 => Nat.le_refl _
  | i + 1 => by
    have := leftN_le D i
    unfold leftN
    split <;> omega
theorem AuIn.ans {w : World} {G : Nat} {D : AuD} (h : AuIn w G D) {i : Nat} (hi : i < 3) : w.cell? ⟨G, 3 + i, none⟩ = some (.bool (ansD D i)) := by
  simp only [AuIn] at h
  match i, hi with
  | 0, _ => simp [World.cell?, h, ansD]
  | 1, _ => simp [World.cell?, h, ansD]
  | 2, _ => simp [World.cell?, h, ansD]
theorem AuIn.drewN {w : World} {G : Nat} {D : AuD} (h : AuIn w G D) (n : Nat) : AuIn (w.drewN n) G D := h
theorem left_nil (w : World) : Calls Try.prog 13 #[.pointer none] w fun e w' => e = .returned (.int .i64 0) ∧ w' = w := by
  go_enter Try.func13, Try.ntmps13
  go_wp2
  go_ret
  exact ⟨rfl, rfl⟩
set_option maxRecDepth 100000 in
theorem left_any {w : World} {G : Nat} {D : AuD} (h : AuIn w G D) {S : Nat} (hS : D.sh = S) (h1 : 1 ≤ S) (h3 : S ≤ 3) : Calls Try.prog 13 #[.pointer (some ⟨G, 0, none⟩)] w fun e w' => e = .returned (.int .i64 (leftN D S : Int)) ∧ ∃ n, w' = w.drewN n := by
  have HC : Hid (∀ i, Calls Try.prog 22 #[.pointer (some ⟨G, 0, none⟩)] (w.drewN i) fun e w' => e = .returned (.int .i64 (S : Int)) ∧ w' = w.drewN i) := fun i => by
    have := countA_any (h.drewN i) (by rw [hS]; omega)
    rw [hS] at this
    exact this
  have HA : Hid (AuIn w G D) := h
  have H1 : Hid (1 ≤ S ∧ S ≤ 3) := ⟨h1, h3⟩
  have hb1 : (S : Int) ≤ 3 := by omega
  have hb0 : 0 ≤ (S : Int) := by omega
  clear h hS h1 h3
  go_enter Try.func13, Try.ntmps13
  go_wp2_with fail
  go_quiet (exact Calls.quiet_of_same (HC.out _))
  clear HC
  go_wp2_with fail
  go_loopw [3, 15] (fun c i wr => ∃ k : Nat, k ≤ S ∧ i = .int .i64 (k : Int) ∧ c = .int .i64 (leftN D k : Int) ∧ Hid (∃ m, wr = w.drewN m)) (fun _ i _ => S - (intOf i).toNat)
  case atStart => exact ⟨0, Nat.zero_le _, rfl, rfl, _, rfl⟩
  case round =>
    obtain ⟨k, hk, rfl, rfl, hW⟩ := hrel
    obtain ⟨m, rfl⟩ := hW.out
    have hk3 : k ≤ 3 := Nat.le_trans hk H1.out.2
    have hl3 := Nat.le_trans (leftN_le D k) hk3
    by_cases hlt : k < S
    · have hki : (k : Int) < (S : Int) := by omega
      have ca : w.cell? ⟨G, 3 + k, none⟩ = some (.bool (ansD D k)) := HA.out.ans (by omega)
      have HJ : Hid (k + 1 ≤ S) := hlt
      have HU : Hid (leftN D (k + 1) = leftN D k + (if ansD D k = true then 0 else 1)) := rfl
      obtain ⟨L, eL⟩ : ∃ L, leftN D k = L := ⟨_, rfl⟩
      rw [eL] at hl3 HU
      simp only [eL]
      clear hk hlt
      cases ha : ansD D k with
      | true =>
        rw [ha] at ca HU
        have HV : Hid (leftN D (k + 1) = L) := HU.out.trans (by simp)
        clear HU ha
        go_wp2
        go_roundw
        case rel => exact ⟨k + 1, HJ.out, by go_num, by rw [HV.out], _, rfl⟩
        case measure => have := HJ.out; simp only [intOf]; omega
      | false =>
        rw [ha] at ca HU
        have HV : Hid (leftN D (k + 1) = L + 1) := HU.out.trans (by simp)
        clear HU ha
        go_wp2
        go_roundw
        case rel => exact ⟨k + 1, HJ.out, by go_num, by rw [HV.out]; go_num, _, rfl⟩
        case measure => have := HJ.out; simp only [intOf]; omega
    · obtain rfl : k = S := by omega
      have hki : ¬ (k : Int) < (k : Int) := by omega
      clear hlt hk
      go_wp2
      go_ret
      exact ⟨rfl, _, rfl⟩
end Go.Proofs.Ytckldjiabalgbaa
