/- What the reference's Reader does: Int, Bool, End. -/
import Derived.Test.YtmcippolnekogaaRefRd
namespace Go.Proofs.Ytmcippolnekogaa
open Go.RowKit Cod
set_option linter.unusedVariables false
set_option linter.unusedSimpArgs false

theorem num_small : ∀ (l : List (BitVec 8)) (k acc : Nat), acc < 128 ^ k → k ≤ 9 → (num k acc l).1 < 18446744073709551616
  | [], _, _, _, _ => by simp [num]
  | c :: r, k, acc, ha, hk => by
    have hc := c.isLt
    unfold num
    split
    · show 0 < _; omega
    · rename_i h1
      split
      · rename_i h2
        show acc + c.toNat * 128 ^ k < _
        by_cases e : k = 9
        · subst e
          have h3 : c.toNat ≤ 1 := by omega
          have : c.toNat * 128 ^ 9 ≤ 1 * 128 ^ 9 := Nat.mul_le_mul_right _ h3
          have : (128 : Nat) ^ 9 = 9223372036854775808 := by decide
          omega
        · have h4 : 128 ^ k ≤ 128 ^ 8 := Nat.pow_le_pow_right (by omega) (by omega)
          have h5 : c.toNat * 128 ^ k ≤ 127 * 128 ^ 8 := Nat.mul_le_mul h2 h4
          have : (128 : Nat) ^ 8 = 72057594037927936 := by decide
          omega
      · have h9 : k ≠ 9 := by omega
        exact num_small r (k + 1) _ (on_lt ha) (by omega)
theorem rU_small (l : List (BitVec 8)) (at_ why : Nat) : (rU l at_ why).1 < 18446744073709551616 := by
  unfold rU
  split
  · exact num_small _ 0 0 (by decide) (by omega)
  · show 0 < _; omega
set_option maxRecDepth 100000 in
theorem refRInt_any (R A B : Nat) (l : List (BitVec 8)) (at_ why : Nat) (w : World) (h : RRd w R A B l at_ why) :
    Calls Try.prog 46 #[.pointer (some ⟨R, 0, none⟩)] w fun e w' => e = .returned (.int .i64 (zag (rU l at_ why).1)) ∧ RRd w' R A B l (rU l at_ why).2.1 (rU l at_ why).2.2 ∧ w.grownBy w' (some R) := by
  have HC := refRUint_any R A B l at_ why w h
  have hlt := rU_small l at_ why
  have HZ : Hid (zag (rU l at_ why).1 = if (rU l at_ why).1 % 2 = 1 then -(((rU l at_ why).1 / 2 : Nat) : Int) - 1 else (((rU l at_ why).1 / 2 : Nat) : Int)) := (rfl : _ = _)
  rw [HZ.out]
  generalize (rU l at_ why).1 = n at *
  clear h HZ
  have w2 : IntKind.u64.wrap ((n : Int) / 2) = (n : Int) / 2 := by rw [IntKind.wrap_u64]; omega
  have w1 : wrap64 ((n : Int) / 2) = (n : Int) / 2 := by unfold wrap64; omega
  by_cases hp : n % 2 = 1
  · have h1 : ((n : Int) % 2 == 1) = true := by simp; omega
    have w3 : wrap64 (-((n : Int) / 2)) = -((n : Int) / 2) := by unfold wrap64; omega
    have w4 : wrap64 (-((n : Int) / 2) - 1) = -((n : Int) / 2) - 1 := by unfold wrap64; omega
    rw [if_pos hp]
    clear hp hlt
    go_enter Try.func46, Try.ntmps46
    go_wp2_with fail
    refine HC.mono ?_
    rintro e w' ⟨rfl, r1, g1⟩
    have R1 : Hid (RRd w' R A B l (rU l at_ why).2.1 (rU l at_ why).2.2) := r1
    have G1 : Hid (w.grownBy w' (some R)) := g1
    clear r1 g1
    go_wp2
    go_ret
    exact ⟨by simp [w1, w3, w4], R1.out, G1.out⟩
  · have h1 : ((n : Int) % 2 == 1) = false := by simp; omega
    rw [if_neg hp]
    clear hp hlt
    go_enter Try.func46, Try.ntmps46
    go_wp2_with fail
    refine HC.mono ?_
    rintro e w' ⟨rfl, r1, g1⟩
    have R1 : Hid (RRd w' R A B l (rU l at_ why).2.1 (rU l at_ why).2.2) := r1
    have G1 : Hid (w.grownBy w' (some R)) := g1
    clear r1 g1
    go_wp2
    go_ret
    exact ⟨by simp [w1], R1.out, G1.out⟩
set_option maxRecDepth 100000 in
theorem refREnd_any (R A B : Nat) (l : List (BitVec 8)) (at_ why : Nat) (w : World) (h : RRd w R A B l at_ why) :
    Calls Try.prog 50 #[.pointer (some ⟨R, 0, none⟩)] w fun e w' => e = .returned (.int .i64 (rEnd l at_ why)) ∧ ∃ n, w' = w.drewN n := by
  obtain ⟨a, cap, c0, c1, c2, hfr, _, _, _, _, hat, hm⟩ := h.cells
  clear h
  by_cases h0 : why = 0
  · subst h0
    have hz : ((0 : Int) == 0) = true := rfl
    by_cases h1 : at_ < l.length
    · have e : rEnd l at_ 0 = 11 := by simp [rEnd, h1]
      have h1' : (at_ : Int) < (l.length : Int) := by omega
      rw [e]
      go_enter Try.func50, Try.ntmps50
      go_wp2_with fail
      go_quiet (fail)
      go_wp2
      go_ret
      exact ⟨rfl, _, rfl⟩
    · have e : rEnd l at_ 0 = 0 := by simp [rEnd, h1]
      have h1' : ¬ (at_ : Int) < (l.length : Int) := by omega
      rw [e]
      go_enter Try.func50, Try.ntmps50
      go_wp2_with fail
      go_quiet (fail)
      go_wp2
      go_ret
      exact ⟨rfl, _, rfl⟩
  · have e : rEnd l at_ why = why := by simp [rEnd, h0]
    have h0' : ((why : Int) == 0) = false := by simp; omega
    rw [e]
    go_enter Try.func50, Try.ntmps50
    go_wp2_with fail
    go_quiet (fail)
    go_wp2
    go_ret
    exact ⟨rfl, _, rfl⟩
end Go.Proofs.Ytmcippolnekogaa
