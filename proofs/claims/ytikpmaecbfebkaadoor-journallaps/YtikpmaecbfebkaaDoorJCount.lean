/- Count. -/
import Derived.Test.YtikpmaecbfebkaaDoorDMem
namespace Go.Proofs.YtikpmaecbfebkaaDoor
open Go.RowKit
set_option linter.unusedVariables false

/-- Count: a number from 0 to one less than m. -/
theorem count_any (n m : Int) (w : World) (h0 : -9223372036854775808 ≤ n) (h1 : n ≤ 9223372036854775807) (hm : 0 < m) (hm2 : m ≤ 4611686018427387904) :
    Calls Tryd.prog 28 #[.int .i64 n, .int .i64 m] w fun e w' => e = .returned (.int .i64 (n % m)) ∧ w' = w := by
  have hq := Int.tmod_add_mul_tdiv n m
  have hb1 : (n.tmod m).natAbs < m.natAbs := by rw [Int.natAbs_tmod]; exact Nat.mod_lt _ (by omega)
  have hb2 : -m < n.tmod m := by omega
  have hb3 : n.tmod m < m := by omega
  generalize n.tdiv m = q at *
  obtain ⟨t, ht⟩ : ∃ t, n.tmod m = t := ⟨_, rfl⟩
  rw [ht] at hq hb2 hb3
  clear hb1
  rcases Int.lt_or_le t 0 with h | h
  · have he : Hid (n % m = t + m) := by
      show n % m = t + m
      rw [← hq, Int.add_mul_emod_self_left, ← Int.add_emod_right]
      exact Int.emod_eq_of_lt (by omega) (by omega)
    clear hq
    go_enter Tryd.func28, Tryd.ntmps28
    go_wp2
    go_ret
    rw [he.out]
    exact ⟨rfl, rfl⟩
  · have he : Hid (n % m = t) := by
      show n % m = t
      rw [← hq, Int.add_mul_emod_self_left]
      exact Int.emod_eq_of_lt (by omega) (by omega)
    clear hq
    go_enter Tryd.func28, Tryd.ntmps28
    go_wp2
    go_ret
    rw [he.out]
    exact ⟨rfl, rfl⟩
end Go.Proofs.YtikpmaecbfebkaaDoor
