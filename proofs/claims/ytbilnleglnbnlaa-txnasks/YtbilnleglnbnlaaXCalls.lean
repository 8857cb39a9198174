/- Package txn: lesser, saysNothing, wanted, Next. -/
import Derived.Test.YtbilnleglnbnlaaXMem
namespace Go.Proofs.Ytbilnleglnbnlaa
open Go.RowKit
attribute [local go_sem] Oper.semAt_some
set_option linter.unusedVariables false

theorem below_three (w : World) (o o' o'' : Obj) : Below w.heap.size w (((w.alloc o).alloc o').alloc o'') := (((Below.refl _ w).alloc (Nat.le_refl _) _).alloc (by simp) _).alloc (by simp; omega) _
set_option maxHeartbeats 400000 in
theorem lesser_any (why : Int) (w : World) : Calls Try.prog 22 #[.int .i64 why] w fun e w' => e = .returned (.int .i64 (lesser why)) ∧ w' = w := by
  unfold lesser
  by_cases h : why = 0
  · subst h
    go_enter Try.func22, Try.ntmps22
    go_wp2
    go_ret
    exact ⟨by simp, rfl⟩
  · have hb : (why == 0) = false := by simpa using h
    rw [if_neg h]
    clear h
    go_enter Try.func22, Try.ntmps22
    go_wp2
    go_ret
    exact ⟨rfl, rfl⟩
set_option maxHeartbeats 400000 in
theorem says_any (why : Int) (w : World) : Calls Try.prog 16 #[.int .i64 why] w fun e w' => e = .returned (.bool (mute why)) ∧ w' = w := by
  unfold mute
  by_cases h1 : why = 5
  · subst h1
    go_enter Try.func16, Try.ntmps16
    go_wp2
    go_ret
    exact ⟨rfl, rfl⟩
  · have b1 : (why == 5) = false := by simpa using h1
    by_cases h2 : why = 1
    · subst h2
      go_enter Try.func16, Try.ntmps16
      go_wp2
      go_ret
      exact ⟨rfl, rfl⟩
    · have b2 : (why == 1) = false := by simpa using h2
      by_cases h3 : why = 2
      · subst h3
        go_enter Try.func16, Try.ntmps16
        go_wp2
        go_ret
        exact ⟨rfl, rfl⟩
      · have b3 : (why == 2) = false := by simpa using h3
        rw [decide_eq_false h1, decide_eq_false h2, decide_eq_false h3]
        clear h1 h2 h3
        go_enter Try.func16, Try.ntmps16
        go_wp2
        go_ret
        exact ⟨rfl, rfl⟩

end Go.Proofs.Ytbilnleglnbnlaa
