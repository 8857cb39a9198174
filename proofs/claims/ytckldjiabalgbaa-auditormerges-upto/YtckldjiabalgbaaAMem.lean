/- Package auditor: an auditor in memory; New, count, duty, know. -/
import Derived.Test.YtckldjiabalgbaaXMem
import Derived.Laws.Tables
import Derived.WalkSmall
namespace Go.Proofs.Ytckldjiabalgbaa
open Go.RowKit
attribute [local go_sem] Oper.semAt_some
set_option linter.unusedVariables false

/-- What an auditor is: of how many shards, the audit and the phase that it knows, who has answered, the rows that were told, whether all have. -/
structure AuD where
  sh : Int
  n : Int
  ph : Int
  a0 : Bool
  a1 : Bool
  a2 : Bool
  v0 : Value
  v1 : Value
  v2 : Value
  wh : Bool
def AuIn (w : World) (G : Nat) (D : AuD) : Prop := w.heap[G]? = some (.cells #[.int .i64 D.sh, .int .i64 D.n, .int .i64 D.ph, .bool D.a0, .bool D.a1, .bool D.a2, D.v0, D.v1, D.v2, .bool D.wh] 71 (0, 0))
theorem duty_any (ph : Int) (w : World) : Calls Try.prog 27 #[.int .i64 ph] w fun e w' => e = .returned (.tuple #[.int .i64 (if ph = 1 then 6 else if ph = 2 then 7 else 0), .bool (decide (ph = 1 ∨ ph = 2))]) ∧ w' = w := by
  by_cases h1 : ph = 1
  · subst h1
    go_enter Try.func27, Try.ntmps27
    go_wp2
    go_ret2
    exact ⟨rfl, rfl⟩
  · by_cases h2 : ph = 2
    · subst h2
      go_enter Try.func27, Try.ntmps27
      go_wp2
      go_ret2
      exact ⟨rfl, rfl⟩
    · have m1 : (ph == 1) = false := by simpa using h1
      have m2 : (ph == 2) = false := by simpa using h2
      have e1 : (if ph = 1 then (6 : Int) else if ph = 2 then 7 else 0) = 0 := by rw [if_neg h1, if_neg h2]
      have e2 : decide (ph = 1 ∨ ph = 2) = false := by simp [h1, h2]
      rw [e1, e2]
      clear e1 e2 h1 h2
      go_enter Try.func27, Try.ntmps27
      go_wp2
      go_ret2
      exact ⟨rfl, rfl⟩
theorem countA_any {w : World} {G : Nat} {D : AuD} (h : AuIn w G D) (hs : 1 ≤ D.sh) : Calls Try.prog 22 #[.pointer (some ⟨G, 0, none⟩)] w fun e w' => e = .returned (.int .i64 D.sh) ∧ w' = w := by
  have c0 : w.cell? ⟨G, 0, none⟩ = some (.int .i64 D.sh) := by simp only [AuIn] at h; simp [World.cell?, h]
  have hm : ¬ D.sh < 1 := by omega
  clear h
  go_enter Try.func22, Try.ntmps22
  go_wp2
  go_ret
  refine ⟨?_, rfl⟩
  first | rfl | (simp; omega) | (congr 2; omega) | (rw [if_neg (by omega)])
end Go.Proofs.Ytckldjiabalgbaa
