/- Package txn: Next, all. -/
import Derived.Test.YtbilnleglnbnlaaXNextA
import Derived.Test.YtbilnleglnbnlaaXNextB
namespace Go.Proofs.Ytbilnleglnbnlaa
open Go.RowKit
set_option linter.unusedVariables false

theorem next_any (g : Int) (c : CmdV) (y : Int) (wt : Bool) (r1 r2 : Int) (r3 r4 : Value) (w : World) : Calls Try.prog 9 #[.agg #[.int .i64 g, .int .i64 c.k, .int .i64 c.ok, .string c.of_, .string c.ot, .int .i64 c.oa, .string c.oy, .int .i64 c.os, .int .i64 c.oh, .string c.id, .string c.nm, .int .i64 c.n, .int .i64 c.why, .int .i64 c.slot, .int .i64 c.ep, .int .i64 c.at_, .bool c.last, c.data], .agg #[.int .i64 y, .bool wt, .int .i64 r1, .int .i64 r2, r3, r4]] w fun e w' => e = .returned (.tuple #[.agg (nextC c y).1.cells.toArray, .bool (nextC c y).2]) ∧ Below w.heap.size w w' := by
  obtain ⟨k, ok, of_, ot, oa, oy, os, oh, id, nm, n, why, slot, ep, at_, last, data⟩ := c
  unfold nextC
  simp only
  by_cases hm : mute y = true
  · rw [if_pos hm]
    exact next_mute g k ok of_ ot oa oy os oh id nm n why slot ep at_ last data y wt r1 r2 r3 r4 w hm
  · have hm' : mute y = false := by simpa using hm
    rw [if_neg hm]
    by_cases h2 : k = 2
    · rw [if_pos h2]
      exact next_prep g k ok of_ ot oa oy os oh id nm n why slot ep at_ last data y wt r1 r2 r3 r4 w hm' (by simpa using h2)
    · rw [if_neg h2]
      by_cases h4 : k = 4
      · by_cases h0 : y = 0
        · rw [if_pos ⟨h4, h0⟩]
          subst h0
          exact next_fin g k ok of_ ot oa oy os oh id nm n why slot ep at_ last data 0 wt r1 r2 r3 r4 w hm' (by simpa using h2) (by simpa using h4)
        · rw [if_neg (fun x => h0 x.2)]
          exact next_fin0 g k ok of_ ot oa oy os oh id nm n why slot ep at_ last data y wt r1 r2 r3 r4 w hm' (by simpa using h2) (by simpa using h4) (by simpa using h0)
      · rw [if_neg (fun x => h4 x.1)]
        exact next_none g k ok of_ ot oa oy os oh id nm n why slot ep at_ last data y wt r1 r2 r3 r4 w hm' (by simpa using h2) (by simpa using h4)
end Go.Proofs.Ytbilnleglnbnlaa
