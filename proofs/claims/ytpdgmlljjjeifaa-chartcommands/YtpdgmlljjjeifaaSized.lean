/- What sized, Bytes and Text of a Reader do. -/
import Derived.Test.YtpdgmlljjjeifaaReads
import Derived.Test.YtpdgmlljjjeifaaKnownC
namespace Go.Proofs.Ytpdgmlljjjeifaa
open Go.RowKit Cod
set_option linter.unusedVariables false

theorem rC_ok {l : List (BitVec 8)} {most : Int} {at_ why n a1 : Nat} (hat : at_ ≤ l.length) (h : rC l most at_ why = (n, a1, 0)) : l ≠ [] ∧ a1 + n ≤ l.length ∧ (n : Int) ≤ most ∧ rU l at_ why = (n, a1, 0) := by
  unfold rC at h
  split at h
  · rename_i h1
    exact absurd (congrArg (fun t => t.2.2) h) h1
  · split at h
    · cases h
    · split at h
      · cases h
      · rename_i h1 h2 h3
        rw [h] at h1 h2 h3
        have h4 := rU_at l at_ why hat
        rw [h] at h4
        simp only at h1 h2 h3 h4
        refine ⟨fun e => ?_, by omega, by omega, h⟩
        subst e
        by_cases hy : why = 0
        · subst hy
          simp [rU, num] at h
        · rw [rU, if_neg hy] at h
          exact hy (congrArg (fun t => t.2.2) h)
end Go.Proofs.Ytpdgmlljjjeifaa
