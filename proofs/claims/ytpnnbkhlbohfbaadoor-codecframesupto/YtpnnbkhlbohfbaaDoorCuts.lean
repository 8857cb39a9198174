/- Reads of a first part of bytes: as those of the whole, or an error: the plain functions. -/
import Derived.Test.YtpnnbkhlbohfbaaDoorK5
namespace Go.Proofs.YtpnnbkhlbohfbaaDoor
open Go.RowKit Cod
set_option linter.unusedVariables false

theorem num_take : ∀ (m : List (BitVec 8)) (p a j : Nat), (num p a m).2.2 = 0 → num p a (m.take j) = num p a m ∧ (num p a m).2.1 ≤ p + j ∨ (num p a (m.take j)).2.2 ≠ 0
  | [], p, a, j, h => by simp [num] at h
  | c :: r, p, a, 0, h => by right; simp [num]
  | c :: r, p, a, j + 1, h => by
    rw [List.take_succ_cons]
    unfold num at h ⊢
    split
    · rename_i h1
      rw [if_pos h1] at h
      simp at h
    · rename_i h1
      rw [if_neg h1] at h
      split
      · left
        exact ⟨rfl, by simp⟩
      · rename_i h2
        rw [if_neg h2] at h
        rcases num_take r (p + 1) _ j h with ⟨h3, h4⟩ | h3
        · exact .inl ⟨h3, by omega⟩
        · exact .inr h3
/-- A read of a first part: as of the whole, or an error. -/
def CutR {α : Type} (f : List (BitVec 8) → Nat → Nat → α × Nat × Nat) : Prop :=
  ∀ (l : List (BitVec 8)) (k at_ : Nat), at_ ≤ k → k ≤ l.length → (f l at_ 0).2.2 = 0 → (f (l.take k) at_ 0 = f l at_ 0 ∧ (f l at_ 0).2.1 ≤ k) ∨ (f (l.take k) at_ 0).2.2 ≠ 0
theorem rU_cut : CutR rU := by
  intro l k at_ hat hk h
  simp only [rU, if_true] at h ⊢
  rw [List.drop_take]
  rcases num_take (l.drop at_) 0 0 (k - at_) h with ⟨h1, h2⟩ | h1
  · left
    rw [h1]
    exact ⟨rfl, by simp at h2; omega⟩
  · exact .inr h1
theorem rB_cut : CutR rB := by
  intro l k at_ hat hk h
  by_cases hak : at_ = k
  · right
    have hl : (l.take k).length = k := by simp; omega
    simp [rB, hl, hak]
  · left
    have hl : (l.take k).length = k := by simp; omega
    have hg : (l.take k).getD at_ 0#8 = l.getD at_ 0#8 := by
      simp only [List.getD_eq_getElem?_getD]
      rw [List.getElem?_take, if_pos (by omega)]
    have hne : ¬ at_ = l.length := by omega
    refine ⟨?_, ?_⟩
    · simp only [rB, hl, hg, hak, hne]
    · unfold rB at h ⊢
      rw [if_neg (by simp), if_neg hne] at h ⊢
      split
      · rename_i h1
        rw [if_pos h1] at h
        simp at h
      · simp; omega
theorem rC_cut (most : Int) : CutR (fun l at_ why => rC l most at_ why) := by
  intro l k at_ hat hk h
  have hl : (l.take k).length = k := by simp; omega
  simp only at h ⊢
  have hu : (rU l at_ 0).2.2 = 0 := by
    unfold rC at h
    split at h
    · rename_i h1
      exact absurd h h1
    · rename_i h1
      simpa using h1
  rcases rU_cut l k at_ hat hk hu with ⟨h1, h2⟩ | h1
  · unfold rC at h
    rw [if_neg (by rw [hu]; simp)] at h
    split at h
    · simp at h
    · rename_i h3
      split at h
      · simp at h
      · rename_i h4
        by_cases h5 : k - (rU l at_ 0).2.1 < (rU l at_ 0).1
        · right
          unfold rC
          rw [h1, hl, if_neg (by rw [hu]; simp), if_neg h3, if_pos h5]
          simp
        · left
          unfold rC
          rw [h1, hl, if_neg (by rw [hu]; simp), if_neg h3, if_neg h5, if_neg (by rw [hu]; simp), if_neg h3, if_neg h4]
          exact ⟨rfl, h2⟩
  · right
    unfold rC
    rw [if_pos h1]
    exact h1
theorem rS_cut : CutR rS := by
  intro l k at_ hat hk h
  have hl : (l.take k).length = k := by simp; omega
  have hc : (rC l 65536 at_ 0).2.2 = 0 := by
    unfold rS at h
    split at h
    · exact h
    · rename_i h1
      simpa using h1
  rcases rC_cut 65536 l k at_ hat hk hc with ⟨h1, h2⟩ | h1
  · left
    simp only at h1 h2
    have hr := rC_room (l := l.take k) (most := 65536) (at_ := at_) (why := 0) (by omega) (by rw [h1]; exact hc)
    rw [h1, hl] at hr
    unfold rS
    rw [h1, if_neg (by rw [hc]; simp), if_neg (by rw [hc]; simp)]
    refine ⟨?_, hr⟩
    rw [List.drop_take, List.take_take, Nat.min_eq_left (by omega)]
  · right
    simp only at h1
    unfold rS
    rw [if_pos h1]
    exact h1
end Go.Proofs.YtpnnbkhlbohfbaaDoor
