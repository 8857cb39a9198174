/- Frames one behind the other, cut anywhere: the plain functions. -/
import Derived.Test.YtpnnbkhlbohfbaaDoorK3
namespace Go.Proofs.YtpnnbkhlbohfbaaDoor
open Go.RowKit Cod
set_option linter.unusedVariables false

def frs (ps : List (List (BitVec 8))) : List (BitVec 8) := (ps.map frame).flatten
def offs (ps : List (List (BitVec 8))) (k : Nat) : Nat := (frs (ps.take k)).length
theorem frs_cons (p : List (BitVec 8)) (ps : List (List (BitVec 8))) : frs (p :: ps) = frame p ++ frs ps := rfl
theorem frs_append (ps qs : List (List (BitVec 8))) : frs (ps ++ qs) = frs ps ++ frs qs := by simp [frs]
theorem frs_take {ps : List (List (BitVec 8))} {k : Nat} (hk : k < ps.length) : frs (ps.take (k + 1)) = frs (ps.take k) ++ frame ps[k] := by
  rw [List.take_add_one, frs_append]
  simp [hk, frs]
theorem offs_succ {ps : List (List (BitVec 8))} {k : Nat} (hk : k < ps.length) : offs ps (k + 1) = offs ps k + (frame ps[k]).length := by
  unfold offs
  rw [frs_take hk, List.length_append]
theorem frs_drop {ps : List (List (BitVec 8))} {k : Nat} (hk : k < ps.length) : frs (ps.drop k) = frame ps[k] ++ frs (ps.drop (k + 1)) := by
  rw [List.drop_eq_getElem_cons hk, frs_cons]
theorem rk_frs (ps : List (List (BitVec 8))) (hp : ∀ p ∈ ps, p.length ≤ 65536) (cut : Nat) : ∀ k, k ≤ ps.length → offs ps k ≤ cut → rk ((frs ps).take cut) k = (frs (ps.drop k)).take (cut - offs ps k) := by
  intro k
  induction k with
  | zero => intro _ _; simp [rk, offs, frs]
  | succ k ih =>
    intro hk ho
    have hlt : k < ps.length := by omega
    have hs := offs_succ hlt
    rw [rk, ih (by omega) (by omega), frs_drop hlt, List.take_append, List.take_of_length_le (by omega), (cut_frame ps[k] _ (hp _ (List.getElem_mem hlt))).2.2.2, hs]
    congr 1
    omega
theorem why_nil : cutWhy [] ≠ 0 := by simp [cutWhy, num]
theorem good_frs (ps : List (List (BitVec 8))) (hp : ∀ p ∈ ps, p.length ≤ 65536) (cut k : Nat) (hk : k ≤ ps.length) (ho : offs ps k ≤ cut) :
    (good ((frs ps).take cut) k → ∃ h : k < ps.length, offs ps (k + 1) ≤ cut ∧ cutBody (rk ((frs ps).take cut) k) = ps[k]) ∧ (¬ good ((frs ps).take cut) k → k = ps.length ∨ cut < offs ps (k + 1)) := by
  have hr := rk_frs ps hp cut k hk ho
  by_cases hlt : k < ps.length
  · have hs := offs_succ hlt
    have hl := hp _ (List.getElem_mem hlt)
    rw [frs_drop hlt] at hr
    by_cases hc : offs ps (k + 1) ≤ cut
    · rw [List.take_append, List.take_of_length_le (l := frame ps[k]) (by omega)] at hr
      obtain ⟨c1, c2, c3, c4⟩ := cut_frame ps[k] ((frs (ps.drop (k + 1))).take (cut - offs ps k - (frame ps[k]).length)) hl
      rw [← hr] at c1 c2 c3 c4
      exact ⟨fun _ => ⟨hlt, hc, c3⟩, fun h => absurd ⟨c1, by rw [c2, c3]⟩ h⟩
    · refine ⟨fun h => ?_, fun _ => .inr (by omega)⟩
      rw [List.take_append_of_le_length (by omega)] at hr
      have := cut_frame_cut ps[k] hl (cut - offs ps k) (by omega)
      rw [← hr] at this
      have h1 := h.1
      rw [this] at h1
      cases h1
  · obtain rfl : k = ps.length := by omega
    refine ⟨fun h => ?_, fun _ => .inl rfl⟩
    rw [List.drop_length] at hr
    have h1 := h.1
    rw [hr] at h1
    simp [frs] at h1
    exact absurd h1 why_nil
theorem offs_mono (ps : List (List (BitVec 8))) (k : Nat) (hk : k ≤ ps.length) : offs ps k ≤ (frs ps).length := by
  unfold offs
  have := congrArg List.length (frs_append (ps.take k) (ps.drop k))
  rw [List.take_append_drop, List.length_append] at this
  omega
theorem frs_small : ∀ (ps : List (List (BitVec 8))), (∀ p ∈ ps, p.length ≤ 65536) → (frs ps).length ≤ ps.length * 65550
  | [], _ => by simp [frs]
  | p :: ps, h => by
    have h1 := frs_small ps (fun q hq => h q (List.mem_cons_of_mem _ hq))
    have h2 := h p List.mem_cons_self
    have h3 := frame_length p
    have h4 := enc_ten (n := p.length) (by omega)
    rw [frs_cons, List.length_append, List.length_cons]
    omega
end Go.Proofs.YtpnnbkhlbohfbaaDoor
