/- ChartOwners: what a command changes; plain. -/
import Derived.Test.YtpdgmlljjjeifaaChMovesG
namespace Go.Proofs.Ytpdgmlljjjeifaa
open Go.RowKit
set_option linter.unusedVariables false
/-- A move's phase is one. -/
def Ph3 (L : List Int) : Prop := 0 ≤ at_ L 38 ∧ at_ L 38 ≤ 3
/-- An account of a slot: its owner and epoch are as they were, or another owner has the next epoch. -/
def Turn (L L' : List Int) : Prop := at_ L' 0 = at_ L 0 ∧ ∀ i, i < 16 → (at_ L' (1 + i * 2) = at_ L (1 + i * 2) ∧ at_ L' (2 + i * 2) = at_ L (2 + i * 2)) ∨ (at_ L' (1 + i * 2) ≠ at_ L (1 + i * 2) ∧ at_ L' (2 + i * 2) = at_ L (2 + i * 2) + 1)
theorem Turn.same {L L' : List Int} (h : ∀ k, k < 33 → at_ L' k = at_ L k) : Turn L L' := ⟨h 0 (by omega), fun i hi => .inl ⟨h _ (by omega), h _ (by omega)⟩⟩
theorem ph3_new (n : Int) : Ph3 (newL n 16) := by unfold Ph3; rw [newL_at n 16 38 (by omega), if_neg (by omega), if_neg (by omega)]; omega
section
variable {L : List Int} {N : Nat}
theorem turn_doC (h : Good L N) (h3 : Ph3 L) (k s t n p : Int) : Turn L (doC L k s t n p).2 ∧ Ph3 (doC L k s t n p).2 := by
  have hl := h.len
  unfold doC
  by_cases k1 : k = 1
  · rw [if_pos k1]
    unfold mvC
    split
    · exact ⟨.same fun _ _ => rfl, h3⟩
    split
    · exact ⟨.same fun _ _ => rfl, h3⟩
    split
    · exact ⟨.same fun _ _ => rfl, h3⟩
    refine ⟨.same fun k hk => ?_, ?_⟩
    · rw [at_set_ne (by omega), at_set_ne (by omega), at_set_ne (by omega), at_set_ne (by omega), at_set_ne (by omega), at_set_ne (by omega), at_set_ne (by omega)]
    · unfold Ph3; rw [at_set_ne (by omega), at_set_self (by simp [hl])]; omega
  rw [if_neg k1]
  by_cases k2 : k = 2
  · rw [if_pos k2]
    unfold stC
    split
    · exact ⟨.same fun _ _ => rfl, h3⟩
    show Turn L (if at_ L 38 = 1 then _ else _) ∧ Ph3 (if at_ L 38 = 1 then _ else _)
    by_cases e1 : at_ L 38 = 1
    · rw [if_pos e1]
      exact ⟨.same fun k hk => at_set_ne (by omega) _, by unfold Ph3; rw [at_set_self (by omega)]; omega⟩
    rw [if_neg e1]
    by_cases e2 : at_ L 38 = 2
    · rw [if_pos e2]
      obtain ⟨a, b, c, d⟩ := h.mv (by omega)
      obtain ⟨m1, m2⟩ := h.mh (.inr e2)
      obtain ⟨sn, es⟩ : ∃ sn : Nat, at_ L 34 = (sn : Int) := ⟨(at_ L 34).toNat, by omega⟩
      rw [es, own_at (by omega)] at m1
      rw [es, epo_at (by omega)] at m2
      rw [es, Int.toNat_natCast]
      have e : ∀ k, k ≠ 38 → k ≠ 1 + sn * 2 → k ≠ 1 + sn * 2 + 1 → at_ (((L.set (1 + sn * 2) (at_ L 36)).set (1 + sn * 2 + 1) (at_ L 37)).set 38 3) k = at_ L k := fun k x y z => by
        rw [at_set_ne (by omega), at_set_ne (by omega), at_set_ne (by omega)]
      refine ⟨⟨e 0 (by omega) (by omega) (by omega), fun i hi => ?_⟩, ?_⟩
      · by_cases hi2 : i = sn
        · subst hi2
          refine .inr ⟨?_, ?_⟩
          · rw [at_set_ne (by omega), at_set_ne (by omega), at_set_self (by omega)]; exact Ne.symm m1
          · rw [show 2 + i * 2 = 1 + i * 2 + 1 by omega, at_set_ne (by omega), at_set_self (by simp; omega), m2]; congr 2; omega
        · exact .inl ⟨e _ (by omega) (by omega) (by omega), e _ (by omega) (by omega) (by omega)⟩
      · unfold Ph3; rw [at_set_self (by simp; omega)]; omega
    rw [if_neg e2]
    split
    · refine ⟨.same fun k hk => ?_, ?_⟩
      · rw [at_set_ne (by omega), at_set_ne (by omega), at_set_ne (by omega), at_set_ne (by omega), at_set_ne (by omega), at_set_ne (by omega)]
      · unfold Ph3; rw [at_set_ne (by omega), at_set_self (by simp [hl])]; omega
    · exact ⟨.same fun _ _ => rfl, h3⟩
  rw [if_neg k2]
  by_cases k3 : k = 3
  · rw [if_pos k3]
    unfold auC
    split
    · exact ⟨.same fun _ _ => rfl, h3⟩
    refine ⟨.same fun k hk => ?_, ?_⟩
    · rw [at_set_ne (by omega), at_set_ne (by omega), at_set_ne (by omega)]
    · unfold Ph3; rw [at_set_ne (by omega), at_set_ne (by omega), at_set_ne (by omega)]; exact h3
  rw [if_neg k3]
  by_cases k4 : k = 4
  · rw [if_pos k4]
    unfold cuC
    split
    · refine ⟨.same fun k hk => ?_, ?_⟩
      · rw [at_set_ne (by omega), at_set_ne (by omega)]
      · unfold Ph3; rw [at_set_ne (by omega), at_set_ne (by omega)]; exact h3
    · exact ⟨.same fun _ _ => rfl, h3⟩
  rw [if_neg k4]
  by_cases k5 : k = 5
  · rw [if_pos k5]
    unfold thC
    split
    · refine ⟨.same fun k hk => ?_, ?_⟩
      · rw [at_set_ne (by omega), at_set_ne (by omega)]
      · unfold Ph3; rw [at_set_ne (by omega), at_set_ne (by omega)]; exact h3
    · exact ⟨.same fun _ _ => rfl, h3⟩
  rw [if_neg k5]
  exact ⟨.same fun _ _ => rfl, h3⟩
/-- A step that is done is refused the second time. -/
theorem twice_doC (h : Good L N) (h3 : Ph3 L) (k s t n p : Int) (h0 : (doC L k s t n p).1.why = 0) (hk : 2 ≤ k) (hk3 : k ≠ 3) : (doC (doC L k s t n p).2 k s t n p).1.why = 5 := by
  have hl := h.len
  have hph := h3
  unfold Ph3 at hph
  by_cases k2 : k = 2
  · have e : ∀ X : List Int, doC X k s t n p = stC X n p := fun X => by unfold doC; rw [if_neg (by omega), if_pos k2]
    rw [e] at h0 ⊢
    rw [e]
    unfold stC at h0
    by_cases hx : at_ L 38 = 0 ∨ at_ L 38 ≠ p ∨ at_ L 39 ≠ n
    · rw [if_pos hx] at h0; exact absurd h0 (show ¬ (5 : Int) = 0 by decide)
    have e2 : (stC L n p).2 = if at_ L 38 = 1 then L.set 38 2 else
      if at_ L 38 = 2 then ((L.set (1 + (at_ L 34).toNat * 2) (at_ L 36)).set (1 + (at_ L 34).toNat * 2 + 1) (at_ L 37)).set 38 3 else
      if at_ L 38 = 3 then (((((L.set 34 0).set 35 0).set 36 0).set 37 0).set 38 0).set 39 0 else L := by
      unfold stC; rw [if_neg hx]
    have e38 : at_ (stC L n p).2 38 = if at_ L 38 = 1 then 2 else if at_ L 38 = 2 then 3 else 0 := by
      rw [e2]
      by_cases a1 : at_ L 38 = 1
      · rw [if_pos a1, if_pos a1, at_set_self (by omega)]
      rw [if_neg a1, if_neg a1]
      by_cases a2 : at_ L 38 = 2
      · rw [if_pos a2, if_pos a2, at_set_self (by simp; omega)]
      rw [if_neg a2, if_neg a2, if_pos (by omega), at_set_ne (by omega), at_set_self (by simp [hl])]
    generalize (stC L n p).2 = L' at *
    unfold stC
    rw [if_pos]
    simp only [not_or, Classical.not_not] at hx
    by_cases a1 : at_ L 38 = 1
    · rw [if_pos a1] at e38; omega
    rw [if_neg a1] at e38
    by_cases a2 : at_ L 38 = 2
    · rw [if_pos a2] at e38; omega
    rw [if_neg a2] at e38
    exact .inl e38
  by_cases k4 : k = 4
  · have e : ∀ X : List Int, doC X k s t n p = cuC X n := fun X => by unfold doC; rw [if_neg (by omega), if_neg (by omega), if_neg (by omega), if_pos k4]
    rw [e] at h0 ⊢
    rw [e]
    by_cases hx : at_ L 40 = n ∧ at_ L 41 = 1
    · have e2 : (cuC L n).2 = (L.set 40 n).set 41 2 := by unfold cuC; rw [if_pos hx]
      rw [e2]
      unfold cuC
      rw [if_neg]
      rw [at_set_self (by simp [hl])]
      omega
    · unfold cuC at h0; rw [if_neg hx] at h0; exact absurd h0 (show ¬ (5 : Int) = 0 by decide)
  by_cases k5 : k = 5
  · have e : ∀ X : List Int, doC X k s t n p = thC X n := fun X => by unfold doC; rw [if_neg (by omega), if_neg (by omega), if_neg (by omega), if_neg (by omega), if_pos k5]
    rw [e] at h0 ⊢
    rw [e]
    by_cases hx : at_ L 40 = n ∧ at_ L 41 = 2
    · have e2 : (thC L n).2 = (L.set 40 0).set 41 0 := by unfold thC; rw [if_pos hx]
      rw [e2]
      unfold thC
      rw [if_neg]
      rw [at_set_self (by simp [hl])]
      omega
    · unfold thC at h0; rw [if_neg hx] at h0; exact absurd h0 (show ¬ (5 : Int) = 0 by decide)
  · unfold doC at h0
    rw [if_neg (by omega), if_neg k2, if_neg hk3, if_neg k4, if_neg k5] at h0
    exact absurd h0 (show ¬ (1 : Int) = 0 by decide)
end
/-- The owners that are written down, so far; the epochs. -/
def fillO (L : List Int) (j : Nat) : List Int := (List.range 16).map fun i => if i < j then at_ L (1 + i * 2) else 0
def fillE (L : List Int) (j : Nat) : List Int := (List.range 16).map fun i => if i < j then at_ L (2 + i * 2) else 0
theorem fillO_set (L : List Int) (j : Nat) (hj : j < 16) : (fillO L j).set j (at_ L (1 + j * 2)) = fillO L (j + 1) := by
  refine List.ext_getElem (by simp [fillO]) fun i h1 h2 => ?_
  simp only [fillO, List.getElem_set, List.getElem_map, List.getElem_range]
  by_cases e : j = i
  · subst e; rw [if_pos rfl, if_pos (by omega)]
  · rw [if_neg e]
    by_cases e2 : i < j
    · rw [if_pos e2, if_pos (by omega)]
    · rw [if_neg e2, if_neg (by omega)]
theorem fillE_set (L : List Int) (j : Nat) (hj : j < 16) : (fillE L j).set j (at_ L (2 + j * 2)) = fillE L (j + 1) := by
  refine List.ext_getElem (by simp [fillE]) fun i h1 h2 => ?_
  simp only [fillE, List.getElem_set, List.getElem_map, List.getElem_range]
  by_cases e : j = i
  · subst e; rw [if_pos rfl, if_pos (by omega)]
  · rw [if_neg e]
    by_cases e2 : i < j
    · rw [if_pos e2, if_pos (by omega)]
    · rw [if_neg e2, if_neg (by omega)]
theorem fillO_len (L : List Int) (j : Nat) : (fillO L j).length = 16 := by simp [fillO]
theorem fillE_len (L : List Int) (j : Nat) : (fillE L j).length = 16 := by simp [fillE]
theorem fillO_at (L : List Int) (i : Nat) (hi : i < 16) : at_ (fillO L 16) i = at_ L (1 + i * 2) := by
  simp [fillO, at_, hi]
theorem fillE_at (L : List Int) (i : Nat) (hi : i < 16) : at_ (fillE L 16) i = at_ L (2 + i * 2) := by
  simp [fillE, at_, hi]
end Go.Proofs.Ytpdgmlljjjeifaa
