/- ChartMoves: what comes of a move; plain. -/
import Derived.Test.YtpdgmlljjjeifaaChLaw
namespace Go.Proofs.Ytpdgmlljjjeifaa
open Go.RowKit
set_option linter.unusedVariables false
/-- A chart in the phase p of its first move (4: the move is over). -/
structure StL (L : List Int) (sh s fr to : Int) (p : Nat) : Prop where
  sh : at_ L 0 = sh
  bg : at_ L 33 = 1
  au : at_ L 41 = 0
  ph : at_ L 38 = if p = 4 then 0 else (p : Int)
  mv : p < 4 → at_ L 34 = s ∧ at_ L 35 = fr ∧ at_ L 36 = to ∧ at_ L 37 = 1 ∧ at_ L 39 = 1
  ep : ∀ i, i < 16 → at_ L (2 + i * 2) = if (i : Int) = s ∧ 3 ≤ p then 1 else 0
  ow : own_ L s = if 3 ≤ p then to else fr
section
variable {L : List Int} {sh s fr to : Int} {p : Nat}
theorem StL.may (h : StL L sh s fr to p) (hp : 1 ≤ p ∧ p < 4) : may_ L = false := by
  unfold may_
  have := h.ph
  rw [if_neg (by omega)] at this
  exact decide_eq_false fun x => by omega
theorem StL.audit (h : StL L sh s fr to p) (hp : 1 ≤ p ∧ p < 4) : doC L 3 0 0 0 0 = (⟨50, false, 0⟩, L) := by
  unfold doC auC
  rw [if_neg (by omega), if_neg (by omega), if_pos rfl, if_pos (h.may hp)]
theorem StL.again (h : StL L sh s fr to p) (hp : 1 ≤ p ∧ p < 4) (hs : 0 ≤ s ∧ s < 16) (hf : 1 ≤ fr ∧ fr ≤ sh) : doC L 1 s fr 0 0 = (⟨50, false, 0⟩, L) := by
  unfold doC mvC
  rw [if_pos rfl, if_neg (fun x => x ⟨hs, hf.1, by rw [h.sh]; exact hf.2⟩), if_pos (h.may hp)]
theorem StL.step (h : StL L sh s fr to p) (hl : L.length = 42) (hp : 1 ≤ p ∧ p < 4) (hs : 0 ≤ s ∧ s < 16) : (doC L 2 0 0 1 (p : Int)).1 = ⟨0, false, 1⟩ ∧ StL (doC L 2 0 0 1 (p : Int)).2 sh s fr to (p + 1) := by
  obtain ⟨m34, m35, m36, m37, m39⟩ := h.mv hp.2
  have ph := h.ph
  rw [if_neg (by omega)] at ph
  have e0 : doC L 2 0 0 1 (p : Int) = stC L 1 (p : Int) := by unfold doC; rw [if_neg (by omega), if_pos rfl]
  have e1 : stC L 1 (p : Int) = (⟨0, false, 1⟩,
    if at_ L 38 = 1 then L.set 38 2 else
    if at_ L 38 = 2 then ((L.set (1 + (at_ L 34).toNat * 2) (at_ L 36)).set (1 + (at_ L 34).toNat * 2 + 1) (at_ L 37)).set 38 3 else
    if at_ L 38 = 3 then (((((L.set 34 0).set 35 0).set 36 0).set 37 0).set 38 0).set 39 0 else L) := by
    unfold stC
    rw [if_neg (by omega)]
  rw [e0, e1]
  refine ⟨rfl, ?_⟩
  show StL (if at_ L 38 = 1 then _ else _) _ _ _ _ _
  obtain ⟨sn, es⟩ : ∃ sn : Nat, s = (sn : Int) := ⟨s.toNat, by omega⟩
  subst es
  by_cases h1 : p = 1
  · subst h1
    rw [if_pos (show at_ L 38 = 1 from ph)]
    have e : ∀ k, k ≠ 38 → at_ (L.set 38 2) k = at_ L k := fun k x => at_set_ne (by omega) 2
    refine ⟨by rw [e 0 (by omega)]; exact h.sh, by rw [e 33 (by omega)]; exact h.bg, by rw [e 41 (by omega)]; exact h.au, ?_, fun _ => ?_, fun i hi => ?_, ?_⟩
    · rw [at_set_self (by omega)]; rfl
    · rw [e 34 (by omega), e 35 (by omega), e 36 (by omega), e 37 (by omega), e 39 (by omega)]; exact ⟨m34, m35, m36, m37, m39⟩
    · rw [e _ (by omega), h.ep i hi, if_neg (by omega), if_neg (by omega)]
    · rw [own_set (by omega), h.ow, if_neg (by omega), if_neg (by omega)]
  rw [if_neg (by omega)]
  by_cases h2 : p = 2
  · subst h2
    rw [if_pos (show at_ L 38 = 2 from ph), m34, Int.toNat_natCast, m36, m37]
    have e : ∀ k, k ≠ 38 → k ≠ 1 + sn * 2 → k ≠ 1 + sn * 2 + 1 → at_ (((L.set (1 + sn * 2) to).set (1 + sn * 2 + 1) 1).set 38 3) k = at_ L k := fun k x y z => by
      rw [at_set_ne (by omega), at_set_ne (by omega), at_set_ne (by omega)]
    refine ⟨by rw [e 0 (by omega) (by omega) (by omega)]; exact h.sh, by rw [e 33 (by omega) (by omega) (by omega)]; exact h.bg, by rw [e 41 (by omega) (by omega) (by omega)]; exact h.au, ?_, fun _ => ?_, fun i hi => ?_, ?_⟩
    · rw [at_set_self (by simp; omega)]; rfl
    · rw [e 34 (by omega) (by omega) (by omega), e 35 (by omega) (by omega) (by omega), e 36 (by omega) (by omega) (by omega), e 37 (by omega) (by omega) (by omega), e 39 (by omega) (by omega) (by omega)]; exact ⟨m34, m35, m36, m37, m39⟩
    · by_cases hi2 : i = sn
      · rw [if_pos (by omega), hi2, at_set_ne (by omega), show 2 + sn * 2 = 1 + sn * 2 + 1 by omega, at_set_self (by simp; omega)]
      · rw [e _ (by omega) (by omega) (by omega), h.ep i hi, if_neg (by omega), if_neg (by omega)]
    · rw [own_at (by omega), at_set_ne (by omega), at_set_ne (by omega), at_set_self (by omega), if_pos (by omega)]
  obtain rfl : p = 3 := by omega
  rw [if_neg (by omega), if_pos (show at_ L 38 = 3 from ph)]
  have e : ∀ k, k < 34 ∨ 39 < k → at_ ((((((L.set 34 0).set 35 0).set 36 0).set 37 0).set 38 0).set 39 0) k = at_ L k := fun k x => by
    rw [at_set_ne (by omega), at_set_ne (by omega), at_set_ne (by omega), at_set_ne (by omega), at_set_ne (by omega), at_set_ne (by omega)]
  refine ⟨by rw [e 0 (by omega)]; exact h.sh, by rw [e 33 (by omega)]; exact h.bg, by rw [e 41 (by omega)]; exact h.au, ?_, fun x => by omega, fun i hi => ?_, ?_⟩
  · rw [if_pos rfl, at_set_ne (by omega), at_set_self (by simp [hl])]
  · rw [e _ (by omega), h.ep i hi]
    by_cases hi2 : (i : Int) = sn
    · rw [if_pos (by omega), if_pos (by omega)]
    · rw [if_neg (by omega), if_neg (by omega)]
  · rw [own_set (by omega), own_set (by omega), own_set (by omega), own_set (by omega), own_set (by omega), own_set (by omega), h.ow, if_pos (by omega), if_pos (by omega)]
/-- The move begins. -/
theorem new_move (hsh : 1 ≤ sh ∧ sh ≤ 3) (hs : 0 ≤ s ∧ s < 16) (ht : 1 ≤ to ∧ to ≤ sh) :
    (own_ (newL sh 16) s = to ∧ doC (newL sh 16) 1 s to 0 0 = (⟨0, false, 0⟩, newL sh 16)) ∨
    (own_ (newL sh 16) s ≠ to ∧ (doC (newL sh 16) 1 s to 0 0).1 = ⟨0, true, 1⟩ ∧ StL (doC (newL sh 16) 1 s to 0 0).2 sh s (own_ (newL sh 16) s) to 1) := by
  have e := fun k => newL_at sh 16 k (by omega)
  have hl := newL_len sh 16
  have e0 : doC (newL sh 16) 1 s to 0 0 = mvC (newL sh 16) s to := by unfold doC; rw [if_pos rfl]
  have a0 : at_ (newL sh 16) 0 = sh := by rw [e, if_pos rfl]
  have z : ∀ k, k ≠ 0 → (k % 2 = 0 ∨ 33 ≤ k) → at_ (newL sh 16) k = 0 := fun k h1 h2 => by rw [e, if_neg h1, if_neg (by omega)]
  have hm : may_ (newL sh 16) = true := by
    unfold may_
    rw [z 38 (by omega) (by omega), z 41 (by omega) (by omega), z 33 (by omega) (by omega)]
    decide
  have he : epo_ (newL sh 16) s = 0 := by unfold epo_; rw [if_pos hs, z _ (by omega) (by omega)]
  rw [e0]
  unfold mvC
  rw [if_neg (fun x => x ⟨hs, ht.1, by rw [a0]; exact ht.2⟩), if_neg (by rw [hm]; decide)]
  by_cases hw : own_ (newL sh 16) s = to
  · exact .inl ⟨hw, by rw [if_pos hw]⟩
  · refine .inr ⟨hw, ?_, ?_⟩
    · rw [if_neg hw, z 33 (by omega) (by omega)]; rfl
    rw [if_neg hw]
    rw [z 33 (by omega) (by omega), he]
    generalize hLL : newL sh 16 = L0 at *
    have g : ∀ k, k < 33 ∨ 39 < k → at_ (((((((L0.set 33 (0 + 1)).set 34 s).set 35 (own_ L0 s)).set 36 to).set 37 (0 + 1)).set 38 1).set 39 (0 + 1)) k = at_ L0 k := fun k x => by
      rw [at_set_ne (by omega), at_set_ne (by omega), at_set_ne (by omega), at_set_ne (by omega), at_set_ne (by omega), at_set_ne (by omega), at_set_ne (by omega)]
    refine ⟨by rw [g 0 (by omega)]; exact a0, ?_, by rw [g 41 (by omega)]; exact z 41 (by omega) (by omega), ?_, fun _ => ⟨?_, ?_, ?_, ?_, ?_⟩, fun i hi => ?_, ?_⟩
    · rw [at_set_ne (by omega), at_set_ne (by omega), at_set_ne (by omega), at_set_ne (by omega), at_set_ne (by omega), at_set_ne (by omega), at_set_self (by omega)]; rfl
    · rw [at_set_ne (by omega), at_set_self (by simp [hl])]; rfl
    · rw [at_set_ne (by omega), at_set_ne (by omega), at_set_ne (by omega), at_set_ne (by omega), at_set_ne (by omega), at_set_self (by simp [hl])]
    · rw [at_set_ne (by omega), at_set_ne (by omega), at_set_ne (by omega), at_set_ne (by omega), at_set_self (by simp [hl])]
    · rw [at_set_ne (by omega), at_set_ne (by omega), at_set_ne (by omega), at_set_self (by simp [hl])]
    · rw [at_set_ne (by omega), at_set_ne (by omega), at_set_self (by simp [hl])]; rfl
    · rw [at_set_self (by simp [hl])]; rfl
    · rw [g _ (by omega), z _ (by omega) (by omega), if_neg (by omega)]
    · rw [own_set (by omega), own_set (by omega), own_set (by omega), own_set (by omega), own_set (by omega), own_set (by omega), own_set (by omega), if_neg (by omega)]
end
end Go.Proofs.Ytpdgmlljjjeifaa
