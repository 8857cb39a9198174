/- Package chart: what holds of a chart always; plain. -/
import Derived.Test.YtpdgmlljjjeifaaChRead
namespace Go.Proofs.Ytpdgmlljjjeifaa
open Go.RowKit
set_option linter.unusedVariables false
/-- What holds of a chart that at most N commands have come to. -/
structure Good (L : List Int) (N : Nat) : Prop where
  len : L.length = 42
  sh : 1 ≤ at_ L 0 ∧ at_ L 0 ≤ 3
  ow : ∀ i, i < 16 → 1 ≤ at_ L (1 + i * 2) ∧ at_ L (1 + i * 2) ≤ at_ L 0
  ep : ∀ i, i < 16 → 0 ≤ at_ L (2 + i * 2) ∧ at_ L (2 + i * 2) ≤ N
  bg : 0 ≤ at_ L 33 ∧ at_ L 33 ≤ N
  one : at_ L 38 = 0 ∨ at_ L 41 = 0
  mv : at_ L 38 ≠ 0 → 0 ≤ at_ L 34 ∧ at_ L 34 < 16 ∧ 1 ≤ at_ L 36 ∧ at_ L 36 ≤ at_ L 0
  mh : at_ L 38 = 1 ∨ at_ L 38 = 2 → own_ L (at_ L 34) ≠ at_ L 36 ∧ at_ L 37 = epo_ L (at_ L 34) + 1
theorem Good.fine {L : List Int} {N : Nat} (h : Good L N) (hN : N ≤ 1152921504606846976) : Fine L := by
  refine ⟨?_, fun s => ?_, fun e => ?_⟩
  · have := h.bg; omega
  · unfold epo_
    split
    · rename_i hs
      have := h.ep s.toNat (by omega)
      omega
    · omega
  · have := h.mv (by omega); omega
theorem Good.more {L : List Int} {N M : Nat} (h : Good L N) (hM : N ≤ M) : Good L M :=
  ⟨h.len, h.sh, h.ow, fun i hi => by have := h.ep i hi; omega, by have := h.bg; omega, h.one, h.mv, h.mh⟩
/-- What is set elsewhere changes no owner, no epoch. -/
theorem own_set {L : List Int} {k : Nat} (h : k = 0 ∨ 33 ≤ k) (v s : Int) : own_ (L.set k v) s = own_ L s := by
  unfold own_
  split
  · exact at_set_ne (by omega) v
  · rfl
theorem epo_set {L : List Int} {k : Nat} (h : k = 0 ∨ 33 ≤ k) (v s : Int) : epo_ (L.set k v) s = epo_ L s := by
  unfold epo_
  split
  · exact at_set_ne (by omega) v
  · rfl
theorem Good.mvC {L : List Int} {N : Nat} (h : Good L N) (s t : Int) : Good (mvC L s t).2 (N + 1) := by
  unfold Go.Proofs.Ytpdgmlljjjeifaa.mvC
  split
  · exact h.more (by omega)
  split
  · exact h.more (by omega)
  split
  · exact h.more (by omega)
  rename_i h1 h2 h3
  have hm : may_ L = true := by simpa using h2
  have h1' : (0 ≤ s ∧ s < 16) ∧ (1 ≤ t ∧ t ≤ at_ L 0) := Classical.not_not.1 h1
  unfold may_ at hm
  simp only [decide_eq_true_eq] at hm
  have hl := h.len
  have e : ∀ k, k < 33 → at_ (((((((L.set 33 (at_ L 33 + 1)).set 34 s).set 35 (own_ L s)).set 36 t).set 37 (epo_ L s + 1)).set 38 1).set 39 (at_ L 33 + 1)) k = at_ L k := fun k hk => by
    rw [at_set_ne (by omega), at_set_ne (by omega), at_set_ne (by omega), at_set_ne (by omega), at_set_ne (by omega), at_set_ne (by omega), at_set_ne (by omega)]
  refine ⟨by simp [hl], ?_, fun i hi => ?_, fun i hi => ?_, ?_, .inr ?_, fun _ => ?_, fun _ => ?_⟩
  · rw [e 0 (by omega)]; exact h.sh
  · rw [e _ (by omega), e 0 (by omega)]; exact h.ow i hi
  · rw [e _ (by omega)]; have := h.ep i hi; omega
  · rw [at_set_ne (by omega), at_set_ne (by omega), at_set_ne (by omega), at_set_ne (by omega), at_set_ne (by omega), at_set_ne (by omega), at_set_self (by omega)]; have := h.bg; omega
  · show at_ (((((((L.set 33 (at_ L 33 + 1)).set 34 s).set 35 (own_ L s)).set 36 t).set 37 (epo_ L s + 1)).set 38 1).set 39 (at_ L 33 + 1)) 41 = 0
    rw [at_set_ne (by omega), at_set_ne (by omega), at_set_ne (by omega), at_set_ne (by omega), at_set_ne (by omega), at_set_ne (by omega), at_set_ne (by omega)]
    exact hm.2.1
  · rw [at_set_ne (by omega), at_set_ne (by omega), at_set_ne (by omega), at_set_ne (by omega), at_set_ne (by omega), at_set_self (by simp [hl]), at_set_ne (by omega), at_set_ne (by omega), at_set_ne (by omega), at_set_self (by simp [hl]), e 0 (by omega)]
    exact ⟨h1'.1.1, h1'.1.2, h1'.2.1, h1'.2.2⟩
  · have e34 : at_ (((((((L.set 33 (at_ L 33 + 1)).set 34 s).set 35 (own_ L s)).set 36 t).set 37 (epo_ L s + 1)).set 38 1).set 39 (at_ L 33 + 1)) 34 = s := by
      rw [at_set_ne (by omega), at_set_ne (by omega), at_set_ne (by omega), at_set_ne (by omega), at_set_ne (by omega), at_set_self (by simp [hl])]
    simp only [e34]
    rw [own_set (by omega), own_set (by omega), own_set (by omega), own_set (by omega), own_set (by omega), own_set (by omega), own_set (by omega)]
    rw [epo_set (by omega), epo_set (by omega), epo_set (by omega), epo_set (by omega), epo_set (by omega), epo_set (by omega), epo_set (by omega)]
    rw [at_set_ne (by omega), at_set_ne (by omega), at_set_ne (by omega), at_set_self (by simp [hl]), at_set_ne (by omega), at_set_ne (by omega), at_set_self (by simp [hl])]
    exact ⟨h3, rfl⟩
theorem Good.auC {L : List Int} {N : Nat} (h : Good L N) : Good (auC L).2 (N + 1) := by
  unfold Go.Proofs.Ytpdgmlljjjeifaa.auC
  split
  · exact h.more (by omega)
  rename_i h2
  have hm : may_ L = true := by simpa using h2
  unfold may_ at hm
  simp only [decide_eq_true_eq] at hm
  have hl := h.len
  have e : ∀ k, k ≠ 33 → k ≠ 40 → k ≠ 41 → at_ (((L.set 33 (at_ L 33 + 1)).set 40 (at_ L 33 + 1)).set 41 1) k = at_ L k := fun k a b c => by
    rw [at_set_ne (by omega), at_set_ne (by omega), at_set_ne (by omega)]
  have e38 := (e 38 (by omega) (by omega) (by omega)).trans hm.1
  refine ⟨by simp [hl], ?_, fun i hi => ?_, fun i hi => ?_, ?_, .inl e38, fun x => absurd e38 x, fun x => ?_⟩
  · rw [e 0 (by omega) (by omega) (by omega)]; exact h.sh
  · rw [e _ (by omega) (by omega) (by omega), e 0 (by omega) (by omega) (by omega)]; exact h.ow i hi
  · rw [e _ (by omega) (by omega) (by omega)]; have := h.ep i hi; omega
  · rw [at_set_ne (by omega), at_set_ne (by omega), at_set_self (by omega)]; have := h.bg; omega
  · simp only [e38] at x; omega
theorem Good.au2 {L : List Int} {N : Nat} (h : Good L N) (a b : Int) (hb : b = 0 ∨ at_ L 38 = 0) : Good ((L.set 40 a).set 41 b) (N + 1) := by
  have hl := h.len
  have e : ∀ k, k ≠ 40 → k ≠ 41 → at_ ((L.set 40 a).set 41 b) k = at_ L k := fun k x y => by
    rw [at_set_ne (by omega), at_set_ne (by omega)]
  have e41 : at_ ((L.set 40 a).set 41 b) 41 = b := at_set_self (by simp [hl]) b
  have eo : ∀ s, own_ ((L.set 40 a).set 41 b) s = own_ L s := fun s => by rw [own_set (by omega), own_set (by omega)]
  have ee : ∀ s, epo_ ((L.set 40 a).set 41 b) s = epo_ L s := fun s => by rw [epo_set (by omega), epo_set (by omega)]
  refine ⟨by simp [hl], ?_, fun i hi => ?_, fun i hi => ?_, ?_, ?_, ?_, ?_⟩
  · rw [e 0 (by omega) (by omega)]; exact h.sh
  · rw [e _ (by omega) (by omega), e 0 (by omega) (by omega)]; exact h.ow i hi
  · rw [e _ (by omega) (by omega)]; have := h.ep i hi; omega
  · rw [e 33 (by omega) (by omega)]; have := h.bg; omega
  · rw [e 38 (by omega) (by omega), e41]; omega
  · rw [e 38 (by omega) (by omega), e 34 (by omega) (by omega), e 36 (by omega) (by omega), e 0 (by omega) (by omega)]; exact h.mv
  · rw [e 38 (by omega) (by omega), e 34 (by omega) (by omega), e 36 (by omega) (by omega), e 37 (by omega) (by omega), eo, ee]; exact h.mh
theorem Good.cuC {L : List Int} {N : Nat} (h : Good L N) (n : Int) : Good (cuC L n).2 (N + 1) := by
  unfold Go.Proofs.Ytpdgmlljjjeifaa.cuC
  split
  · rename_i x
    exact h.au2 _ _ (.inr (by have := h.one; omega))
  · exact h.more (by omega)
theorem Good.thC {L : List Int} {N : Nat} (h : Good L N) (n : Int) : Good (thC L n).2 (N + 1) := by
  unfold Go.Proofs.Ytpdgmlljjjeifaa.thC
  split
  · exact h.au2 _ _ (.inl rfl)
  · exact h.more (by omega)
theorem own_at {L : List Int} {i : Nat} (h : i < 16) : own_ L (i : Int) = at_ L (1 + i * 2) := by
  unfold own_; rw [if_pos (by omega)]; rfl
theorem epo_at {L : List Int} {i : Nat} (h : i < 16) : epo_ L (i : Int) = at_ L (2 + i * 2) := by
  unfold epo_; rw [if_pos (by omega)]; rfl
theorem Good.stC {L : List Int} {N : Nat} (h : Good L N) (n p : Int) : Good (stC L n p).2 (N + 1) := by
  unfold Go.Proofs.Ytpdgmlljjjeifaa.stC
  split
  · exact h.more (by omega)
  rename_i hx
  have hl := h.len
  simp only [not_or] at hx
  have ho : at_ L 41 = 0 := by have := h.one; omega
  show Good (if at_ L 38 = 1 then _ else _) _
  split
  · rename_i h1
    have e : ∀ k, k ≠ 38 → at_ (L.set 38 2) k = at_ L k := fun k x => at_set_ne (by omega) 2
    refine ⟨by simp [hl], ?_, fun i hi => ?_, fun i hi => ?_, ?_, .inr ?_, fun _ => ?_, fun _ => ?_⟩
    · rw [e 0 (by omega)]; exact h.sh
    · rw [e _ (by omega), e 0 (by omega)]; exact h.ow i hi
    · rw [e _ (by omega)]; have := h.ep i hi; omega
    · rw [e _ (by omega)]; have := h.bg; omega
    · rw [e _ (by omega)]; exact ho
    · rw [e 34 (by omega), e 36 (by omega), e 0 (by omega)]; exact h.mv (by omega)
    · rw [e 34 (by omega), e 36 (by omega), e 37 (by omega), own_set (by omega), epo_set (by omega)]; exact h.mh (.inl h1)
  split
  · rename_i h1 h2
    obtain ⟨a, b, c, d⟩ := h.mv (by omega)
    obtain ⟨m1, m2⟩ := h.mh (.inr h2)
    obtain ⟨sn, es⟩ : ∃ sn : Nat, at_ L 34 = (sn : Int) := ⟨(at_ L 34).toNat, by omega⟩
    rw [es, epo_at (by omega)] at m2
    rw [es]
    have e : ∀ k, k ≠ 38 → k ≠ 1 + sn * 2 → k ≠ 1 + sn * 2 + 1 → at_ (((L.set (1 + (sn : Int).toNat * 2) (at_ L 36)).set (1 + (sn : Int).toNat * 2 + 1) (at_ L 37)).set 38 3) k = at_ L k := fun k x y z => by
      rw [Int.toNat_natCast, at_set_ne (by omega), at_set_ne (by omega), at_set_ne (by omega)]
    have e1 : at_ (((L.set (1 + (sn : Int).toNat * 2) (at_ L 36)).set (1 + (sn : Int).toNat * 2 + 1) (at_ L 37)).set 38 3) (1 + sn * 2) = at_ L 36 := by
      rw [Int.toNat_natCast, at_set_ne (by omega), at_set_ne (by omega), at_set_self (by omega)]
    have e2 : at_ (((L.set (1 + (sn : Int).toNat * 2) (at_ L 36)).set (1 + (sn : Int).toNat * 2 + 1) (at_ L 37)).set 38 3) (2 + sn * 2) = at_ L 37 := by
      rw [Int.toNat_natCast, at_set_ne (by omega), show 2 + sn * 2 = 1 + sn * 2 + 1 by omega, at_set_self (by simp; omega)]
    have e3 : at_ (((L.set (1 + (sn : Int).toNat * 2) (at_ L 36)).set (1 + (sn : Int).toNat * 2 + 1) (at_ L 37)).set 38 3) 38 = 3 := at_set_self (by simp; omega) 3
    refine ⟨by simp [hl], ?_, fun i hi => ?_, fun i hi => ?_, ?_, .inr ?_, fun _ => ?_, fun x => ?_⟩
    · rw [e 0 (by omega) (by omega) (by omega)]; exact h.sh
    · rw [e 0 (by omega) (by omega) (by omega)]
      by_cases hi2 : i = sn
      · rw [hi2, e1]; exact ⟨c, d⟩
      · rw [e _ (by omega) (by omega) (by omega)]; exact h.ow i hi
    · by_cases hi2 : i = sn
      · rw [hi2, e2, m2]; have := h.ep sn (by omega); omega
      · rw [e _ (by omega) (by omega) (by omega)]; have := h.ep i hi; omega
    · rw [e 33 (by omega) (by omega) (by omega)]; have := h.bg; omega
    · rw [e 41 (by omega) (by omega) (by omega)]; exact ho
    · rw [e 34 (by omega) (by omega) (by omega), e 36 (by omega) (by omega) (by omega), e 0 (by omega) (by omega) (by omega)]; exact ⟨a, b, c, d⟩
    · simp only [e3] at x; omega
  split
  · have e : ∀ k, k < 34 ∨ 39 < k → at_ ((((((L.set 34 0).set 35 0).set 36 0).set 37 0).set 38 0).set 39 0) k = at_ L k := fun k x => by
      rw [at_set_ne (by omega), at_set_ne (by omega), at_set_ne (by omega), at_set_ne (by omega), at_set_ne (by omega), at_set_ne (by omega)]
    have e3 : at_ ((((((L.set 34 0).set 35 0).set 36 0).set 37 0).set 38 0).set 39 0) 38 = 0 := by rw [at_set_ne (by omega), at_set_self (by simp [hl])]
    refine ⟨by simp [hl], ?_, fun i hi => ?_, fun i hi => ?_, ?_, .inl e3, fun x => absurd e3 x, fun x => ?_⟩
    · rw [e 0 (by omega)]; exact h.sh
    · rw [e _ (by omega), e 0 (by omega)]; exact h.ow i hi
    · rw [e _ (by omega)]; have := h.ep i hi; omega
    · rw [e _ (by omega)]; have := h.bg; omega
    · simp only [e3] at x; omega
  · exact h.more (by omega)
theorem Good.doC {L : List Int} {N : Nat} (h : Good L N) (k s t n p : Int) : Good (doC L k s t n p).2 (N + 1) := by
  unfold Go.Proofs.Ytpdgmlljjjeifaa.doC
  split
  · exact h.mvC s t
  split
  · exact h.stC n p
  split
  · exact h.auC
  split
  · exact h.cuC n
  split
  · exact h.thC n
  · exact h.more (by omega)
theorem newL_at (sh : Int) : ∀ j k, j ≤ 16 → at_ (newL sh j) k = if k = 0 then sh else if k % 2 = 1 ∧ k < 1 + j * 2 then 1 + ((k / 2 : Nat) : Int) % sh else 0
  | 0, k, _ => by
    cases k with
    | zero => rfl
    | succ k =>
      have : at_ (newL sh 0) (k + 1) = 0 := by
        show (List.replicate 41 (0 : Int)).getD k 0 = 0
        rw [List.getD_eq_getElem?_getD, List.getElem?_replicate]
        split <;> rfl
      rw [this, if_neg (by omega), if_neg (by omega)]
  | j + 1, k, hj => by
    have ih := newL_at sh j k (by omega)
    by_cases e : k = 1 + j * 2
    · have := newL_len sh j
      show at_ ((newL sh j).set (1 + j * 2) _) k = _
      rw [e, at_set_self (by omega), if_neg (by omega), if_pos (by omega)]
      congr 3
      omega
    · show at_ ((newL sh j).set (1 + j * 2) _) k = _
      rw [at_set_ne (by omega), ih]
      by_cases h0 : k = 0
      · rw [if_pos h0, if_pos h0]
      · rw [if_neg h0, if_neg h0]
        by_cases h1 : k % 2 = 1 ∧ k < 1 + j * 2
        · rw [if_pos h1, if_pos (by omega)]
        · rw [if_neg h1, if_neg (by omega)]
theorem good_new (n : Int) (h : 1 ≤ n ∧ n ≤ 3) : Good (newL n 16) 0 := by
  have e := fun k => newL_at n 16 k (by omega)
  refine ⟨newL_len _ _, ?_, fun i hi => ?_, fun i hi => ?_, ?_, .inl ?_, fun x => ?_, fun x => ?_⟩
  · rw [e 0, if_pos rfl]; exact h
  · rw [e, e 0, if_pos rfl, if_neg (by omega), if_pos (by omega)]
    have h1 := Int.emod_nonneg (((1 + i * 2) / 2 : Nat) : Int) (show n ≠ 0 by omega)
    have h2 := Int.emod_lt_of_pos (((1 + i * 2) / 2 : Nat) : Int) (show 0 < n by omega)
    omega
  · rw [e, if_neg (by omega), if_neg (by omega)]; omega
  · rw [e, if_neg (by omega), if_neg (by omega)]; omega
  · rw [e, if_neg (by omega), if_neg (by omega)]
  · exact absurd (by rw [e, if_neg (by omega), if_neg (by omega)]) x
  · rw [e 38, if_neg (by omega), if_neg (by omega)] at x; omega
end Go.Proofs.Ytpdgmlljjjeifaa
