/- A message's bytes read: there and back, cut, and with a byte more: the plain functions. -/
import Derived.Test.YtpnnbkhlbohfbaaDoorCuts
import Derived.Test.YtpnnbkhlbohfbaaDoorGetHead
namespace Go.Proofs.YtpnnbkhlbohfbaaDoor
open Go.RowKit Cod
set_option linter.unusedVariables false

/-- Reading entries. -/
def rEnts (l : List (BitVec 8)) (at_ why : Nat) : Nat → List (Int × List (BitVec 8)) × Nat × Nat
  | 0 => ([], at_, why)
  | k + 1 => ((rEnts l at_ why k).1 ++ [(zag (rEn1 l (rEnts l at_ why k).2.1 (rEnts l at_ why k).2.2).1, (rEn2 l (rEnts l at_ why k).2.1 (rEnts l at_ why k).2.2).1)], (rEn2 l (rEnts l at_ why k).2.1 (rEnts l at_ why k).2.2).2)
theorem rEnts_goes (l : List (BitVec 8)) (at_ why : Nat) (h : at_ ≤ l.length) : ∀ k, Goes l at_ why (rEnts l at_ why k).2.1 (rEnts l at_ why k).2.2
  | 0 => ⟨Nat.le_refl _, h, fun _ => ⟨rfl, rfl⟩⟩
  | k + 1 => (rEnts_goes l at_ why h k).trans (rEn_goes l _ _ (rEnts_goes l at_ why h k).2.1)
theorem rEnts_length (l : List (BitVec 8)) (at_ why : Nat) : ∀ k, (rEnts l at_ why k).1.length = k
  | 0 => rfl
  | k + 1 => by simp [rEnts, rEnts_length l at_ why k]
theorem Goes.back {l : List (BitVec 8)} {a y b z : Nat} (h : Goes l a y b z) (hz : z = 0) : y = 0 := by
  by_cases hy : y = 0
  · exact hy
  · have := (h.2.2 hy).2
    omega
/-- Reading a whole message: how many entries, they, the data. -/
def unN (l : List (BitVec 8)) := rC l 4096 (rHd9 l 0 0).2.1 (rHd9 l 0 0).2.2
def unE (l : List (BitVec 8)) := rEnts l (unN l).2.1 (unN l).2.2 (unN l).1
def unD (l : List (BitVec 8)) := rS l (unE l).2.1 (unE l).2.2
def unEnd (l : List (BitVec 8)) : Nat := rEnd l (unD l).2.1 (unD l).2.2
theorem rEnts_cut (n : Nat) (l : List (BitVec 8)) (k at_ : Nat) (hat : at_ ≤ k) (hk : k ≤ l.length) : (rEnts l at_ 0 n).2.2 = 0 → (rEnts (l.take k) at_ 0 n).2.2 = 0 → rEnts (l.take k) at_ 0 n = rEnts l at_ 0 n ∧ (rEnts l at_ 0 n).2.1 ≤ k := by
  have hl : (l.take k).length = k := by simp; omega
  induction n with
  | zero => intro _ _; exact ⟨rfl, hat⟩
  | succ n ih =>
    intro h1 h2
    have g1 := rEnts_goes l at_ 0 (by omega) n
    have g2 := rEnts_goes (l.take k) at_ 0 (by omega) n
    have e1 : Goes l (rEnts l at_ 0 n).2.1 (rEnts l at_ 0 n).2.2 (rEnts l at_ 0 (n + 1)).2.1 (rEnts l at_ 0 (n + 1)).2.2 := rEn_goes l _ _ g1.2.1
    have e2 : Goes (l.take k) (rEnts (l.take k) at_ 0 n).2.1 (rEnts (l.take k) at_ 0 n).2.2 (rEnts (l.take k) at_ 0 (n + 1)).2.1 (rEnts (l.take k) at_ 0 (n + 1)).2.2 := rEn_goes _ _ _ g2.2.1
    have z1 := e1.back h1
    have z2 := e2.back h2
    obtain ⟨i1, i2⟩ := ih z1 z2
    have h1' : (rEn2 l (rEnts l at_ 0 n).2.1 0).2.2 = 0 := by
      have h : (rEn2 l (rEnts l at_ 0 n).2.1 (rEnts l at_ 0 n).2.2).2.2 = 0 := h1
      rw [z1] at h
      exact h
    have h2' : (rEn2 (l.take k) (rEnts l at_ 0 n).2.1 0).2.2 = 0 := by
      have h : (rEn2 (l.take k) (rEnts (l.take k) at_ 0 n).2.1 (rEnts (l.take k) at_ 0 n).2.2).2.2 = 0 := h2
      rw [i1, z1] at h
      exact h
    have u1 : (rEn1 l (rEnts l at_ 0 n).2.1 0).2.2 = 0 := by
      have := rS_goes l (rEn1 l (rEnts l at_ 0 n).2.1 0).2.1 (rEn1 l (rEnts l at_ 0 n).2.1 0).2.2 (rU_goes l _ 0 g1.2.1).2.1
      exact this.back h1'
    have u2 : (rEn1 (l.take k) (rEnts l at_ 0 n).2.1 0).2.2 = 0 := by
      have := rS_goes (l.take k) (rEn1 (l.take k) (rEnts l at_ 0 n).2.1 0).2.1 (rEn1 (l.take k) (rEnts l at_ 0 n).2.1 0).2.2 (rU_goes (l.take k) _ 0 (by omega)).2.1
      exact this.back h2'
    rcases rU_cut l k _ i2 hk u1 with ⟨q1, q2⟩ | q1
    · have q1' : rEn1 (l.take k) (rEnts l at_ 0 n).2.1 0 = rEn1 l (rEnts l at_ 0 n).2.1 0 := q1
      have q2' : (rEn1 l (rEnts l at_ 0 n).2.1 0).2.1 ≤ k := q2
      have s1 : (rS l (rEn1 l (rEnts l at_ 0 n).2.1 0).2.1 0).2.2 = 0 := by rw [rEn2, u1] at h1'; exact h1'
      have s2 : (rS (l.take k) (rEn1 l (rEnts l at_ 0 n).2.1 0).2.1 0).2.2 = 0 := by rw [rEn2, q1', u1] at h2'; exact h2'
      rcases rS_cut l k _ q2' hk s1 with ⟨q3, q4⟩ | q3
      · have q3' : rEn2 (l.take k) (rEnts l at_ 0 n).2.1 0 = rEn2 l (rEnts l at_ 0 n).2.1 0 := by rw [rEn2, rEn2, q1', u1]; exact q3
        refine ⟨?_, ?_⟩
        · simp only [rEnts]
          rw [i1, z1, q1', q3']
        · show (rEn2 l (rEnts l at_ 0 n).2.1 (rEnts l at_ 0 n).2.2).2.1 ≤ k
          rw [z1, rEn2, u1]
          exact q4
      · exact absurd s2 q3
    · exact absurd u2 q1
theorem un_ends (m : List (BitVec 8)) (hm : unEnd m = 0) : (unD m).2.2 = 0 ∧ m.length ≤ (unD m).2.1 := by
  unfold unEnd rEnd at hm
  split at hm
  · rename_i h; exact absurd hm h
  · rename_i h
    split at hm
    · cases hm
    · exact ⟨by simpa using h, by omega⟩
theorem un_goesN (m : List (BitVec 8)) : Goes m (rHd9 m 0 0).2.1 (rHd9 m 0 0).2.2 (unN m).2.1 (unN m).2.2 := by
  rw [unN]
  exact rC_goes m 4096 (rHd9 m 0 0).2.1 (rHd9 m 0 0).2.2 (rHd_goes m 0 0 (Nat.zero_le _)).2.1
theorem un_goesE (m : List (BitVec 8)) : Goes m (unN m).2.1 (unN m).2.2 (unE m).2.1 (unE m).2.2 := by
  rw [unE]
  exact rEnts_goes m (unN m).2.1 (unN m).2.2 (un_goesN m).2.1 (unN m).1
theorem un_goesD (m : List (BitVec 8)) : Goes m (unE m).2.1 (unE m).2.2 (unD m).2.1 (unD m).2.2 := by
  rw [unD]
  exact rS_goes m (unE m).2.1 (unE m).2.2 (un_goesE m).2.1
theorem un_zero (m : List (BitVec 8)) (hm : (unD m).2.2 = 0) : (unE m).2.2 = 0 ∧ (unN m).2.2 = 0 ∧ (rHd9 m 0 0).2.2 = 0 ∧ (unE m).2.1 ≤ m.length ∧ (unN m).2.1 ≤ m.length := by
  have z3 := (un_goesD m).back hm
  have z2 := (un_goesE m).back z3
  exact ⟨z3, z2, (un_goesN m).back z2, (un_goesE m).2.1, (un_goesN m).2.1⟩
theorem un_zeroH (m : List (BitVec 8)) (hm : (rHd9 m 0 0).2.2 = 0) : (rHd1 m 0 0).2.2 = 0 ∧ (rHd2 m 0 0).2.2 = 0 ∧ (rHd3 m 0 0).2.2 = 0 ∧ (rHd4 m 0 0).2.2 = 0 ∧ (rHd5 m 0 0).2.2 = 0 ∧ (rHd6 m 0 0).2.2 = 0 ∧ (rHd7 m 0 0).2.2 = 0 ∧ (rHd8 m 0 0).2.2 = 0 := by
  have g1 : Goes m 0 0 (rHd1 m 0 0).2.1 (rHd1 m 0 0).2.2 := rU_goes m 0 0 (Nat.zero_le _)
  have g2 : Goes m (rHd1 m 0 0).2.1 (rHd1 m 0 0).2.2 (rHd2 m 0 0).2.1 (rHd2 m 0 0).2.2 := by rw [rHd2]; exact rU_goes m _ _ g1.2.1
  have g3 : Goes m (rHd2 m 0 0).2.1 (rHd2 m 0 0).2.2 (rHd3 m 0 0).2.1 (rHd3 m 0 0).2.2 := by rw [rHd3]; exact rU_goes m _ _ g2.2.1
  have g4 : Goes m (rHd3 m 0 0).2.1 (rHd3 m 0 0).2.2 (rHd4 m 0 0).2.1 (rHd4 m 0 0).2.2 := by rw [rHd4]; exact rU_goes m _ _ g3.2.1
  have g5 : Goes m (rHd4 m 0 0).2.1 (rHd4 m 0 0).2.2 (rHd5 m 0 0).2.1 (rHd5 m 0 0).2.2 := by rw [rHd5]; exact rU_goes m _ _ g4.2.1
  have g6 : Goes m (rHd5 m 0 0).2.1 (rHd5 m 0 0).2.2 (rHd6 m 0 0).2.1 (rHd6 m 0 0).2.2 := by rw [rHd6]; exact rU_goes m _ _ g5.2.1
  have g7 : Goes m (rHd6 m 0 0).2.1 (rHd6 m 0 0).2.2 (rHd7 m 0 0).2.1 (rHd7 m 0 0).2.2 := by rw [rHd7]; exact rU_goes m _ _ g6.2.1
  have g8 : Goes m (rHd7 m 0 0).2.1 (rHd7 m 0 0).2.2 (rHd8 m 0 0).2.1 (rHd8 m 0 0).2.2 := by rw [rHd8]; exact rU_goes m _ _ g7.2.1
  have g9 : Goes m (rHd8 m 0 0).2.1 (rHd8 m 0 0).2.2 (rHd9 m 0 0).2.1 (rHd9 m 0 0).2.2 := by rw [rHd9]; exact rB_goes m _ _ g8.2.1
  have z8 := g9.back hm
  have z7 := g8.back z8
  have z6 := g7.back z7
  have z5 := g6.back z6
  have z4 := g5.back z5
  have z3 := g4.back z4
  have z2 := g3.back z3
  have z1 := g2.back z2
  exact ⟨z1, z2, z3, z4, z5, z6, z7, z8⟩
theorem un_cut (l : List (BitVec 8)) (k : Nat) (hk : k ≤ l.length) (h1 : unEnd l = 0) (h2 : unEnd (l.take k) = 0) : k = l.length := by
  have hl : (l.take k).length = k := by simp; omega
  obtain ⟨T, hT⟩ : ∃ T, l.take k = T := ⟨_, rfl⟩
  obtain ⟨d1, f1⟩ := un_ends l h1
  obtain ⟨d2, f2⟩ := un_ends (l.take k) h2
  rw [hT] at hl d2 f2
  obtain ⟨a1, a2, a3, a4, a5⟩ := un_zero l d1
  obtain ⟨b1, b2, b3, b4, b5⟩ := un_zero T d2
  obtain ⟨x1, x2, x3, x4, x5, x6, x7, x8⟩ := un_zeroH l a3
  obtain ⟨y1, y2, y3, y4, y5, y6, y7, y8⟩ := un_zeroH T b3
  have c1 : rHd1 T 0 0 = rHd1 l 0 0 ∧ (rHd1 l 0 0).2.1 ≤ k := by
    rcases rU_cut l k 0 (Nat.zero_le _) hk x1 with h | h
    · rw [hT] at h; exact h
    · rw [hT] at h; exact absurd y1 h
  have c2 : rHd2 T 0 0 = rHd2 l 0 0 ∧ (rHd2 l 0 0).2.1 ≤ k := by
    have e1 : rHd2 l 0 0 = rU l (rHd1 l 0 0).2.1 0 := by rw [rHd2, x1]
    have e2 : rHd2 T 0 0 = rU T (rHd1 l 0 0).2.1 0 := by rw [rHd2, c1.1, x1]
    have hx := x2
    have hy := y2
    rw [e1] at hx
    rw [e2] at hy
    rw [e1, e2]
    rcases rU_cut l k _ c1.2 hk hx with h | h
    · rw [hT] at h; exact h
    · rw [hT] at h; exact absurd hy h
  have c3 : rHd3 T 0 0 = rHd3 l 0 0 ∧ (rHd3 l 0 0).2.1 ≤ k := by
    have e1 : rHd3 l 0 0 = rU l (rHd2 l 0 0).2.1 0 := by rw [rHd3, x2]
    have e2 : rHd3 T 0 0 = rU T (rHd2 l 0 0).2.1 0 := by rw [rHd3, c2.1, x2]
    have hx := x3
    have hy := y3
    rw [e1] at hx
    rw [e2] at hy
    rw [e1, e2]
    rcases rU_cut l k _ c2.2 hk hx with h | h
    · rw [hT] at h; exact h
    · rw [hT] at h; exact absurd hy h
  have c4 : rHd4 T 0 0 = rHd4 l 0 0 ∧ (rHd4 l 0 0).2.1 ≤ k := by
    have e1 : rHd4 l 0 0 = rU l (rHd3 l 0 0).2.1 0 := by rw [rHd4, x3]
    have e2 : rHd4 T 0 0 = rU T (rHd3 l 0 0).2.1 0 := by rw [rHd4, c3.1, x3]
    have hx := x4
    have hy := y4
    rw [e1] at hx
    rw [e2] at hy
    rw [e1, e2]
    rcases rU_cut l k _ c3.2 hk hx with h | h
    · rw [hT] at h; exact h
    · rw [hT] at h; exact absurd hy h
  have c5 : rHd5 T 0 0 = rHd5 l 0 0 ∧ (rHd5 l 0 0).2.1 ≤ k := by
    have e1 : rHd5 l 0 0 = rU l (rHd4 l 0 0).2.1 0 := by rw [rHd5, x4]
    have e2 : rHd5 T 0 0 = rU T (rHd4 l 0 0).2.1 0 := by rw [rHd5, c4.1, x4]
    have hx := x5
    have hy := y5
    rw [e1] at hx
    rw [e2] at hy
    rw [e1, e2]
    rcases rU_cut l k _ c4.2 hk hx with h | h
    · rw [hT] at h; exact h
    · rw [hT] at h; exact absurd hy h
  have c6 : rHd6 T 0 0 = rHd6 l 0 0 ∧ (rHd6 l 0 0).2.1 ≤ k := by
    have e1 : rHd6 l 0 0 = rU l (rHd5 l 0 0).2.1 0 := by rw [rHd6, x5]
    have e2 : rHd6 T 0 0 = rU T (rHd5 l 0 0).2.1 0 := by rw [rHd6, c5.1, x5]
    have hx := x6
    have hy := y6
    rw [e1] at hx
    rw [e2] at hy
    rw [e1, e2]
    rcases rU_cut l k _ c5.2 hk hx with h | h
    · rw [hT] at h; exact h
    · rw [hT] at h; exact absurd hy h
  have c7 : rHd7 T 0 0 = rHd7 l 0 0 ∧ (rHd7 l 0 0).2.1 ≤ k := by
    have e1 : rHd7 l 0 0 = rU l (rHd6 l 0 0).2.1 0 := by rw [rHd7, x6]
    have e2 : rHd7 T 0 0 = rU T (rHd6 l 0 0).2.1 0 := by rw [rHd7, c6.1, x6]
    have hx := x7
    have hy := y7
    rw [e1] at hx
    rw [e2] at hy
    rw [e1, e2]
    rcases rU_cut l k _ c6.2 hk hx with h | h
    · rw [hT] at h; exact h
    · rw [hT] at h; exact absurd hy h
  have c8 : rHd8 T 0 0 = rHd8 l 0 0 ∧ (rHd8 l 0 0).2.1 ≤ k := by
    have e1 : rHd8 l 0 0 = rU l (rHd7 l 0 0).2.1 0 := by rw [rHd8, x7]
    have e2 : rHd8 T 0 0 = rU T (rHd7 l 0 0).2.1 0 := by rw [rHd8, c7.1, x7]
    have hx := x8
    have hy := y8
    rw [e1] at hx
    rw [e2] at hy
    rw [e1, e2]
    rcases rU_cut l k _ c7.2 hk hx with h | h
    · rw [hT] at h; exact h
    · rw [hT] at h; exact absurd hy h
  have c9 : rHd9 T 0 0 = rHd9 l 0 0 ∧ (rHd9 l 0 0).2.1 ≤ k := by
    have e1 : rHd9 l 0 0 = rB l (rHd8 l 0 0).2.1 0 := by rw [rHd9, x8]
    have e2 : rHd9 T 0 0 = rB T (rHd8 l 0 0).2.1 0 := by rw [rHd9, c8.1, x8]
    have hx := a3
    have hy := b3
    rw [e1] at hx
    rw [e2] at hy
    rw [e1, e2]
    rcases rB_cut l k _ c8.2 hk hx with h | h
    · rw [hT] at h; exact h
    · rw [hT] at h; exact absurd hy h
  have cN : unN T = unN l ∧ (unN l).2.1 ≤ k := by
    have e1 : unN l = rC l 4096 (rHd9 l 0 0).2.1 0 := by rw [unN, a3]
    have e2 : unN T = rC T 4096 (rHd9 l 0 0).2.1 0 := by rw [unN, c9.1, a3]
    have hx := a2
    have hy := b2
    rw [e1] at hx
    rw [e2] at hy
    rw [e1, e2]
    have hp := c9.2
    generalize (rHd9 l 0 0).2.1 = P at hx hy hp ⊢
    have hc : (rC (l.take k) 4096 P 0 = rC l 4096 P 0 ∧ (rC l 4096 P 0).2.1 ≤ k) ∨ (rC (l.take k) 4096 P 0).2.2 ≠ 0 := rC_cut 4096 l k P hp hk hx
    rw [hT] at hc
    rcases hc with h | h
    · exact h
    · exact absurd hy h
  have cE : unE T = unE l ∧ (unE l).2.1 ≤ k := by
    have e1 : unE l = rEnts l (unN l).2.1 0 (unN l).1 := by rw [unE, a2]
    have e2 : unE T = rEnts T (unN l).2.1 0 (unN l).1 := by rw [unE, cN.1, a2]
    have hx := a1
    have hy := b1
    rw [e1] at hx
    rw [e2, ← hT] at hy
    rw [e1, e2, ← hT]
    have hp := cN.2
    generalize (unN l).2.1 = P at hx hy hp ⊢
    generalize (unN l).1 = n at hx hy ⊢
    exact rEnts_cut n l k P hp hk hx hy
  have e1 : unD l = rS l (unE l).2.1 0 := by rw [unD, a1]
  have e2 : unD T = rS T (unE l).2.1 0 := by rw [unD, cE.1, a1]
  have hx := d1
  have hy := d2
  rw [e1] at hx f1
  rw [e2] at hy
  rcases rS_cut l k _ cE.2 hk hx with h | h
  · have := h.2
    omega
  · rw [hT] at h
    exact absurd hy h
end Go.Proofs.YtpnnbkhlbohfbaaDoor
