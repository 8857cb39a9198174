/- RlogMatches: the plain part. -/
import Derived.Test.YtikedglcicgdhaaLLaw
namespace Go.Proofs.Ytikedglcicgdhaa
open Go.RowKit
set_option linter.unusedVariables false

theorem stand_nat (L : List EntV) (k : Nat) : stand 0 0 L (k : Int) = if k = 0 then some 0 else ((L.map Prod.fst)[k - 1]?).map Prod.fst := by
  unfold stand
  cases k with
  | zero => simp
  | succ k =>
    rw [if_neg (by omega), if_pos (by omega), if_neg (by omega), show (((k + 1 : Nat) : Int) - 0 - 1).toNat = k by omega]
    simp
    rfl
theorem passed_spec (f : Int → Option Int) : ∀ (p : List Ent) (at_ : Int) (j : Nat) (hj : j < p.length), j < passed f at_ p → f (at_ + 1 + j) = some p[j].1
  | e :: p, at_, 0, _, h => by
    unfold passed at h
    split at h
    · rename_i he
      simpa using he
    · omega
  | e :: p, at_, j + 1, hj, h => by
    unfold passed at h
    split at h
    · have := passed_spec f p (at_ + 1) j (by simpa using hj) (by omega)
      rw [show at_ + 1 + ((j + 1 : Nat) : Int) = at_ + 1 + 1 + (j : Int) by omega]
      simpa using this
    · omega
theorem passed_full (f : Int → Option Int) : ∀ (p : List Ent) (at_ : Int), (∀ j (hj : j < p.length), f (at_ + 1 + j) = some p[j].1) → passed f at_ p = p.length
  | [], at_, _ => rfl
  | e :: p, at_, h => by
    unfold passed
    have h0 := h 0 (by simp)
    simp only [List.getElem_cons_zero, Int.ofNat_zero, Int.add_zero] at h0
    rw [if_pos (by simpa using h0), passed_full f p (at_ + 1) (fun j hj => by
      have := h (j + 1) (by simpa using hj)
      rw [show at_ + 1 + ((j + 1 : Nat) : Int) = at_ + 1 + 1 + (j : Int) by omega] at this
      simpa using this)]
    rfl
/-- Two logs have the same terms up to a place. -/
def AsFar (L M : List EntV) (n : Nat) : Prop := ∀ k : Nat, k ≤ n → stand 0 0 L (k : Int) = stand 0 0 M (k : Int)
section
variable {L M : List EntV} {s a b p : List Ent}
theorem asFar_prefix (hL : L.map Prod.fst = s ++ a) (hM : M.map Prod.fst = s ++ b) : AsFar L M s.length := fun k hk => by
  rw [stand_nat, stand_nat, hL, hM]
  by_cases h0 : k = 0
  · rw [if_pos h0, if_pos h0]
  · rw [if_neg h0, if_neg h0, List.getElem?_append_left (by omega), List.getElem?_append_left (by omega)]
theorem stand_part (hM : M.map Prod.fst = s ++ b) (m : Nat) (j : Nat) (hj : j < (b.take m).length) : stand 0 0 M ((s.length : Int) + 1 + j) = some (b.take m)[j].1 := by
  rw [show (s.length : Int) + 1 + (j : Int) = ((s.length + 1 + j : Nat) : Int) by omega, stand_nat, if_neg (by omega), hM]
  have hj' : j < b.length := by rw [List.length_take] at hj; omega
  rw [List.getElem?_append_right (by omega), show s.length + 1 + j - 1 - s.length = j by omega, List.getElem?_eq_getElem hj']
  simp
theorem asFar_part (hL : L.map Prod.fst = s ++ a) (hM : M.map Prod.fst = s ++ b) (m n : Nat) (hn : n ≤ (b.take m).length) (hp : n ≤ passed (stand 0 0 L) (s.length : Int) (b.take m)) : AsFar L M (s.length + n) := fun k hk => by
  rcases Nat.lt_or_ge s.length k with h | h
  · obtain ⟨j, rfl⟩ : ∃ j, k = s.length + 1 + j := ⟨k - s.length - 1, by omega⟩
    have h1 := passed_spec (stand 0 0 L) (b.take m) (s.length : Int) j (by omega) (by omega)
    have h2 := stand_part (s := s) hM m j (by omega)
    rw [show ((s.length + 1 + j : Nat) : Int) = (s.length : Int) + 1 + (j : Int) by omega, h1, h2]
  · exact asFar_prefix hL hM k h
/-- Behind a match that changed the log both are the same as far as the part goes. -/
theorem asFar_put (hL : L.map Prod.fst = s ++ a) (hM : M.map Prod.fst = s ++ b) (m kk kept : Nat) (hkk : passed (stand 0 0 L) (s.length : Int) (b.take m) = kk) (hlt : kk < (b.take m).length) (hkept : kept = s.length + kk) (hkl : kept ≤ L.length) {fs : List EntV} (hfs : fs.map Prod.fst = (b.take m).drop kk) : AsFar (L.take kept ++ fs) M (s.length + (b.take m).length) := fun k hk => by
  have base := asFar_part hL hM m kk (by omega) (by omega)
  have hlk : (L.map Prod.fst).length = L.length := by simp
  rcases Nat.lt_or_ge kept k with h | h
  · obtain ⟨i, rfl⟩ : ∃ i, k = kept + 1 + i := ⟨k - kept - 1, by omega⟩
    have hi : kk + i < (b.take m).length := by omega
    have h2 := stand_part (s := s) hM m (kk + i) hi
    rw [show ((kept + 1 + i : Nat) : Int) = (s.length : Int) + 1 + ((kk + i : Nat) : Int) by omega, h2, show (s.length : Int) + 1 + ((kk + i : Nat) : Int) = ((kept + 1 + i : Nat) : Int) by omega, stand_nat, if_neg (by omega), List.map_append, hfs]
    rw [List.getElem?_append_right (by simp; omega)]
    have e1 : kept + 1 + i - 1 - ((L.take kept).map Prod.fst).length = i := by
      simp only [List.length_map, List.length_take]
      omega
    rw [e1, List.getElem?_drop, List.getElem?_eq_getElem hi]
    rfl
  · rw [← base k (by omega), stand_nat, stand_nat]
    by_cases h0 : k = 0
    · rw [if_pos h0, if_pos h0]
    · rw [if_neg h0, if_neg h0, List.map_append, List.getElem?_append_left (by simp; omega), List.map_take, List.getElem?_take, if_pos (by omega)]
theorem asFar_again (hM : M.map Prod.fst = s ++ b) (m : Nat) (h : AsFar L M (s.length + (b.take m).length)) : passed (stand 0 0 L) (s.length : Int) (b.take m) = (b.take m).length :=
  passed_full _ _ _ (fun j hj => by
    have h1 := h (s.length + 1 + j) (by omega)
    have h2 := stand_part (s := s) hM m j hj
    rw [show ((s.length + 1 + j : Nat) : Int) = (s.length : Int) + 1 + (j : Int) by omega] at h1
    rw [h1, h2])
end
theorem part_is (s b : List Ent) (most : Int) : ∃ m, partL 0 (s ++ b) ((s.length : Int) + 1) most = b.take m := by
  unfold partL
  by_cases hm : 0 < most
  · rw [if_pos ⟨hm, by omega⟩, show ((s.length : Int) + 1 - 0 - 1).toNat = s.length by omega, List.drop_left]
    exact ⟨_, rfl⟩
  · rw [if_neg (fun h => hm h.1)]
    exact ⟨0, by simp⟩
end Go.Proofs.Ytikedglcicgdhaa
