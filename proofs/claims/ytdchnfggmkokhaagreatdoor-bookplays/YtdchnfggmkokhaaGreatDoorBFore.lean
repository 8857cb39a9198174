/- What is read is what is written (the first part of package client's KFore). -/
import Derived.Test.YtdchnfggmkokhaaGreatDoorGN
namespace Go.Proofs.YtdchnfggmkokhaaGreatDoor
open Go.RowKit Cod
set_option linter.unusedVariables false

/-- A number that is read stands there as it is written. -/
theorem num_fore : ∀ (l : List (BitVec 8)) (k acc : Nat), (num k acc l).2.2 = 0 → k ≤ 9 → ∃ m, (num k acc l).1 = acc + m * 128 ^ k ∧ (num k acc l).2.1 = k + (enc m).length ∧ l = enc m ++ l.drop (enc m).length ∧ (0 < k → 0 < m)
  | [], k, acc, h, _ => by simp [num] at h
  | c :: r, k, acc, h, hk => by
    have hc := c.isLt
    unfold num at h ⊢
    split at h
    · simp at h
    · next hn =>
      rw [if_neg hn]
      split at h
      · next h1 =>
        rw [if_pos h1]
        have e : enc c.toNat = [c] := by rw [enc_low (by omega)]; simp
        refine ⟨c.toNat, rfl, by rw [e]; rfl, by rw [e]; rfl, fun h0 => ?_⟩
        by_cases hz : c.toNat = 0
        · exact absurd (.inr ⟨h0, hz⟩) hn
        · omega
      · next h1 =>
        rw [if_neg h1]
        have k9 : k ≠ 9 := fun e => hn (.inl ⟨e, by omega⟩)
        obtain ⟨m, e1, e2, e3, e4⟩ := num_fore r (k + 1) _ h (by omega)
        have hm := e4 (by omega)
        have hb : ¬ (c.toNat % 128 + 128 * m) < 128 := by omega
        have ee : enc (c.toNat % 128 + 128 * m) = c :: enc m := by
          rw [enc_high hb]
          have q1 : (c.toNat % 128 + 128 * m) % 128 + 128 = c.toNat := by omega
          have q2 : (c.toNat % 128 + 128 * m) / 128 = m := by omega
          rw [q1, q2]
          simp
        refine ⟨c.toNat % 128 + 128 * m, ?_, ?_, ?_, fun _ => by omega⟩
        · rw [e1, Nat.pow_succ, Nat.add_mul, Nat.add_assoc]
          congr 2
          rw [Nat.mul_comm (128 ^ k) 128, ← Nat.mul_assoc, Nat.mul_comm m 128]
        · rw [e2, ee]; simp; omega
        · rw [ee]
          simp only [List.length_cons, List.drop_succ_cons, List.cons_append]
          rw [← e3]
theorem zig_zag (n : Nat) : zig (zag n) = n := by
  unfold zag zig
  split <;> split <;> omega
theorem zag_ok {n : Nat} (h : n < 18446744073709551616) : i64ok (zag n) := by
  unfold zag i64ok
  split <;> omega
/-- What was read, from a place on to another one, is B. -/
def Fore (l : List (BitVec 8)) (a y b z : Nat) (B : List (BitVec 8)) : Prop := z = 0 → y = 0 ∧ l.drop a = B ++ l.drop b
theorem Fore.trans {l : List (BitVec 8)} {a y b z c x : Nat} {B C : List (BitVec 8)} (h : Fore l a y b z B) (k : Fore l b z c x C) : Fore l a y c x (B ++ C) := fun e => by
  obtain ⟨e1, e2⟩ := k e
  obtain ⟨e3, e4⟩ := h e1
  exact ⟨e3, by rw [e4, e2, List.append_assoc]⟩
theorem rU_fore (l : List (BitVec 8)) (a y : Nat) : Fore l a y (rU l a y).2.1 (rU l a y).2.2 (enc (rU l a y).1) := fun e => by
  unfold rU at e ⊢
  by_cases hy : y = 0
  · rw [if_pos hy] at e ⊢
    obtain ⟨m, e1, e2, e3, _⟩ := num_fore (l.drop a) 0 0 e (by omega)
    refine ⟨hy, ?_⟩
    simp only [e1, e2]
    simp only [Nat.pow_zero, Nat.mul_one, Nat.zero_add]
    rw [← List.drop_drop]
    exact e3
  · rw [if_neg hy] at e
    exact absurd e hy
theorem rU_fore' (l : List (BitVec 8)) (a y : Nat) : Fore l a y (rU l a y).2.1 (rU l a y).2.2 (enc (zig (zag (rU l a y).1))) := by rw [zig_zag]; exact rU_fore l a y
theorem rC_fore (l : List (BitVec 8)) (most : Int) (a y : Nat) : Fore l a y (rC l most a y).2.1 (rC l most a y).2.2 (enc (rC l most a y).1) := fun e => by
  unfold rC at e ⊢
  split at e
  · next h => exact absurd e h
  · next h =>
    rw [if_neg h]
    split at e
    · cases e
    · next h2 =>
      rw [if_neg h2]
      split at e
      · cases e
      · next h3 =>
        rw [if_neg h3]
        exact rU_fore l a y e
theorem rS_fore (l : List (BitVec 8)) (a y : Nat) (ha : a ≤ l.length) : Fore l a y (rS l a y).2.1 (rS l a y).2.2 (sz (rS l a y).1) := fun e => by
  by_cases h : (rC l 65536 a y).2.2 ≠ 0
  · unfold rS at e
    rw [if_pos h] at e
    exact absurd e h
  · have h' : (rC l 65536 a y).2.2 = 0 := by simpa using h
    obtain ⟨e1, e2⟩ := rC_fore l 65536 a y h'
    have hr := rC_room ha h'
    unfold rS
    rw [if_neg h]
    refine ⟨e1, ?_⟩
    simp only [sz]
    rw [List.length_take, List.length_drop, Nat.min_eq_left (by omega), List.append_assoc, ← List.drop_drop, List.take_append_drop]
    exact e2
theorem rS_short (l : List (BitVec 8)) (a y : Nat) : (rS l a y).1.length ≤ 65536 := by
  unfold rS
  split
  · simp
  · have := rC_most l 65536 a y (by omega)
    simp only [List.length_take]
    exact Nat.le_trans (Nat.min_le_left _ _) this
theorem text_short (l : List (BitVec 8)) (a y : Nat) : (textOf (rS l a y).1).size ≤ 65536 := by
  have h := rS_short l a y
  have e : (textOf (rS l a y).1).size = (rS l a y).1.length := by simp [textOf, ByteArray.size]
  omega
theorem bytesL_textOf (A : List (BitVec 8)) : bytesL (textOf A) = A := textOf_inj (textOf_bytesL _)
end Go.Proofs.YtdchnfggmkokhaaGreatDoor
