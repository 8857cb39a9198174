/- The codec's plain functions: a number's bytes, and what reading them gives. No program here. -/
import Derived.Test.YtdchnfggmkokhaaGreatDoorMath
namespace Go.Proofs.YtdchnfggmkokhaaGreatDoor
namespace Cod

/-- A number as bytes. -/
def enc (n : Nat) : List (BitVec 8) := if h : n < 128 then [BitVec.ofNat 8 n] else BitVec.ofNat 8 (n % 128 + 128) :: enc (n / 128)
termination_by n
decreasing_by omega
theorem enc_low {n : Nat} (h : n < 128) : enc n = [BitVec.ofNat 8 n] := by rw [enc, dif_pos h]
theorem enc_high {n : Nat} (h : ¬ n < 128) : enc n = BitVec.ofNat 8 (n % 128 + 128) :: enc (n / 128) := by rw [enc, dif_neg h]
theorem enc_pos (n : Nat) : 0 < (enc n).length := by
  by_cases h : n < 128
  · rw [enc_low h]; simp
  · rw [enc_high h]; simp
theorem enc_length_le : ∀ (k n : Nat), n < 128 ^ (k + 1) → (enc n).length ≤ k + 1
  | 0, n, h => by rw [enc_low (by simpa using h)]; simp
  | k + 1, n, h => by
    by_cases h1 : n < 128
    · rw [enc_low h1]; simp
    · rw [enc_high h1]
      have : n / 128 < 128 ^ (k + 1) := by rw [Nat.div_lt_iff_lt_mul (by omega)]; rwa [Nat.pow_succ] at h
      have := enc_length_le k _ this
      simp; omega
theorem enc_ten {n : Nat} (h : n < 18446744073709551616) : (enc n).length ≤ 10 := enc_length_le 9 n (by omega)
/-- Reading: what number stands at the head of bytes, how many bytes it has, which error there is. -/
def num (place acc : Nat) : List (BitVec 8) → Nat × Nat × Nat
  | [] => (0, 0, 10)
  | c :: r =>
    if (place = 9 ∧ 1 < c.toNat) ∨ (0 < place ∧ c.toNat = 0) then (0, 0, 11)
    else if c.toNat ≤ 127 then (acc + c.toNat * 128 ^ place, place + 1, 0)
    else num (place + 1) (acc + (c.toNat % 128) * 128 ^ place) r
theorem num_width : ∀ (l : List (BitVec 8)) (p a : Nat), (num p a l).2.1 ≤ p + l.length
  | [], p, a => by simp [num]
  | c :: r, p, a => by
    unfold num
    split
    · simp
    · split
      · simp
      · have := num_width r (p + 1) (a + (c.toNat % 128) * 128 ^ p)
        simp; omega
theorem num_short : ∀ (l : List (BitVec 8)) (p a : Nat), (num p a l).2.2 ≠ 0 → (num p a l).1 = 0 ∧ (num p a l).2.1 = 0
  | [], p, a => by simp [num]
  | c :: r, p, a => by
    unfold num
    split
    · simp
    · split
      · simp
      · exact num_short r _ _
/-- What is written is read, whatever stands behind it. -/
theorem num_enc : ∀ (k n : Nat), k ≤ 9 → n < 128 ^ (9 - k) * 2 → (0 < k → 0 < n) → ∀ (a : Nat) (r : List (BitVec 8)), num k a (enc n ++ r) = (a + n * 128 ^ k, k + (enc n).length, 0) := by
  intro k
  induction hk : 9 - k generalizing k with
  | zero =>
    intro n h1 h2 h3 a r
    obtain rfl : k = 9 := by omega
    have h3' := h3 (by omega)
    have h4 : n = 1 := by simp at h2; omega
    subst h4
    rw [enc_low (by omega)]
    simp [num]
  | succ j ih =>
    intro n h1 h2 h3 a r
    by_cases h : n < 128
    · rw [enc_low h]
      have e1 : (BitVec.ofNat 8 n).toNat = n := by simp; omega
      simp only [List.cons_append, List.nil_append, num, e1]
      rw [if_neg (by omega), if_pos (by omega)]
      simp
    · rw [enc_high h]
      have e1 : (BitVec.ofNat 8 (n % 128 + 128)).toNat = n % 128 + 128 := by simp; omega
      simp only [List.cons_append, num, e1]
      rw [if_neg (by omega), if_neg (by omega)]
      have e2 : (n % 128 + 128) % 128 = n % 128 := by omega
      have hlt : n / 128 < 128 ^ (9 - (k + 1)) * 2 := by
        rw [Nat.div_lt_iff_lt_mul (by omega)]
        have : 9 - k = (9 - (k + 1)) + 1 := by omega
        rw [show j + 1 = (9 - (k + 1)) + 1 by omega, Nat.pow_succ] at h2
        omega
      rw [e2, ih (k + 1) (by omega) (n / 128) (by omega) (by rw [show j = 9 - (k + 1) by omega]; exact hlt) (fun _ => by omega)]
      have e3 : a + n % 128 * 128 ^ k + n / 128 * 128 ^ (k + 1) = a + n * 128 ^ k := by
        rw [Nat.pow_succ, Nat.add_assoc]
        congr 1
        have := Nat.div_add_mod n 128
        rw [show n / 128 * (128 ^ k * 128) = (128 * (n / 128)) * 128 ^ k by rw [Nat.mul_comm (128 ^ k), ← Nat.mul_assoc, Nat.mul_comm (n / 128)], ← Nat.add_mul]
        congr 1
        omega
      rw [e3]
      simp only [List.length_cons]
      congr 2
      omega
theorem num_enc0 {n : Nat} (h : n < 18446744073709551616) (r : List (BitVec 8)) : num 0 0 (enc n ++ r) = (n, (enc n).length, 0) := by
  have := num_enc 0 n (by omega) (by simpa using h) (by omega) 0 r
  simpa using this
/-- Cut short it is told so. -/
theorem num_cut : ∀ (i n k a : Nat), k ≤ 9 → n < 128 ^ (9 - k) * 2 → (0 < k → 0 < n) → i < (enc n).length → num k a ((enc n).take i) = (0, 0, 10)
  | 0, n, k, a, _, _, _, _ => by simp [num]
  | i + 1, n, k, a, h1, h2, h3, hi => by
    by_cases h : n < 128
    · rw [enc_low h] at hi; simp at hi
    · rw [enc_high h] at hi ⊢
      have e1 : (BitVec.ofNat 8 (n % 128 + 128)).toNat = n % 128 + 128 := by simp; omega
      have hk : k ≠ 9 := by
        rintro rfl
        simp at h2; omega
      simp only [List.take_succ_cons, num, e1]
      rw [if_neg (by omega), if_neg (by omega)]
      refine num_cut i (n / 128) (k + 1) _ (by omega) ?_ (fun _ => by omega) (by simpa using hi)
      rw [Nat.div_lt_iff_lt_mul (by omega)]
      have : 9 - k = (9 - (k + 1)) + 1 := by omega
      rw [this, Nat.pow_succ] at h2
      omega
theorem num_cut0 {n i : Nat} (h : n < 18446744073709551616) (hi : i < (enc n).length) : num 0 0 ((enc n).take i) = (0, 0, 10) :=
  num_cut i n 0 0 (by omega) (by simpa using h) (by omega) hi
theorem enc_inj {a b : Nat} (ha : a < 18446744073709551616) (hb : b < 18446744073709551616) (h : enc a = enc b) : a = b := by
  have h1 := num_enc0 ha []
  have h2 := num_enc0 hb []
  rw [h] at h1
  rw [h1] at h2
  exact congrArg Prod.fst h2
theorem enc_mono : ∀ (b a : Nat), a ≤ b → (enc a).length ≤ (enc b).length := by
  intro b
  induction b using Nat.strongRecOn with
  | ind b ih =>
    intro a hab
    by_cases h : a < 128
    · rw [enc_low h]; have := enc_pos b; simp only [List.length_cons, List.length_nil]; omega
    · rw [enc_high h, enc_high (n := b) (by omega)]
      have := ih (b / 128) (by omega) (a / 128) (by omega)
      simp; omega
/-- A signed number as a number. -/
def zig (n : Int) : Nat := if n < 0 then (-2 * n - 1).toNat else (2 * n).toNat
theorem zig_lt (n : Int) (hn : -9223372036854775808 ≤ n ∧ n < 9223372036854775808) : zig n < 18446744073709551616 := by
  unfold zig; split <;> omega
/-- and back -/
def zag (m : Nat) : Int := if m % 2 = 1 then -((m / 2 : Nat) : Int) - 1 else ((m / 2 : Nat) : Int)
theorem zag_zig (n : Int) : zag (zig n) = n := by
  unfold zag zig; split <;> split <;> omega
theorem zig_inj {a b : Int} (h : zig a = zig b) : a = b := by rw [← zag_zig a, h, zag_zig]
end Cod
end Go.Proofs.YtdchnfggmkokhaaGreatDoor
