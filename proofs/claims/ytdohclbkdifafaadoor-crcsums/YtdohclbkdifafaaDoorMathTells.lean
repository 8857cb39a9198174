/- The mathematics of P1.4: bits within 32 in a row that are turned turn the sum. No program. -/
import Derived.Test.YtdohclbkdifafaaDoorMath
namespace Crc

def flipAt (l : List (BitVec 8)) (p : Nat) : List (BitVec 8) := l.set (p / 8) (l.getD (p / 8) 0#8 ^^^ (1#8 <<< (p % 8)))
/-- The bits of b, from the bit at on, turned; the first i of them. -/
def flips (l : List (BitVec 8)) (at' : Nat) (b : W) : Nat → List (BitVec 8)
  | 0 => l
  | i + 1 => if b.getLsbD i then flipAt (flips l at' b i) (at' + i) else flips l at' b i
def anyTo (b : W) : Nat → Bool
  | 0 => false
  | i + 1 => b.getLsbD i || anyTo b i
theorem flipAt_length (l : List (BitVec 8)) (p : Nat) : (flipAt l p).length = l.length := by simp [flipAt]
theorem flips_length (l : List (BitVec 8)) (at' : Nat) (b : W) (i : Nat) : (flips l at' b i).length = l.length := by
  induction i with
  | zero => rfl
  | succ i ih => rw [flips]; split <;> simp [flipAt_length, ih]
def bitAt (l : List (BitVec 8)) (q : Nat) : Bool := (l.getD (q / 8) 0#8).getLsbD (q % 8)
theorem one_shift : ∀ t s : Fin 8, (1#8 <<< t.val).getLsbD s.val = decide (s.val = t.val) := by decide +kernel
theorem bitAt_flipAt (l : List (BitVec 8)) (p q : Nat) (hp : p < 8 * l.length) : bitAt (flipAt l p) q = (bitAt l q ^^ decide (q = p)) := by
  unfold bitAt flipAt
  by_cases h : q / 8 = p / 8
  · have h1 : (l.set (p / 8) (l.getD (p / 8) 0#8 ^^^ (1#8 <<< (p % 8)))).getD (q / 8) 0#8 = l.getD (p / 8) 0#8 ^^^ (1#8 <<< (p % 8)) := by
      rw [h, List.getD_eq_getElem?_getD, List.getElem?_set_self (by omega)]; rfl
    rw [h1, BitVec.getLsbD_xor, one_shift ⟨p % 8, Nat.mod_lt _ (by decide)⟩ ⟨q % 8, Nat.mod_lt _ (by decide)⟩, h]
    have : (q % 8 = p % 8) ↔ q = p := by omega
    simp [this]
  · have h1 : (l.set (p / 8) (l.getD (p / 8) 0#8 ^^^ (1#8 <<< (p % 8)))).getD (q / 8) 0#8 = l.getD (q / 8) 0#8 := by
      rw [List.getD_eq_getElem?_getD, List.getElem?_set_ne (by omega), List.getD_eq_getElem?_getD]
    rw [h1]
    have : q ≠ p := by intro e; exact h (by rw [e])
    simp [this]
theorem bitAt_flips (l : List (BitVec 8)) (at' : Nat) (b : W) (i q : Nat) (h : at' + i ≤ 8 * l.length) :
    bitAt (flips l at' b i) q = (bitAt l q ^^ (decide (at' ≤ q) && decide (q < at' + i) && b.getLsbD (q - at'))) := by
  induction i with
  | zero =>
    have : (decide (at' ≤ q) && decide (q < at' + 0)) = false := by simp
    rw [this]; simp [flips]
  | succ i ih =>
    have ih' := ih (by omega)
    rw [flips]
    by_cases hq : q = at' + i
    · subst hq
      cases hb : b.getLsbD i
      · simp [ih', hb]
      · rw [if_pos rfl, bitAt_flipAt _ _ _ (by rw [flips_length]; omega), ih']
        simp [hb]
    · have hl : (q < at' + (i + 1)) ↔ (q < at' + i) := by omega
      cases hb : b.getLsbD i
      · simp [ih', hl]
      · rw [if_pos rfl, bitAt_flipAt _ _ _ (by rw [flips_length]; omega), ih']
        simp [hq, hl]
theorem bitsOf_length (l : List (BitVec 8)) : (bitsOf l).length = 8 * l.length := by
  induction l with
  | nil => rfl
  | cons c l ih => rw [show bitsOf (c :: l) = byteBits c ++ bitsOf l from rfl, List.length_append, ih]; simp [byteBits]; omega
theorem byteBits_get (c : BitVec 8) (s : Nat) (h : s < 8) : (byteBits c)[s]? = some (c.getLsbD s) := by
  match s, h with
  | 0, _ | 1, _ | 2, _ | 3, _ | 4, _ | 5, _ | 6, _ | 7, _ => rfl
theorem bitsOf_get (l : List (BitVec 8)) (q : Nat) (h : q < 8 * l.length) : (bitsOf l)[q]? = some (bitAt l q) := by
  induction l generalizing q with
  | nil => simp at h
  | cons c l ih =>
    rw [show bitsOf (c :: l) = byteBits c ++ bitsOf l from rfl]
    have hl : (byteBits c).length = 8 := rfl
    by_cases h8 : q < 8
    · rw [List.getElem?_append_left (by omega), byteBits_get c q h8]
      unfold bitAt
      rw [Nat.div_eq_of_lt h8, Nat.mod_eq_of_lt h8]
      rfl
    · rw [List.getElem?_append_right (by omega), hl, ih (q - 8) (by simp at h; omega)]
      unfold bitAt
      have h1 : q / 8 = (q - 8) / 8 + 1 := by omega
      have h2 : q % 8 = (q - 8) % 8 := by omega
      rw [h1, h2]
      rfl
def burst (b : W) (i : Nat) : List Bool := (List.range i).map fun j => b.getLsbD j
theorem anyTo_burst (b : W) (i : Nat) : anyTo b i = false ↔ burst b i = List.replicate i false := by
  have h : ∀ i, anyTo b i = false ↔ ∀ j, j < i → b.getLsbD j = false := by
    intro i
    induction i with
    | zero => simp [anyTo]
    | succ i ih =>
      rw [anyTo, Bool.or_eq_false_iff, ih]
      constructor
      · rintro ⟨h1, h2⟩ j hj
        by_cases e : j = i
        · rw [e]; exact h1
        · exact h2 j (by omega)
      · intro h; exact ⟨h i (by omega), fun j hj => h j (by omega)⟩
  rw [h i]
  constructor
  · intro h1
    apply List.ext_getElem
    · simp [burst]
    · intro j h2 h3
      simp [burst] at h2 ⊢
      exact h1 j h2
  · intro h1 j hj
    have := congrArg (fun l => l[j]?) h1
    simpa [burst, hj] using this
theorem diff_bits (l : List (BitVec 8)) (at' : Nat) (b : W) (i : Nat) (h : at' + i ≤ 8 * l.length) :
    List.zipWith (· ^^ ·) (bitsOf l) (bitsOf (flips l at' b i)) = List.replicate at' false ++ burst b i ++ List.replicate (8 * l.length - (at' + i)) false := by
  apply List.ext_getElem?
  intro q
  by_cases hq : q < 8 * l.length
  · rw [List.getElem?_zipWith, bitsOf_get l q hq, bitsOf_get _ q (by rw [flips_length]; exact hq)]
    simp only
    rw [bitAt_flips l at' b i q h]
    have hbl : (burst b i).length = i := by simp [burst]
    by_cases h1 : q < at'
    · rw [List.getElem?_append_left (by simp; omega), List.getElem?_append_left (by simpa using h1)]
      have : ¬ at' ≤ q := by omega
      simp [this, h1]
    · by_cases h2 : q < at' + i
      · rw [List.getElem?_append_left (by simp [hbl]; omega), List.getElem?_append_right (by simp; omega)]
        have h3 : at' ≤ q := by omega
        have h4 : q - at' < i := by omega
        simp [h3, h2, burst, h4]
      · rw [List.getElem?_append_right (by simp [hbl]; omega)]
        have h3 : at' ≤ q := by omega
        have h5 : q - (at' + i) < 8 * l.length - (at' + i) := by omega
        simp [h2, hbl, h5]
  · rw [List.getElem?_eq_none (by simp [bitsOf_length, flips_length]; omega), List.getElem?_eq_none (by simp [burst]; omega)]
theorem xor_zero_iff (a b : W) : a ^^^ b = 0#32 ↔ a = b := by
  constructor
  · intro h
    have := xself a b
    rw [h] at this
    simpa using this
  · rintro rfl; simp
/-- P1.4. -/
theorem tells (l : List (BitVec 8)) (at' : Nat) (b : W) (i : Nat) (h : at' + i ≤ 8 * l.length) (hi : i ≤ 32) :
    (more 0#32 l = more 0#32 (flips l at' b i)) ↔ anyTo b i = false := by
  have hn : ∀ x y : W, (~~~ x = ~~~ y) ↔ x = y := fun x y => ⟨fun h => by have := congrArg (fun z => ~~~ z) h; simpa using this, fun h => by rw [h]⟩
  unfold more
  rw [hn, ← xor_zero_iff, run_feed, run_feed, ← feed_xor _ _ _ _ (by rw [bitsOf_length, bitsOf_length, flips_length]), diff_bits l at' b i h, anyTo_burst]
  have hz : ~~~ 0#32 ^^^ ~~~ 0#32 = (0#32 : W) := by decide
  rw [hz]
  have hbl : (burst b i).length = i := by simp [burst]
  constructor
  · intro hf
    have := feed_burst _ _ _ (by rw [hbl]; exact hi) hf
    rw [hbl] at this
    exact this
  · intro hb
    rw [hb, feed_append, feed_append, feed_false, feed_false, feed_false, Tn_zero, Tn_zero, Tn_zero]
end Crc
