/- The plain mathematics of CRC-32C on 32-bit vectors: the step of a bit, of a byte, of lists; that they are linear and lose nothing. No program. -/

namespace Crc

abbrev W := BitVec 32
def poly : W := 0x82f63b78#32
def bit0 (r : W) : Bool := r.getLsbD 0
def T (r : W) : W := (r >>> 1) ^^^ (if bit0 r then poly else 0#32)
def Tn : Nat → W → W
  | 0, r => r
  | n + 1, r => Tn n (T r)

theorem xlc (a b c : W) : a ^^^ (b ^^^ c) = b ^^^ (a ^^^ c) := by rw [← BitVec.xor_assoc, BitVec.xor_comm a b, BitVec.xor_assoc]
theorem xself (a b : W) : a ^^^ (a ^^^ b) = b := by rw [← BitVec.xor_assoc]; simp
theorem T_xor (a b : W) : T (a ^^^ b) = T a ^^^ T b := by
  unfold T bit0
  rw [BitVec.getLsbD_xor, BitVec.ushiftRight_xor_distrib]
  cases a.getLsbD 0 <;> cases b.getLsbD 0 <;> simp [BitVec.xor_assoc, BitVec.xor_comm]
  · rw [xlc]
  · rw [BitVec.xor_comm (a >>> 1), xlc]
  · rw [xlc poly, xself]
theorem T_zero : T 0#32 = 0#32 := by decide
theorem Tn_xor (n : Nat) (a b : W) : Tn n (a ^^^ b) = Tn n a ^^^ Tn n b := by
  induction n generalizing a b with
  | zero => rfl
  | succ n ih => simp only [Tn, T_xor, ih]
theorem Tn_zero (n : Nat) : Tn n 0#32 = 0#32 := by
  induction n with
  | zero => rfl
  | succ n ih => simp only [Tn, T_zero, ih]
theorem Tn_succ' (n : Nat) (a : W) : Tn (n + 1) a = T (Tn n a) := by
  induction n generalizing a with
  | zero => rfl
  | succ n ih => rw [Tn, ih, Tn]
theorem Tn_add (n m : Nat) (a : W) : Tn (n + m) a = Tn m (Tn n a) := by
  induction n generalizing a with
  | zero => simp [Tn]
  | succ n ih => rw [Nat.add_right_comm, Tn, ih, Tn]
theorem T_inj0 (a : W) (h : T a = 0#32) : a = 0#32 := by
  have h31 : (T a).getLsbD 31 = bit0 a := by
    unfold T
    rw [BitVec.getLsbD_xor]
    have h1 : (a >>> 1).getLsbD 31 = false := by
      rw [BitVec.getLsbD_ushiftRight]; exact BitVec.getLsbD_of_ge _ _ (by omega)
    rw [h1]
    cases bit0 a <;> decide
  rw [h] at h31
  have hb : bit0 a = false := by rw [← h31]; decide
  unfold T at h
  rw [hb] at h
  have h2 : a >>> 1 = 0#32 := by simpa using h
  apply BitVec.eq_of_getLsbD_eq
  intro i hi
  cases i with
  | zero => rw [show a.getLsbD 0 = bit0 a from rfl, hb]; simp
  | succ i =>
    have := congrArg (fun x : W => x.getLsbD i) h2
    simp only [BitVec.getLsbD_ushiftRight] at this
    rw [Nat.add_comm i 1, this]; simp
theorem Tn_inj0 (n : Nat) (a : W) (h : Tn n a = 0#32) : a = 0#32 := by
  induction n generalizing a with
  | zero => exact h
  | succ n ih => exact T_inj0 a (ih _ h)

/-- A register whose low bits are 0 is only shifted. -/
theorem Tn_shift (n : Nat) (a : W) (h : ∀ i, i < n → a.getLsbD i = false) : Tn n a = a >>> n := by
  induction n generalizing a with
  | zero => simp [Tn]
  | succ n ih =>
    have h0 : T a = a >>> 1 := by
      unfold T bit0; rw [h 0 (by omega)]; simp
    rw [Tn, h0, ih]
    · rw [← BitVec.shiftRight_add, Nat.add_comm]
    · intro i hi
      rw [BitVec.getLsbD_ushiftRight]; exact h _ (by omega)

def ext (c : BitVec 8) : W := c.zeroExtend 32
/-- The register behind a byte. -/
def byteStep (r : W) (c : BitVec 8) : W := Tn 8 (r ^^^ ext c)
def run (r : W) (l : List (BitVec 8)) : W := l.foldl byteStep r
def more (s : W) (l : List (BitVec 8)) : W := ~~~ (run (~~~ s) l)

def lows : List Nat := [0, 4067132163, 3778769143, 324072436, 3348797215, 904991772, 648144872, 3570033899, 2329499855, 2024987596, 1809983544, 2575936315, 1296289744, 3207089363, 2893594407, 1578318884]
def highs : List Nat := [0, 274646895, 549293790, 820201905, 1098587580, 1361435347, 1640403810, 1905808397, 2197175160, 2460548119, 2722870694, 2987750089, 3280807620, 3553878443, 3811616794, 4084100981]
def low (i : Nat) : W := BitVec.ofNat 32 (lows.getD i 0)
def high (i : Nat) : W := BitVec.ofNat 32 (highs.getD i 0)

theorem tabs : ∀ i : Fin 256, Tn 8 (BitVec.ofNat 32 i.val) = low (i.val % 16) ^^^ high (i.val / 16) := by decide +kernel

theorem split8 (x : W) : x = ((x >>> 8) <<< 8) ^^^ BitVec.ofNat 32 (x.toNat % 256) := by
  apply BitVec.eq_of_getLsbD_eq
  intro i hi
  rw [BitVec.getLsbD_xor, BitVec.getLsbD_shiftLeft, BitVec.getLsbD_ofNat]
  rw [show (256 : Nat) = 2 ^ 8 from rfl, Nat.testBit_mod_two_pow]
  rw [BitVec.getLsbD_ushiftRight]
  by_cases h : i < 8
  · simp [h, hi, BitVec.getLsbD]
  · simp [h, hi, show 8 + (i - 8) = i by omega]

/-- A byte by two looks into the tables. -/
theorem byteStep_tabs (r : W) (c : BitVec 8) (m : Nat) (hm : m = (r ^^^ ext c).toNat % 256) :
    byteStep r c = (r >>> 8) ^^^ low (m % 16) ^^^ high (m / 16) := by
  have hs := split8 (r ^^^ ext c)
  unfold byteStep
  rw [hs, Tn_xor]
  rw [← hm]
  have hm256 : m < 256 := by rw [hm]; exact Nat.mod_lt _ (by decide)
  rw [tabs ⟨m, hm256⟩]
  have h1 : Tn 8 (((r ^^^ ext c) >>> 8) <<< 8) = r >>> 8 := by
    rw [Tn_shift]
    · apply BitVec.eq_of_getLsbD_eq
      intro i hi
      simp only [BitVec.getLsbD_ushiftRight, BitVec.getLsbD_shiftLeft, BitVec.getLsbD_xor, ext, BitVec.zeroExtend]
      by_cases h : 8 + i < 32
      · simp [h]
      · simp [h, BitVec.getLsbD_of_ge r (8 + i) (by omega)]
    · intro i hi
      rw [BitVec.getLsbD_shiftLeft]; simp [hi]
  rw [h1, BitVec.xor_assoc]

theorem ext_xor (a b : BitVec 8) : ext (a ^^^ b) = ext a ^^^ ext b := by simp [ext, BitVec.zeroExtend]
theorem byteStep_xor (r s : W) (a b : BitVec 8) : byteStep (r ^^^ s) (a ^^^ b) = byteStep r a ^^^ byteStep s b := by
  unfold byteStep
  rw [← Tn_xor, ext_xor]
  congr 1
  simp only [BitVec.xor_assoc]
  rw [xlc s]
theorem run_nil (r : W) : run r [] = r := rfl
theorem run_cons (r : W) (c : BitVec 8) (l : List (BitVec 8)) : run r (c :: l) = run (byteStep r c) l := rfl
theorem run_append (r : W) (a b : List (BitVec 8)) : run r (a ++ b) = run (run r a) b := by simp [run]
theorem run_snoc (r : W) (l : List (BitVec 8)) (c : BitVec 8) : run r (l ++ [c]) = byteStep (run r l) c := by simp [run]
theorem run_xor (r s : W) (a b : List (BitVec 8)) (h : a.length = b.length) : run (r ^^^ s) (List.zipWith (· ^^^ ·) a b) = run r a ^^^ run s b := by
  induction a generalizing r s b with
  | nil => cases b with
    | nil => rfl
    | cons _ _ => simp at h
  | cons x a ih => cases b with
    | nil => simp at h
    | cons y b =>
      simp only [List.zipWith_cons_cons, run_cons]
      rw [byteStep_xor, ih]
      simpa using h

theorem not3 (a b c : W) : ~~~ (a ^^^ b ^^^ c) = ~~~ a ^^^ ~~~ b ^^^ ~~~ c := by
  apply BitVec.eq_of_getLsbD_eq
  intro i hi
  simp only [BitVec.getLsbD_not, BitVec.getLsbD_xor, hi, decide_true, Bool.true_and]
  cases a.getLsbD i <;> cases b.getLsbD i <;> cases c.getLsbD i <;> rfl
/-- P1.1, lists that are added. -/
theorem more_three (a b c : List (BitVec 8)) (h1 : a.length = b.length) (h2 : a.length = c.length) :
    more 0#32 (List.zipWith (· ^^^ ·) (List.zipWith (· ^^^ ·) a b) c) = more 0#32 a ^^^ more 0#32 b ^^^ more 0#32 c := by
  unfold more
  rw [← not3]
  have e : ~~~ (0#32) = (~~~ (0#32) ^^^ ~~~ (0#32)) ^^^ ~~~ (0#32) := by decide
  conv => lhs; rw [e]
  rw [run_xor _ _ _ _ (by simp; omega), run_xor _ _ _ _ h1]

/-- Bit by bit. -/
def bitW (b : Bool) : W := if b then 1#32 else 0#32
def feed (r : W) : List Bool → W
  | [] => r
  | b :: l => feed (T (r ^^^ bitW b)) l
def byteBits (c : BitVec 8) : List Bool := [c.getLsbD 0, c.getLsbD 1, c.getLsbD 2, c.getLsbD 3, c.getLsbD 4, c.getLsbD 5, c.getLsbD 6, c.getLsbD 7]
def bitsOf (l : List (BitVec 8)) : List Bool := l.flatMap byteBits
theorem feed_append (r : W) (a b : List Bool) : feed r (a ++ b) = feed (feed r a) b := by
  induction a generalizing r with
  | nil => rfl
  | cons x a ih => simp only [List.cons_append, feed, ih]
def val : List Bool → Nat
  | [] => 0
  | b :: l => b.toNat + 2 * val l
theorem val_lt (l : List Bool) : val l < 2 ^ l.length := by
  induction l with
  | nil => simp [val]
  | cons b l ih =>
    simp only [val, List.length_cons, Nat.pow_succ]
    cases b <;> simp <;> omega
theorem T_double (v : Nat) (h : v < 2 ^ 31) : T (BitVec.ofNat 32 (2 * v)) = BitVec.ofNat 32 v := by
  have hb : bit0 (BitVec.ofNat 32 (2 * v)) = false := by
    unfold bit0
    rw [BitVec.getLsbD_ofNat]; simp
  unfold T
  rw [hb]
  apply BitVec.eq_of_toNat_eq
  simp [BitVec.toNat_ofNat]
  rw [Nat.mod_eq_of_lt (by omega), Nat.mod_eq_of_lt (by omega), Nat.shiftRight_eq_div_pow]
  omega
theorem ofNat_bit (b : Bool) (v : Nat) : BitVec.ofNat 32 (b.toNat + 2 * v) = bitW b ^^^ BitVec.ofNat 32 (2 * v) := by
  apply BitVec.eq_of_getLsbD_eq
  intro i hi
  cases b
  · simp [bitW]
  · simp only [bitW, if_true, BitVec.getLsbD_xor, BitVec.getLsbD_ofNat, hi, decide_true, Bool.true_and, Bool.toNat_true]
    cases i with
    | zero => simp
    | succ i =>
      have h1 : (1 + 2 * v).testBit (i + 1) = v.testBit i := by rw [Nat.testBit_succ]; congr 1; omega
      have h2 : (2 * v).testBit (i + 1) = v.testBit i := by rw [Nat.testBit_succ]; congr 1; omega
      have h3 : (1 : Nat).testBit (i + 1) = false := by rw [Nat.testBit_succ]; simp
      rw [h1, h2, h3]; simp
/-- Up to 32 bits that are fed are as if they had been laid over the register first. -/
theorem feed_val (l : List Bool) (r : W) (h : l.length ≤ 32) : feed r l = Tn l.length (r ^^^ BitVec.ofNat 32 (val l)) := by
  induction l generalizing r with
  | nil => simp [feed, Tn, val]
  | cons b l ih =>
    simp only [List.length_cons] at h
    have hv : val l < 2 ^ 31 := Nat.lt_of_lt_of_le (val_lt l) (Nat.pow_le_pow_right (by decide) (by omega))
    rw [feed, ih _ (by omega), List.length_cons, Tn, val, ofNat_bit, ← BitVec.xor_assoc, T_xor (r ^^^ bitW b), T_double _ hv]
theorem val_byteBits : ∀ c : BitVec 8, BitVec.ofNat 32 (val (byteBits c)) = ext c := by decide +kernel
theorem feed_byte (r : W) (c : BitVec 8) : feed r (byteBits c) = byteStep r c := by
  rw [feed_val _ _ (by simp [byteBits]), val_byteBits]; rfl
theorem run_feed (r : W) (l : List (BitVec 8)) : run r l = feed r (bitsOf l) := by
  induction l generalizing r with
  | nil => rfl
  | cons c l ih => rw [run_cons, ih, show bitsOf (c :: l) = byteBits c ++ bitsOf l from rfl, feed_append, feed_byte]
theorem bitW_xor (a b : Bool) : bitW (a ^^ b) = bitW a ^^^ bitW b := by cases a <;> cases b <;> decide
theorem feed_xor (r s : W) (a b : List Bool) (h : a.length = b.length) : feed (r ^^^ s) (List.zipWith (· ^^ ·) a b) = feed r a ^^^ feed s b := by
  induction a generalizing r s b with
  | nil => cases b with
    | nil => rfl
    | cons _ _ => simp at h
  | cons x a ih => cases b with
    | nil => simp at h
    | cons y b =>
      simp only [List.zipWith_cons_cons, feed]
      rw [bitW_xor, ← ih _ _ _ (by simpa using h), ← T_xor]
      congr 2
      simp only [BitVec.xor_assoc]
      rw [xlc s]
theorem feed_false (n : Nat) (r : W) : feed r (List.replicate n false) = Tn n r := by
  induction n generalizing r with
  | zero => rfl
  | succ n ih => rw [List.replicate_succ, feed, ih, Tn]; simp [bitW]
theorem val_zero (l : List Bool) (h : val l = 0) : l = List.replicate l.length false := by
  induction l with
  | nil => rfl
  | cons b l ih =>
    simp only [val] at h
    cases b
    · rw [List.length_cons, List.replicate_succ, ← ih (by simp at h; omega)]
    · simp at h
/-- Bits within 32 in a row that are fed into a register of noughts leave noughts only if they are all 0. -/
theorem feed_burst (p q : Nat) (w : List Bool) (hw : w.length ≤ 32) (h : feed 0#32 (List.replicate p false ++ w ++ List.replicate q false) = 0#32) : w = List.replicate w.length false := by
  rw [feed_append, feed_append, feed_false, feed_false, Tn_zero] at h
  have h1 := Tn_inj0 _ _ h
  rw [feed_val _ _ hw] at h1
  have h2 := Tn_inj0 _ _ h1
  apply val_zero
  have h3 : BitVec.ofNat 32 (val w) = 0#32 := by simpa using h2
  have h4 := congrArg BitVec.toNat h3
  have h5 : val w < 2 ^ 32 := Nat.lt_of_lt_of_le (val_lt w) (Nat.pow_le_pow_right (by decide) hw)
  simp [BitVec.toNat_ofNat] at h4
  omega
end Crc
namespace Crc

/-- The first k terms of a times b, as polynomials: the coefficient of x^i stands in bit 31 - i. -/
def opn : Nat → W → W → W
  | 0, _, _ => 0#32
  | k + 1, a, b => opn k a b ^^^ (if a.getLsbD (31 - k) then Tn k b else 0#32)
def mul (a b : W) : W := opn 32 a b
def e0 : W := 0x80000000#32

theorem opn_xor_right (k : Nat) (a b c : W) : opn k a (b ^^^ c) = opn k a b ^^^ opn k a c := by
  induction k with
  | zero => simp [opn]
  | succ k ih =>
    simp only [opn, ih, Tn_xor]
    cases a.getLsbD (31 - k)
    · simp
    · simp only [if_true, BitVec.xor_assoc]; congr 1; rw [xlc]
theorem opn_xor_left (k : Nat) (a b c : W) : opn k (a ^^^ b) c = opn k a c ^^^ opn k b c := by
  induction k with
  | zero => simp [opn]
  | succ k ih =>
    simp only [opn, ih, BitVec.getLsbD_xor]
    cases a.getLsbD (31 - k) <;> cases b.getLsbD (31 - k) <;> simp [BitVec.xor_assoc]
    · rw [BitVec.xor_comm (opn k b c)]
    · rw [xlc (Tn k c), BitVec.xor_comm (Tn k c)]; simp
theorem T_Tn (k : Nat) (b : W) : Tn k (T b) = T (Tn k b) := Tn_succ' k b
theorem opn_T (k : Nat) (a b : W) : opn k a (T b) = T (opn k a b) := by
  induction k with
  | zero => simp [opn, T_zero]
  | succ k ih =>
    simp only [opn, ih, T_xor, T_Tn]
    cases a.getLsbD (31 - k) <;> simp [T_zero]
theorem opn_Tn (n k : Nat) (a b : W) : opn k a (Tn n b) = Tn n (opn k a b) := by
  induction n generalizing b with
  | zero => rfl
  | succ n ih => rw [Tn, ih, opn_T, Tn]
theorem opn_zero (k : Nat) (a : W) : opn k a 0#32 = 0#32 := by
  induction k with
  | zero => rfl
  | succ k ih => simp [opn, ih, Tn_zero]
theorem opn_swap (j k : Nat) (a b c : W) : opn j a (opn k b c) = opn k b (opn j a c) := by
  induction k with
  | zero => simp [opn, opn_zero]
  | succ k ih =>
    simp only [opn, opn_xor_right, ih]
    cases b.getLsbD (31 - k) <;> simp [opn_zero, opn_Tn]
theorem mul_swap (a b c : W) : mul a (mul b c) = mul b (mul a c) := opn_swap _ _ _ _ _

theorem Tn_e0 : ∀ i : Fin 32, Tn i.val e0 = 1#32 <<< (31 - i.val) := by decide +kernel
theorem opn_e0_bit (k : Nat) (hk : k ≤ 32) (b : W) (i : Nat) (hi : i < 32) : (opn k b e0).getLsbD i = (b.getLsbD i && decide (32 ≤ i + k)) := by
  induction k with
  | zero => simp [opn]; intro _; omega
  | succ k ih =>
    rw [opn, BitVec.getLsbD_xor, ih (by omega), Tn_e0 ⟨k, by omega⟩]
    have h1 : (if b.getLsbD (31 - k) = true then (1#32 <<< (31 - k) : W) else 0#32).getLsbD i = (b.getLsbD i && decide (i = 31 - k)) := by
      by_cases he : i = 31 - k
      · subst he
        cases hb : b.getLsbD (31 - k)
        · simp
        · simp [BitVec.getLsbD_shiftLeft]; omega
      · simp only [he, decide_false, Bool.and_false]
        cases b.getLsbD (31 - k)
        · simp
        · simp [BitVec.getLsbD_shiftLeft, BitVec.getLsbD_one]; omega
    simp only at h1 ⊢
    rw [h1]
    by_cases he : i = 31 - k
    · have : 32 ≤ i + (k + 1) := by omega
      have h2 : ¬ 32 ≤ i + k := by omega
      simp [he, show ¬ 32 ≤ 31 - k + k by omega, show 32 ≤ 31 - k + (k + 1) by omega]
    · have : (32 ≤ i + (k + 1)) ↔ (32 ≤ i + k) := by omega
      simp [he, this]
theorem mul_e0 (b : W) : mul b e0 = b := by
  apply BitVec.eq_of_getLsbD_eq
  intro i hi
  rw [mul, opn_e0_bit 32 (by omega) b i hi]
  simp
theorem mul_comm (a b : W) : mul a b = mul b a := by
  have h : mul a (mul b e0) = mul b (mul a e0) := mul_swap a b e0
  rw [mul_e0, mul_e0] at h
  exact h
theorem mul_xor_right (a b c : W) : mul a (b ^^^ c) = mul a b ^^^ mul a c := opn_xor_right _ _ _ _
theorem mul_xor_left (a b c : W) : mul (a ^^^ b) c = mul a c ^^^ mul b c := opn_xor_left _ _ _ _
theorem mul_T_right (a b : W) : mul a (T b) = T (mul a b) := opn_T _ _ _
theorem mul_T_left (a b : W) : mul (T a) b = T (mul a b) := by
  rw [mul_comm, mul_T_right, mul_comm]
theorem mul_Tn_left (n : Nat) (a b : W) : mul (Tn n a) b = Tn n (mul a b) := by
  induction n generalizing a with
  | zero => rfl
  | succ n ih => rw [Tn, ih, mul_T_left, Tn]
theorem mul_zero_left (c : W) : mul 0#32 c = 0#32 := by rw [mul_comm]; exact opn_zero _ _
theorem mul_opn (k : Nat) (a b c : W) : mul (opn k a b) c = opn k a (mul b c) := by
  induction k with
  | zero => simp [opn, mul_zero_left]
  | succ k ih =>
    simp only [opn, mul_xor_left, ih]
    cases a.getLsbD (31 - k) <;> simp [mul_zero_left, mul_Tn_left]
theorem mul_assoc (a b c : W) : mul (mul a b) c = mul a (mul b c) := mul_opn 32 a b c

/-- x^8, squared k times. -/
def pow8 : Nat → W
  | 0 => 0x800000#32
  | k + 1 => mul (pow8 k) (pow8 k)
theorem mul_pow8 (k : Nat) (b : W) : mul (pow8 k) b = Tn (8 * 2 ^ k) b := by
  induction k generalizing b with
  | zero =>
    have h : pow8 0 = Tn 8 e0 := by decide +kernel
    rw [h, mul_Tn_left, mul_comm, mul_e0]
  | succ k ih => rw [pow8, mul_assoc, ih, ih, ← Tn_add]; congr 1; rw [Nat.pow_succ]; omega

/-- What a walk over the bits of n makes of a sum: the bits below place have been taken. -/
def pastTo (s : W) (n : Nat) : Nat → W
  | 0 => s
  | k + 1 => if n.testBit k then mul (pastTo s n k) (pow8 k) else pastTo s n k
theorem mod_succ (n k : Nat) : n % 2 ^ (k + 1) = n % 2 ^ k + (if n.testBit k then 2 ^ k else 0) := by
  rw [Nat.mod_pow_succ, Nat.testBit_eq_decide_div_mod_eq]
  have h := Nat.mod_two_eq_zero_or_one (n / 2 ^ k)
  rcases h with h | h <;> simp [h]
theorem pastTo_eq (s : W) (n k : Nat) : pastTo s n k = Tn (8 * (n % 2 ^ k)) s := by
  induction k with
  | zero => simp [pastTo, Tn, Nat.mod_one]
  | succ k ih =>
    rw [pastTo, mod_succ]
    cases n.testBit k
    · simp [ih]
    · simp only [if_true]
      rw [ih, mul_comm, mul_pow8, ← Tn_add]
      congr 1; omega
def past (s : W) (n : Nat) : W := Tn (8 * n) s
theorem pastTo_end (s : W) (n k : Nat) (h : n < 2 ^ k) : pastTo s n k = past s n := by
  rw [pastTo_eq, Nat.mod_eq_of_lt h, past]

theorem opn_end (a b : W) (k j : Nat) (h : ∀ i, k ≤ i → i < 32 → a.getLsbD (31 - i) = false) (hj : k + j ≤ 32) : opn (k + j) a b = opn k a b := by
  induction j with
  | zero => rfl
  | succ j ih => rw [← Nat.add_assoc, opn, ih (by omega), h (k + j) (by omega) (by omega)]; simp

/-- A piece behind a register: what the register becomes by noughts, and the piece behind noughts. -/
theorem run_split (r : W) (l : List (BitVec 8)) : run r l = Tn (8 * l.length) r ^^^ run 0#32 l := by
  induction l generalizing r with
  | nil => simp [run, Tn]
  | cons c l ih =>
    have hb : byteStep r c = Tn 8 r ^^^ byteStep 0#32 c := by simp [byteStep, Tn_xor]
    have h0 : run 0#32 (c :: l) = Tn (8 * l.length) (byteStep 0#32 c) ^^^ run 0#32 l := by rw [run_cons, ih]
    have hl : 8 * (c :: l).length = 8 + 8 * l.length := by simp; omega
    rw [run_cons, ih, hb, h0, Tn_xor, hl, Tn_add, BitVec.xor_assoc]
theorem not_eq (a : W) : ~~~ a = ~~~ 0#32 ^^^ a := by
  apply BitVec.eq_of_getLsbD_eq
  intro i hi
  simp only [BitVec.getLsbD_not, BitVec.getLsbD_xor, hi, decide_true, Bool.true_and]
  simp
theorem more_append (s : W) (a b : List (BitVec 8)) : more s (a ++ b) = more (more s a) b := by
  simp [more, run_append]
/-- P1.2: joined sums. -/
theorem join_sums (s : W) (b : List (BitVec 8)) : past s b.length ^^^ more 0#32 b = more s b := by
  unfold more past
  rw [run_split (~~~ s), run_split (~~~ 0#32), not_eq s, Tn_xor]
  rw [not_eq (Tn _ _ ^^^ _), not_eq (Tn _ _ ^^^ _ ^^^ _)]
  generalize Tn (8 * b.length) (~~~ 0#32) = x
  generalize Tn (8 * b.length) s = y
  generalize run 0#32 b = z
  generalize ~~~ (0#32 : W) = o
  simp only [BitVec.xor_assoc]
  rw [xlc y o, xlc y x]
theorem past_past (s : W) (n m : Nat) : past (past s n) m = past s (n + m) := by
  unfold past; rw [← Tn_add]; congr 1; omega
theorem past_xor (a b : W) (n : Nat) : past (a ^^^ b) n = past a n ^^^ past b n := Tn_xor _ _ _

/-- A linear map by its columns. -/
def cols (f : W → W) (v : W) : Nat → W
  | 0 => 0#32
  | k + 1 => cols f v k ^^^ (if v.getLsbD k then f (1#32 <<< k) else 0#32)
theorem cols_eq (f : W → W) (hx : ∀ a b, f (a ^^^ b) = f a ^^^ f b) (h0 : f 0#32 = 0#32) (v : W) (k : Nat) (hk : k ≤ 32) : cols f v k = f (BitVec.ofNat 32 (v.toNat % 2 ^ k)) := by
  induction k with
  | zero => simp [cols, Nat.mod_one, h0]
  | succ k ih =>
    rw [cols, ih (by omega)]
    have e : BitVec.ofNat 32 (v.toNat % 2 ^ (k + 1)) = BitVec.ofNat 32 (v.toNat % 2 ^ k) ^^^ (if v.getLsbD k then 1#32 <<< k else 0#32) := by
      apply BitVec.eq_of_getLsbD_eq
      intro i hi
      rw [BitVec.getLsbD_xor, BitVec.getLsbD_ofNat, BitVec.getLsbD_ofNat, Nat.testBit_mod_two_pow, Nat.testBit_mod_two_pow]
      have hv : v.toNat.testBit i = v.getLsbD i := rfl
      rw [hv]
      by_cases he : i = k
      · subst he
        cases hb : v.getLsbD i
        · simp
        · simp [hi]
      · have h1 : (if v.getLsbD k = true then (1#32 <<< k : W) else 0#32).getLsbD i = false := by
          cases v.getLsbD k
          · simp
          · simp [BitVec.getLsbD_shiftLeft, BitVec.getLsbD_one]; omega
        rw [h1]
        have : (i < k + 1) ↔ (i < k) := by omega
        simp [this]
    rw [e, hx]
    cases v.getLsbD k <;> simp [h0]
theorem cols_all (f : W → W) (hx : ∀ a b, f (a ^^^ b) = f a ^^^ f b) (h0 : f 0#32 = 0#32) (v : W) : cols f v 32 = f v := by
  rw [cols_eq f hx h0 v 32 (by omega)]
  congr 1
  apply BitVec.eq_of_toNat_eq
  have := v.isLt
  simp [Nat.mod_eq_of_lt this]
end Crc
