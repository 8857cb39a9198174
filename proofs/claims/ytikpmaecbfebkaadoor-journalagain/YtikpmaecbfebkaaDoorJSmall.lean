/- Package journal: numbers as bytes, put and get. -/
import Derived.Test.YtikpmaecbfebkaaDoorDSync
import Derived.Test.YtikpmaecbfebkaaDoorLent
namespace Go.Proofs.YtikpmaecbfebkaaDoor
open Go.RowKit
set_option linter.unusedVariables false

/-- The number that bytes are, the lowest one first; and back. -/
def le (l : List (BitVec 8)) : Nat := l.foldr (fun c n => c.toNat + 256 * n) 0
def leB (k n : Nat) : List (BitVec 8) := (List.range k).map fun i => BitVec.ofNat 8 (n / 256 ^ i)
theorem le_cons (c : BitVec 8) (l : List (BitVec 8)) : le (c :: l) = c.toNat + 256 * le l := rfl
theorem le_append : ∀ (a b : List (BitVec 8)), le (a ++ b) = le a + 256 ^ a.length * le b
  | [], b => by simp [le]
  | c :: a, b => by
    rw [List.cons_append, le_cons, le_cons, le_append a b, List.length_cons, Nat.pow_succ, Nat.mul_add, Nat.add_assoc]
    congr 2
    rw [← Nat.mul_assoc, Nat.mul_comm 256]
theorem le_lt : ∀ (l : List (BitVec 8)), le l < 256 ^ l.length
  | [] => by simp [le]
  | c :: l => by
    have h1 := le_lt l
    have h2 := c.isLt
    rw [le_cons, List.length_cons, Nat.pow_succ]
    omega
theorem leB_length (k n : Nat) : (leB k n).length = k := by simp [leB]
theorem leB_succ (k n : Nat) : leB (k + 1) n = leB k n ++ [BitVec.ofNat 8 (n / 256 ^ k)] := by simp [leB, List.range_succ]
theorem le_leB : ∀ (k n : Nat), le (leB k n) = n % 256 ^ k
  | 0, n => by simp [leB, le, Nat.mod_one]
  | k + 1, n => by
    rw [leB_succ, le_append, leB_length, le_leB k n]
    have e : le [BitVec.ofNat 8 (n / 256 ^ k)] = n / 256 ^ k % 256 := by simp [le]
    rw [e, Nat.mod_pow_succ]
theorem leB_at (k n i : Nat) (h : i < k) : (leB k n).getD i 0#8 = BitVec.ofNat 8 (n / 256 ^ i) := by simp [leB, h]
theorem le_take (l : List (BitVec 8)) (k : Nat) (h : k < l.length) : le (l.take (k + 1)) = le (l.take k) + (l.getD k 0#8).toNat * 256 ^ k := by
  rw [List.take_succ_eq_append_getElem h, le_append]
  have e : le [l[k]] = (l.getD k 0#8).toNat := by simp [le, h]
  rw [e, List.length_take, Nat.min_eq_left (by omega), Nat.mul_comm]
theorem place8 (k : Nat) : (2 : Int) ^ (8 * k) = ((256 ^ k : Nat) : Int) := by
  rw [Int.pow_mul, Int.natCast_pow]; rfl
theorem or_byte (acc k x : Nat) (ha : acc < 256 ^ k) (hx : x < 256) (hk : k ≤ 7) (p : Int) (hp : p = ((256 ^ k : Nat) : Int)) : bits BinOp.or IntKind.u64 (acc : Int) (IntKind.u64.wrap (IntKind.u64.wrap (x : Int) * p)) = ((acc + x * 256 ^ k : Nat) : Int) := by
  subst hp
  have h7 : 256 ^ k ≤ 256 ^ 7 := Nat.pow_le_pow_right (by omega) hk
  have hxk : x * 256 ^ k ≤ 255 * 256 ^ 7 := Nat.mul_le_mul (by omega) h7
  have e1 : IntKind.u64.wrap (x : Int) = (x : Int) := by rw [IntKind.wrap_u64]; omega
  have e2 : (x : Int) * ((256 ^ k : Nat) : Int) = ((x * 256 ^ k : Nat) : Int) := (Int.natCast_mul _ _).symm
  have e3 : IntKind.u64.wrap ((x * 256 ^ k : Nat) : Int) = ((x * 256 ^ k : Nat) : Int) := by rw [IntKind.wrap_u64]; omega
  rw [e1, e2, e3, u64_or_nat _ _ (by omega) (by omega)]
  congr 1
  have e4 : 256 ^ k = 2 ^ (8 * k) := by rw [Nat.pow_mul]
  rw [Nat.or_comm, e4, Nat.mul_comm x, ← Nat.two_pow_add_eq_or_of_lt (by rw [← e4]; exact ha)]
  omega
set_option maxRecDepth 100000 in
set_option maxHeartbeats 1600000 in
theorem get_any (a : Option Addr) (len cap : Nat) (l : List (BitVec 8)) (w : World) (h : Seen w a len l) (h8 : l.length ≤ 8) : Calls Tryd.prog 83 #[.slice a len cap] w fun e w' => e = .returned (.int .u64 (le l : Nat)) ∧ w' = w := by
  obtain rfl : len = l.length := h.1
  have HS : Hid (Seen w a l.length l) := h
  have H8 : Hid (l.length ≤ 8) := h8
  obtain ⟨L, eL⟩ : ∃ L, l.length = L := ⟨_, rfl⟩
  have EL : Hid (l.length = L) := eL
  rw [eL]
  clear h h8 eL
  go_enter Tryd.func83, Tryd.ntmps83
  go_wp2_with fail
  go_loopw [3, 8] (fun n i wr => ∃ k : Nat, i = .int .i64 k ∧ n = .int .u64 (le (l.take k) : Nat) ∧ Hid (k ≤ L) ∧ wr = w) (fun _ i _ => L - (intOf i).toNat)
  case atStart => exact ⟨0, rfl, rfl, Nat.zero_le _, rfl⟩
  case round =>
    obtain ⟨k, rfl, rfl, hk, rfl⟩ := hrel
    by_cases hlt : k < L
    · have hkl : k < l.length := by rw [EL.out]; exact hlt
      obtain ⟨ga, off, rfl, hc⟩ : ∃ ga off, a = some ⟨ga, off, none⟩ ∧ ∀ j, j < l.length → wr.cell? ⟨ga, off + j, none⟩ = some (.int .u8 (V (l.getD j 0#8))) := by
        rcases HS.out.2.2 with e | e
        · omega
        · exact e
      have ck := hc k hkl
      have st := le_take l k hkl
      have lt := le_lt (l.take k)
      rw [List.length_take, Nat.min_eq_left (by omega)] at lt
      obtain ⟨c, ec⟩ : ∃ c, l.getD k 0#8 = c := ⟨_, rfl⟩
      rw [ec] at ck st
      have e1 : Hid (∀ p, p = ((256 ^ k : Nat) : Int) → bits BinOp.or IntKind.u64 ((le (l.take k) : Nat) : Int) (IntKind.u64.wrap (IntKind.u64.wrap (V c) * p)) = ((le (l.take (k + 1)) : Nat) : Int)) := fun p hp => by
        rw [st]
        exact or_byte _ k c.toNat lt c.isLt (by have := H8.out; have := EL.out; omega) p hp
      obtain ⟨A, eA⟩ : ∃ A, le (l.take k) = A := ⟨_, rfl⟩
      rw [eA] at e1
      rw [eA]
      have h1 : (k : Int) < (L : Int) := by omega
      have h7 : (k : Int) < 8 := by have := H8.out; have := EL.out; omega
      have h64 : ¬ (64 : Int) ≤ 8 * (k : Int) := by omega
      have h0 : ¬ 8 * (k : Int) < 0 := by omega
      have tn : (8 * (k : Int)).toNat = 8 * k := by omega
      have w8 : IntKind.i64.wrap (8 * (k : Int)) = 8 * (k : Int) := by rw [IntKind.wrap_i64]; omega
      have WK : Hid ((k : Int) + 1 = ((k + 1 : Nat) : Int)) := by show (k : Int) + 1 = ((k + 1 : Nat) : Int); omega
      have HLT : Hid (k < L) := hlt
      clear hlt hkl hc st lt ec eA hk HS
      go_wp2
      rw [WK.out]
      go_roundw
      case rel => exact ⟨k + 1, rfl, by rw [e1.out _ (place8 k)], HLT.out, trivial⟩
      case measure => exact less_by HLT.out
    · have h1 : ¬ (k : Int) < (L : Int) := by omega
      have E : Hid (l.take k = l) := List.take_of_length_le (by rw [EL.out]; omega)
      clear hlt hk
      go_wp2
      go_ret
      rw [E.out]
      exact ⟨rfl, rfl⟩
/-- Bytes from a place on are others. -/
def over (R : List (BitVec 8)) (off : Nat) (p : List (BitVec 8)) : List (BitVec 8) := R.take off ++ p ++ R.drop (off + p.length)
theorem over_length {R p : List (BitVec 8)} {off : Nat} (h : off + p.length ≤ R.length) : (over R off p).length = R.length := by simp [over]; omega
theorem over_at {R p : List (BitVec 8)} {off : Nat} (h : off + p.length ≤ R.length) (q : Nat) : (over R off p)[q]? = if q < off then R[q]? else if q < off + p.length then p[q - off]? else R[q]? := by
  unfold over
  have e : (R.take off).length = off := by simp; omega
  by_cases h1 : q < off
  · rw [if_pos h1, List.append_assoc, List.getElem?_append_left (by omega), List.getElem?_take, if_pos h1]
  · rw [if_neg h1]
    by_cases h2 : q < off + p.length
    · rw [if_pos h2, List.append_assoc, List.getElem?_append_right (by omega), e, List.getElem?_append_left (by omega)]
    · rw [if_neg h2, List.getElem?_append_right (by simp; omega), List.getElem?_drop]
      congr 1
      simp
      omega
theorem over_step {R : List (BitVec 8)} {off k K n : Nat} (hk : k < K) (h : off + K ≤ R.length) : (over R off (leB k n)).set (off + k) (BitVec.ofNat 8 (n / 256 ^ k)) = over R off (leB (k + 1) n) := by
  refine List.ext_getElem? fun q => ?_
  rw [List.getElem?_set, over_at (by rw [leB_length]; omega), over_at (by rw [leB_length]; omega), over_length (by rw [leB_length]; omega), leB_length, leB_length, leB_succ]
  by_cases h1 : off + k = q
  · rw [if_pos h1, if_pos (by omega), if_neg (by omega), if_pos (by omega), List.getElem?_append_right (by rw [leB_length]; omega), leB_length]
    simp [show q - off - k = 0 by omega]
  · rw [if_neg h1]
    by_cases h2 : q < off
    · rw [if_pos h2, if_pos h2]
    · rw [if_neg h2, if_neg h2]
      by_cases h3 : q < off + k
      · rw [if_pos h3, if_pos (by omega), List.getElem?_append_left (by rw [leB_length]; omega)]
      · rw [if_neg h3, if_neg (by omega)]
theorem over_zero (R : List (BitVec 8)) (off n : Nat) : over R off (leB 0 n) = R := by simp [over, leB]
theorem Just.set (g i : Nat) (w : World) (v : Value) : Just g w (w.setCell ⟨g, i, none⟩ v) := ⟨rfl, rfl, rfl, by simp, fun k hk => Below.heap_setCell _ _ _ k (fun e => hk (by simpa using e))⟩
theorem Just.trans {g : Nat} {a b c : World} (h : Just g a b) (k : Just g b c) : Just g a c := ⟨k.os.trans h.os, k.tape.trans h.tape, k.output.trans h.output, k.size.trans h.size, fun j hj => (k.block j hj).trans (h.block j hj)⟩
theorem wrap_byte (n k : Nat) (hn : n < 18446744073709551616) : IntKind.u8.wrap ((n : Int) / ((256 ^ k : Nat) : Int)) = V (BitVec.ofNat 8 (n / 256 ^ k)) := by
  have e : (n : Int) / ((256 ^ k : Nat) : Int) = ((n / 256 ^ k : Nat) : Int) := by rw [Int.natCast_ediv]
  unfold V
  rw [e, IntKind.wrap_u8, BitVec.toNat_ofNat]
  omega
set_option maxRecDepth 100000 in
set_option maxHeartbeats 1600000 in
theorem put_any (base g L c off K cap n : Nat) (R : List (BitVec 8)) (w : World) (h : w.ownsRow base 5 1 (.slice (some ⟨g, 0, none⟩) L c) L (cellsOf R)) (hK : K ≤ 8) (ho : off + K ≤ L) (hL : L ≤ 1000000) (hn : n < 18446744073709551616) :
    Calls Tryd.prog 70 #[.slice (some ⟨g, off, none⟩) K cap, .int .u64 n] w fun e w' => (∃ u, e = .returned u) ∧ w'.ownsRow base 5 1 (.slice (some ⟨g, 0, none⟩) L c) L (cellsOf (over R off (leB K n))) ∧ Just g w w' := by
  have HO : Hid (w.ownsRow base 5 1 (.slice (some ⟨g, 0, none⟩) L c) L (cellsOf R)) := h
  have HK : Hid (K ≤ 8 ∧ off + K ≤ L ∧ L ≤ 1000000 ∧ n < 18446744073709551616 ∧ R.length = L) := ⟨hK, ho, hL, hn, by have := h.1; rw [cellsOf_length] at this; omega⟩
  clear h hK ho hL hn
  go_enter Tryd.func70, Tryd.ntmps70
  go_wp2_with fail
  go_loopw [7] (fun i wr => ∃ k : Nat, i = .int .i64 k ∧ Hid (k ≤ K) ∧ Hid (wr.ownsRow base 5 1 (.slice (some ⟨g, 0, none⟩) L c) L (cellsOf (over R off (leB k n))) ∧ Just g w wr)) (fun i _ => K - (intOf i).toNat)
  case atStart => exact ⟨0, rfl, Nat.zero_le _, by rw [over_zero]; exact HO.out, Just.refl g w⟩
  case round =>
    obtain ⟨k, rfl, hk, hr⟩ := hrel
    by_cases hlt : k < K
    · have hk1 := HK.out
      have ol : (over R off (leB k n)).length = L := by rw [over_length (by rw [leB_length]; omega)]; exact hk1.2.2.2.2
      have c1 : wr.cell? ⟨g, off + k, none⟩ = some (.int .u8 (V ((over R off (leB k n)).getD (off + k) 0#8))) := by
        rw [hr.out.1.cellAt (off + k) (by omega)]
        simp [cellsOf, ol, show off + k < L by omega]
      have c2 := hr.out.1.frozenAt (off + k)
      have wb := wrap_byte n k hk1.2.2.2.1
      have ST : Hid ((wr.setCell ⟨g, off + k, none⟩ (.int .u8 (V (BitVec.ofNat 8 (n / 256 ^ k))))).ownsRow base 5 1 (.slice (some ⟨g, 0, none⟩) L c) L (cellsOf (over R off (leB (k + 1) n))) ∧ Just g w (wr.setCell ⟨g, off + k, none⟩ (.int .u8 (V (BitVec.ofNat 8 (n / 256 ^ k)))))) := by
        refine ⟨?_, hr.out.2.trans (Just.set g (off + k) wr _)⟩
        rw [← over_step hlt (by omega), ← cellsOf_set]
        exact (hr.out.1.stored (off + k) _).1
      obtain ⟨x2, e2⟩ : ∃ x, V ((over R off (leB k n)).getD (off + k) 0#8) = x := ⟨_, rfl⟩
      obtain ⟨x1, e1⟩ : ∃ x, V (BitVec.ofNat 8 (n / 256 ^ k)) = x := ⟨_, rfl⟩
      rw [e2] at c1
      rw [e1] at ST wb
      rw [← place8 k] at wb
      have h1 : (k : Int) < (K : Int) := by omega
      have h7 : (k : Int) < 8 := by omega
      have h64 : ¬ (64 : Int) ≤ 8 * (k : Int) := by omega
      have h0 : ¬ 8 * (k : Int) < 0 := by omega
      have tn : (8 * (k : Int)).toNat = 8 * k := by omega
      have w8 : IntKind.i64.wrap (8 * (k : Int)) = 8 * (k : Int) := by rw [IntKind.wrap_i64]; omega
      have WK : Hid ((k : Int) + 1 = ((k + 1 : Nat) : Int)) := by show (k : Int) + 1 = ((k + 1 : Nat) : Int); omega
      have HLT : Hid (k < K) := hlt
      clear hlt hk hr ol hk1 e1 e2
      go_wp2
      rw [WK.out]
      go_roundw
      case rel => exact ⟨k + 1, rfl, HLT.out, ST.out⟩
      case measure => exact less_by HLT.out
    · obtain rfl : k = K := by have := hk.out; omega
      have h1 : ¬ (k : Int) < (k : Int) := by omega
      clear hlt hk
      go_wp2
      refine bodyPost_end (results_none rfl _ _ _) rfl ⟨⟨_, rfl⟩, hr.out⟩
end Go.Proofs.YtikpmaecbfebkaaDoor
