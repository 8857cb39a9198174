/- The codec's plain functions: a number's bytes, and what reading them gives. No program here. -/
import Derived.Test.YtcmhkeaimgppgaaGaA
import Derived.Test.YtcmhkeaimgppgaaGaB
import Derived.Lib.AppendStr
import Derived.Lib.ConvBytes
import Derived.Laws.OwnMore
import Derived.Scope
import Derived.Laws.ResultCell
import Derived.Laws.Rows
import Derived.Deep.AppendLies
import Derived.Maps.AppendAt
namespace Go.Proofs.Ytcmhkeaimgppgaa
namespace Cod

/-- A number as bytes. -/
def enc (n : Nat) : List (BitVec 8) := if h : n < 128 then [BitVec.ofNat 8 n] else BitVec.ofNat 8 (n % 128 + 128) :: enc (n / 128)
termination_by n
decreasing_by omega
theorem enc_low {n : Nat} (h : n < 128) : enc n = [BitVec.ofNat 8 n] := by rw [enc, dif_pos h]
theorem enc_high {n : Nat} (h : ¬ n < 128) : enc n = BitVec.ofNat 8 (n % 128 + 128) :: enc (n / 128) := by rw [enc, dif_neg h]
theorem enc_pos (n : Nat) : 0 < (enc n).length := by
  by_cases h : n < 128
  · rw [enc_low h]; simp
  · rw [enc_high h]; simp
theorem enc_length_le : ∀ (k n : Nat), n < 128 ^ (k + 1) → (enc n).length ≤ k + 1
  | 0, n, h => by rw [enc_low (by simpa using h)]; simp
  | k + 1, n, h => by
    by_cases h1 : n < 128
    · rw [enc_low h1]; simp
    · rw [enc_high h1]
      have : n / 128 < 128 ^ (k + 1) := by rw [Nat.div_lt_iff_lt_mul (by omega)]; rwa [Nat.pow_succ] at h
      have := enc_length_le k _ this
      simp; omega
theorem enc_ten {n : Nat} (h : n < 18446744073709551616) : (enc n).length ≤ 10 := enc_length_le 9 n (by omega)
/-- Reading: what number stands at the head of bytes, how many bytes it has, which error there is. -/
def num (place acc : Nat) : List (BitVec 8) → Nat × Nat × Nat
  | [] => (0, 0, 10)
  | c :: r =>
    if (place = 9 ∧ 1 < c.toNat) ∨ (0 < place ∧ c.toNat = 0) then (0, 0, 11)
    else if c.toNat ≤ 127 then (acc + c.toNat * 128 ^ place, place + 1, 0)
    else num (place + 1) (acc + (c.toNat % 128) * 128 ^ place) r
theorem num_width : ∀ (l : List (BitVec 8)) (p a : Nat), (num p a l).2.1 ≤ p + l.length
  | [], p, a => by simp [num]
  | c :: r, p, a => by
    unfold num
    split
    · simp
    · split
      · simp
      · have := num_width r (p + 1) (a + (c.toNat % 128) * 128 ^ p)
        simp; omega
theorem num_short : ∀ (l : List (BitVec 8)) (p a : Nat), (num p a l).2.2 ≠ 0 → (num p a l).1 = 0 ∧ (num p a l).2.1 = 0
  | [], p, a => by simp [num]
  | c :: r, p, a => by
    unfold num
    split
    · simp
    · split
      · simp
      · exact num_short r _ _
/-- What is written is read, whatever stands behind it. -/
theorem num_enc : ∀ (k n : Nat), k ≤ 9 → n < 128 ^ (9 - k) * 2 → (0 < k → 0 < n) → ∀ (a : Nat) (r : List (BitVec 8)), num k a (enc n ++ r) = (a + n * 128 ^ k, k + (enc n).length, 0) := by
  intro k
  induction hk : 9 - k generalizing k with
  | zero =>
    intro n h1 h2 h3 a r
    obtain rfl : k = 9 := by omega
    have h3' := h3 (by omega)
    have h4 : n = 1 := by simp at h2; omega
    subst h4
    rw [enc_low (by omega)]
    simp [num]
  | succ j ih =>
    intro n h1 h2 h3 a r
    by_cases h : n < 128
    · rw [enc_low h]
      have e1 : (BitVec.ofNat 8 n).toNat = n := by simp; omega
      simp only [List.cons_append, List.nil_append, num, e1]
      rw [if_neg (by omega), if_pos (by omega)]
      simp
    · rw [enc_high h]
      have e1 : (BitVec.ofNat 8 (n % 128 + 128)).toNat = n % 128 + 128 := by simp; omega
      simp only [List.cons_append, num, e1]
      rw [if_neg (by omega), if_neg (by omega)]
      have e2 : (n % 128 + 128) % 128 = n % 128 := by omega
      have hlt : n / 128 < 128 ^ (9 - (k + 1)) * 2 := by
        rw [Nat.div_lt_iff_lt_mul (by omega)]
        have : 9 - k = (9 - (k + 1)) + 1 := by omega
        rw [show j + 1 = (9 - (k + 1)) + 1 by omega, Nat.pow_succ] at h2
        omega
      rw [e2, ih (k + 1) (by omega) (n / 128) (by omega) (by rw [show j = 9 - (k + 1) by omega]; exact hlt) (fun _ => by omega)]
      have e3 : a + n % 128 * 128 ^ k + n / 128 * 128 ^ (k + 1) = a + n * 128 ^ k := by
        rw [Nat.pow_succ, Nat.add_assoc]
        congr 1
        have := Nat.div_add_mod n 128
        rw [show n / 128 * (128 ^ k * 128) = (128 * (n / 128)) * 128 ^ k by rw [Nat.mul_comm (128 ^ k), ← Nat.mul_assoc, Nat.mul_comm (n / 128)], ← Nat.add_mul]
        congr 1
        omega
      rw [e3]
      simp only [List.length_cons]
      congr 2
      omega
theorem num_enc0 {n : Nat} (h : n < 18446744073709551616) (r : List (BitVec 8)) : num 0 0 (enc n ++ r) = (n, (enc n).length, 0) := by
  have := num_enc 0 n (by omega) (by simpa using h) (by omega) 0 r
  simpa using this
/-- Cut short it is told so. -/
theorem num_cut : ∀ (i n k a : Nat), k ≤ 9 → n < 128 ^ (9 - k) * 2 → (0 < k → 0 < n) → i < (enc n).length → num k a ((enc n).take i) = (0, 0, 10)
  | 0, n, k, a, _, _, _, _ => by simp [num]
  | i + 1, n, k, a, h1, h2, h3, hi => by
    by_cases h : n < 128
    · rw [enc_low h] at hi; simp at hi
    · rw [enc_high h] at hi ⊢
      have e1 : (BitVec.ofNat 8 (n % 128 + 128)).toNat = n % 128 + 128 := by simp; omega
      have hk : k ≠ 9 := by
        rintro rfl
        simp at h2; omega
      simp only [List.take_succ_cons, num, e1]
      rw [if_neg (by omega), if_neg (by omega)]
      refine num_cut i (n / 128) (k + 1) _ (by omega) ?_ (fun _ => by omega) (by simpa using hi)
      rw [Nat.div_lt_iff_lt_mul (by omega)]
      have : 9 - k = (9 - (k + 1)) + 1 := by omega
      rw [this, Nat.pow_succ] at h2
      omega
theorem num_cut0 {n i : Nat} (h : n < 18446744073709551616) (hi : i < (enc n).length) : num 0 0 ((enc n).take i) = (0, 0, 10) :=
  num_cut i n 0 0 (by omega) (by simpa using h) (by omega) hi
theorem enc_inj {a b : Nat} (ha : a < 18446744073709551616) (hb : b < 18446744073709551616) (h : enc a = enc b) : a = b := by
  have h1 := num_enc0 ha []
  have h2 := num_enc0 hb []
  rw [h] at h1
  rw [h1] at h2
  exact congrArg Prod.fst h2
theorem enc_mono : ∀ (b a : Nat), a ≤ b → (enc a).length ≤ (enc b).length := by
  intro b
  induction b using Nat.strongRecOn with
  | ind b ih =>
    intro a hab
    by_cases h : a < 128
    · rw [enc_low h]; have := enc_pos b; simp only [List.length_cons, List.length_nil]; omega
    · rw [enc_high h, enc_high (n := b) (by omega)]
      have := ih (b / 128) (by omega) (a / 128) (by omega)
      simp; omega
/-- A signed number as a number. -/
def zig (n : Int) : Nat := if n < 0 then (-2 * n - 1).toNat else (2 * n).toNat
theorem zig_lt (n : Int) (hn : -9223372036854775808 ≤ n ∧ n < 9223372036854775808) : zig n < 18446744073709551616 := by
  unfold zig; split <;> omega
/-- and back -/
def zag (m : Nat) : Int := if m % 2 = 1 then -((m / 2 : Nat) : Int) - 1 else ((m / 2 : Nat) : Int)
theorem zag_zig (n : Int) : zag (zig n) = n := by
  unfold zag zig; split <;> split <;> omega
theorem zig_inj {a b : Int} (h : zig a = zig b) : a = b := by rw [← zag_zig a, h, zag_zig]
end Cod
end Go.Proofs.Ytcmhkeaimgppgaa

namespace Go.Proofs.Ytcmhkeaimgppgaa
open Go.RowKit Cod
set_option linter.unusedVariables false

theorem u8_or_128 (m : Nat) : bits BinOp.or IntKind.u8 ((m : Int) % 256) 128 = V (BitVec.ofNat 8 (m % 128 + 128)) := by
  have h1 : (m : Int) % 256 = ((m % 256 : Nat) : Int) := by omega
  unfold V
  rw [h1, show (128 : Int) = ((128 : Nat) : Int) from rfl, u8_or_nat _ _ (by omega) (by omega)]
  congr 1
  have : ∀ k : Fin 256, k.val ||| 128 = (BitVec.ofNat 8 (k.val % 128 + 128)).toNat := by decide +kernel
  rw [this ⟨m % 256, by omega⟩]
  simp only
  rw [show m % 256 % 128 = m % 128 by omega]
theorem u8_low (m : Nat) (h : m < 128) : (m : Int) % 256 = V (BitVec.ofNat 8 m) := by
  unfold V
  simp
/-- What is not a row of bytes is kept. -/
def KeepT (w w' : World) : Prop := ∀ (K : Nat) (c : Array Value) (t : TypeId) (fr : Nat × Nat), w.heap[K]? = some (Obj.cells c t fr) → t ≠ 5 → w'.heap[K]? = some (Obj.cells c t fr)
theorem KeepT.refl (w : World) : KeepT w w := fun _ _ _ _ h _ => h
theorem KeepT.trans {a b c : World} (h : KeepT a b) (k : KeepT b c) : KeepT a c := fun K x t fr hx ht => k K x t fr (h K x t fr hx ht) ht
theorem KeepT.alloc (w : World) (o : Obj) : KeepT w (w.alloc o) := fun K x t fr hx _ => by rw [Below.heap_alloc w o K (Array.getElem?_eq_some_iff.1 hx).1]; exact hx
theorem KeepT.below {w w' : World} (h : Below w.heap.size w w') : KeepT w w' := fun K x t fr hx _ => by rw [h.block K (Array.getElem?_eq_some_iff.1 hx).1]; exact hx
theorem KeepT.grown {w w' : World} {base n : Nat} {v : Value} {xs : List Value} (ho : w.ownsRow base 5 1 v n xs) (hg : w.grownBy w' v.ownBlock) : KeepT w w' := fun K x t fr hx ht => by
  rw [hg.block K (Array.getElem?_eq_some_iff.1 hx).1 (fun e => ?_)]
  · exact hx
  · rcases ho.2 with ⟨rfl, _⟩ | ⟨g, cap, cur, rfl, _, hgb, _⟩
    · cases e
    · cases e
      rw [hgb] at hx
      cases hx
      exact ht rfl
theorem append_one (w : World) (base : Nat) (v : Value) (n : Nat) (l : List (BitVec 8)) (hown : w.ownsRow base 5 1 v n (cellsOf l)) (c : BitVec 8) (hb : n + 1 ≤ 140737488355328) (hbase : base ≤ w.heap.size) :
    ∃ v' w', (Builtin.append_ #[26, 26] 26 #[v, .slice (some ⟨w.heap.size, 0, none⟩) 1 1]).run Try.prog (w.alloc (.cells #[.int .u8 (V c)] 5)) = .ok v' w' ∧ w'.ownsRow base 5 1 v' (n + 1) (cellsOf (l ++ [c])) ∧ Below base w w' ∧ KeepT w w' := by
  obtain ⟨v', w', hr, h1, h2⟩ := run_append_bytes 26 (w.alloc (.cells #[.int .u8 (V c)] 5)) base v n l (hown.alloc _) (some ⟨w.heap.size, 0, none⟩) 1 1 [c] (seen_new w [c] 5 (0, 0) (by simp [maxLen])) (fun e => by cases e) hb (by simp; omega)
  exact ⟨v', w', hr, h1, ((Below.refl _ w).alloc hbase _).grown h2 (by simp; omega) (fun k e => (hown.lt _ e).1), (KeepT.alloc w _).trans (KeepT.grown (hown.alloc _) h2)⟩

end Go.Proofs.Ytcmhkeaimgppgaa

namespace Go.Proofs.Ytcmhkeaimgppgaa
open Go.RowKit Cod
set_option linter.unusedVariables false

theorem xor_ones (a : Nat) (h : a < 18446744073709551616) : a ^^^ 18446744073709551615 = 18446744073709551615 - a := by
  have h1 : (BitVec.ofNat 64 a ^^^ BitVec.allOnes 64).toNat = 18446744073709551615 - a := by
    rw [BitVec.xor_allOnes, BitVec.toNat_not, BitVec.toNat_ofNat]
    omega
  rw [BitVec.toNat_xor, BitVec.toNat_ofNat, BitVec.toNat_allOnes, Nat.mod_eq_of_lt h] at h1
  exact h1
theorem zig_bits (n : Int) (hn : -9223372036854775808 ≤ n ∧ n < 9223372036854775808) : bits BinOp.xor IntKind.u64 (IntKind.u64.wrap (IntKind.u64.wrap n * 2)) (IntKind.u64.wrap (n / 9223372036854775808)) = ((zig n : Nat) : Int) := by
  simp only [IntKind.wrap_u64]
  by_cases h : n < 0
  · have e1 : n % 18446744073709551616 * 2 % 18446744073709551616 = (((2 * n + 18446744073709551616).toNat : Nat) : Int) := by omega
    have e2 : n / 9223372036854775808 % 18446744073709551616 = ((18446744073709551615 : Nat) : Int) := by omega
    rw [e1, e2, u64_xor_nat _ _ (by omega) (by omega), xor_ones _ (by omega)]
    unfold zig
    rw [if_pos h]
    omega
  · have e1 : n % 18446744073709551616 * 2 % 18446744073709551616 = (((2 * n).toNat : Nat) : Int) := by omega
    have e2 : n / 9223372036854775808 % 18446744073709551616 = ((0 : Nat) : Int) := by omega
    rw [e1, e2, u64_xor_nat _ _ (by omega) (by omega), Nat.xor_zero]
    unfold zig
    rw [if_neg h]
/-- Bytes behind their length. -/
def sz (p : List (BitVec 8)) : List (BitVec 8) := enc p.length ++ p
theorem sz_length_le (p : List (BitVec 8)) (h : p.length < 18446744073709551616) : (sz p).length ≤ p.length + 10 := by
  have := enc_ten h
  simp [sz]; omega
theorem strCells_eq (s : ByteArray) : Lib.strCells s = cellsOf (bytesL s) := by
  simp [Lib.strCells, cellsOf, bytesL, V]
theorem run_append_text (w : World) (base : Nat) (v : Value) (n : Nat) (l : List (BitVec 8)) (hown : w.ownsRow base 5 1 v n (cellsOf l)) (s : ByteArray) (hb : n + s.size ≤ 140737488355328) (hbase : base ≤ w.heap.size) :
    ∃ v' w', (Builtin.append_ #[26, 9] 26 #[v, .string s]).run Try.prog w = .ok v' w' ∧ w'.ownsRow base 5 1 v' (n + s.size) (cellsOf (l ++ bytesL s)) ∧ w.grownBy w' v.ownBlock := by
  obtain ⟨i0, hi, hz0, hz1, hz2⟩ := info_parts info5
  obtain ⟨v', w', hr, h1, h2, _⟩ := Lib.run_append_own_string (P := Try.prog) w base 26 9 26 5 i0 Try.underlying26 Try.underlying9 hi hz0 hz1 hz2 v n (cellsOf l) hown s (by unfold maxLen; omega) hb hbase
  exact ⟨v', w', hr, by rw [cellsOf_append, ← strCells_eq]; exact h1, h2⟩
/-- A truth's byte. -/
def bit8 (b : Bool) : BitVec 8 := if b then 1#8 else 0#8
/-- A sum's bytes. -/
def four (r : Crc.W) : List (BitVec 8) := [BitVec.ofNat 8 r.toNat, BitVec.ofNat 8 (r.toNat / 256), BitVec.ofNat 8 (r.toNat / 65536), BitVec.ofNat 8 (r.toNat / 16777216)]
theorem V_of (n : Nat) : V (BitVec.ofNat 8 n) = ((n : Nat) : Int) % 256 := by unfold V; simp
/-- A frame's bytes. -/
def frame (p : List (BitVec 8)) : List (BitVec 8) := enc p.length ++ four (Crc.more 0#32 p) ++ p
theorem frame_length (p : List (BitVec 8)) : (frame p).length = (enc p.length).length + 4 + p.length := by simp [frame, four]; omega
end Go.Proofs.Ytcmhkeaimgppgaa

namespace Go.Proofs.Ytcmhkeaimgppgaa
open Go.RowKit Cod
set_option linter.unusedVariables false

/-- An operation. -/
structure OpD where
  kind : Int
  src : ByteArray
  dst : ByteArray
  amount : Int
  key : ByteArray
  slot : Int
  shard : Int
def i64ok (n : Int) : Prop := -9223372036854775808 ≤ n ∧ n < 9223372036854775808
structure OpD.ok (o : OpD) : Prop where
  kind : i64ok o.kind
  amount : i64ok o.amount
  slot : i64ok o.slot
  shard : i64ok o.shard
def OpD.val (o : OpD) : Value := .agg #[.int .i64 o.kind, .string o.src, .string o.dst, .int .i64 o.amount, .string o.key, .int .i64 o.slot, .int .i64 o.shard]
def OpD.bytes (o : OpD) : List (BitVec 8) := enc (zig o.kind) ++ sz (bytesL o.src) ++ sz (bytesL o.dst) ++ enc (zig o.amount) ++ sz (bytesL o.key) ++ enc (zig o.slot) ++ enc (zig o.shard)
def OpD.size (o : OpD) : Nat := o.src.size + o.dst.size + o.key.size
theorem sz_le (s : ByteArray) (h : s.size < 18446744073709551616) : (sz (bytesL s)).length ≤ s.size + 10 := by
  have := sz_length_le (bytesL s) (by rw [bytesL_length]; exact h)
  rwa [bytesL_length] at this
theorem owns_mono' {w : World} {base base' : Nat} {e : TypeId} {size : Nat} {v : Value} {n : Nat} {xs : List Value} (h : w.ownsRow base e size v n xs) (hb : base' ≤ base) : w.ownsRow base' e size v n xs :=
  ⟨h.1, h.2.imp id fun ⟨g, cap, cur, e1, e2, e3⟩ => ⟨g, cap, cur, e1, Nat.le_trans hb e2, e3⟩⟩
end Go.Proofs.Ytcmhkeaimgppgaa

namespace Go.Proofs.Ytcmhkeaimgppgaa
open Go.RowKit Cod
set_option linter.unusedVariables false

theorem V_small (m : Nat) (h : m < 256) : V (BitVec.ofNat 8 m) = m := by rw [V_of]; omega
/-- []byte(s) -/
theorem text_bytes (w : World) (s : ByteArray) (hs : s.size ≤ 140737488355328) : ∃ c w', (convert 9 26 (.string s)).run Try.prog w = .ok (.slice (some ⟨w.heap.size, 0, none⟩) s.size c) w' ∧ Below w.heap.size w w' ∧ Seen w' (some ⟨w.heap.size, 0, none⟩) s.size (bytesL s) := by
  exact ⟨_, _, Lib.run_convert_string_bytes w 9 26 5 s Try.underlying9 Try.underlying26 Try.underlying5, below_bytes w s, seen_bytes w s (by unfold maxLen; omega)⟩
end Go.Proofs.Ytcmhkeaimgppgaa

namespace Go.Proofs.Ytcmhkeaimgppgaa
open Go.RowKit Cod
set_option linter.unusedVariables false

/-- What stands ahead of a message's entries. -/
structure HeadD where
  kind : Int
  group : Int
  src : Int
  dst : Int
  term : Int
  index : Int
  logTerm : Int
  commit : Int
  ok : Bool
structure HeadD.fine (h : HeadD) : Prop where
  kind : i64ok h.kind
  group : i64ok h.group
  src : i64ok h.src
  dst : i64ok h.dst
  term : i64ok h.term
  index : i64ok h.index
  logTerm : i64ok h.logTerm
  commit : i64ok h.commit
def HeadD.bytes (h : HeadD) : List (BitVec 8) := enc (zig h.kind) ++ enc (zig h.group) ++ enc (zig h.src) ++ enc (zig h.dst) ++ enc (zig h.term) ++ enc (zig h.index) ++ enc (zig h.logTerm) ++ enc (zig h.commit) ++ [bit8 h.ok]
/-- A message as a value: its head, its entries, its data. -/
def HeadD.val (h : HeadD) (ev dv : Value) : Value := .agg #[.int .i64 h.kind, .int .i64 h.group, .int .i64 h.src, .int .i64 h.dst, .int .i64 h.term, .int .i64 h.index, .int .i64 h.logTerm, .int .i64 h.commit, .bool h.ok, ev, dv]
theorem HeadD.len (h : HeadD) (hf : h.fine) : h.bytes.length ≤ 81 := by
  have e0 := enc_ten (zig_lt h.kind hf.kind)
  have e1 := enc_ten (zig_lt h.group hf.group)
  have e2 := enc_ten (zig_lt h.src hf.src)
  have e3 := enc_ten (zig_lt h.dst hf.dst)
  have e4 := enc_ten (zig_lt h.term hf.term)
  have e5 := enc_ten (zig_lt h.index hf.index)
  have e6 := enc_ten (zig_lt h.logTerm hf.logTerm)
  have e7 := enc_ten (zig_lt h.commit hf.commit)
  simp only [HeadD.bytes, List.length_append, List.length_cons, List.length_nil]
  omega
end Go.Proofs.Ytcmhkeaimgppgaa

namespace Go.Proofs.Ytcmhkeaimgppgaa
open Go.RowKit Cod
set_option linter.unusedVariables false

/-- Rows of an answer in memory. -/
def RowsAt (w : World) (a : Option Addr) (n : Nat) (rows : List (ByteArray × Int)) : Prop :=
  n = rows.length ∧ rows.length ≤ 140737488355328 ∧ (n = 0 ∨ ∃ b off, a = some ⟨b, off, none⟩ ∧ ∀ j (hj : j < rows.length), w.cell? ⟨b, off + j * 2, none⟩ = some (.string rows[j].1) ∧ w.cell? ⟨b, off + j * 2 + 1, none⟩ = some (.int .i64 rows[j].2))
theorem RowsAt.below {w w' : World} {a : Option Addr} {n : Nat} {rows : List (ByteArray × Int)} (h : RowsAt w a n rows) (hb : Below w.heap.size w w') : RowsAt w' a n rows := by
  obtain ⟨h1, h2, h3⟩ := h
  refine ⟨h1, h2, ?_⟩
  rcases h3 with h3 | ⟨b, off, ha, hc⟩
  · exact .inl h3
  · refine .inr ⟨b, off, ha, fun j hj => ?_⟩
    obtain ⟨c1, c2⟩ := hc j hj
    rw [hb.cell (p := ⟨b, off + j * 2, none⟩) (World.block_lt_of_cell? w _ c1), hb.cell (p := ⟨b, off + j * 2 + 1, none⟩) (World.block_lt_of_cell? w _ c2)]
    exact ⟨c1, c2⟩
def rowB (r : ByteArray × Int) : List (BitVec 8) := sz (bytesL r.1) ++ enc (zig r.2)
def rowsB (rows : List (ByteArray × Int)) : List (BitVec 8) := (rows.map rowB).flatten
def rowsSize (rows : List (ByteArray × Int)) : Nat := (rows.map fun r => r.1.size + 20).sum
theorem rowsB_take {rows : List (ByteArray × Int)} {k : Nat} (hk : k < rows.length) : rowsB (rows.take (k + 1)) = rowsB (rows.take k) ++ rowB rows[k] := by
  rw [List.take_add_one, List.getElem?_eq_getElem hk]
  simp only [rowsB, List.map_append, List.flatten_append, Option.toList_some, List.map_cons, List.map_nil, List.flatten_cons, List.flatten_nil, List.append_nil]
theorem rowsSize_take_le (rows : List (ByteArray × Int)) (k : Nat) : rowsSize (rows.take k) ≤ rowsSize rows := by
  have : rowsSize rows = rowsSize (rows.take k) + rowsSize (rows.drop k) := by
    conv => lhs; rw [← List.take_append_drop k rows]
    simp only [rowsSize, List.map_append, List.sum_append]
  omega
theorem rowsSize_succ {rows : List (ByteArray × Int)} {k : Nat} (hk : k < rows.length) : rowsSize (rows.take (k + 1)) = rowsSize (rows.take k) + (rows[k].1.size + 20) := by
  rw [List.take_add_one, List.getElem?_eq_getElem hk]
  simp only [rowsSize, List.map_append, List.sum_append, Option.toList_some, List.map_cons, List.map_nil, List.sum_cons, List.sum_nil, Nat.add_zero]
theorem rowsSize_mem {rows : List (ByteArray × Int)} {r : ByteArray × Int} (h : r ∈ rows) : r.1.size + 20 ≤ rowsSize rows := by
  induction rows with
  | nil => cases h
  | cons x rest ih =>
    simp only [rowsSize, List.map_cons, List.sum_cons] at ih ⊢
    rcases List.mem_cons.1 h with rfl | h
    · omega
    · have := ih h
      omega
theorem rowsB_le : ∀ (rows : List (ByteArray × Int)), (∀ r ∈ rows, i64ok r.2 ∧ r.1.size < 18446744073709551616) → (rowsB rows).length ≤ rowsSize rows
  | [], _ => by simp [rowsB, rowsSize]
  | r :: rest, h => by
    have ih := rowsB_le rest (fun x hx => h x (List.mem_cons_of_mem _ hx))
    have h1 := h r List.mem_cons_self
    have e1 := sz_le r.1 h1.2
    have e2 := enc_ten (zig_lt r.2 h1.1)
    simp only [rowsB, rowsSize, List.map_cons, List.flatten_cons, List.length_append, List.sum_cons, rowB] at ih ⊢
    omega

end Go.Proofs.Ytcmhkeaimgppgaa

namespace Go.Proofs.Ytcmhkeaimgppgaa
open Go.RowKit Cod
set_option linter.unusedVariables false

/-- Bytes in memory, as a value. -/
def BytesV (w : World) (v : Value) (p : List (BitVec 8)) : Prop := ∃ a c, v = .slice a p.length c ∧ Seen w a p.length p ∧ (a = none → c = 0)
/-- Entries of a message in memory. -/
def EntsAt (w : World) (a : Option Addr) (n : Nat) (ents : List (Int × List (BitVec 8))) : Prop :=
  n = ents.length ∧ (n = 0 ∨ ∃ b off, a = some ⟨b, off, none⟩ ∧ ∀ j (hj : j < ents.length), w.cell? ⟨b, off + j * 2, none⟩ = some (.int .i64 ents[j].1) ∧ ∃ v, w.cell? ⟨b, off + j * 2 + 1, none⟩ = some v ∧ BytesV w v ents[j].2)
theorem BytesV.below {w w' : World} {v : Value} {p : List (BitVec 8)} (h : BytesV w v p) (hb : Below w.heap.size w w') : BytesV w' v p := by
  obtain ⟨a, c, h1, h2, h3⟩ := h
  exact ⟨a, c, h1, h2.below hb, h3⟩
theorem EntsAt.below {w w' : World} {a : Option Addr} {n : Nat} {ents : List (Int × List (BitVec 8))} (h : EntsAt w a n ents) (hb : Below w.heap.size w w') : EntsAt w' a n ents := by
  obtain ⟨h1, h3⟩ := h
  refine ⟨h1, ?_⟩
  rcases h3 with h3 | ⟨b, off, ha, hc⟩
  · exact .inl h3
  · refine .inr ⟨b, off, ha, fun j hj => ?_⟩
    obtain ⟨c1, v, c2, c3⟩ := hc j hj
    rw [hb.cell (p := ⟨b, off + j * 2, none⟩) (World.block_lt_of_cell? w _ c1), hb.cell (p := ⟨b, off + j * 2 + 1, none⟩) (World.block_lt_of_cell? w _ c2)]
    exact ⟨c1, v, c2, c3.below hb⟩
theorem EntsAt.at {w : World} {a : Option Addr} {n : Nat} {ents : List (Int × List (BitVec 8))} (h : EntsAt w a n ents) {k : Nat} (hk : k < ents.length) :
    ∃ b off v, a = some ⟨b, off, none⟩ ∧ w.cell? ⟨b, off + k * 2, none⟩ = some (.int .i64 ents[k].1) ∧ w.cell? ⟨b, off + k * 2 + 1, none⟩ = some v ∧ BytesV w v ents[k].2 := by
  rcases h.2 with h3 | ⟨b, off, ha, hc⟩
  · have := h.1; omega
  · obtain ⟨c1, v, c2, c3⟩ := hc k hk
    exact ⟨b, off, v, ha, c1, c2, c3⟩
def entB (e : Int × List (BitVec 8)) : List (BitVec 8) := enc (zig e.1) ++ sz e.2
def entsB (ents : List (Int × List (BitVec 8))) : List (BitVec 8) := (ents.map entB).flatten
theorem entsB_take {ents : List (Int × List (BitVec 8))} {k : Nat} (hk : k < ents.length) : entsB (ents.take (k + 1)) = entsB (ents.take k) ++ entB ents[k] := by
  rw [List.take_add_one, List.getElem?_eq_getElem hk]
  simp only [entsB, List.map_append, List.flatten_append, Option.toList_some, List.map_cons, List.map_nil, List.flatten_cons, List.flatten_nil, List.append_nil]
theorem entsB_split (ents : List (Int × List (BitVec 8))) (k : Nat) : entsB ents = entsB (ents.take k) ++ entsB (ents.drop k) := by
  conv => lhs; rw [← List.take_append_drop k ents]
  simp only [entsB, List.map_append, List.flatten_append]
/-- A message's bytes. -/
def msgB (h : HeadD) (ents : List (Int × List (BitVec 8))) (data : List (BitVec 8)) : List (BitVec 8) := h.bytes ++ enc ents.length ++ entsB ents ++ sz data
/-- Whether a message can be written. -/
def msgFits (h : HeadD) (ents : List (Int × List (BitVec 8))) (data : List (BitVec 8)) : Prop :=
  ents.length ≤ 4096 ∧ data.length ≤ 65536 ∧ (∀ e ∈ ents, e.2.length ≤ 65536) ∧ (msgB h ents data).length ≤ 1048576
/-- What Msg answers. -/
def MsgTold (w0 w : World) (h : HeadD) (ents : List (Int × List (BitVec 8))) (data : List (BitVec 8)) (e : Ending) : Prop :=
  (msgFits h ents data ∧ ∃ v, e = .returned (.tuple #[v, .int .i64 0]) ∧ w.ownsRow w0.heap.size 5 1 v (msgB h ents data).length (cellsOf (msgB h ents data))) ∨ (¬ msgFits h ents data ∧ e = .returned (.tuple #[.slice none 0 0, .int .i64 3]))
theorem owned_form {w : World} {base n : Nat} {v : Value} {xs : List Value} (h : w.ownsRow base 5 1 v n xs) : ∃ a c, v = .slice a n c ∧ (a = none → c = 0) := by
  rcases h.2 with ⟨rfl, rfl⟩ | ⟨g, c, cur, rfl, _⟩
  · exact ⟨none, 0, rfl, fun _ => rfl⟩
  · exact ⟨_, c, rfl, fun e => by cases e⟩
end Go.Proofs.Ytcmhkeaimgppgaa

namespace Go.Proofs.Ytcmhkeaimgppgaa
open Go.RowKit Cod
set_option linter.unusedVariables false

theorem cellsOf_set (l : List (BitVec 8)) (j : Nat) (c : BitVec 8) : (cellsOf l).set j (.int .u8 (V c)) = cellsOf (l.set j c) := by simp [cellsOf, List.map_set]
set_option maxRecDepth 100000 in
set_option maxHeartbeats 1600000 in
theorem spoil_any (base : Nat) (v : Value) (n : Nat) (l : List (BitVec 8)) (w : World) (ho : w.ownsRow base 5 1 v n (cellsOf l)) (hbase : base ≤ w.heap.size) (hm : n + 1 ≤ 140737488355328) :
    Calls Try.prog 12 #[v] w fun e w' => (∃ u, e = .returned u) ∧ Below base w w' := by
  obtain ⟨va, vc, rfl, hvn⟩ := owned_form ho
  have HO : Hid (w.ownsRow base 5 1 (.slice va n vc) n (cellsOf l)) := ho
  have HBs : Hid _ := hbase
  have HM : Hid _ := hm
  have HL : Hid (l.length = n) := by have := ho.1; rw [cellsOf_length] at this; show _ = _; omega
  clear ho hbase hm hvn
  go_enter Try.func12, Try.ntmps12
  go_wp2
  go_loopw [2] (fun i wr => ∃ (k : Nat) (l' : List (BitVec 8)), k ≤ n ∧ i = .int .i64 k ∧ l'.length = n ∧ wr.ownsRow base 5 1 (.slice va n vc) n (cellsOf l') ∧ Below base w wr) (fun i _ => n - (intOf i).toNat)
  case atStart => exact ⟨0, l, Nat.zero_le _, rfl, HL.out, HO.out, Below.refl _ _⟩
  case round =>
    obtain ⟨k, l', hk, rfl, hl', ho, hb⟩ := hrel
    by_cases hlt : k < n
    · obtain ⟨g, c, e, hg1, hg2⟩ := ho.form (by omega)
      cases e
      have hcell : wr.cell? ⟨g, k, none⟩ = (cellsOf l')[k]? := ho.cellAt k (by omega)
      have hc2 : wr.cell? ⟨g, k, none⟩ = some (.int .u8 (V (l'.getD k 0#8))) := by rw [hcell]; simp [cellsOf, hl', hlt]
      have hfr := ho.frozenAt k
      have hst := (ho.stored k (.int .u8 (V 90#8))).1
      rw [cellsOf_set, show V 90#8 = 90 from rfl] at hst
      have HS : Hid _ := hst
      have HB : Hid (Below base w (wr.setCell ⟨g, k, none⟩ (.int .u8 90))) := hb.setCell (by show base ≤ g; exact hg1) _
      have HLS : Hid ((l'.set k 90#8).length = n) := by show _ = _; simpa using hl'
      have hm' := HM.out
      have hlt' : (k : Int) < n := by omega
      clear ho hb hcell hst hl'
      go_wp2
      go_roundw
      case rel => exact ⟨k + 1, l'.set k 90#8, by omega, by go_num, HLS.out, HS.out, HB.out⟩
      case measure => simp only [intOf]; omega
    · obtain rfl : k = n := by omega
      obtain ⟨v2, w2, hr2, o2, b2, _⟩ := append_one wr base (.slice va k vc) k l' ho 91#8 HM.out (Nat.le_trans HBs.out hb.size)
      rw [show V 91#8 = 91 from rfl] at hr2
      obtain ⟨g, c, rfl, hg1, hg2⟩ := o2.form (by omega)
      have hc2 : w2.cell? ⟨g, k, none⟩ = some (.int .u8 91) := by
        rw [o2.cellAt k (by omega)]
        simp [cellsOf, hl']
        rfl
      have hfr := o2.frozenAt k
      have HR : Hid _ := hr2
      have HB : Hid (Below base w (w2.setCell ⟨g, k, none⟩ (.int .u8 92))) := (hb.trans b2).setCell (by show base ≤ g; exact hg1) _
      have hm' := HM.out
      have hw : IntKind.i64.wrap ((k : Int) + 1 - 1) = k := by rw [IntKind.wrap_i64]; omega
      clear hr2 o2 b2 ho hb hl'
      go_wp2_with (at_builtin; refine wpList_append_known rfl (.tmp 12) (.tmp 13) 26 26 rfl _ _ rfl rfl _ _ HR.out ?_)
      exact bodyPost_end (results_none rfl _ _ _) rfl ⟨⟨_, rfl⟩, HB.out⟩
end Go.Proofs.Ytcmhkeaimgppgaa

namespace Go.Proofs.Ytcmhkeaimgppgaa
open Go.RowKit Cod
set_option linter.unusedVariables false
set_option linter.unusedSimpArgs false

theorem or_place (acc k x : Nat) (ha : acc < 128 ^ k) (hx : x * 128 ^ k < 18446744073709551616) (hk : k ≤ 9) (p : Int) (hp : p = ((128 ^ k : Nat) : Int)) : bits BinOp.or IntKind.u64 (acc : Int) (IntKind.u64.wrap (IntKind.u64.wrap (x : Int) * p)) = ((acc + x * 128 ^ k : Nat) : Int) := by
  subst hp
  have h1 : 1 ≤ 128 ^ k := Nat.one_le_pow _ _ (by omega)
  have hxl : x < 18446744073709551616 := Nat.lt_of_le_of_lt (Nat.le_mul_of_pos_right x h1) hx
  have h9 : 128 ^ k ≤ 128 ^ 9 := Nat.pow_le_pow_right (by omega) hk
  have e1 : IntKind.u64.wrap (x : Int) = (x : Int) := by rw [IntKind.wrap_u64]; omega
  have e2 : (x : Int) * ((128 ^ k : Nat) : Int) = ((x * 128 ^ k : Nat) : Int) := (Int.natCast_mul _ _).symm
  have e3 : IntKind.u64.wrap ((x * 128 ^ k : Nat) : Int) = ((x * 128 ^ k : Nat) : Int) := by rw [IntKind.wrap_u64]; omega
  rw [e1, e2, e3, u64_or_nat _ _ (by omega) hx]
  congr 1
  have e4 : 128 ^ k = 2 ^ (7 * k) := by rw [Nat.pow_mul]
  rw [Nat.or_comm, e4, Nat.mul_comm x, ← Nat.two_pow_add_eq_or_of_lt (by rw [← e4]; exact ha)]
  omega
theorem V_cast (c : BitVec 8) : V c = (c.toNat : Int) := rfl
theorem and127 (c : BitVec 8) : bits BinOp.and IntKind.u8 (V c) 127 = ((c.toNat % 128 : Nat) : Int) := by
  rw [V_cast, show (127 : Int) = ((127 : Nat) : Int) from rfl, u8_and_nat _ _ c.isLt (by decide)]
  congr 1
  exact Nat.and_two_pow_sub_one_eq_mod c.toNat 7
theorem place_pow (k : Nat) : (2 : Int) ^ (7 * k) = ((128 ^ k : Nat) : Int) := by
  rw [Int.pow_mul, Int.natCast_pow]; rfl
theorem num_form {k acc : Nat} {c : BitVec 8} {r : List (BitVec 8)} (h : (k = 9 ∧ 1 < V c) ∨ (0 < k ∧ V c = 0)) : num k acc (c :: r) = (0, 0, 11) := by
  unfold V at h
  rw [num, if_pos (by omega)]
theorem num_stop {k acc : Nat} {c : BitVec 8} {r : List (BitVec 8)} (h9 : k = 9 → V c ≤ 1) (h0 : 0 < k → V c ≠ 0) (h : V c ≤ 127) : num k acc (c :: r) = (acc + c.toNat * 128 ^ k, k + 1, 0) := by
  unfold V at h h9 h0
  rw [num, if_neg (by omega), if_pos (by omega)]
theorem num_on {k acc : Nat} {c : BitVec 8} {r : List (BitVec 8)} (h9 : k ≠ 9) (h : 127 < V c) : num k acc (c :: r) = num (k + 1) (acc + (c.toNat % 128) * 128 ^ k) r := by
  unfold V at h
  rw [num, if_neg (by omega), if_neg (by omega)]
theorem stop_val {k acc : Nat} {c : BitVec 8} (ha : acc < 128 ^ k) (hk : k ≤ 9) (h9 : k = 9 → V c ≤ 1) (h : V c ≤ 127) (p : Int) (hp : p = ((128 ^ k : Nat) : Int)) :
    bits BinOp.or IntKind.u64 (acc : Int) (IntKind.u64.wrap (IntKind.u64.wrap (V c) * p)) = ((acc + c.toNat * 128 ^ k : Nat) : Int) := by
  unfold V at h h9
  refine or_place acc k c.toNat ha ?_ hk p hp
  by_cases e : k = 9
  · subst e
    have := h9 rfl
    have h2 : c.toNat ≤ 1 := by omega
    calc c.toNat * 128 ^ 9 ≤ 1 * 128 ^ 9 := Nat.mul_le_mul_right _ h2
      _ < 18446744073709551616 := by decide
  · have h1 : 128 ^ k ≤ 128 ^ 8 := Nat.pow_le_pow_right (by omega) (by omega)
    calc c.toNat * 128 ^ k ≤ 127 * 128 ^ 8 := Nat.mul_le_mul (by omega) h1
      _ < 18446744073709551616 := by decide
theorem on_val {k acc : Nat} {c : BitVec 8} (ha : acc < 128 ^ k) (hk : k < 9) (p : Int) (hp : p = ((128 ^ k : Nat) : Int)) :
    bits BinOp.or IntKind.u64 (acc : Int) (IntKind.u64.wrap (IntKind.u64.wrap (bits BinOp.and IntKind.u8 (V c) 127) * p)) = ((acc + (c.toNat % 128) * 128 ^ k : Nat) : Int) := by
  rw [and127]
  refine or_place acc k _ ha ?_ (by omega) p hp
  have h1 : 128 ^ k ≤ 128 ^ 8 := Nat.pow_le_pow_right (by omega) (by omega)
  calc (c.toNat % 128) * 128 ^ k ≤ 127 * 128 ^ 8 := Nat.mul_le_mul (by omega) h1
    _ < 18446744073709551616 := by decide
theorem on_lt {k acc : Nat} {c : BitVec 8} (ha : acc < 128 ^ k) : acc + (c.toNat % 128) * 128 ^ k < 128 ^ (k + 1) := by
  rw [Nat.pow_succ]
  have : (c.toNat % 128) * 128 ^ k ≤ 127 * 128 ^ k := Nat.mul_le_mul_right _ (by omega)
  omega
def numV (t : Nat × Nat × Nat) : Value := .tuple #[.int .u64 t.1, .int .i64 t.2.1, .int .i64 t.2.2]

end Go.Proofs.Ytcmhkeaimgppgaa

namespace Go.Proofs.Ytcmhkeaimgppgaa
open Go.RowKit Cod
set_option linter.unusedVariables false

theorem Seen.grown {w w' : World} {a : Option Addr} {len R : Nat} {l : List (BitVec 8)} (h : Seen w a len l) (hg : w.grownBy w' (some R)) (hne : l ≠ [] → ∀ x, a = some x → x.block < R) : Seen w' a len l := by
  obtain ⟨h1, h2, h3⟩ := h
  refine ⟨h1, h2, ?_⟩
  rcases h3 with h3 | ⟨b, off, ha, hc⟩
  · exact .inl h3
  · refine .inr ⟨b, off, ha, fun j hj => ?_⟩
    have hcj := hc j hj
    exact hg.cell hcj (fun e => Nat.ne_of_lt (hne (fun e => by subst e; simp at hj) _ ha) (by simpa using Option.some.inj e))
theorem Seen.lt {w : World} {a : Option Addr} {len : Nat} {l : List (BitVec 8)} (h : Seen w a len l) (hl : l ≠ []) (x : Addr) (hx : a = some x) : x.block < w.heap.size := by
  obtain ⟨h1, h2, h3⟩ := h
  have hp := List.length_pos_iff.2 hl
  rcases h3 with h3 | ⟨b, off, ha, hc⟩
  · omega
  · rw [ha] at hx
    cases hx
    exact World.block_lt_of_cell? w _ (hc 0 hp)
/-- Reading a number. -/
def rU (l : List (BitVec 8)) (at_ why : Nat) : Nat × Nat × Nat := if why = 0 then ((num 0 0 (l.drop at_)).1, at_ + (num 0 0 (l.drop at_)).2.1, (num 0 0 (l.drop at_)).2.2) else (0, at_, why)
theorem rU_at (l : List (BitVec 8)) (at_ why : Nat) (h : at_ ≤ l.length) : (rU l at_ why).2.1 ≤ l.length := by
  unfold rU
  split
  · have := num_width (l.drop at_) 0 0
    simp at this ⊢
    omega
  · exact h
theorem grown_set (w : World) (a : Addr) (u : Value) : w.grownBy (w.setCell a u) (some a.block) :=
  ⟨rfl, rfl, rfl, by simp [World.setCell], fun k _ hk => Below.heap_setCell _ _ _ k (fun e => hk (by rw [e]))⟩
theorem set_block {w : World} {R : Nat} {cs : Array Value} {t : TypeId} {fr : Nat × Nat} (h : w.heap[R]? = some (.cells cs t fr)) (i : Nat) (v : Value) : (w.setCell ⟨R, i, none⟩ v).heap[R]? = some (.cells (cs.setIfInBounds i v) t fr) := by
  obtain ⟨hlt, hk⟩ := Array.getElem?_eq_some_iff.1 h
  show (w.heap.modify R _)[R]? = _
  rw [Array.getElem?_eq_getElem (by rw [Array.size_modify]; exact hlt), Array.getElem_modify_self, hk]
  rfl
theorem Seen.drop {w : World} {x : Addr} {len : Nat} {l : List (BitVec 8)} (h : Seen w (some x) len l) (k cap : Nat) (hk : k ≤ len) (hc : len ≤ cap) : Seen w (if cap = k then some x else some (x.add k)) (len - k) (l.drop k) := by
  obtain ⟨h1, h2, h3⟩ := h
  refine ⟨by simp; omega, by simp; omega, ?_⟩
  by_cases hl : len - k = 0
  · exact .inl hl
  · rw [if_neg (by omega)]
    rcases h3 with h3 | ⟨b, off, ha, hcc⟩
    · omega
    · cases ha
      refine .inr ⟨b, off + k, by rw [Addr.add_lit], fun j hj => ?_⟩
      simp at hj
      rw [Nat.add_assoc, hcc (k + j) (by omega)]
      simp
theorem cell_set_far (w : World) (p q : Addr) (v : Value) (h : p ≠ q) : (w.setCell p v).cell? q = w.cell? q := by
  exact World.cell?_setCell_other _ _ _ _ h
theorem frozen_set (w : World) (p q : Addr) (v : Value) : (w.setCell p v).frozen? q = w.frozen? q := by
  simp
theorem grown_refl (w : World) (row : Option Nat) : w.grownBy w row := ⟨rfl, rfl, rfl, Nat.le_refl _, fun _ _ _ => rfl⟩
/-- What is left, or the error. -/
def rEnd (l : List (BitVec 8)) (at_ why : Nat) : Nat := if why ≠ 0 then why else if at_ < l.length then 11 else 0
end Go.Proofs.Ytcmhkeaimgppgaa

namespace Go.Proofs.Ytcmhkeaimgppgaa
open Go.RowKit Cod
set_option linter.unusedVariables false

theorem i64_xor_ones (a : Nat) (ha : a < 9223372036854775808) : bits .xor .i64 (a : Int) (-1) = -1 - (a : Int) := by
  show IntKind.i64.wrap ((BitVec.ofInt 64 (a : Int) ^^^ BitVec.ofInt 64 (-1)).toNat : Int) = _
  have h1 : BitVec.ofInt 64 (-1) = BitVec.allOnes 64 := by decide
  rw [h1, BitVec.xor_allOnes, BitVec.toNat_not, ofInt_u64 a (by omega)]
  simp [IntKind.wrap, IntKind.bits, IntKind.signed]
  omega
theorem i64_xor_none (a : Nat) (ha : a < 9223372036854775808) : bits .xor .i64 (a : Int) 0 = (a : Int) := by
  show IntKind.i64.wrap ((BitVec.ofInt 64 (a : Int) ^^^ BitVec.ofInt 64 0).toNat : Int) = _
  have h1 : BitVec.ofInt 64 0 = 0#64 := by decide
  rw [h1, BitVec.xor_zero, ofInt_u64 a (by omega)]
  simp [IntKind.wrap, IntKind.bits, IntKind.signed]
  omega
theorem zag_bits (n : Nat) (h : n < 18446744073709551616) : bits BinOp.xor IntKind.i64 (wrap64 ((n : Int) / 2)) (wrap64 (-wrap64 (bits BinOp.and IntKind.u64 (n : Int) 1))) = zag n := by
  have e1 : bits BinOp.and IntKind.u64 (n : Int) 1 = ((n % 2 : Nat) : Int) := by
    rw [show (1 : Int) = ((1 : Nat) : Int) from rfl, u64_and_nat _ _ h (by decide), Nat.and_one_is_mod]
  have e2 : wrap64 ((n : Int) / 2) = ((n / 2 : Nat) : Int) := by unfold wrap64; omega
  rw [e1, e2]
  unfold zag
  by_cases hp : n % 2 = 1
  · rw [hp, if_pos rfl, show wrap64 (-wrap64 ((1 : Nat) : Int)) = -1 from by unfold wrap64; omega, i64_xor_ones _ (by omega)]
    omega
  · have h0 : n % 2 = 0 := by omega
    rw [h0, if_neg (by omega), show wrap64 (-wrap64 ((0 : Nat) : Int)) = 0 from by unfold wrap64; omega, i64_xor_none _ (by omega)]
theorem num_lt : ∀ (l : List (BitVec 8)) (k acc : Nat), k ≤ 9 → acc < 128 ^ k → (num k acc l).1 < 18446744073709551616
  | [], k, acc, _, _ => by simp [num]
  | c :: r, k, acc, hk, ha => by
    unfold num
    split
    · simp
    · rename_i h1
      split
      · rename_i h2
        show acc + c.toNat * 128 ^ k < _
        by_cases e : k = 9
        · subst e
          have h3 : c.toNat ≤ 1 := by omega
          have h4 : c.toNat * 128 ^ 9 ≤ 1 * 128 ^ 9 := Nat.mul_le_mul_right _ h3
          omega
        · have h5 : 128 ^ k ≤ 128 ^ 8 := Nat.pow_le_pow_right (by omega) (by omega)
          have h4 : c.toNat * 128 ^ k ≤ 127 * 128 ^ 8 := Nat.mul_le_mul h2 h5
          omega
      · rename_i h2
        exact num_lt r (k + 1) _ (by omega) (on_lt ha)
theorem rU_lt (l : List (BitVec 8)) (at_ why : Nat) : (rU l at_ why).1 < 18446744073709551616 := by
  unfold rU
  split
  · exact num_lt _ 0 0 (by omega) (by simp)
  · simp
/-- Reading a truth. -/
def rB (l : List (BitVec 8)) (at_ why : Nat) : Bool × Nat × Nat :=
  if why ≠ 0 then (false, at_, why) else if at_ = l.length then (false, at_, 10) else if 1 < (l.getD at_ 0#8).toNat then (false, at_, 11) else (decide ((l.getD at_ 0#8).toNat = 1), at_ + 1, 0)
/-- Reading how many there are. -/
def rC (l : List (BitVec 8)) (most : Int) (at_ why : Nat) : Nat × Nat × Nat :=
  if (rU l at_ why).2.2 ≠ 0 then (0, (rU l at_ why).2.1, (rU l at_ why).2.2) else if most < 0 ∨ most < (rU l at_ why).1 then (0, at_, 3) else if l.length - (rU l at_ why).2.1 < (rU l at_ why).1 then (0, at_, 10) else rU l at_ why
/-- Reading bytes behind their length. -/
def rS (l : List (BitVec 8)) (at_ why : Nat) : List (BitVec 8) × Nat × Nat :=
  if (rC l 65536 at_ why).2.2 ≠ 0 then ([], (rC l 65536 at_ why).2.1, (rC l 65536 at_ why).2.2) else ((l.drop (rC l 65536 at_ why).2.1).take (rC l 65536 at_ why).1, (rC l 65536 at_ why).2.1 + (rC l 65536 at_ why).1, 0)
theorem grown_drewN {w w' : World} {row : Option Nat} (h : w.grownBy w' row) (n : Nat) : w.grownBy (w'.drewN n) row := ⟨h.os, h.tape, h.output, h.size, h.block⟩
theorem rU_zero {l : List (BitVec 8)} {at_ why : Nat} (h : (rU l at_ why).2.2 ≠ 0) : (rU l at_ why).1 = 0 ∧ (rU l at_ why).2.1 = at_ := by
  unfold rU at h ⊢
  split
  · rename_i hy
    rw [if_pos hy] at h
    have := num_short (l.drop at_) 0 0 h
    exact ⟨this.1, by simp [this.2]⟩
  · exact ⟨rfl, rfl⟩
end Go.Proofs.Ytcmhkeaimgppgaa

namespace Go.Proofs.Ytcmhkeaimgppgaa
open Go.RowKit Cod
set_option linter.unusedVariables false

end Go.Proofs.Ytcmhkeaimgppgaa

namespace Go.Proofs.Ytcmhkeaimgppgaa
open Go.RowKit
set_option linter.unusedVariables false

theorem V_inj {a b : BitVec 8} (h : V a = V b) : a = b := by unfold V at h; exact BitVec.eq_of_toNat_eq (by omega)
theorem take_eq_succ {A B : List (BitVec 8)} {k : Nat} (h : A.take k = B.take k) (h1 : k < A.length) (h2 : k < B.length) (e : A.getD k 0#8 = B.getD k 0#8) : A.take (k + 1) = B.take (k + 1) := by
  rw [List.take_add_one, List.take_add_one, h]
  rw [List.getElem?_eq_getElem h1, List.getElem?_eq_getElem h2]
  simp [h1, h2] at e
  rw [e]
end Go.Proofs.Ytcmhkeaimgppgaa

namespace Go.Proofs.Ytcmhkeaimgppgaa
open Go.RowKit Cod
set_option linter.unusedVariables false

theorem owns_mono {w : World} {base base' : Nat} {e : TypeId} {size : Nat} {v : Value} {n : Nat} {xs : List Value} (h : w.ownsRow base e size v n xs) (hb : base' ≤ base) : w.ownsRow base' e size v n xs :=
  ⟨h.1, h.2.imp id fun ⟨g, cap, cur, e1, e2, e3⟩ => ⟨g, cap, cur, e1, Nat.le_trans hb e2, e3⟩⟩
/-- Why bytes do not begin with a whole frame; 0: they do. -/
def cutWhy (l : List (BitVec 8)) : Nat := if (num 0 0 l).2.2 ≠ 0 then (num 0 0 l).2.2 else if 65536 < (num 0 0 l).1 then 3 else if l.length < (num 0 0 l).2.1 + 4 + (num 0 0 l).1 then 10 else 0
def cutSum (l : List (BitVec 8)) : List (BitVec 8) := (l.drop (num 0 0 l).2.1).take 4
def cutBody (l : List (BitVec 8)) : List (BitVec 8) := (l.drop ((num 0 0 l).2.1 + 4)).take (num 0 0 l).1
def cutRest (l : List (BitVec 8)) : List (BitVec 8) := l.drop ((num 0 0 l).2.1 + 4 + (num 0 0 l).1)
/-- Why bytes are no frame; 0: they are one. -/
def unWhy (l : List (BitVec 8)) : Nat := if cutWhy l ≠ 0 then cutWhy l else if cutRest l ≠ [] then 11 else if cutSum l = four (Crc.more 0#32 (cutBody l)) then 0 else 12
end Go.Proofs.Ytcmhkeaimgppgaa

namespace Go.Proofs.Ytcmhkeaimgppgaa
open Go.RowKit Cod
set_option linter.unusedVariables false

theorem below_grown {B R : Nat} {a w w' : World} (h : Below B a w) (hg : w.grownBy w' (some R)) (hB : B ≤ w.heap.size) (hR : B ≤ R) : Below B a w' :=
  h.grown hg hB (fun k e => by cases e; exact hR)
theorem enc_300 : enc 300 = [172#8, 2#8] := by rw [enc_high (by decide), enc_low (by decide)]
theorem enc_1 : enc 1 = [1#8] := by rw [enc_low (by decide)]
theorem enc_2 : enc 2 = [2#8] := by rw [enc_low (by decide)]
theorem rU_bad : rU [128#8, 0#8] 0 0 = (0, 0, 11) := by decide
theorem un_0 : unWhy [0#8] = 10 := by decide
theorem zig_m1 : zig (-1) = 1 := by decide

end Go.Proofs.Ytcmhkeaimgppgaa

namespace Go.Proofs.Ytcmhkeaimgppgaa
open Go.RowKit Cod
set_option linter.unusedVariables false

theorem rC_ok {l : List (BitVec 8)} {most : Int} {at_ why n a1 : Nat} (hat : at_ ≤ l.length) (h : rC l most at_ why = (n, a1, 0)) : l ≠ [] ∧ a1 + n ≤ l.length ∧ (n : Int) ≤ most ∧ rU l at_ why = (n, a1, 0) := by
  unfold rC at h
  split at h
  · rename_i h1
    exact absurd (congrArg (fun t => t.2.2) h) h1
  · split at h
    · cases h
    · split at h
      · cases h
      · rename_i h1 h2 h3
        rw [h] at h1 h2 h3
        have h4 := rU_at l at_ why hat
        rw [h] at h4
        simp only at h1 h2 h3 h4
        refine ⟨fun e => ?_, by omega, by omega, h⟩
        subst e
        by_cases hy : why = 0
        · subst hy
          simp [rU, num] at h
        · rw [rU, if_neg hy] at h
          exact hy (congrArg (fun t => t.2.2) h)
end Go.Proofs.Ytcmhkeaimgppgaa

namespace Go.Proofs.Ytcmhkeaimgppgaa
open Go.RowKit Cod
set_option linter.unusedVariables false

/-- From a place and an error to a place and an error. -/
def Goes (l : List (BitVec 8)) (at_ why at' why' : Nat) : Prop := at_ ≤ at' ∧ at' ≤ l.length ∧ (why ≠ 0 → at' = at_ ∧ why' = why)
theorem Goes.trans {l : List (BitVec 8)} {a y b z c x : Nat} (h : Goes l a y b z) (k : Goes l b z c x) : Goes l a y c x :=
  ⟨Nat.le_trans h.1 k.1, k.2.1, fun hy => by
    obtain ⟨e1, e2⟩ := h.2.2 hy
    obtain ⟨e3, e4⟩ := k.2.2 (by rw [e2]; exact hy)
    exact ⟨e3.trans e1, e4.trans e2⟩⟩
theorem rU_goes (l : List (BitVec 8)) (at_ why : Nat) (h : at_ ≤ l.length) : Goes l at_ why (rU l at_ why).2.1 (rU l at_ why).2.2 := by
  refine ⟨?_, rU_at l at_ why h, fun hy => by simp [rU, hy]⟩
  unfold rU
  split <;> simp
theorem rB_goes (l : List (BitVec 8)) (at_ why : Nat) (h : at_ ≤ l.length) : Goes l at_ why (rB l at_ why).2.1 (rB l at_ why).2.2 := by
  refine ⟨?_, ?_, fun hy => by simp [rB, hy]⟩
  · unfold rB
    split <;> (try split) <;> (try split) <;> simp
  · unfold rB
    split
    · exact h
    · split
      · exact h
      · split
        · exact h
        · simp; omega
theorem rC_goes (l : List (BitVec 8)) (most : Int) (at_ why : Nat) (h : at_ ≤ l.length) : Goes l at_ why (rC l most at_ why).2.1 (rC l most at_ why).2.2 := by
  have g := rU_goes l at_ why h
  unfold rC
  split
  · exact g
  · rename_i h0
    have hw : ¬ why ≠ 0 := fun hy => h0 (by rw [(g.2.2 hy).2]; exact hy)
    split
    · exact ⟨Nat.le_refl _, h, fun hy => absurd hy hw⟩
    · split
      · exact ⟨Nat.le_refl _, h, fun hy => absurd hy hw⟩
      · exact g
theorem rC_room {l : List (BitVec 8)} {most : Int} {at_ why : Nat} (h : at_ ≤ l.length) (he : (rC l most at_ why).2.2 = 0) : (rC l most at_ why).2.1 + (rC l most at_ why).1 ≤ l.length := by
  have := rC_ok (l := l) (most := most) (at_ := at_) (why := why) (n := (rC l most at_ why).1) (a1 := (rC l most at_ why).2.1) h (by rw [← he])
  exact this.2.1
theorem rC_most (l : List (BitVec 8)) (most at_ why : Nat) (hm : most < 9223372036854775808) : (rC l most at_ why).1 ≤ most := by
  unfold rC
  split
  · simp
  · split
    · simp
    · split
      · simp
      · rename_i h1 h2 h3
        omega
theorem rS_goes (l : List (BitVec 8)) (at_ why : Nat) (h : at_ ≤ l.length) : Goes l at_ why (rS l at_ why).2.1 (rS l at_ why).2.2 := by
  have g := rC_goes l 65536 at_ why h
  unfold rS
  split
  · exact g
  · rename_i h0
    have h1 : (rC l 65536 at_ why).2.2 = 0 := by simpa using h0
    refine ⟨Nat.le_trans g.1 (Nat.le_add_right _ _), rC_room h h1, fun hy => ?_⟩
    have := (g.2.2 hy).2
    omega
/-- Reading an operation: each part behind the one ahead of it. -/
def rOp1 (l : List (BitVec 8)) (at_ why : Nat) := rU l at_ why
def rOp2 (l : List (BitVec 8)) (at_ why : Nat) := rS l (rOp1 l at_ why).2.1 (rOp1 l at_ why).2.2
def rOp3 (l : List (BitVec 8)) (at_ why : Nat) := rS l (rOp2 l at_ why).2.1 (rOp2 l at_ why).2.2
def rOp4 (l : List (BitVec 8)) (at_ why : Nat) := rU l (rOp3 l at_ why).2.1 (rOp3 l at_ why).2.2
def rOp5 (l : List (BitVec 8)) (at_ why : Nat) := rS l (rOp4 l at_ why).2.1 (rOp4 l at_ why).2.2
def rOp6 (l : List (BitVec 8)) (at_ why : Nat) := rU l (rOp5 l at_ why).2.1 (rOp5 l at_ why).2.2
def rOp7 (l : List (BitVec 8)) (at_ why : Nat) := rU l (rOp6 l at_ why).2.1 (rOp6 l at_ why).2.2
def rOpV (l : List (BitVec 8)) (at_ why : Nat) : OpD := ⟨zag (rOp1 l at_ why).1, textOf (rOp2 l at_ why).1, textOf (rOp3 l at_ why).1, zag (rOp4 l at_ why).1, textOf (rOp5 l at_ why).1, zag (rOp6 l at_ why).1, zag (rOp7 l at_ why).1⟩
theorem rOp_goes (l : List (BitVec 8)) (at_ why : Nat) (h : at_ ≤ l.length) : Goes l at_ why (rOp7 l at_ why).2.1 (rOp7 l at_ why).2.2 := by
  have g1 : Goes l at_ why (rOp1 l at_ why).2.1 (rOp1 l at_ why).2.2 := rU_goes l at_ why h
  have g2 : Goes l (rOp1 l at_ why).2.1 (rOp1 l at_ why).2.2 (rOp2 l at_ why).2.1 (rOp2 l at_ why).2.2 := by rw [rOp2]; exact rS_goes l _ _ g1.2.1
  have g3 : Goes l (rOp2 l at_ why).2.1 (rOp2 l at_ why).2.2 (rOp3 l at_ why).2.1 (rOp3 l at_ why).2.2 := by rw [rOp3]; exact rS_goes l _ _ g2.2.1
  have g4 : Goes l (rOp3 l at_ why).2.1 (rOp3 l at_ why).2.2 (rOp4 l at_ why).2.1 (rOp4 l at_ why).2.2 := by rw [rOp4]; exact rU_goes l _ _ g3.2.1
  have g5 : Goes l (rOp4 l at_ why).2.1 (rOp4 l at_ why).2.2 (rOp5 l at_ why).2.1 (rOp5 l at_ why).2.2 := by rw [rOp5]; exact rS_goes l _ _ g4.2.1
  have g6 : Goes l (rOp5 l at_ why).2.1 (rOp5 l at_ why).2.2 (rOp6 l at_ why).2.1 (rOp6 l at_ why).2.2 := by rw [rOp6]; exact rU_goes l _ _ g5.2.1
  have g7 : Goes l (rOp6 l at_ why).2.1 (rOp6 l at_ why).2.2 (rOp7 l at_ why).2.1 (rOp7 l at_ why).2.2 := by rw [rOp7]; exact rU_goes l _ _ g6.2.1
  exact g1.trans (g2.trans (g3.trans (g4.trans (g5.trans (g6.trans g7)))))
end Go.Proofs.Ytcmhkeaimgppgaa

namespace Go.Proofs.Ytcmhkeaimgppgaa
open Go.RowKit Cod
set_option linter.unusedVariables false

theorem drop_next {l x r : List (BitVec 8)} {at_ : Nat} (h : l.drop at_ = x ++ r) : l.drop (at_ + x.length) = r := by
  rw [← List.drop_drop, h, List.drop_left]
theorem drop_len {l x r : List (BitVec 8)} {at_ : Nat} (hat : at_ ≤ l.length) (h : l.drop at_ = x ++ r) : at_ + x.length + r.length = l.length := by
  have := congrArg List.length h
  simp at this
  omega
theorem rU_back {l r : List (BitVec 8)} {at_ n : Nat} (h : l.drop at_ = enc n ++ r) (hn : n < 18446744073709551616) : rU l at_ 0 = (n, at_ + (enc n).length, 0) := by
  simp [rU, h, num_enc0 hn]
theorem rC_back {l r : List (BitVec 8)} {at_ n : Nat} {most : Int} (hat : at_ ≤ l.length) (h : l.drop at_ = enc n ++ r) (hn : n < 18446744073709551616) (hm : (n : Int) ≤ most) (hr : n ≤ r.length) : rC l most at_ 0 = (n, at_ + (enc n).length, 0) := by
  have e := rU_back h hn
  have hl := drop_len hat h
  simp only [rC, e]
  rw [if_neg (by simp), if_neg (by omega), if_neg (by omega)]
theorem rS_back {l r s : List (BitVec 8)} {at_ : Nat} (hat : at_ ≤ l.length) (h : l.drop at_ = sz s ++ r) (hs : s.length ≤ 65536) : rS l at_ 0 = (s, at_ + (sz s).length, 0) := by
  have h1 : l.drop at_ = enc s.length ++ (s ++ r) := by rw [h, sz, List.append_assoc]
  have e := rC_back (most := 65536) hat h1 (by omega) (by omega) (by simp)
  simp only [rS, e]
  rw [if_neg (by simp), drop_next h1, List.take_left]
  simp [sz, Nat.add_assoc]
theorem rB_back {l r : List (BitVec 8)} {at_ : Nat} (b : Bool) (hat : at_ ≤ l.length) (h : l.drop at_ = bit8 b :: r) : rB l at_ 0 = (b, at_ + 1, 0) := by
  have hl := drop_len (x := [bit8 b]) (r := r) hat h
  have hg : l.getD at_ 0#8 = bit8 b := by
    have := congrArg (fun t => t[0]?) h
    simp at this
    rw [List.getD_eq_getElem?_getD, this]
    rfl
  simp at hl
  unfold rB
  rw [if_neg (by simp), if_neg (by omega), hg]
  cases b <;> simp [bit8]
theorem rOp_back {l r : List (BitVec 8)} {at_ : Nat} {o : OpD} (ho : o.ok) (hat : at_ ≤ l.length) (h : l.drop at_ = o.bytes ++ r) (h1 : o.src.size ≤ 65536) (h2 : o.dst.size ≤ 65536) (h3 : o.key.size ≤ 65536) :
    rOpV l at_ 0 = o ∧ (rOp7 l at_ 0).2.1 = at_ + o.bytes.length ∧ (rOp7 l at_ 0).2.2 = 0 ∧ l.drop (at_ + o.bytes.length) = r := by
  obtain ⟨kind, src, dst, amount, key, slot, shard⟩ := o
  obtain ⟨i1, i2, i3, i4⟩ := ho
  simp only at h1 h2 h3 i1 i2 i3 i4
  have hfin := drop_next h
  have s1 := h
  simp only [OpD.bytes, List.append_assoc] at s1
  have a1 := drop_len hat s1
  have e1 : rOp1 l at_ 0 = _ := rU_back s1 (zig_lt kind i1)
  have s2 := drop_next s1
  have a1' : at_ + (enc (zig kind)).length ≤ l.length := by omega
  have e2 : rOp2 l at_ 0 = (bytesL src, at_ + (enc (zig kind)).length + (sz (bytesL src)).length, 0) := by rw [rOp2, e1]; exact rS_back a1' s2 (by rw [bytesL_length]; exact h1)
  have s3 := drop_next s2
  have a2 := drop_len (by omega) s2
  have e3 : rOp3 l at_ 0 = (bytesL dst, at_ + (enc (zig kind)).length + (sz (bytesL src)).length + (sz (bytesL dst)).length, 0) := by rw [rOp3, e2]; exact rS_back (by simp only; omega) s3 (by rw [bytesL_length]; exact h2)
  have s4 := drop_next s3
  have a3 := drop_len (by omega) s3
  have e4 : rOp4 l at_ 0 = (zig amount, at_ + (enc (zig kind)).length + (sz (bytesL src)).length + (sz (bytesL dst)).length + (enc (zig amount)).length, 0) := by rw [rOp4, e3]; exact rU_back s4 (zig_lt amount i2)
  have s5 := drop_next s4
  have a4 := drop_len (by omega) s4
  have e5 : rOp5 l at_ 0 = (bytesL key, at_ + (enc (zig kind)).length + (sz (bytesL src)).length + (sz (bytesL dst)).length + (enc (zig amount)).length + (sz (bytesL key)).length, 0) := by rw [rOp5, e4]; exact rS_back (by simp only; omega) s5 (by rw [bytesL_length]; exact h3)
  have s6 := drop_next s5
  have a5 := drop_len (by omega) s5
  have e6 : rOp6 l at_ 0 = (zig slot, at_ + (enc (zig kind)).length + (sz (bytesL src)).length + (sz (bytesL dst)).length + (enc (zig amount)).length + (sz (bytesL key)).length + (enc (zig slot)).length, 0) := by rw [rOp6, e5]; exact rU_back s6 (zig_lt slot i3)
  have s7 := drop_next s6
  have a6 := drop_len (by omega) s6
  have e7 : rOp7 l at_ 0 = (zig shard, at_ + (enc (zig kind)).length + (sz (bytesL src)).length + (sz (bytesL dst)).length + (enc (zig amount)).length + (sz (bytesL key)).length + (enc (zig slot)).length + (enc (zig shard)).length, 0) := by rw [rOp7, e6]; exact rU_back s7 (zig_lt shard i4)
  refine ⟨?_, ?_, ?_, hfin⟩
  · simp only [rOpV, e1, e2, e3, e4, e5, e6, e7, zag_zig, textOf_bytesL]
  · rw [e7]
    simp only [OpD.bytes, List.length_append, Nat.add_assoc]
  · rw [e7]
/-- Reading a row, and rows. -/
def rRow (l : List (BitVec 8)) (at_ why : Nat) : (ByteArray × Int) × Nat × Nat :=
  ((textOf (rS l at_ why).1, zag (rU l (rS l at_ why).2.1 (rS l at_ why).2.2).1), (rU l (rS l at_ why).2.1 (rS l at_ why).2.2).2)
def rRows (l : List (BitVec 8)) (at_ why : Nat) : Nat → List (ByteArray × Int) × Nat × Nat
  | 0 => ([], at_, why)
  | k + 1 => ((rRows l at_ why k).1 ++ [(rRow l (rRows l at_ why k).2.1 (rRows l at_ why k).2.2).1], (rRow l (rRows l at_ why k).2.1 (rRows l at_ why k).2.2).2)
theorem rRow_goes (l : List (BitVec 8)) (at_ why : Nat) (h : at_ ≤ l.length) : Goes l at_ why (rRow l at_ why).2.1 (rRow l at_ why).2.2 :=
  (rS_goes l at_ why h).trans (rU_goes l _ _ (rS_goes l at_ why h).2.1)
theorem rRows_goes (l : List (BitVec 8)) (at_ why : Nat) (h : at_ ≤ l.length) : ∀ k, Goes l at_ why (rRows l at_ why k).2.1 (rRows l at_ why k).2.2
  | 0 => ⟨Nat.le_refl _, h, fun _ => ⟨rfl, rfl⟩⟩
  | k + 1 => (rRows_goes l at_ why h k).trans (rRow_goes l _ _ (rRows_goes l at_ why h k).2.1)
theorem rRows_length (l : List (BitVec 8)) (at_ why : Nat) : ∀ k, (rRows l at_ why k).1.length = k
  | 0 => rfl
  | k + 1 => by simp [rRows, rRows_length l at_ why k]
theorem rRow_back {l r : List (BitVec 8)} {at_ : Nat} {x : ByteArray × Int} (hat : at_ ≤ l.length) (h : l.drop at_ = rowB x ++ r) (hx : i64ok x.2) (hs : x.1.size ≤ 65536) : rRow l at_ 0 = (x, at_ + (rowB x).length, 0) := by
  have s1 : l.drop at_ = sz (bytesL x.1) ++ (enc (zig x.2) ++ r) := by rw [h, rowB, List.append_assoc]
  have e1 := rS_back hat s1 (by rw [bytesL_length]; exact hs)
  have s2 := drop_next s1
  have e2 := rU_back s2 (zig_lt x.2 hx)
  simp only [rRow, e1, e2, zag_zig, textOf_bytesL]
  simp [rowB, Nat.add_assoc]
theorem rRows_back {l r : List (BitVec 8)} {at_ : Nat} {rows : List (ByteArray × Int)} (hat : at_ ≤ l.length) (h : l.drop at_ = rowsB rows ++ r) (hx : ∀ x ∈ rows, i64ok x.2 ∧ x.1.size ≤ 65536) :
    ∀ k, k ≤ rows.length → rRows l at_ 0 k = (rows.take k, at_ + (rowsB (rows.take k)).length, 0)
  | 0, _ => by simp [rRows, rowsB]
  | k + 1, hk => by
    have ih := rRows_back hat h hx k (by omega)
    have hkl : k < rows.length := by omega
    have hsp : rowsB rows = rowsB (rows.take k) ++ (rowB rows[k] ++ rowsB (rows.drop (k + 1))) := by
      conv => lhs; rw [← List.take_append_drop k rows, List.drop_eq_getElem_cons hkl]
      simp only [rowsB, List.map_append, List.map_cons, List.flatten_append, List.flatten_cons]
    have s1 : l.drop at_ = rowsB (rows.take k) ++ (rowB rows[k] ++ (rowsB (rows.drop (k + 1)) ++ r)) := by rw [h, hsp]; simp
    have a1 := drop_len hat s1
    have hm := hx rows[k] (List.getElem_mem hkl)
    have e := rRow_back (by omega) (drop_next s1) hm.1 hm.2
    simp only [rRows, ih, e]
    rw [rowsB_take hkl, List.take_add_one, List.getElem?_eq_getElem hkl]
    simp [Nat.add_assoc]
theorem rowsB_ge : ∀ (rows : List (ByteArray × Int)), rows.length ≤ (rowsB rows).length
  | [] => by simp
  | r :: rest => by
    have ih := rowsB_ge rest
    have h1 := enc_pos (zig r.2)
    simp only [rowsB, List.map_cons, List.flatten_cons, List.length_append, List.length_cons, rowB] at ih ⊢
    omega
/-- Reading an answer. -/
def rRe1 (l : List (BitVec 8)) (at_ why : Nat) := rU l at_ why
def rRe2 (l : List (BitVec 8)) (at_ why : Nat) := rU l (rRe1 l at_ why).2.1 (rRe1 l at_ why).2.2
def rRe3 (l : List (BitVec 8)) (at_ why : Nat) := rC l 600 (rRe2 l at_ why).2.1 (rRe2 l at_ why).2.2
def rRe4 (l : List (BitVec 8)) (at_ why : Nat) := rRows l (rRe3 l at_ why).2.1 (rRe3 l at_ why).2.2 (rRe3 l at_ why).1
end Go.Proofs.Ytcmhkeaimgppgaa

namespace Go.Proofs.Ytcmhkeaimgppgaa
open Go.RowKit Cod
set_option linter.unusedVariables false

theorem grown_alloc {w w' : World} {row : Option Nat} (h : w.grownBy w' row) (o : Obj) : w.grownBy (w'.alloc o) row :=
  ⟨h.os, h.tape, h.output, by have := h.size; simp; omega, fun k hk hr => by rw [Below.heap_alloc w' o k (by have := h.size; omega)]; exact h.block k hk hr⟩
theorem grown_cell {w w' : World} {row : Option Nat} (h : w.grownBy w' row) (a : Addr) (v : Value) (ha : w.heap.size ≤ a.block) : w.grownBy (w'.setCell a v) row :=
  ⟨h.os, h.tape, h.output, by simpa [World.setCell] using h.size, fun k hk hr => by rw [Below.heap_setCell _ _ _ k (fun e => by omega)]; exact h.block k hk hr⟩
theorem Seen.since {w w' : World} {a : Option Addr} {len : Nat} {l : List (BitVec 8)} (h : Seen w a len l) (hb : l ≠ [] → ∀ x, a = some x → w'.heap[x.block]? = w.heap[x.block]?) : Seen w' a len l := by
  obtain ⟨h1, h2, h3⟩ := h
  refine ⟨h1, h2, ?_⟩
  rcases h3 with h3 | ⟨b, off, ha, hc⟩
  · exact .inl h3
  · refine .inr ⟨b, off, ha, fun j hj => ?_⟩
    have hq := hb (fun e => by subst e; simp at hj) _ ha
    rw [World.cell?_of_block (w := w) (a := ⟨b, off + j, none⟩) hq]
    exact hc j hj
end Go.Proofs.Ytcmhkeaimgppgaa

namespace Go.Proofs.Ytcmhkeaimgppgaa
open Go.RowKit Cod
set_option linter.unusedVariables false

theorem grown_at {w w' : World} {row : Option Nat} (h : w.grownBy w' row) (g : Nat) (j : Nat) (u : Value) (hg : row = some g ∨ w.heap.size ≤ g) : w.grownBy (w'.setCell ⟨g, j, none⟩ u) row :=
  ⟨h.os, h.tape, h.output, by simpa [World.setCell] using h.size, fun k hk hr => by
    rw [Below.heap_setCell _ _ _ k (fun e => by
      have e' : k = g := e
      subst e'
      rcases hg with hg | hg
      · exact hr hg.symm
      · omega)]
    exact h.block k hk hr⟩
set_option maxRecDepth 100000 in
set_option maxHeartbeats 1600000 in
theorem spoil_row (base : Nat) (v : Value) (n : Nat) (l : List (BitVec 8)) (w : World) (ho : w.ownsRow base 5 1 v n (cellsOf l)) (hbase : base ≤ w.heap.size) (hm : n + 1 ≤ 140737488355328) :
    Calls Try.prog 12 #[v] w fun e w' => (∃ u, e = .returned u) ∧ w.grownBy w' v.ownBlock := by
  -- keep
  obtain ⟨va, vc, rfl, hvn⟩ := owned_form ho
  have HO : Hid (w.ownsRow base 5 1 (.slice va n vc) n (cellsOf l)) := ho
  have HBs : Hid _ := hbase
  have HM : Hid _ := hm
  have HL : Hid (l.length = n) := by have := ho.1; rw [cellsOf_length] at this; show _ = _; omega
  clear ho hbase hm hvn
  go_enter Try.func12, Try.ntmps12
  go_wp2
  go_loopw [2] (fun i wr => ∃ (k : Nat) (l' : List (BitVec 8)), k ≤ n ∧ i = .int .i64 k ∧ l'.length = n ∧ wr.ownsRow base 5 1 (.slice va n vc) n (cellsOf l') ∧ w.grownBy wr (Value.slice va n vc).ownBlock) (fun i _ => n - (intOf i).toNat)
  case atStart => exact ⟨0, l, Nat.zero_le _, rfl, HL.out, HO.out, grown_refl w _⟩
  case round =>
    obtain ⟨k, l', hk, rfl, hl', ho, hb⟩ := hrel
    by_cases hlt : k < n
    · obtain ⟨g, c, e, hg1, hg2⟩ := ho.form (by omega)
      cases e
      have hcell : wr.cell? ⟨g, k, none⟩ = (cellsOf l')[k]? := ho.cellAt k (by omega)
      have hc2 : wr.cell? ⟨g, k, none⟩ = some (.int .u8 (V (l'.getD k 0#8))) := by rw [hcell]; simp [cellsOf, hl', hlt]
      have hfr := ho.frozenAt k
      have hst := (ho.stored k (.int .u8 (V 90#8))).1
      rw [cellsOf_set, show V 90#8 = 90 from rfl] at hst
      have HS : Hid _ := hst
      have HB : Hid (w.grownBy (wr.setCell ⟨g, k, none⟩ (.int .u8 90)) (Value.slice (some ⟨g, 0, none⟩) n vc).ownBlock) := grown_at hb g k _ (.inl rfl)
      have HLS : Hid ((l'.set k 90#8).length = n) := by show _ = _; simpa using hl'
      have hm' := HM.out
      have hlt' : (k : Int) < n := by omega
      clear ho hb hcell hst hl'
      go_wp2
      go_roundw
      case rel => exact ⟨k + 1, l'.set k 90#8, by omega, by go_num, HLS.out, HS.out, HB.out⟩
      case measure => simp only [intOf]; omega
    · obtain rfl : k = n := by omega
      obtain ⟨i0, hi, hz0, hz1, hz2⟩ := info_parts info5
      have hbs : base ≤ wr.heap.size := Nat.le_trans HBs.out hb.size
      obtain ⟨g, c, w2, hr2, o2, g2, hat, hlt2⟩ := run_append_lies (P := Try.prog) (wr.alloc (.cells #[.int .u8 91] 5)) 26 26 base 5 i0 (.int .u8 0) 1 1 Try.underlying26 hi hz0 hz1 hz2 rfl (by omega) (.slice va k vc) k (cellsOf l') (ho.alloc _) ⟨wr.heap.size, 0, none⟩ 1 1 [.int .u8 91] rfl (World.news_of_block (cs := #[.int .u8 91]) (t := 5) (fr := (0, 0)) (heap_alloc_new wr _)) (by simp [Value.oneCell']) (by omega) (by have := HM.out; unfold maxLen; omega) (by have := HM.out; omega) (by simp; omega) (wr.heap.size + 1) (by simp)
      have hc2 : w2.cell? ⟨g, k, none⟩ = some (.int .u8 91) := by
        rw [o2.cellAt k (by omega)]
        simp [cellsOf, hl']
      have hfr := o2.frozenAt k
      have HR : Hid _ := hr2
      have gA : w.grownBy w2 (Value.slice va k vc).ownBlock := (grown_alloc hb _).trans g2
      have HB : Hid (w.grownBy (w2.setCell ⟨g, k, none⟩ (.int .u8 92)) (Value.slice va k vc).ownBlock) := grown_at gA g k _ (by
        rcases hat with h | h
        · exact .inl h
        · have := hb.size
          exact .inr (by omega))
      have hm' := HM.out
      have hw : IntKind.i64.wrap ((k : Int) + 1 - 1) = k := by rw [IntKind.wrap_i64]; omega
      clear hr2 o2 g2 ho hb hl' gA hat hi hz0 hz1 hz2
      go_wp2_with (at_builtin; refine wpList_append_known rfl (.tmp 12) (.tmp 13) 26 26 rfl _ _ rfl rfl _ _ HR.out ?_)
      exact bodyPost_end (results_none rfl _ _ _) rfl ⟨⟨_, rfl⟩, HB.out⟩
end Go.Proofs.Ytcmhkeaimgppgaa
