/- What the other writers do: signed numbers, texts, bytes, truths, sums, frames. -/
import Derived.Test.YtdchnfggmkokhaaGreatDoorAddUint
import Derived.Lib.AppendStr
namespace Go.Proofs.YtdchnfggmkokhaaGreatDoor
open Go.RowKit Cod
set_option linter.unusedVariables false

theorem xor_ones (a : Nat) (h : a < 18446744073709551616) : a ^^^ 18446744073709551615 = 18446744073709551615 - a := by
  have h1 : (BitVec.ofNat 64 a ^^^ BitVec.allOnes 64).toNat = 18446744073709551615 - a := by
    rw [BitVec.xor_allOnes, BitVec.toNat_not, BitVec.toNat_ofNat]
    omega
  rw [BitVec.toNat_xor, BitVec.toNat_ofNat, BitVec.toNat_allOnes, Nat.mod_eq_of_lt h] at h1
  exact h1
theorem zig_bits (n : Int) (hn : -9223372036854775808 ≤ n ∧ n < 9223372036854775808) : bits BinOp.xor IntKind.u64 (IntKind.u64.wrap (IntKind.u64.wrap n * 2)) (IntKind.u64.wrap (n / 9223372036854775808)) = ((zig n : Nat) : Int) := by
  simp only [IntKind.wrap_u64]
  by_cases h : n < 0
  · have e1 : n % 18446744073709551616 * 2 % 18446744073709551616 = (((2 * n + 18446744073709551616).toNat : Nat) : Int) := by omega
    have e2 : n / 9223372036854775808 % 18446744073709551616 = ((18446744073709551615 : Nat) : Int) := by omega
    rw [e1, e2, u64_xor_nat _ _ (by omega) (by omega), xor_ones _ (by omega)]
    unfold zig
    rw [if_pos h]
    omega
  · have e1 : n % 18446744073709551616 * 2 % 18446744073709551616 = (((2 * n).toNat : Nat) : Int) := by omega
    have e2 : n / 9223372036854775808 % 18446744073709551616 = ((0 : Nat) : Int) := by omega
    rw [e1, e2, u64_xor_nat _ _ (by omega) (by omega), Nat.xor_zero]
    unfold zig
    rw [if_neg h]
theorem addInt_keep (base : Nat) (v : Value) (k : Nat) (l : List (BitVec 8)) (n : Int) (hn : -9223372036854775808 ≤ n ∧ n < 9223372036854775808) (w : World) (hown : w.ownsRow base 5 1 v k (cellsOf l)) (hbase : base ≤ w.heap.size) (hk : k + 10 ≤ 140737488355328) :
    Calls Tryz.prog 82 #[v, .int .i64 n] w fun e w' => ∃ v', e = .returned v' ∧ w'.ownsRow base 5 1 v' (k + (enc (zig n)).length) (cellsOf (l ++ enc (zig n))) ∧ Below base w w' ∧ KeepT w w' := by
  have HC := addUint_keep base v k l (zig n) (zig_lt n hn) w hown hbase hk
  have HZ : Hid _ := zig_bits n hn
  clear hown hbase hk hn
  go_enter Tryz.func82, Tryz.ntmps82
  go_wp2_with fail
  rw [HZ.out]
  refine HC.mono ?_
  rintro e w1 ⟨v1, rfl, o1, b1, t1⟩
  have T1 : Hid (KeepT w w1) := t1
  clear t1
  go_wp2
  go_ret
  exact ⟨_, rfl, o1, b1, T1.out⟩
theorem addInt_any (base : Nat) (v : Value) (k : Nat) (l : List (BitVec 8)) (n : Int) (hn : -9223372036854775808 ≤ n ∧ n < 9223372036854775808) (w : World) (hown : w.ownsRow base 5 1 v k (cellsOf l)) (hbase : base ≤ w.heap.size) (hk : k + 10 ≤ 140737488355328) :
    Calls Tryz.prog 82 #[v, .int .i64 n] w fun e w' => ∃ v', e = .returned v' ∧ w'.ownsRow base 5 1 v' (k + (enc (zig n)).length) (cellsOf (l ++ enc (zig n))) ∧ Below base w w' :=
  (addInt_keep base v k l n hn w hown hbase hk).mono fun _ _ ⟨v', h1, h2, h3, _⟩ => ⟨v', h1, h2, h3⟩
theorem int_any (a : Option Addr) (len cap : Nat) (l : List (BitVec 8)) (n : Int) (hn : -9223372036854775808 ≤ n ∧ n < 9223372036854775808) (w : World) (h : Seen w a len l) (hnil : a = none → cap = 0) (hm : len + 10 ≤ 140737488355328) :
    Calls Tryz.prog 54 #[.slice a len cap, .int .i64 n] w fun e w' => ∃ v', e = .returned v' ∧ w'.ownsRow w.heap.size 5 1 v' (len + (enc (zig n)).length) (cellsOf (l ++ enc (zig n))) ∧ Below w.heap.size w w' := by
  have HC := clone_any a len cap l w h hnil (by omega)
  have HM : Hid _ := hm
  have HN : Hid _ := hn
  clear h hnil hm hn
  go_enter Tryz.func54, Tryz.ntmps54
  go_wp2_with fail
  refine HC.mono ?_
  rintro e w1 ⟨v1, rfl, o1, b1⟩
  go_wp2_with fail
  refine (addInt_any w.heap.size v1 len l n HN.out w1 o1 b1.size HM.out).mono ?_
  rintro e w2 ⟨v2, rfl, o2, b2⟩
  go_wp2
  go_ret
  exact ⟨_, rfl, o2, b1.trans b2⟩
/-- Bytes behind their length. -/
def sz (p : List (BitVec 8)) : List (BitVec 8) := enc p.length ++ p
theorem sz_length_le (p : List (BitVec 8)) (h : p.length < 18446744073709551616) : (sz p).length ≤ p.length + 10 := by
  have := enc_ten h
  simp [sz]; omega
theorem strCells_eq (s : ByteArray) : Lib.strCells s = cellsOf (bytesL s) := by
  simp [Lib.strCells, cellsOf, bytesL, V]
theorem run_append_text (w : World) (base : Nat) (v : Value) (n : Nat) (l : List (BitVec 8)) (hown : w.ownsRow base 5 1 v n (cellsOf l)) (s : ByteArray) (hb : n + s.size ≤ 140737488355328) (hbase : base ≤ w.heap.size) :
    ∃ v' w', (Builtin.append_ #[31, 9] 31 #[v, .string s]).run Tryz.prog w = .ok v' w' ∧ w'.ownsRow base 5 1 v' (n + s.size) (cellsOf (l ++ bytesL s)) ∧ w.grownBy w' v.ownBlock := by
  obtain ⟨i0, hi, hz0, hz1, hz2⟩ := info_parts info5
  obtain ⟨v', w', hr, h1, h2, _⟩ := Lib.run_append_own_string (P := Tryz.prog) w base 31 9 31 5 i0 Tryz.underlying31 Tryz.underlying9 hi hz0 hz1 hz2 v n (cellsOf l) hown s (by unfold maxLen; omega) hb hbase
  exact ⟨v', w', hr, by rw [cellsOf_append, ← strCells_eq]; exact h1, h2⟩
theorem addText_keep (base : Nat) (v : Value) (k : Nat) (l : List (BitVec 8)) (s : ByteArray) (w : World) (hown : w.ownsRow base 5 1 v k (cellsOf l)) (hbase : base ≤ w.heap.size) (hk : k + 10 + s.size ≤ 140737488355328) :
    Calls Tryz.prog 81 #[v, .string s] w fun e w' => ∃ v', e = .returned v' ∧ w'.ownsRow base 5 1 v' (k + (sz (bytesL s)).length) (cellsOf (l ++ sz (bytesL s))) ∧ Below base w w' ∧ KeepT w w' := by
  have HC := addUint_keep base v k l s.size (by omega) w hown hbase (by omega)
  have HK : Hid _ := hk
  have HB : Hid _ := hbase
  have hsm : (s.size : Int) < 18446744073709551616 := by omega
  have h10 : Hid _ := enc_ten (n := s.size) (by omega)
  clear hown hbase hk
  go_enter Tryz.func81, Tryz.ntmps81
  go_wp2_with fail
  refine HC.mono ?_
  rintro e w1 ⟨v1, rfl, o1, b1, t1⟩
  have T1 : Hid (KeepT w w1) := t1
  clear t1
  obtain ⟨v2, w2, hr, o2, g2⟩ := run_append_text w1 base v1 _ _ o1 s (by have := HK.out; have := h10.out; omega) (Nat.le_trans HB.out b1.size)
  have HR : Hid _ := hr
  have T2 : Hid (KeepT w1 w2) := KeepT.grown o1 g2
  clear hr
  go_wp2_with (at_builtin; refine wpList_append_known rfl (.tmp 9) (.tmp 10) 31 9 rfl _ _ rfl rfl _ _ HR.out ?_)
  go_ret
  refine ⟨_, rfl, ?_, b1.grown g2 (Nat.le_trans HB.out b1.size) (fun k e => (o1.lt _ e).1), T1.out.trans T2.out⟩
  have e1 : k + (sz (bytesL s)).length = k + (enc s.size).length + s.size := by rw [sz, List.length_append, bytesL_length]; omega
  have e2 : l ++ sz (bytesL s) = l ++ enc s.size ++ bytesL s := by rw [sz, bytesL_length, List.append_assoc]
  rw [e1, e2]
  exact o2
theorem addText_any (base : Nat) (v : Value) (k : Nat) (l : List (BitVec 8)) (s : ByteArray) (w : World) (hown : w.ownsRow base 5 1 v k (cellsOf l)) (hbase : base ≤ w.heap.size) (hk : k + 10 + s.size ≤ 140737488355328) :
    Calls Tryz.prog 81 #[v, .string s] w fun e w' => ∃ v', e = .returned v' ∧ w'.ownsRow base 5 1 v' (k + (sz (bytesL s)).length) (cellsOf (l ++ sz (bytesL s))) ∧ Below base w w' :=
  (addText_keep base v k l s w hown hbase hk).mono fun _ _ ⟨v', h1, h2, h3, _⟩ => ⟨v', h1, h2, h3⟩
theorem text_any (a : Option Addr) (len cap : Nat) (l : List (BitVec 8)) (s : ByteArray) (w : World) (h : Seen w a len l) (hnil : a = none → cap = 0) (hm : len + 10 + s.size ≤ 140737488355328) :
    Calls Tryz.prog 53 #[.slice a len cap, .string s] w fun e w' => ∃ v', e = .returned v' ∧ w'.ownsRow w.heap.size 5 1 v' (len + (sz (bytesL s)).length) (cellsOf (l ++ sz (bytesL s))) ∧ Below w.heap.size w w' := by
  have HC := clone_any a len cap l w h hnil (by omega)
  have HM : Hid _ := hm
  clear h hnil hm
  go_enter Tryz.func53, Tryz.ntmps53
  go_wp2_with fail
  refine HC.mono ?_
  rintro e w1 ⟨v1, rfl, o1, b1⟩
  go_wp2_with fail
  refine (addText_any w.heap.size v1 len l s w1 o1 b1.size HM.out).mono ?_
  rintro e w2 ⟨v2, rfl, o2, b2⟩
  go_wp2
  go_ret
  exact ⟨_, rfl, o2, b1.trans b2⟩
/-- A truth's byte. -/
def bit8 (b : Bool) : BitVec 8 := if b then 1#8 else 0#8
/-- A sum's bytes. -/
def four (r : Crc.W) : List (BitVec 8) := [BitVec.ofNat 8 r.toNat, BitVec.ofNat 8 (r.toNat / 256), BitVec.ofNat 8 (r.toNat / 65536), BitVec.ofNat 8 (r.toNat / 16777216)]
theorem V_of (n : Nat) : V (BitVec.ofNat 8 n) = ((n : Nat) : Int) % 256 := by unfold V; simp
/-- A frame's bytes. -/
def frame (p : List (BitVec 8)) : List (BitVec 8) := enc p.length ++ four (Crc.more 0#32 p) ++ p
theorem frame_length (p : List (BitVec 8)) : (frame p).length = (enc p.length).length + 4 + p.length := by simp [frame, four]; omega
end Go.Proofs.YtdchnfggmkokhaaGreatDoor
