/- What the other writers do: signed numbers, texts, bytes, truths, sums, frames. -/
import Derived.Test.YtpnnbkhlbohfbaaDoorAddUint
import Derived.Lib.AppendStr
namespace Go.Proofs.YtpnnbkhlbohfbaaDoor
open Go.RowKit Cod
set_option linter.unusedVariables false

theorem xor_ones (a : Nat) (h : a < 18446744073709551616) : a ^^^ 18446744073709551615 = 18446744073709551615 - a := by
  have h1 : (BitVec.ofNat 64 a ^^^ BitVec.allOnes 64).toNat = 18446744073709551615 - a := by
    rw [BitVec.xor_allOnes, BitVec.toNat_not, BitVec.toNat_ofNat]
    omega
  rw [BitVec.toNat_xor, BitVec.toNat_ofNat, BitVec.toNat_allOnes, Nat.mod_eq_of_lt h] at h1
  exact h1
theorem zig_bits (n : Int) (hn : -9223372036854775808 ≤ n ∧ n < 9223372036854775808) : bits BinOp.xor IntKind.u64 (IntKind.u64.wrap (IntKind.u64.wrap n * 2)) (IntKind.u64.wrap (n / 9223372036854775808)) = ((zig n : Nat) : Int) := by
  simp only [IntKind.wrap_u64]
  by_cases h : n < 0
  · have e1 : n % 18446744073709551616 * 2 % 18446744073709551616 = (((2 * n + 18446744073709551616).toNat : Nat) : Int) := by omega
    have e2 : n / 9223372036854775808 % 18446744073709551616 = ((18446744073709551615 : Nat) : Int) := by omega
    rw [e1, e2, u64_xor_nat _ _ (by omega) (by omega), xor_ones _ (by omega)]
    unfold zig
    rw [if_pos h]
    omega
  · have e1 : n % 18446744073709551616 * 2 % 18446744073709551616 = (((2 * n).toNat : Nat) : Int) := by omega
    have e2 : n / 9223372036854775808 % 18446744073709551616 = ((0 : Nat) : Int) := by omega
    rw [e1, e2, u64_xor_nat _ _ (by omega) (by omega), Nat.xor_zero]
    unfold zig
    rw [if_neg h]
theorem addInt_keep (base : Nat) (v : Value) (k : Nat) (l : List (BitVec 8)) (n : Int) (hn : -9223372036854775808 ≤ n ∧ n < 9223372036854775808) (w : World) (hown : w.ownsRow base 5 1 v k (cellsOf l)) (hbase : base ≤ w.heap.size) (hk : k + 10 ≤ 140737488355328) :
    Calls Tryd.prog 58 #[v, .int .i64 n] w fun e w' => ∃ v', e = .returned v' ∧ w'.ownsRow base 5 1 v' (k + (enc (zig n)).length) (cellsOf (l ++ enc (zig n))) ∧ Below base w w' ∧ KeepT w w' := by
  have HC := addUint_keep base v k l (zig n) (zig_lt n hn) w hown hbase hk
  have HZ : Hid _ := zig_bits n hn
  clear hown hbase hk hn
  go_enter Tryd.func58, Tryd.ntmps58
  go_wp2_with fail
  rw [HZ.out]
  refine HC.mono ?_
  rintro e w1 ⟨v1, rfl, o1, b1, t1⟩
  have T1 : Hid (KeepT w w1) := t1
  clear t1
  go_wp2
  go_ret
  exact ⟨_, rfl, o1, b1, T1.out⟩
theorem addInt_any (base : Nat) (v : Value) (k : Nat) (l : List (BitVec 8)) (n : Int) (hn : -9223372036854775808 ≤ n ∧ n < 9223372036854775808) (w : World) (hown : w.ownsRow base 5 1 v k (cellsOf l)) (hbase : base ≤ w.heap.size) (hk : k + 10 ≤ 140737488355328) :
    Calls Tryd.prog 58 #[v, .int .i64 n] w fun e w' => ∃ v', e = .returned v' ∧ w'.ownsRow base 5 1 v' (k + (enc (zig n)).length) (cellsOf (l ++ enc (zig n))) ∧ Below base w w' :=
  (addInt_keep base v k l n hn w hown hbase hk).mono fun _ _ ⟨v', h1, h2, h3, _⟩ => ⟨v', h1, h2, h3⟩
theorem int_any (a : Option Addr) (len cap : Nat) (l : List (BitVec 8)) (n : Int) (hn : -9223372036854775808 ≤ n ∧ n < 9223372036854775808) (w : World) (h : Seen w a len l) (hnil : a = none → cap = 0) (hm : len + 10 ≤ 140737488355328) :
    Calls Tryd.prog 40 #[.slice a len cap, .int .i64 n] w fun e w' => ∃ v', e = .returned v' ∧ w'.ownsRow w.heap.size 5 1 v' (len + (enc (zig n)).length) (cellsOf (l ++ enc (zig n))) ∧ Below w.heap.size w w' := by
  have HC := clone_any a len cap l w h hnil (by omega)
  have HM : Hid _ := hm
  have HN : Hid _ := hn
  clear h hnil hm hn
  go_enter Tryd.func40, Tryd.ntmps40
  go_wp2_with fail
  refine HC.mono ?_
  rintro e w1 ⟨v1, rfl, o1, b1⟩
  go_wp2_with fail
  refine (addInt_any w.heap.size v1 len l n HN.out w1 o1 b1.size HM.out).mono ?_
  rintro e w2 ⟨v2, rfl, o2, b2⟩
  go_wp2
  go_ret
  exact ⟨_, rfl, o2, b1.trans b2⟩
/-- Bytes behind their length. -/
def sz (p : List (BitVec 8)) : List (BitVec 8) := enc p.length ++ p
theorem sz_length_le (p : List (BitVec 8)) (h : p.length < 18446744073709551616) : (sz p).length ≤ p.length + 10 := by
  have := enc_ten h
  simp [sz]; omega
theorem strCells_eq (s : ByteArray) : Lib.strCells s = cellsOf (bytesL s) := by
  simp [Lib.strCells, cellsOf, bytesL, V]
theorem run_append_text (w : World) (base : Nat) (v : Value) (n : Nat) (l : List (BitVec 8)) (hown : w.ownsRow base 5 1 v n (cellsOf l)) (s : ByteArray) (hb : n + s.size ≤ 140737488355328) (hbase : base ≤ w.heap.size) :
    ∃ v' w', (Builtin.append_ #[22, 9] 22 #[v, .string s]).run Tryd.prog w = .ok v' w' ∧ w'.ownsRow base 5 1 v' (n + s.size) (cellsOf (l ++ bytesL s)) ∧ w.grownBy w' v.ownBlock := by
  obtain ⟨i0, hi, hz0, hz1, hz2⟩ := info_parts info5
  obtain ⟨v', w', hr, h1, h2, _⟩ := Lib.run_append_own_string (P := Tryd.prog) w base 22 9 22 5 i0 Tryd.underlying22 Tryd.underlying9 hi hz0 hz1 hz2 v n (cellsOf l) hown s (by unfold maxLen; omega) hb hbase
  exact ⟨v', w', hr, by rw [cellsOf_append, ← strCells_eq]; exact h1, h2⟩
theorem addText_keep (base : Nat) (v : Value) (k : Nat) (l : List (BitVec 8)) (s : ByteArray) (w : World) (hown : w.ownsRow base 5 1 v k (cellsOf l)) (hbase : base ≤ w.heap.size) (hk : k + 10 + s.size ≤ 140737488355328) :
    Calls Tryd.prog 59 #[v, .string s] w fun e w' => ∃ v', e = .returned v' ∧ w'.ownsRow base 5 1 v' (k + (sz (bytesL s)).length) (cellsOf (l ++ sz (bytesL s))) ∧ Below base w w' ∧ KeepT w w' := by
  have HC := addUint_keep base v k l s.size (by omega) w hown hbase (by omega)
  have HK : Hid _ := hk
  have HB : Hid _ := hbase
  have hsm : (s.size : Int) < 18446744073709551616 := by omega
  have h10 : Hid _ := enc_ten (n := s.size) (by omega)
  clear hown hbase hk
  go_enter Tryd.func59, Tryd.ntmps59
  go_wp2_with fail
  refine HC.mono ?_
  rintro e w1 ⟨v1, rfl, o1, b1, t1⟩
  have T1 : Hid (KeepT w w1) := t1
  clear t1
  obtain ⟨v2, w2, hr, o2, g2⟩ := run_append_text w1 base v1 _ _ o1 s (by have := HK.out; have := h10.out; omega) (Nat.le_trans HB.out b1.size)
  have HR : Hid _ := hr
  have T2 : Hid (KeepT w1 w2) := KeepT.grown o1 g2
  clear hr
  go_wp2_with (at_builtin; refine wpList_append_known rfl (.tmp 9) (.tmp 10) 22 9 rfl _ _ rfl rfl _ _ HR.out ?_)
  go_ret
  refine ⟨_, rfl, ?_, b1.grown g2 (Nat.le_trans HB.out b1.size) (fun k e => (o1.lt _ e).1), T1.out.trans T2.out⟩
  have e1 : k + (sz (bytesL s)).length = k + (enc s.size).length + s.size := by rw [sz, List.length_append, bytesL_length]; omega
  have e2 : l ++ sz (bytesL s) = l ++ enc s.size ++ bytesL s := by rw [sz, bytesL_length, List.append_assoc]
  rw [e1, e2]
  exact o2
theorem addText_any (base : Nat) (v : Value) (k : Nat) (l : List (BitVec 8)) (s : ByteArray) (w : World) (hown : w.ownsRow base 5 1 v k (cellsOf l)) (hbase : base ≤ w.heap.size) (hk : k + 10 + s.size ≤ 140737488355328) :
    Calls Tryd.prog 59 #[v, .string s] w fun e w' => ∃ v', e = .returned v' ∧ w'.ownsRow base 5 1 v' (k + (sz (bytesL s)).length) (cellsOf (l ++ sz (bytesL s))) ∧ Below base w w' :=
  (addText_keep base v k l s w hown hbase hk).mono fun _ _ ⟨v', h1, h2, h3, _⟩ => ⟨v', h1, h2, h3⟩
theorem text_any (a : Option Addr) (len cap : Nat) (l : List (BitVec 8)) (s : ByteArray) (w : World) (h : Seen w a len l) (hnil : a = none → cap = 0) (hm : len + 10 + s.size ≤ 140737488355328) :
    Calls Tryd.prog 41 #[.slice a len cap, .string s] w fun e w' => ∃ v', e = .returned v' ∧ w'.ownsRow w.heap.size 5 1 v' (len + (sz (bytesL s)).length) (cellsOf (l ++ sz (bytesL s))) ∧ Below w.heap.size w w' := by
  have HC := clone_any a len cap l w h hnil (by omega)
  have HM : Hid _ := hm
  clear h hnil hm
  go_enter Tryd.func41, Tryd.ntmps41
  go_wp2_with fail
  refine HC.mono ?_
  rintro e w1 ⟨v1, rfl, o1, b1⟩
  go_wp2_with fail
  refine (addText_any w.heap.size v1 len l s w1 o1 b1.size HM.out).mono ?_
  rintro e w2 ⟨v2, rfl, o2, b2⟩
  go_wp2
  go_ret
  exact ⟨_, rfl, o2, b1.trans b2⟩
/-- A truth's byte. -/
def bit8 (b : Bool) : BitVec 8 := if b then 1#8 else 0#8
/-- A sum's bytes. -/
def four (r : Crc.W) : List (BitVec 8) := [BitVec.ofNat 8 r.toNat, BitVec.ofNat 8 (r.toNat / 256), BitVec.ofNat 8 (r.toNat / 65536), BitVec.ofNat 8 (r.toNat / 16777216)]
theorem V_of (n : Nat) : V (BitVec.ofNat 8 n) = ((n : Nat) : Int) % 256 := by unfold V; simp
set_option maxHeartbeats 400000 in
theorem addSum_any (base : Nat) (v : Value) (k : Nat) (l : List (BitVec 8)) (r : Crc.W) (w : World) (hown : w.ownsRow base 5 1 v k (cellsOf l)) (hbase : base ≤ w.heap.size) (hk : k + 4 ≤ 140737488355328) :
    Calls Tryd.prog 43 #[v, .int .u32 (U r)] w fun e w' => ∃ v', e = .returned v' ∧ w'.ownsRow base 5 1 v' (k + 4) (cellsOf (l ++ four r)) ∧ Below base w w' := by
  obtain ⟨v', w', hr, h1, h2⟩ := run_append_bytes 22 (w.alloc (.cells (cellsOf (four r)).toArray 5)) base v k l (hown.alloc _) (some ⟨w.heap.size, 0, none⟩) 4 4 (four r) (seen_new w (four r) 5 (0, 0) (by simp [maxLen, four])) (fun e => by cases e) hk (by simp; omega)
  have H1 : Hid _ := h1
  have H2 : Hid (Below base w w') := ((Below.refl _ w).alloc hbase _).grown h2 (by simp; omega) (fun k e => (hown.lt _ e).1)
  have e1 : (cellsOf (four r)).toArray = #[.int .u8 (U r % 256), .int .u8 (U r / 256 % 256), .int .u8 (U r / 65536 % 256), .int .u8 (U r / 16777216 % 256)] := by
    simp only [cellsOf, four, List.map_cons, List.map_nil, V_of, U]
    simp
  rw [e1] at hr
  have HR : Hid _ := hr
  clear h1 h2 hown hbase hk hr e1
  go_enter Tryd.func43, Tryd.ntmps43
  go_wp2_with (at_builtin; refine wpList_append_known rfl (.tmp 5) (.tmp 17) 22 22 rfl _ _ rfl rfl _ _ HR.out ?_)
  go_ret
  exact ⟨_, rfl, H1.out, H2.out⟩
/-- A frame's bytes. -/
def frame (p : List (BitVec 8)) : List (BitVec 8) := enc p.length ++ four (Crc.more 0#32 p) ++ p
theorem frame_length (p : List (BitVec 8)) : (frame p).length = (enc p.length).length + 4 + p.length := by simp [frame, four]; omega
theorem frame_no (a : Option Addr) (len cap : Nat) (w : World) (hl : 65536 < len) :
    Calls Tryd.prog 38 #[.slice a len cap] w fun e w' => e = .returned (.tuple #[.slice none 0 0, .int .i64 3]) ∧ w' = w := by
  have hl' : 65536 < (len : Int) := by omega
  clear hl
  go_enter Tryd.func38, Tryd.ntmps38
  go_wp2
  go_ret2
  exact ⟨rfl, rfl⟩
set_option maxHeartbeats 400000 in
theorem frame_any (a : Option Addr) (len cap : Nat) (p : List (BitVec 8)) (w : World) (hT : Tabs w) (h : Seen w a len p) (hnil : a = none → cap = 0) (hl : len ≤ 65536) :
    Calls Tryd.prog 38 #[.slice a len cap] w fun e w' => ∃ v, e = .returned (.tuple #[v, .int .i64 0]) ∧ w'.ownsRow w.heap.size 5 1 v (frame p).length (cellsOf (frame p)) ∧ Below w.heap.size w w' := by
  have hlp : len = p.length := h.1
  have HC := addUint_any w.heap.size (.slice none 0 0) 0 [] len (by omega) w (World.ownsRow_nil _ _ _ _) (Nat.le_refl _) (by omega)
  have HS : Hid (Seen w a len p) := h
  have HT : Hid (Tabs w) := hT
  have HN : Hid _ := hnil
  have HLP : Hid _ := hlp
  have HL : Hid _ := hl
  have h10 : Hid _ := enc_ten (n := len) (by omega)
  have hsm : IntKind.u64.wrap (len : Int) = len := by rw [IntKind.wrap_u64]; omega
  have hl' : decide (65536 < (len : Int)) = false := by simp; omega
  clear h hT hnil hlp hl
  go_enter Tryd.func38, Tryd.ntmps38
  go_wp2_with fail
  refine HC.mono ?_
  rintro e w1 ⟨v1, rfl, o1, b1⟩
  have O1 : Hid _ := o1
  have B1 : Hid _ := b1
  have HC2 := sum_any a len cap p w1 (HT.out.below b1 HT.out.size) (HS.out.below b1)
  clear o1 b1 hsm hl'
  go_wp2_with fail
  refine HC2.mono ?_
  rintro e w2 ⟨rfl, nq, rfl⟩
  go_wp2_with fail
  refine (addSum_any w.heap.size v1 _ _ (Crc.more 0#32 p) (w1.drewN nq) O1.out B1.out.size (by have := h10.out; omega)).mono ?_
  rintro e w3 ⟨v3, rfl, o3, b3⟩
  have B3 : Below w.heap.size w w3 := (below_drewN' B1.out nq).trans b3
  obtain ⟨v4, w4, hr, o4, g4⟩ := run_append_bytes 22 w3 w.heap.size v3 _ _ o3 a len cap p (HS.out.below B3) HN.out (by have := h10.out; have := HL.out; omega) B3.size
  have HR : Hid _ := hr
  have O4 : Hid _ := o4
  have B4 : Hid (Below w.heap.size w w4) := B3.grown g4 B3.size (fun k e => (o3.lt _ e).1)
  clear hr o4 g4 o3 b3 B3
  go_wp2_with (at_builtin; refine wpList_append_known rfl (.tmp 16) (.tmp 17) 22 22 rfl _ _ rfl rfl _ _ HR.out ?_)
  go_ret2
  refine ⟨_, rfl, ?_, B4.out⟩
  have e1 := HLP.out
  rw [frame_length, frame, ← e1]
  have := O4.out
  rw [List.nil_append, Nat.zero_add] at this
  exact this
end Go.Proofs.YtpnnbkhlbohfbaaDoor
