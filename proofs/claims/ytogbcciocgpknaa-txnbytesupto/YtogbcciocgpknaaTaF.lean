/- What the other writers do: signed numbers, texts, bytes, truths, sums, frames. -/
import Derived.Test.YtogbcciocgpknaaTaE
import Derived.Lib.AppendStr
namespace Go.Proofs.Ytogbcciocgpknaa
open Go.RowKit Cod
set_option linter.unusedVariables false

theorem xor_ones (a : Nat) (h : a < 18446744073709551616) : a ^^^ 18446744073709551615 = 18446744073709551615 - a := by
  have h1 : (BitVec.ofNat 64 a ^^^ BitVec.allOnes 64).toNat = 18446744073709551615 - a := by
    rw [BitVec.xor_allOnes, BitVec.toNat_not, BitVec.toNat_ofNat]
    omega
  rw [BitVec.toNat_xor, BitVec.toNat_ofNat, BitVec.toNat_allOnes, Nat.mod_eq_of_lt h] at h1
  exact h1
theorem zig_bits (n : Int) (hn : -9223372036854775808 ≤ n ∧ n < 9223372036854775808) : bits BinOp.xor IntKind.u64 (IntKind.u64.wrap (IntKind.u64.wrap n * 2)) (IntKind.u64.wrap (n / 9223372036854775808)) = ((zig n : Nat) : Int) := by
  simp only [IntKind.wrap_u64]
  by_cases h : n < 0
  · have e1 : n % 18446744073709551616 * 2 % 18446744073709551616 = (((2 * n + 18446744073709551616).toNat : Nat) : Int) := by omega
    have e2 : n / 9223372036854775808 % 18446744073709551616 = ((18446744073709551615 : Nat) : Int) := by omega
    rw [e1, e2, u64_xor_nat _ _ (by omega) (by omega), xor_ones _ (by omega)]
    unfold zig
    rw [if_pos h]
    omega
  · have e1 : n % 18446744073709551616 * 2 % 18446744073709551616 = (((2 * n).toNat : Nat) : Int) := by omega
    have e2 : n / 9223372036854775808 % 18446744073709551616 = ((0 : Nat) : Int) := by omega
    rw [e1, e2, u64_xor_nat _ _ (by omega) (by omega), Nat.xor_zero]
    unfold zig
    rw [if_neg h]
theorem addInt_keep (base : Nat) (v : Value) (k : Nat) (l : List (BitVec 8)) (n : Int) (hn : -9223372036854775808 ≤ n ∧ n < 9223372036854775808) (w : World) (hown : w.ownsRow base 5 1 v k (cellsOf l)) (hbase : base ≤ w.heap.size) (hk : k + 10 ≤ 140737488355328) :
    Calls Try.prog 51 #[v, .int .i64 n] w fun e w' => ∃ v', e = .returned v' ∧ w'.ownsRow base 5 1 v' (k + (enc (zig n)).length) (cellsOf (l ++ enc (zig n))) ∧ Below base w w' ∧ KeepT w w' := by
  have HC := addUint_keep base v k l (zig n) (zig_lt n hn) w hown hbase hk
  have HZ : Hid _ := zig_bits n hn
  clear hown hbase hk hn
  go_enter Try.func51, Try.ntmps51
  go_wp2_with fail
  rw [HZ.out]
  refine HC.mono ?_
  rintro e w1 ⟨v1, rfl, o1, b1, t1⟩
  have T1 : Hid (KeepT w w1) := t1
  clear t1
  go_wp2
  go_ret
  exact ⟨_, rfl, o1, b1, T1.out⟩
theorem addInt_any (base : Nat) (v : Value) (k : Nat) (l : List (BitVec 8)) (n : Int) (hn : -9223372036854775808 ≤ n ∧ n < 9223372036854775808) (w : World) (hown : w.ownsRow base 5 1 v k (cellsOf l)) (hbase : base ≤ w.heap.size) (hk : k + 10 ≤ 140737488355328) :
    Calls Try.prog 51 #[v, .int .i64 n] w fun e w' => ∃ v', e = .returned v' ∧ w'.ownsRow base 5 1 v' (k + (enc (zig n)).length) (cellsOf (l ++ enc (zig n))) ∧ Below base w w' :=
  (addInt_keep base v k l n hn w hown hbase hk).mono fun _ _ ⟨v', h1, h2, h3, _⟩ => ⟨v', h1, h2, h3⟩
theorem int_any (a : Option Addr) (len cap : Nat) (l : List (BitVec 8)) (n : Int) (hn : -9223372036854775808 ≤ n ∧ n < 9223372036854775808) (w : World) (h : Seen w a len l) (hnil : a = none → cap = 0) (hm : len + 10 ≤ 140737488355328) :
    Calls Try.prog 22 #[.slice a len cap, .int .i64 n] w fun e w' => ∃ v', e = .returned v' ∧ w'.ownsRow w.heap.size 5 1 v' (len + (enc (zig n)).length) (cellsOf (l ++ enc (zig n))) ∧ Below w.heap.size w w' := by
  have HC := clone_any a len cap l w h hnil (by omega)
  have HM : Hid _ := hm
  have HN : Hid _ := hn
  clear h hnil hm hn
  go_enter Try.func22, Try.ntmps22
  go_wp2_with fail
  refine HC.mono ?_
  rintro e w1 ⟨v1, rfl, o1, b1⟩
  go_wp2_with fail
  refine (addInt_any w.heap.size v1 len l n HN.out w1 o1 b1.size HM.out).mono ?_
  rintro e w2 ⟨v2, rfl, o2, b2⟩
  go_wp2
  go_ret
  exact ⟨_, rfl, o2, b1.trans b2⟩
/-- Bytes behind their length. -/
def sz (p : List (BitVec 8)) : List (BitVec 8) := enc p.length ++ p
theorem sz_length_le (p : List (BitVec 8)) (h : p.length < 18446744073709551616) : (sz p).length ≤ p.length + 10 := by
  have := enc_ten h
  simp [sz]; omega
theorem strCells_eq (s : ByteArray) : Lib.strCells s = cellsOf (bytesL s) := by
  simp [Lib.strCells, cellsOf, bytesL, V]
theorem run_append_text (w : World) (base : Nat) (v : Value) (n : Nat) (l : List (BitVec 8)) (hown : w.ownsRow base 5 1 v n (cellsOf l)) (s : ByteArray) (hb : n + s.size ≤ 140737488355328) (hbase : base ≤ w.heap.size) :
    ∃ v' w', (Builtin.append_ #[25, 9] 25 #[v, .string s]).run Try.prog w = .ok v' w' ∧ w'.ownsRow base 5 1 v' (n + s.size) (cellsOf (l ++ bytesL s)) ∧ w.grownBy w' v.ownBlock := by
  obtain ⟨i0, hi, hz0, hz1, hz2⟩ := info_parts info5
  obtain ⟨v', w', hr, h1, h2, _⟩ := Lib.run_append_own_string (P := Try.prog) w base 25 9 25 5 i0 Try.underlying25 Try.underlying9 hi hz0 hz1 hz2 v n (cellsOf l) hown s (by unfold maxLen; omega) hb hbase
  exact ⟨v', w', hr, by rw [cellsOf_append, ← strCells_eq]; exact h1, h2⟩
theorem addText_keep (base : Nat) (v : Value) (k : Nat) (l : List (BitVec 8)) (s : ByteArray) (w : World) (hown : w.ownsRow base 5 1 v k (cellsOf l)) (hbase : base ≤ w.heap.size) (hk : k + 10 + s.size ≤ 140737488355328) :
    Calls Try.prog 61 #[v, .string s] w fun e w' => ∃ v', e = .returned v' ∧ w'.ownsRow base 5 1 v' (k + (sz (bytesL s)).length) (cellsOf (l ++ sz (bytesL s))) ∧ Below base w w' ∧ KeepT w w' := by
  have HC := addUint_keep base v k l s.size (by omega) w hown hbase (by omega)
  have HK : Hid _ := hk
  have HB : Hid _ := hbase
  have hsm : (s.size : Int) < 18446744073709551616 := by omega
  have h10 : Hid _ := enc_ten (n := s.size) (by omega)
  clear hown hbase hk
  go_enter Try.func61, Try.ntmps61
  go_wp2_with fail
  refine HC.mono ?_
  rintro e w1 ⟨v1, rfl, o1, b1, t1⟩
  have T1 : Hid (KeepT w w1) := t1
  clear t1
  obtain ⟨v2, w2, hr, o2, g2⟩ := run_append_text w1 base v1 _ _ o1 s (by have := HK.out; have := h10.out; omega) (Nat.le_trans HB.out b1.size)
  have HR : Hid _ := hr
  have T2 : Hid (KeepT w1 w2) := KeepT.grown o1 g2
  clear hr
  go_wp2_with (at_builtin; refine wpList_append_known rfl (.tmp 9) (.tmp 10) 25 9 rfl _ _ rfl rfl _ _ HR.out ?_)
  go_ret
  refine ⟨_, rfl, ?_, b1.grown g2 (Nat.le_trans HB.out b1.size) (fun k e => (o1.lt _ e).1), T1.out.trans T2.out⟩
  have e1 : k + (sz (bytesL s)).length = k + (enc s.size).length + s.size := by rw [sz, List.length_append, bytesL_length]; omega
  have e2 : l ++ sz (bytesL s) = l ++ enc s.size ++ bytesL s := by rw [sz, bytesL_length, List.append_assoc]
  rw [e1, e2]
  exact o2
theorem addText_any (base : Nat) (v : Value) (k : Nat) (l : List (BitVec 8)) (s : ByteArray) (w : World) (hown : w.ownsRow base 5 1 v k (cellsOf l)) (hbase : base ≤ w.heap.size) (hk : k + 10 + s.size ≤ 140737488355328) :
    Calls Try.prog 61 #[v, .string s] w fun e w' => ∃ v', e = .returned v' ∧ w'.ownsRow base 5 1 v' (k + (sz (bytesL s)).length) (cellsOf (l ++ sz (bytesL s))) ∧ Below base w w' :=
  (addText_keep base v k l s w hown hbase hk).mono fun _ _ ⟨v', h1, h2, h3, _⟩ => ⟨v', h1, h2, h3⟩
theorem text_any (a : Option Addr) (len cap : Nat) (l : List (BitVec 8)) (s : ByteArray) (w : World) (h : Seen w a len l) (hnil : a = none → cap = 0) (hm : len + 10 + s.size ≤ 140737488355328) :
    Calls Try.prog 55 #[.slice a len cap, .string s] w fun e w' => ∃ v', e = .returned v' ∧ w'.ownsRow w.heap.size 5 1 v' (len + (sz (bytesL s)).length) (cellsOf (l ++ sz (bytesL s))) ∧ Below w.heap.size w w' := by
  have HC := clone_any a len cap l w h hnil (by omega)
  have HM : Hid _ := hm
  clear h hnil hm
  go_enter Try.func55, Try.ntmps55
  go_wp2_with fail
  refine HC.mono ?_
  rintro e w1 ⟨v1, rfl, o1, b1⟩
  go_wp2_with fail
  refine (addText_any w.heap.size v1 len l s w1 o1 b1.size HM.out).mono ?_
  rintro e w2 ⟨v2, rfl, o2, b2⟩
  go_wp2
  go_ret
  exact ⟨_, rfl, o2, b1.trans b2⟩
/-- addBytes; the bytes lie outside of what is written to. -/
theorem addBytes_keep (base : Nat) (v : Value) (k : Nat) (l : List (BitVec 8)) (a : Option Addr) (len cap : Nat) (p : List (BitVec 8)) (w : World) (hown : w.ownsRow base 5 1 v k (cellsOf l)) (hbase : base ≤ w.heap.size)
    (hp : ∀ w', Below base w w' → Seen w' a len p) (hnil : a = none → cap = 0) (hk : k + 10 + len ≤ 140737488355328) :
    Calls Try.prog 53 #[v, .slice a len cap] w fun e w' => ∃ v', e = .returned v' ∧ w'.ownsRow base 5 1 v' (k + (sz p).length) (cellsOf (l ++ sz p)) ∧ Below base w w' ∧ KeepT w w' := by
  obtain rfl : len = p.length := (hp w (Below.refl _ _)).1
  have HC := addUint_keep base v k l p.length (by omega) w hown hbase (by omega)
  have HK : Hid _ := hk
  have HB : Hid _ := hbase
  have hsm : (p.length : Int) < 18446744073709551616 := by omega
  have h10 : Hid _ := enc_ten (n := p.length) (by omega)
  have HP : Hid _ := hp
  have HN : Hid _ := hnil
  clear hown hbase hk hp hnil
  go_enter Try.func53, Try.ntmps53
  go_wp2_with fail
  refine HC.mono ?_
  rintro e w1 ⟨v1, rfl, o1, b1, t1⟩
  have T1 : Hid (KeepT w w1) := t1
  clear t1
  obtain ⟨v2, w2, hr, o2, g2⟩ := run_append_bytes 25 w1 base v1 _ _ o1 a p.length cap p (HP.out w1 b1) HN.out (by have := HK.out; have := h10.out; omega) (Nat.le_trans HB.out b1.size)
  have HR : Hid _ := hr
  have T2 : Hid (KeepT w1 w2) := KeepT.grown o1 g2
  clear hr
  go_wp2_with (at_builtin; refine wpList_append_known rfl (.tmp 9) (.tmp 10) 25 25 rfl _ _ rfl rfl _ _ HR.out ?_)
  go_ret
  refine ⟨_, rfl, ?_, b1.grown g2 (Nat.le_trans HB.out b1.size) (fun k e => (o1.lt _ e).1), T1.out.trans T2.out⟩
  have e1 : k + (sz p).length = k + (enc p.length).length + p.length := by rw [sz, List.length_append]; omega
  have e2 : l ++ sz p = l ++ enc p.length ++ p := by rw [sz, List.append_assoc]
  rw [e1, e2]
  exact o2
theorem addBytes_any (base : Nat) (v : Value) (k : Nat) (l : List (BitVec 8)) (a : Option Addr) (len cap : Nat) (p : List (BitVec 8)) (w : World) (hown : w.ownsRow base 5 1 v k (cellsOf l)) (hbase : base ≤ w.heap.size)
    (hp : ∀ w', Below base w w' → Seen w' a len p) (hnil : a = none → cap = 0) (hk : k + 10 + len ≤ 140737488355328) :
    Calls Try.prog 53 #[v, .slice a len cap] w fun e w' => ∃ v', e = .returned v' ∧ w'.ownsRow base 5 1 v' (k + (sz p).length) (cellsOf (l ++ sz p)) ∧ Below base w w' :=
  (addBytes_keep base v k l a len cap p w hown hbase hp hnil hk).mono fun _ _ ⟨v', h1, h2, h3, _⟩ => ⟨v', h1, h2, h3⟩
/-- A truth's byte. -/
def bit8 (b : Bool) : BitVec 8 := if b then 1#8 else 0#8
theorem addBool_any (base : Nat) (v : Value) (k : Nat) (l : List (BitVec 8)) (b : Bool) (w : World) (hown : w.ownsRow base 5 1 v k (cellsOf l)) (hbase : base ≤ w.heap.size) (hk : k + 1 ≤ 140737488355328) :
    Calls Try.prog 59 #[v, .bool b] w fun e w' => ∃ v', e = .returned v' ∧ w'.ownsRow base 5 1 v' (k + 1) (cellsOf (l ++ [bit8 b])) ∧ Below base w w' := by
  obtain ⟨v', w', hr, h1, h2, _⟩ := append_one w base v k l hown (bit8 b) hk hbase
  have H1 : Hid _ := h1
  have H2 : Hid _ := h2
  clear h1 h2 hown hbase hk
  cases b
  · rw [show V (bit8 false) = 0 from rfl] at hr
    have HR : Hid _ := hr
    clear hr
    go_enter Try.func59, Try.ntmps59
    go_wp2_with (at_builtin; refine wpList_append_known rfl (.tmp 9) (.tmp 10) 25 25 rfl _ _ rfl rfl _ _ HR.out ?_)
    go_ret
    exact ⟨_, rfl, H1.out, H2.out⟩
  · rw [show V (bit8 true) = 1 from rfl] at hr
    have HR : Hid _ := hr
    clear hr
    go_enter Try.func59, Try.ntmps59
    go_wp2_with (at_builtin; refine wpList_append_known rfl (.tmp 6) (.tmp 7) 25 25 rfl _ _ rfl rfl _ _ HR.out ?_)
    go_ret
    exact ⟨_, rfl, H1.out, H2.out⟩
/-- A sum's bytes. -/
def four (r : Crc.W) : List (BitVec 8) := [BitVec.ofNat 8 r.toNat, BitVec.ofNat 8 (r.toNat / 256), BitVec.ofNat 8 (r.toNat / 65536), BitVec.ofNat 8 (r.toNat / 16777216)]
theorem V_of (n : Nat) : V (BitVec.ofNat 8 n) = ((n : Nat) : Int) % 256 := by unfold V; simp
/-- A frame's bytes. -/
def frame (p : List (BitVec 8)) : List (BitVec 8) := enc p.length ++ four (Crc.more 0#32 p) ++ p
theorem frame_length (p : List (BitVec 8)) : (frame p).length = (enc p.length).length + 4 + p.length := by simp [frame, four]; omega
end Go.Proofs.Ytogbcciocgpknaa

namespace Go.Proofs.Ytogbcciocgpknaa
open Go.RowKit Cod
set_option linter.unusedVariables false

theorem bool_any (a : Option Addr) (len cap : Nat) (l : List (BitVec 8)) (b : Bool) (w : World) (h : Seen w a len l) (hnil : a = none → cap = 0) (hm : len + 1 ≤ 140737488355328) :
    Calls Try.prog 28 #[.slice a len cap, .bool b] w fun e w' => ∃ v', e = .returned v' ∧ w'.ownsRow w.heap.size 5 1 v' (len + 1) (cellsOf (l ++ [bit8 b])) ∧ Below w.heap.size w w' := by
  have HC := clone_any a len cap l w h hnil (by omega)
  have HM : Hid _ := hm
  clear h hnil hm
  go_enter Try.func28, Try.ntmps28
  go_wp2_with fail
  refine HC.mono ?_
  rintro e w1 ⟨v1, rfl, o1, b1⟩
  go_wp2_with fail
  refine (addBool_any w.heap.size v1 len l b w1 o1 b1.size HM.out).mono ?_
  rintro e w2 ⟨v2, rfl, o2, b2⟩
  go_wp2
  go_ret
  exact ⟨_, rfl, o2, b1.trans b2⟩
theorem bytes_any (a : Option Addr) (len cap : Nat) (l : List (BitVec 8)) (pa : Option Addr) (pn pc : Nat) (p : List (BitVec 8)) (w : World) (h : Seen w a len l) (hnil : a = none → cap = 0) (hp : Seen w pa pn p) (hpn : pa = none → pc = 0) (hm : len + 10 + pn ≤ 140737488355328) :
    Calls Try.prog 23 #[.slice a len cap, .slice pa pn pc] w fun e w' => ∃ v', e = .returned v' ∧ w'.ownsRow w.heap.size 5 1 v' (len + (sz p).length) (cellsOf (l ++ sz p)) ∧ Below w.heap.size w w' := by
  have HC := clone_any a len cap l w h hnil (by omega)
  have HM : Hid _ := hm
  have HP : Hid (Seen w pa pn p) := hp
  have HN : Hid _ := hpn
  clear h hnil hm hp hpn
  go_enter Try.func23, Try.ntmps23
  go_wp2_with fail
  refine HC.mono ?_
  rintro e w1 ⟨v1, rfl, o1, b1⟩
  go_wp2_with fail
  refine (addBytes_any w.heap.size v1 len l pa pn pc p w1 o1 b1.size (fun w' hb => HP.out.below (b1.trans hb)) HN.out HM.out).mono ?_
  rintro e w2 ⟨v2, rfl, o2, b2⟩
  go_wp2
  go_ret
  exact ⟨_, rfl, o2, b1.trans b2⟩
end Go.Proofs.Ytogbcciocgpknaa

namespace Go.Proofs.Ytogbcciocgpknaa
open Go.RowKit Cod
set_option linter.unusedVariables false

/-- An operation. -/
structure OpD where
  kind : Int
  src : ByteArray
  dst : ByteArray
  amount : Int
  key : ByteArray
  slot : Int
  shard : Int
def i64ok (n : Int) : Prop := -9223372036854775808 ≤ n ∧ n < 9223372036854775808
structure OpD.ok (o : OpD) : Prop where
  kind : i64ok o.kind
  amount : i64ok o.amount
  slot : i64ok o.slot
  shard : i64ok o.shard
def OpD.val (o : OpD) : Value := .agg #[.int .i64 o.kind, .string o.src, .string o.dst, .int .i64 o.amount, .string o.key, .int .i64 o.slot, .int .i64 o.shard]
def OpD.bytes (o : OpD) : List (BitVec 8) := enc (zig o.kind) ++ sz (bytesL o.src) ++ sz (bytesL o.dst) ++ enc (zig o.amount) ++ sz (bytesL o.key) ++ enc (zig o.slot) ++ enc (zig o.shard)
def OpD.size (o : OpD) : Nat := o.src.size + o.dst.size + o.key.size
theorem sz_le (s : ByteArray) (h : s.size < 18446744073709551616) : (sz (bytesL s)).length ≤ s.size + 10 := by
  have := sz_length_le (bytesL s) (by rw [bytesL_length]; exact h)
  rwa [bytesL_length] at this
theorem owns_mono' {w : World} {base base' : Nat} {e : TypeId} {size : Nat} {v : Value} {n : Nat} {xs : List Value} (h : w.ownsRow base e size v n xs) (hb : base' ≤ base) : w.ownsRow base' e size v n xs :=
  ⟨h.1, h.2.imp id fun ⟨g, cap, cur, e1, e2, e3⟩ => ⟨g, cap, cur, e1, Nat.le_trans hb e2, e3⟩⟩
set_option maxRecDepth 100000 in
set_option maxHeartbeats 800000 in
theorem putOp_any (a : Option Addr) (len cap : Nat) (l : List (BitVec 8)) (o : OpD) (ho : o.ok) (w : World) (h : Seen w a len l) (hnil : a = none → cap = 0) (hm : len + 70 + o.size ≤ 140737488355328) :
    Calls Try.prog 54 #[.slice a len cap, o.val] w fun e w' => ∃ v', e = .returned v' ∧ w'.ownsRow w.heap.size 5 1 v' (len + o.bytes.length) (cellsOf (l ++ o.bytes)) ∧ Below w.heap.size w w' := by
  obtain ⟨kind, src, dst, amount, key, slot, shard⟩ := o
  obtain ⟨h1, h2, h3, h4⟩ := ho
  simp only [OpD.size] at hm
  simp only at h1 h2 h3 h4
  unfold i64ok at h1 h2 h3 h4
  show Calls Try.prog 54 #[.slice a len cap, .agg #[.int .i64 kind, .string src, .string dst, .int .i64 amount, .string key, .int .i64 slot, .int .i64 shard]] w _
  generalize hw1 : w.alloc (.cells #[.int .i64 kind, .string src, .string dst, .int .i64 amount, .string key, .int .i64 slot, .int .i64 shard] 23) = w1
  have b1 : Below w.heap.size w w1 := by rw [← hw1]; exact (Below.refl _ w).alloc (Nat.le_refl _) _
  have hh : w1.heap[w.heap.size]? = some (.cells #[.int .i64 kind, .string src, .string dst, .int .i64 amount, .string key, .int .i64 slot, .int .i64 shard] 23 (0, 0)) := by rw [← hw1]; exact heap_alloc_new w _
  have hlt : w.heap.size < w1.heap.size := by rw [← hw1]; simp
  have cc : ∀ w', Below w1.heap.size w1 w' → w'.cell? ⟨w.heap.size, 0, none⟩ = some (.int .i64 kind) ∧ w'.cell? ⟨w.heap.size, 1, none⟩ = some (.string src) ∧ w'.cell? ⟨w.heap.size, 2, none⟩ = some (.string dst) ∧ w'.cell? ⟨w.heap.size, 3, none⟩ = some (.int .i64 amount) ∧ w'.cell? ⟨w.heap.size, 4, none⟩ = some (.string key) ∧ w'.cell? ⟨w.heap.size, 5, none⟩ = some (.int .i64 slot) ∧ w'.cell? ⟨w.heap.size, 6, none⟩ = some (.int .i64 shard) := fun w' h => by
    have hb : w'.heap[w.heap.size]? = w1.heap[w.heap.size]? := h.block _ hlt
    refine ⟨?_, ?_, ?_, ?_, ?_, ?_, ?_⟩ <;> simp [World.cell?, hb, hh]
  have k0 : ∀ w', Below w1.heap.size w1 w' → w'.cell? ⟨w.heap.size, 0, none⟩ = some (.int .i64 kind) := fun w' h => (cc w' h).1
  have hS : Seen w1 a len l := h.below b1
  have C6 : ∀ w', Below w1.heap.size w1 w' → Hid (Calls Try.prog 52 #[.slice a len cap] w' fun e w'' => ∃ v, e = .returned v ∧ w''.ownsRow w1.heap.size 5 1 v len (cellsOf l) ∧ Below w1.heap.size w1 w'') := fun w' h => by
    refine (clone_any a len cap l w' (hS.below h) hnil (by omega)).mono ?_
    rintro e w'' ⟨v, rfl, o, b⟩
    exact ⟨v, rfl, ⟨o.1, o.2.imp id fun ⟨g, cap, cur, e1, e2, e3⟩ => ⟨g, cap, cur, e1, Nat.le_trans h.size e2, e3⟩⟩, h.trans (b.mono h.size)⟩
  have C9 : ∀ w' v, Below w1.heap.size w1 w' → w'.ownsRow w1.heap.size 5 1 v len (cellsOf l) → Hid (Calls Try.prog 51 #[v, .int .i64 kind] w' fun e w'' => ∃ v', e = .returned v' ∧ w''.ownsRow w1.heap.size 5 1 v' (len + (enc (zig kind)).length) (cellsOf (l ++ enc (zig kind))) ∧ Below w1.heap.size w1 w'') := fun w' v h ho => by
    refine (addInt_any w1.heap.size v len l kind h1 w' ho h.size (by omega)).mono ?_
    rintro e w'' ⟨v', rfl, o, b⟩
    exact ⟨v', rfl, o, h.trans b⟩
  have B0 := Below.refl w1.heap.size w1
  have HW : Hid _ := hw1
  have HB1 : Hid _ := b1
  have CC : Hid (∀ w', Below w1.heap.size w1 w' → w'.cell? ⟨w.heap.size, 0, none⟩ = some (.int .i64 kind) ∧ w'.cell? ⟨w.heap.size, 1, none⟩ = some (.string src) ∧ w'.cell? ⟨w.heap.size, 2, none⟩ = some (.string dst) ∧ w'.cell? ⟨w.heap.size, 3, none⟩ = some (.int .i64 amount) ∧ w'.cell? ⟨w.heap.size, 4, none⟩ = some (.string key) ∧ w'.cell? ⟨w.heap.size, 5, none⟩ = some (.int .i64 slot) ∧ w'.cell? ⟨w.heap.size, 6, none⟩ = some (.int .i64 shard)) := cc
  have e1 := enc_ten (zig_lt kind h1)
  have e2 := sz_le src (by omega)
  have e3 := sz_le dst (by omega)
  have e4 := enc_ten (zig_lt amount h2)
  have e5 := sz_le key (by omega)
  have e6 := enc_ten (zig_lt slot h3)
  have M2 : Hid (len + (enc (zig kind)).length + 10 + src.size ≤ 140737488355328) := by show _ ≤ _; omega
  have M3 : Hid (len + (enc (zig kind)).length + (sz (bytesL src)).length + 10 + dst.size ≤ 140737488355328) := by show _ ≤ _; omega
  have M4 : Hid (len + (enc (zig kind)).length + (sz (bytesL src)).length + (sz (bytesL dst)).length + 10 ≤ 140737488355328) := by show _ ≤ _; omega
  have M5 : Hid (len + (enc (zig kind)).length + (sz (bytesL src)).length + (sz (bytesL dst)).length + (enc (zig amount)).length + 10 + key.size ≤ 140737488355328) := by show _ ≤ _; omega
  have M6 : Hid (len + (enc (zig kind)).length + (sz (bytesL src)).length + (sz (bytesL dst)).length + (enc (zig amount)).length + (sz (bytesL key)).length + 10 ≤ 140737488355328) := by show _ ≤ _; omega
  have M7 : Hid (len + (enc (zig kind)).length + (sz (bytesL src)).length + (sz (bytesL dst)).length + (enc (zig amount)).length + (sz (bytesL key)).length + (enc (zig slot)).length + 10 ≤ 140737488355328) := by show _ ≤ _; omega
  have H2 : Hid _ := h2
  have H3 : Hid _ := h3
  have H4 : Hid _ := h4
  clear h hnil hm hw1 b1 hh hlt cc hS e1 e2 e3 e4 e5 e6 h1 h2 h3 h4
  go_enter Try.func54, Try.ntmps54
  go_wp2_with fail
  rw [HW.out]
  go_region_held3 (fun w' => Below w1.heap.size w1 w')
    (first | assumption | (exact Below.drew (by assumption)))
    (first
      | (go_at_call 52; refine (C6 _ (by assumption)).out.mono ?_; rintro e w2 ⟨v2, rfl, o2, hb2⟩)
      | (go_at_call 51; refine (C9 _ _ (by assumption) (by assumption)).out.mono ?_; rintro e w2 ⟨v2, rfl, o2, hb2⟩))
  have O2 : Hid (w2.ownsRow w1.heap.size 5 1 v2 (len + (enc (zig kind)).length) (cellsOf (l ++ enc (zig kind)))) := o2
  have B2 : Hid (Below w1.heap.size w1 w2) := hb2
  clear o2 hb2 C6 C9 k0
  obtain ⟨q0, q1, q2, q3, q4, q5, q6⟩ := CC.out w2 B2.out
  go_wp2_with fail
  refine (addText_any w1.heap.size v2 _ _ src w2 O2.out B2.out.size M2.out).mono ?_
  clear q0 q1 q2 q3 q4 q5 q6
  rintro e w3 ⟨v3, rfl, o3, b3⟩
  have O3 : Hid (w3.ownsRow w1.heap.size 5 1 v3 (len + (enc (zig kind)).length + (sz (bytesL src)).length) (cellsOf (l ++ enc (zig kind) ++ sz (bytesL src)))) := o3
  have B3 : Hid (Below w1.heap.size w1 w3) := B2.out.trans b3
  clear o3 b3 O2 B2
  obtain ⟨q0, q1, q2, q3, q4, q5, q6⟩ := CC.out w3 B3.out
  go_wp2_with fail
  refine (addText_any w1.heap.size v3 _ _ dst w3 O3.out B3.out.size M3.out).mono ?_
  clear q0 q1 q2 q3 q4 q5 q6
  rintro e w4 ⟨v4, rfl, o4, b4⟩
  have O4 : Hid (w4.ownsRow w1.heap.size 5 1 v4 (len + (enc (zig kind)).length + (sz (bytesL src)).length + (sz (bytesL dst)).length) (cellsOf (l ++ enc (zig kind) ++ sz (bytesL src) ++ sz (bytesL dst)))) := o4
  have B4 : Hid (Below w1.heap.size w1 w4) := B3.out.trans b4
  clear o4 b4 O3 B3
  obtain ⟨q0, q1, q2, q3, q4, q5, q6⟩ := CC.out w4 B4.out
  go_wp2_with fail
  refine (addInt_any w1.heap.size v4 _ _ amount H2.out w4 O4.out B4.out.size M4.out).mono ?_
  clear q0 q1 q2 q3 q4 q5 q6
  rintro e w5 ⟨v5, rfl, o5, b5⟩
  have O5 : Hid (w5.ownsRow w1.heap.size 5 1 v5 (len + (enc (zig kind)).length + (sz (bytesL src)).length + (sz (bytesL dst)).length + (enc (zig amount)).length) (cellsOf (l ++ enc (zig kind) ++ sz (bytesL src) ++ sz (bytesL dst) ++ enc (zig amount)))) := o5
  have B5 : Hid (Below w1.heap.size w1 w5) := B4.out.trans b5
  clear o5 b5 O4 B4
  obtain ⟨q0, q1, q2, q3, q4, q5, q6⟩ := CC.out w5 B5.out
  go_wp2_with fail
  refine (addText_any w1.heap.size v5 _ _ key w5 O5.out B5.out.size M5.out).mono ?_
  clear q0 q1 q2 q3 q4 q5 q6
  rintro e w6 ⟨v6, rfl, o6, b6⟩
  have O6 : Hid (w6.ownsRow w1.heap.size 5 1 v6 (len + (enc (zig kind)).length + (sz (bytesL src)).length + (sz (bytesL dst)).length + (enc (zig amount)).length + (sz (bytesL key)).length) (cellsOf (l ++ enc (zig kind) ++ sz (bytesL src) ++ sz (bytesL dst) ++ enc (zig amount) ++ sz (bytesL key)))) := o6
  have B6 : Hid (Below w1.heap.size w1 w6) := B5.out.trans b6
  clear o6 b6 O5 B5
  obtain ⟨q0, q1, q2, q3, q4, q5, q6⟩ := CC.out w6 B6.out
  go_wp2_with fail
  refine (addInt_any w1.heap.size v6 _ _ slot H3.out w6 O6.out B6.out.size M6.out).mono ?_
  clear q0 q1 q2 q3 q4 q5 q6
  rintro e w7 ⟨v7, rfl, o7, b7⟩
  have O7 : Hid (w7.ownsRow w1.heap.size 5 1 v7 (len + (enc (zig kind)).length + (sz (bytesL src)).length + (sz (bytesL dst)).length + (enc (zig amount)).length + (sz (bytesL key)).length + (enc (zig slot)).length) (cellsOf (l ++ enc (zig kind) ++ sz (bytesL src) ++ sz (bytesL dst) ++ enc (zig amount) ++ sz (bytesL key) ++ enc (zig slot)))) := o7
  have B7 : Hid (Below w1.heap.size w1 w7) := B6.out.trans b7
  clear o7 b7 O6 B6
  obtain ⟨q0, q1, q2, q3, q4, q5, q6⟩ := CC.out w7 B7.out
  go_wp2_with fail
  refine (addInt_any w1.heap.size v7 _ _ shard H4.out w7 O7.out B7.out.size M7.out).mono ?_
  clear q0 q1 q2 q3 q4 q5 q6
  rintro e w8 ⟨v8, rfl, o8, b8⟩
  have O8 : Hid (w8.ownsRow w1.heap.size 5 1 v8 (len + (enc (zig kind)).length + (sz (bytesL src)).length + (sz (bytesL dst)).length + (enc (zig amount)).length + (sz (bytesL key)).length + (enc (zig slot)).length + (enc (zig shard)).length) (cellsOf (l ++ enc (zig kind) ++ sz (bytesL src) ++ sz (bytesL dst) ++ enc (zig amount) ++ sz (bytesL key) ++ enc (zig slot) ++ enc (zig shard)))) := o8
  have B8 : Hid (Below w1.heap.size w1 w8) := B7.out.trans b8
  clear o8 b8 O7 B7
  go_wp2
  go_ret
  refine ⟨v8, rfl, ?_, HB1.out.trans (B8.out.mono HB1.out.size)⟩
  have := owns_mono' O8.out HB1.out.size
  simpa only [OpD.bytes, List.append_assoc, List.length_append, Nat.add_assoc] using this
end Go.Proofs.Ytogbcciocgpknaa
