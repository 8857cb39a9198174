/- What PutOp does. -/
import Derived.Test.YtpnnbkhlbohfbaaDoorWriters
namespace Go.Proofs.YtpnnbkhlbohfbaaDoor
open Go.RowKit Cod
set_option linter.unusedVariables false

/-- An operation. -/
structure OpD where
  kind : Int
  src : ByteArray
  dst : ByteArray
  amount : Int
  key : ByteArray
  slot : Int
  shard : Int
def i64ok (n : Int) : Prop := -9223372036854775808 ≤ n ∧ n < 9223372036854775808
structure OpD.ok (o : OpD) : Prop where
  kind : i64ok o.kind
  amount : i64ok o.amount
  slot : i64ok o.slot
  shard : i64ok o.shard
def OpD.val (o : OpD) : Value := .agg #[.int .i64 o.kind, .string o.src, .string o.dst, .int .i64 o.amount, .string o.key, .int .i64 o.slot, .int .i64 o.shard]
def OpD.bytes (o : OpD) : List (BitVec 8) := enc (zig o.kind) ++ sz (bytesL o.src) ++ sz (bytesL o.dst) ++ enc (zig o.amount) ++ sz (bytesL o.key) ++ enc (zig o.slot) ++ enc (zig o.shard)
def OpD.size (o : OpD) : Nat := o.src.size + o.dst.size + o.key.size
theorem sz_le (s : ByteArray) (h : s.size < 18446744073709551616) : (sz (bytesL s)).length ≤ s.size + 10 := by
  have := sz_length_le (bytesL s) (by rw [bytesL_length]; exact h)
  rwa [bytesL_length] at this
theorem owns_mono' {w : World} {base base' : Nat} {e : TypeId} {size : Nat} {v : Value} {n : Nat} {xs : List Value} (h : w.ownsRow base e size v n xs) (hb : base' ≤ base) : w.ownsRow base' e size v n xs :=
  ⟨h.1, h.2.imp id fun ⟨g, cap, cur, e1, e2, e3⟩ => ⟨g, cap, cur, e1, Nat.le_trans hb e2, e3⟩⟩
end Go.Proofs.YtpnnbkhlbohfbaaDoor
