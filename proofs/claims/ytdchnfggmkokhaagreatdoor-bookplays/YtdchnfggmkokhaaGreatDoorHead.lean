/- What addHead does. -/
import Derived.Test.YtdchnfggmkokhaaGreatDoorGF
namespace Go.Proofs.YtdchnfggmkokhaaGreatDoor
open Go.RowKit Cod
set_option linter.unusedVariables false

/-- What stands ahead of a message's entries. -/
structure HeadD where
  kind : Int
  group : Int
  src : Int
  dst : Int
  term : Int
  index : Int
  logTerm : Int
  commit : Int
  ok : Bool
structure HeadD.fine (h : HeadD) : Prop where
  kind : i64ok h.kind
  group : i64ok h.group
  src : i64ok h.src
  dst : i64ok h.dst
  term : i64ok h.term
  index : i64ok h.index
  logTerm : i64ok h.logTerm
  commit : i64ok h.commit
def HeadD.bytes (h : HeadD) : List (BitVec 8) := enc (zig h.kind) ++ enc (zig h.group) ++ enc (zig h.src) ++ enc (zig h.dst) ++ enc (zig h.term) ++ enc (zig h.index) ++ enc (zig h.logTerm) ++ enc (zig h.commit) ++ [bit8 h.ok]
/-- A message as a value: its head, its entries, its data. -/
def HeadD.val (h : HeadD) (ev dv : Value) : Value := .agg #[.int .i64 h.kind, .int .i64 h.group, .int .i64 h.src, .int .i64 h.dst, .int .i64 h.term, .int .i64 h.index, .int .i64 h.logTerm, .int .i64 h.commit, .bool h.ok, ev, dv]
theorem HeadD.len (h : HeadD) (hf : h.fine) : h.bytes.length ≤ 81 := by
  have e0 := enc_ten (zig_lt h.kind hf.kind)
  have e1 := enc_ten (zig_lt h.group hf.group)
  have e2 := enc_ten (zig_lt h.src hf.src)
  have e3 := enc_ten (zig_lt h.dst hf.dst)
  have e4 := enc_ten (zig_lt h.term hf.term)
  have e5 := enc_ten (zig_lt h.index hf.index)
  have e6 := enc_ten (zig_lt h.logTerm hf.logTerm)
  have e7 := enc_ten (zig_lt h.commit hf.commit)
  simp only [HeadD.bytes, List.length_append, List.length_cons, List.length_nil]
  omega
end Go.Proofs.YtdchnfggmkokhaaGreatDoor
