/- What addHead does. -/
import Derived.Test.YtfdlgiomnmnhgaaDoorPutOp
namespace Go.Proofs.YtfdlgiomnmnhgaaDoor
open Go.RowKit Cod
set_option linter.unusedVariables false

/-- What stands ahead of a message's entries. -/
structure HeadD where
  kind : Int
  group : Int
  src : Int
  dst : Int
  term : Int
  index : Int
  logTerm : Int
  commit : Int
  ok : Bool
structure HeadD.fine (h : HeadD) : Prop where
  kind : i64ok h.kind
  group : i64ok h.group
  src : i64ok h.src
  dst : i64ok h.dst
  term : i64ok h.term
  index : i64ok h.index
  logTerm : i64ok h.logTerm
  commit : i64ok h.commit
def HeadD.bytes (h : HeadD) : List (BitVec 8) := enc (zig h.kind) ++ enc (zig h.group) ++ enc (zig h.src) ++ enc (zig h.dst) ++ enc (zig h.term) ++ enc (zig h.index) ++ enc (zig h.logTerm) ++ enc (zig h.commit) ++ [bit8 h.ok]
/-- A message as a value: its head, its entries, its data. -/
def HeadD.val (h : HeadD) (ev dv : Value) : Value := .agg #[.int .i64 h.kind, .int .i64 h.group, .int .i64 h.src, .int .i64 h.dst, .int .i64 h.term, .int .i64 h.index, .int .i64 h.logTerm, .int .i64 h.commit, .bool h.ok, ev, dv]
theorem HeadD.len (h : HeadD) (hf : h.fine) : h.bytes.length ≤ 81 := by
  have e0 := enc_ten (zig_lt h.kind hf.kind)
  have e1 := enc_ten (zig_lt h.group hf.group)
  have e2 := enc_ten (zig_lt h.src hf.src)
  have e3 := enc_ten (zig_lt h.dst hf.dst)
  have e4 := enc_ten (zig_lt h.term hf.term)
  have e5 := enc_ten (zig_lt h.index hf.index)
  have e6 := enc_ten (zig_lt h.logTerm hf.logTerm)
  have e7 := enc_ten (zig_lt h.commit hf.commit)
  simp only [HeadD.bytes, List.length_append, List.length_cons, List.length_nil]
  omega
set_option maxRecDepth 100000 in
set_option maxHeartbeats 1600000 in
theorem addHead_any (base : Nat) (v : Value) (k : Nat) (l : List (BitVec 8)) (h : HeadD) (hf : h.fine) (ev dv : Value) (w : World) (hown : w.ownsRow base 5 1 v k (cellsOf l)) (hbase : base ≤ w.heap.size) (hk : k + 100 ≤ 140737488355328) :
    Calls Tryd.prog 57 #[v, h.val ev dv] w fun e w' => ∃ v', e = .returned v' ∧ w'.ownsRow base 5 1 v' (k + h.bytes.length) (cellsOf (l ++ h.bytes)) ∧ Below base w w' := by
  obtain ⟨kind, group, src, dst, term, index, logTerm, commit, ok⟩ := h
  obtain ⟨h1, h2, h3, h4, h5, h6, h7, h8⟩ := hf
  simp only at h1 h2 h3 h4 h5 h6 h7 h8
  show Calls Tryd.prog 57 #[v, .agg #[.int .i64 kind, .int .i64 group, .int .i64 src, .int .i64 dst, .int .i64 term, .int .i64 index, .int .i64 logTerm, .int .i64 commit, .bool ok, ev, dv]] w _
  generalize hw1 : w.alloc (.cells #[.int .i64 kind, .int .i64 group, .int .i64 src, .int .i64 dst, .int .i64 term, .int .i64 index, .int .i64 logTerm, .int .i64 commit, .bool ok, ev, dv] 32) = w1
  have hh1 : w1.heap[w.heap.size]? = some (.cells #[.int .i64 kind, .int .i64 group, .int .i64 src, .int .i64 dst, .int .i64 term, .int .i64 index, .int .i64 logTerm, .int .i64 commit, .bool ok, ev, dv] 32 (0, 0)) := by rw [← hw1]; exact heap_alloc_new w _
  have B1 : Hid (Below base w w1) := by rw [← hw1]; exact (Below.refl _ w).alloc hbase _
  have O1 : Hid (w1.ownsRow base 5 1 v k (cellsOf l)) := by rw [← hw1]; exact hown.alloc _
  have HBs : Hid (base ≤ w.heap.size) := hbase
  have HW : Hid _ := hw1
  have E1 : Hid _ := enc_ten (zig_lt kind h1)
  have H1 : Hid _ := h1
  have E2 : Hid _ := enc_ten (zig_lt group h2)
  have H2 : Hid _ := h2
  have E3 : Hid _ := enc_ten (zig_lt src h3)
  have H3 : Hid _ := h3
  have E4 : Hid _ := enc_ten (zig_lt dst h4)
  have H4 : Hid _ := h4
  have E5 : Hid _ := enc_ten (zig_lt term h5)
  have H5 : Hid _ := h5
  have E6 : Hid _ := enc_ten (zig_lt index h6)
  have H6 : Hid _ := h6
  have E7 : Hid _ := enc_ten (zig_lt logTerm h7)
  have H7 : Hid _ := h7
  have E8 : Hid _ := enc_ten (zig_lt commit h8)
  have H8 : Hid _ := h8
  have HK : Hid (k + 100 ≤ 140737488355328) := hk
  clear hw1 hown hbase hk h1 h2 h3 h4 h5 h6 h7 h8
  have q1 : w1.cell? ⟨w.heap.size, 0, none⟩ = some (.int .i64 kind) := by simp [World.cell?, hh1]
  have HH1 : Hid (w1.heap[w.heap.size]? = some (.cells #[.int .i64 kind, .int .i64 group, .int .i64 src, .int .i64 dst, .int .i64 term, .int .i64 index, .int .i64 logTerm, .int .i64 commit, .bool ok, ev, dv] 32 (0, 0))) := hh1
  clear hh1
  go_enter Tryd.func57, Tryd.ntmps57
  go_wp2_with fail
  rw [HW.out]
  refine (addInt_keep base v _ _ kind H1.out w1 O1.out (Nat.le_trans HBs.out B1.out.size) (by have := HK.out;  omega)).mono ?_
  clear q1
  rintro e w2 ⟨v2, rfl, o2, b2, t2⟩
  have O2 : Hid (w2.ownsRow base 5 1 v2 (k + (enc (zig kind)).length) (cellsOf (l ++ enc (zig kind)))) := o2
  have B2 : Hid (Below base w w2) := B1.out.trans b2
  have HH2 : Hid (w2.heap[w.heap.size]? = some (.cells #[.int .i64 kind, .int .i64 group, .int .i64 src, .int .i64 dst, .int .i64 term, .int .i64 index, .int .i64 logTerm, .int .i64 commit, .bool ok, ev, dv] 32 (0, 0))) := t2 _ _ _ _ HH1.out (by decide)
  have q2 : w2.cell? ⟨w.heap.size, 1, none⟩ = some (.int .i64 group) := by simp [World.cell?, HH2.out]
  clear o2 b2 t2 O1 B1 HH1
  go_wp2_with fail
  refine (addInt_keep base v2 _ _ group H2.out w2 O2.out (Nat.le_trans HBs.out B2.out.size) (by have := HK.out; have := E1.out; omega)).mono ?_
  clear q2
  rintro e w3 ⟨v3, rfl, o3, b3, t3⟩
  have O3 : Hid (w3.ownsRow base 5 1 v3 (k + (enc (zig kind)).length + (enc (zig group)).length) (cellsOf (l ++ enc (zig kind) ++ enc (zig group)))) := o3
  have B3 : Hid (Below base w w3) := B2.out.trans b3
  have HH3 : Hid (w3.heap[w.heap.size]? = some (.cells #[.int .i64 kind, .int .i64 group, .int .i64 src, .int .i64 dst, .int .i64 term, .int .i64 index, .int .i64 logTerm, .int .i64 commit, .bool ok, ev, dv] 32 (0, 0))) := t3 _ _ _ _ HH2.out (by decide)
  have q3 : w3.cell? ⟨w.heap.size, 2, none⟩ = some (.int .i64 src) := by simp [World.cell?, HH3.out]
  clear o3 b3 t3 O2 B2 HH2
  go_wp2_with fail
  refine (addInt_keep base v3 _ _ src H3.out w3 O3.out (Nat.le_trans HBs.out B3.out.size) (by have := HK.out; have := E1.out; have := E2.out; omega)).mono ?_
  clear q3
  rintro e w4 ⟨v4, rfl, o4, b4, t4⟩
  have O4 : Hid (w4.ownsRow base 5 1 v4 (k + (enc (zig kind)).length + (enc (zig group)).length + (enc (zig src)).length) (cellsOf (l ++ enc (zig kind) ++ enc (zig group) ++ enc (zig src)))) := o4
  have B4 : Hid (Below base w w4) := B3.out.trans b4
  have HH4 : Hid (w4.heap[w.heap.size]? = some (.cells #[.int .i64 kind, .int .i64 group, .int .i64 src, .int .i64 dst, .int .i64 term, .int .i64 index, .int .i64 logTerm, .int .i64 commit, .bool ok, ev, dv] 32 (0, 0))) := t4 _ _ _ _ HH3.out (by decide)
  have q4 : w4.cell? ⟨w.heap.size, 3, none⟩ = some (.int .i64 dst) := by simp [World.cell?, HH4.out]
  clear o4 b4 t4 O3 B3 HH3
  go_wp2_with fail
  refine (addInt_keep base v4 _ _ dst H4.out w4 O4.out (Nat.le_trans HBs.out B4.out.size) (by have := HK.out; have := E1.out; have := E2.out; have := E3.out; omega)).mono ?_
  clear q4
  rintro e w5 ⟨v5, rfl, o5, b5, t5⟩
  have O5 : Hid (w5.ownsRow base 5 1 v5 (k + (enc (zig kind)).length + (enc (zig group)).length + (enc (zig src)).length + (enc (zig dst)).length) (cellsOf (l ++ enc (zig kind) ++ enc (zig group) ++ enc (zig src) ++ enc (zig dst)))) := o5
  have B5 : Hid (Below base w w5) := B4.out.trans b5
  have HH5 : Hid (w5.heap[w.heap.size]? = some (.cells #[.int .i64 kind, .int .i64 group, .int .i64 src, .int .i64 dst, .int .i64 term, .int .i64 index, .int .i64 logTerm, .int .i64 commit, .bool ok, ev, dv] 32 (0, 0))) := t5 _ _ _ _ HH4.out (by decide)
  have q5 : w5.cell? ⟨w.heap.size, 4, none⟩ = some (.int .i64 term) := by simp [World.cell?, HH5.out]
  clear o5 b5 t5 O4 B4 HH4
  go_wp2_with fail
  refine (addInt_keep base v5 _ _ term H5.out w5 O5.out (Nat.le_trans HBs.out B5.out.size) (by have := HK.out; have := E1.out; have := E2.out; have := E3.out; have := E4.out; omega)).mono ?_
  clear q5
  rintro e w6 ⟨v6, rfl, o6, b6, t6⟩
  have O6 : Hid (w6.ownsRow base 5 1 v6 (k + (enc (zig kind)).length + (enc (zig group)).length + (enc (zig src)).length + (enc (zig dst)).length + (enc (zig term)).length) (cellsOf (l ++ enc (zig kind) ++ enc (zig group) ++ enc (zig src) ++ enc (zig dst) ++ enc (zig term)))) := o6
  have B6 : Hid (Below base w w6) := B5.out.trans b6
  have HH6 : Hid (w6.heap[w.heap.size]? = some (.cells #[.int .i64 kind, .int .i64 group, .int .i64 src, .int .i64 dst, .int .i64 term, .int .i64 index, .int .i64 logTerm, .int .i64 commit, .bool ok, ev, dv] 32 (0, 0))) := t6 _ _ _ _ HH5.out (by decide)
  have q6 : w6.cell? ⟨w.heap.size, 5, none⟩ = some (.int .i64 index) := by simp [World.cell?, HH6.out]
  clear o6 b6 t6 O5 B5 HH5
  go_wp2_with fail
  refine (addInt_keep base v6 _ _ index H6.out w6 O6.out (Nat.le_trans HBs.out B6.out.size) (by have := HK.out; have := E1.out; have := E2.out; have := E3.out; have := E4.out; have := E5.out; omega)).mono ?_
  clear q6
  rintro e w7 ⟨v7, rfl, o7, b7, t7⟩
  have O7 : Hid (w7.ownsRow base 5 1 v7 (k + (enc (zig kind)).length + (enc (zig group)).length + (enc (zig src)).length + (enc (zig dst)).length + (enc (zig term)).length + (enc (zig index)).length) (cellsOf (l ++ enc (zig kind) ++ enc (zig group) ++ enc (zig src) ++ enc (zig dst) ++ enc (zig term) ++ enc (zig index)))) := o7
  have B7 : Hid (Below base w w7) := B6.out.trans b7
  have HH7 : Hid (w7.heap[w.heap.size]? = some (.cells #[.int .i64 kind, .int .i64 group, .int .i64 src, .int .i64 dst, .int .i64 term, .int .i64 index, .int .i64 logTerm, .int .i64 commit, .bool ok, ev, dv] 32 (0, 0))) := t7 _ _ _ _ HH6.out (by decide)
  have q7 : w7.cell? ⟨w.heap.size, 6, none⟩ = some (.int .i64 logTerm) := by simp [World.cell?, HH7.out]
  clear o7 b7 t7 O6 B6 HH6
  go_wp2_with fail
  refine (addInt_keep base v7 _ _ logTerm H7.out w7 O7.out (Nat.le_trans HBs.out B7.out.size) (by have := HK.out; have := E1.out; have := E2.out; have := E3.out; have := E4.out; have := E5.out; have := E6.out; omega)).mono ?_
  clear q7
  rintro e w8 ⟨v8, rfl, o8, b8, t8⟩
  have O8 : Hid (w8.ownsRow base 5 1 v8 (k + (enc (zig kind)).length + (enc (zig group)).length + (enc (zig src)).length + (enc (zig dst)).length + (enc (zig term)).length + (enc (zig index)).length + (enc (zig logTerm)).length) (cellsOf (l ++ enc (zig kind) ++ enc (zig group) ++ enc (zig src) ++ enc (zig dst) ++ enc (zig term) ++ enc (zig index) ++ enc (zig logTerm)))) := o8
  have B8 : Hid (Below base w w8) := B7.out.trans b8
  have HH8 : Hid (w8.heap[w.heap.size]? = some (.cells #[.int .i64 kind, .int .i64 group, .int .i64 src, .int .i64 dst, .int .i64 term, .int .i64 index, .int .i64 logTerm, .int .i64 commit, .bool ok, ev, dv] 32 (0, 0))) := t8 _ _ _ _ HH7.out (by decide)
  have q8 : w8.cell? ⟨w.heap.size, 7, none⟩ = some (.int .i64 commit) := by simp [World.cell?, HH8.out]
  clear o8 b8 t8 O7 B7 HH7
  go_wp2_with fail
  refine (addInt_keep base v8 _ _ commit H8.out w8 O8.out (Nat.le_trans HBs.out B8.out.size) (by have := HK.out; have := E1.out; have := E2.out; have := E3.out; have := E4.out; have := E5.out; have := E6.out; have := E7.out; omega)).mono ?_
  clear q8
  rintro e w9 ⟨v9, rfl, o9, b9, t9⟩
  have O9 : Hid (w9.ownsRow base 5 1 v9 (k + (enc (zig kind)).length + (enc (zig group)).length + (enc (zig src)).length + (enc (zig dst)).length + (enc (zig term)).length + (enc (zig index)).length + (enc (zig logTerm)).length + (enc (zig commit)).length) (cellsOf (l ++ enc (zig kind) ++ enc (zig group) ++ enc (zig src) ++ enc (zig dst) ++ enc (zig term) ++ enc (zig index) ++ enc (zig logTerm) ++ enc (zig commit)))) := o9
  have B9 : Hid (Below base w w9) := B8.out.trans b9
  have HH9 : Hid (w9.heap[w.heap.size]? = some (.cells #[.int .i64 kind, .int .i64 group, .int .i64 src, .int .i64 dst, .int .i64 term, .int .i64 index, .int .i64 logTerm, .int .i64 commit, .bool ok, ev, dv] 32 (0, 0))) := t9 _ _ _ _ HH8.out (by decide)
  have q9 : w9.cell? ⟨w.heap.size, 8, none⟩ = some (.bool ok) := by simp [World.cell?, HH9.out]
  clear o9 b9 t9 O8 B8 HH8
  go_wp2_with fail
  refine (addBool_any base v9 _ _ ok w9 O9.out (Nat.le_trans HBs.out B9.out.size) (by have := HK.out; have := E1.out; have := E2.out; have := E3.out; have := E4.out; have := E5.out; have := E6.out; have := E7.out; have := E8.out; omega)).mono ?_
  rintro e w10 ⟨v10, rfl, o10, b10⟩
  have O10 : Hid (w10.ownsRow base 5 1 v10 (k + (enc (zig kind)).length + (enc (zig group)).length + (enc (zig src)).length + (enc (zig dst)).length + (enc (zig term)).length + (enc (zig index)).length + (enc (zig logTerm)).length + (enc (zig commit)).length + 1) (cellsOf (l ++ enc (zig kind) ++ enc (zig group) ++ enc (zig src) ++ enc (zig dst) ++ enc (zig term) ++ enc (zig index) ++ enc (zig logTerm) ++ enc (zig commit) ++ [bit8 ok]))) := o10
  have B10 : Hid (Below base w w10) := B9.out.trans b10
  clear o10 b10 q9
  go_wp2
  go_ret
  refine ⟨v10, rfl, ?_, B10.out⟩
  have := O10.out
  simpa only [HeadD.bytes, List.append_assoc, List.length_append, List.length_cons, List.length_nil, Nat.add_assoc, Nat.zero_add] using this
end Go.Proofs.YtfdlgiomnmnhgaaDoor
