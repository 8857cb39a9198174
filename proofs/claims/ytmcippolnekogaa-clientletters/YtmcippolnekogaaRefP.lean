/- What the reference's PutOp and PutReply do. -/
import Derived.Test.YtmcippolnekogaaRefW
import Derived.Test.YtmcippolnekogaaPutReply
import Derived.Test.YtmcippolnekogaaSame
namespace Go.Proofs.Ytmcippolnekogaa
open Go.RowKit Cod
set_option linter.unusedVariables false

set_option maxRecDepth 100000 in
set_option maxHeartbeats 1600000 in
theorem refPutOp_any (a : Option Addr) (len cap : Nat) (l : List (BitVec 8)) (o : OpD) (ho : o.ok) (w : World) (h : Seen w a len l) (hnil : a = none → cap = 0) (hm : len + 70 + o.size ≤ 140737488355328) :
    Calls Try.prog 38 #[.slice a len cap, o.val] w fun e w' => ∃ v', e = .returned v' ∧ w'.ownsRow w.heap.size 5 1 v' (len + o.bytes.length) (cellsOf (l ++ o.bytes)) ∧ Below w.heap.size w w' := by
  have H1 : Hid (i64ok o.kind) := ho.kind
  have H2 : Hid (i64ok o.amount) := ho.amount
  have H3 : Hid (i64ok o.slot) := ho.slot
  have H4 : Hid (i64ok o.shard) := ho.shard
  simp only [OpD.size] at hm
  have e1 := enc_ten (zig_lt o.kind ho.kind)
  have e2 := sz_le o.src (by omega)
  have e3 := sz_le o.dst (by omega)
  have e4 := enc_ten (zig_lt o.amount ho.amount)
  have e5 := sz_le o.key (by omega)
  have e6 := enc_ten (zig_lt o.slot ho.slot)
  have e7 := enc_ten (zig_lt o.shard ho.shard)
  have HB : Hid (o.bytes = enc (zig o.kind) ++ sz (bytesL o.src) ++ sz (bytesL o.dst) ++ enc (zig o.amount) ++ sz (bytesL o.key) ++ enc (zig o.slot) ++ enc (zig o.shard)) := (rfl : _ = _)
  generalize hw1 : w.alloc (.cells #[.int .i64 o.kind, .string o.src, .string o.dst, .int .i64 o.amount, .string o.key, .int .i64 o.slot, .int .i64 o.shard] 23) = w1
  have b1 : Below w.heap.size w w1 := by rw [← hw1]; exact (Below.refl _ w).alloc (Nat.le_refl _) _
  have hh : w1.heap[w.heap.size]? = some (.cells #[.int .i64 o.kind, .string o.src, .string o.dst, .int .i64 o.amount, .string o.key, .int .i64 o.slot, .int .i64 o.shard] 23 (0, 0)) := by rw [← hw1]; exact heap_alloc_new w _
  have CC : Hid (∀ w', Below w1.heap.size w1 w' → w'.heap[w.heap.size]? = some (.cells #[.int .i64 o.kind, .string o.src, .string o.dst, .int .i64 o.amount, .string o.key, .int .i64 o.slot, .int .i64 o.shard] 23 (0, 0))) := fun w' hb => (hb.block _ (Array.getElem?_eq_some_iff.1 hh).1).trans hh
  have HW : Hid _ := hw1
  have HB1 : Hid (Below w.heap.size w w1) := b1
  obtain rfl : len = l.length := h.1
  have S0 : Hid (Seen w1 a l.length l) := h.below b1
  have N0 : Hid _ := hnil
  have B0 : Hid (Below w1.heap.size w1 w1) := Below.refl _ _
  have M0 : Hid (l.length + 10 ≤ 140737488355328) := by show _ ≤ _; omega
  have M1 : Hid (l.length + (enc (zig o.kind)).length + 10 + o.src.size ≤ 140737488355328) := by show _ ≤ _; omega
  have M2 : Hid (l.length + (enc (zig o.kind)).length + (sz (bytesL o.src)).length + 10 + o.dst.size ≤ 140737488355328) := by show _ ≤ _; omega
  have M3 : Hid (l.length + (enc (zig o.kind)).length + (sz (bytesL o.src)).length + (sz (bytesL o.dst)).length + 10 ≤ 140737488355328) := by show _ ≤ _; omega
  have M4 : Hid (l.length + (enc (zig o.kind)).length + (sz (bytesL o.src)).length + (sz (bytesL o.dst)).length + (enc (zig o.amount)).length + 10 + o.key.size ≤ 140737488355328) := by show _ ≤ _; omega
  have M5 : Hid (l.length + (enc (zig o.kind)).length + (sz (bytesL o.src)).length + (sz (bytesL o.dst)).length + (enc (zig o.amount)).length + (sz (bytesL o.key)).length + 10 ≤ 140737488355328) := by show _ ≤ _; omega
  have M6 : Hid (l.length + (enc (zig o.kind)).length + (sz (bytesL o.src)).length + (sz (bytesL o.dst)).length + (enc (zig o.amount)).length + (sz (bytesL o.key)).length + (enc (zig o.slot)).length + 10 ≤ 140737488355328) := by show _ ≤ _; omega
  have M7 : Hid (l.length + (enc (zig o.kind)).length + (sz (bytesL o.src)).length + (sz (bytesL o.dst)).length + (enc (zig o.amount)).length + (sz (bytesL o.key)).length + (enc (zig o.slot)).length + (enc (zig o.shard)).length ≤ maxLen) := by show _ ≤ _; unfold maxLen; omega
  clear h hnil hm ho e1 e2 e3 e4 e5 e6 e7 b1 hh hw1
  show Calls Try.prog 38 #[.slice a l.length cap, .agg #[.int .i64 o.kind, .string o.src, .string o.dst, .int .i64 o.amount, .string o.key, .int .i64 o.slot, .int .i64 o.shard]] w _
  have q0 : w1.cell? ⟨w.heap.size, 0, none⟩ = some (.int .i64 o.kind) := by simp [World.cell?, CC.out w1 B0.out]
  go_enter Try.func38, Try.ntmps38
  go_wp2_with fail
  rw [HW.out]
  refine (refInt_any a l.length cap l o.kind H1.out w1 S0.out N0.out M0.out).mono ?_
  clear q0
  rintro e v1 ⟨r, rfl, ov, bv⟩
  obtain ⟨L1, hL1⟩ : ∃ L, l ++ enc (zig o.kind) = L := ⟨_, rfl⟩
  obtain ⟨n1, hn1⟩ : ∃ n, l.length + (enc (zig o.kind)).length = n := ⟨_, rfl⟩
  rw [hL1, hn1] at ov
  rw [hn1] at M1 M2 M3 M4 M5 M6 M7
  have HL1 : Hid _ := hL1
  have HN1 : Hid _ := hn1
  clear hL1 hn1
  obtain ⟨a1, c1, rfl, s1, nn1, _⟩ := owned_seen ov (by have := M1.out; unfold maxLen; omega)
  have S1 : Hid (Seen v1 a1 n1 L1) := s1
  have N1 : Hid _ := nn1
  have B1 : Hid (Below w1.heap.size w1 v1) := B0.out.trans (bv.mono B0.out.size)
  have q1 : v1.cell? ⟨w.heap.size, 1, none⟩ = some (.string o.src) := by simp [World.cell?, CC.out v1 B1.out]
  clear ov bv s1 nn1 S0 N0 B0
  go_wp2_with fail
  refine (refText_any a1 n1 c1 L1 o.src v1 S1.out N1.out M1.out).mono ?_
  clear q1
  rintro e v2 ⟨r, rfl, ov, bv⟩
  obtain ⟨L2, hL2⟩ : ∃ L, L1 ++ sz (bytesL o.src) = L := ⟨_, rfl⟩
  obtain ⟨n2, hn2⟩ : ∃ n, n1 + (sz (bytesL o.src)).length = n := ⟨_, rfl⟩
  rw [hL2, hn2] at ov
  rw [hn2] at M2 M3 M4 M5 M6 M7
  have HL2 : Hid _ := hL2
  have HN2 : Hid _ := hn2
  clear hL2 hn2
  obtain ⟨a2, c2, rfl, s2, nn2, _⟩ := owned_seen ov (by have := M2.out; unfold maxLen; omega)
  have S2 : Hid (Seen v2 a2 n2 L2) := s2
  have N2 : Hid _ := nn2
  have B2 : Hid (Below w1.heap.size w1 v2) := B1.out.trans (bv.mono B1.out.size)
  have q2 : v2.cell? ⟨w.heap.size, 2, none⟩ = some (.string o.dst) := by simp [World.cell?, CC.out v2 B2.out]
  clear ov bv s2 nn2 S1 N1 B1
  go_wp2_with fail
  refine (refText_any a2 n2 c2 L2 o.dst v2 S2.out N2.out M2.out).mono ?_
  clear q2
  rintro e v3 ⟨r, rfl, ov, bv⟩
  obtain ⟨L3, hL3⟩ : ∃ L, L2 ++ sz (bytesL o.dst) = L := ⟨_, rfl⟩
  obtain ⟨n3, hn3⟩ : ∃ n, n2 + (sz (bytesL o.dst)).length = n := ⟨_, rfl⟩
  rw [hL3, hn3] at ov
  rw [hn3] at M3 M4 M5 M6 M7
  have HL3 : Hid _ := hL3
  have HN3 : Hid _ := hn3
  clear hL3 hn3
  obtain ⟨a3, c3, rfl, s3, nn3, _⟩ := owned_seen ov (by have := M3.out; unfold maxLen; omega)
  have S3 : Hid (Seen v3 a3 n3 L3) := s3
  have N3 : Hid _ := nn3
  have B3 : Hid (Below w1.heap.size w1 v3) := B2.out.trans (bv.mono B2.out.size)
  have q3 : v3.cell? ⟨w.heap.size, 3, none⟩ = some (.int .i64 o.amount) := by simp [World.cell?, CC.out v3 B3.out]
  clear ov bv s3 nn3 S2 N2 B2
  go_wp2_with fail
  refine (refInt_any a3 n3 c3 L3 o.amount H2.out v3 S3.out N3.out M3.out).mono ?_
  clear q3
  rintro e v4 ⟨r, rfl, ov, bv⟩
  obtain ⟨L4, hL4⟩ : ∃ L, L3 ++ enc (zig o.amount) = L := ⟨_, rfl⟩
  obtain ⟨n4, hn4⟩ : ∃ n, n3 + (enc (zig o.amount)).length = n := ⟨_, rfl⟩
  rw [hL4, hn4] at ov
  rw [hn4] at M4 M5 M6 M7
  have HL4 : Hid _ := hL4
  have HN4 : Hid _ := hn4
  clear hL4 hn4
  obtain ⟨a4, c4, rfl, s4, nn4, _⟩ := owned_seen ov (by have := M4.out; unfold maxLen; omega)
  have S4 : Hid (Seen v4 a4 n4 L4) := s4
  have N4 : Hid _ := nn4
  have B4 : Hid (Below w1.heap.size w1 v4) := B3.out.trans (bv.mono B3.out.size)
  have q4 : v4.cell? ⟨w.heap.size, 4, none⟩ = some (.string o.key) := by simp [World.cell?, CC.out v4 B4.out]
  clear ov bv s4 nn4 S3 N3 B3
  go_wp2_with fail
  refine (refText_any a4 n4 c4 L4 o.key v4 S4.out N4.out M4.out).mono ?_
  clear q4
  rintro e v5 ⟨r, rfl, ov, bv⟩
  obtain ⟨L5, hL5⟩ : ∃ L, L4 ++ sz (bytesL o.key) = L := ⟨_, rfl⟩
  obtain ⟨n5, hn5⟩ : ∃ n, n4 + (sz (bytesL o.key)).length = n := ⟨_, rfl⟩
  rw [hL5, hn5] at ov
  rw [hn5] at M5 M6 M7
  have HL5 : Hid _ := hL5
  have HN5 : Hid _ := hn5
  clear hL5 hn5
  obtain ⟨a5, c5, rfl, s5, nn5, _⟩ := owned_seen ov (by have := M5.out; unfold maxLen; omega)
  have S5 : Hid (Seen v5 a5 n5 L5) := s5
  have N5 : Hid _ := nn5
  have B5 : Hid (Below w1.heap.size w1 v5) := B4.out.trans (bv.mono B4.out.size)
  have q5 : v5.cell? ⟨w.heap.size, 5, none⟩ = some (.int .i64 o.slot) := by simp [World.cell?, CC.out v5 B5.out]
  clear ov bv s5 nn5 S4 N4 B4
  go_wp2_with fail
  refine (refInt_any a5 n5 c5 L5 o.slot H3.out v5 S5.out N5.out M5.out).mono ?_
  clear q5
  rintro e v6 ⟨r, rfl, ov, bv⟩
  obtain ⟨L6, hL6⟩ : ∃ L, L5 ++ enc (zig o.slot) = L := ⟨_, rfl⟩
  obtain ⟨n6, hn6⟩ : ∃ n, n5 + (enc (zig o.slot)).length = n := ⟨_, rfl⟩
  rw [hL6, hn6] at ov
  rw [hn6] at M6 M7
  have HL6 : Hid _ := hL6
  have HN6 : Hid _ := hn6
  clear hL6 hn6
  obtain ⟨a6, c6, rfl, s6, nn6, _⟩ := owned_seen ov (by have := M6.out; unfold maxLen; omega)
  have S6 : Hid (Seen v6 a6 n6 L6) := s6
  have N6 : Hid _ := nn6
  have B6 : Hid (Below w1.heap.size w1 v6) := B5.out.trans (bv.mono B5.out.size)
  have q6 : v6.cell? ⟨w.heap.size, 6, none⟩ = some (.int .i64 o.shard) := by simp [World.cell?, CC.out v6 B6.out]
  clear ov bv s6 nn6 S5 N5 B5
  go_wp2_with fail
  refine (refInt_any a6 n6 c6 L6 o.shard H4.out v6 S6.out N6.out M6.out).mono ?_
  clear q6
  rintro e v7 ⟨r, rfl, ov, bv⟩
  obtain ⟨L7, hL7⟩ : ∃ L, L6 ++ enc (zig o.shard) = L := ⟨_, rfl⟩
  obtain ⟨n7, hn7⟩ : ∃ n, n6 + (enc (zig o.shard)).length = n := ⟨_, rfl⟩
  rw [hL7, hn7] at ov
  rw [hn7] at M7
  have HL7 : Hid _ := hL7
  have HN7 : Hid _ := hn7
  clear hL7 hn7
  go_wp2
  go_ret
  refine ⟨_, rfl, ?_, HB1.out.trans ((B6.out.trans (bv.mono B6.out.size)).mono HB1.out.size)⟩
  have e1 : L7 = l ++ o.bytes := by
    rw [HB.out, ← HL7.out, ← HL6.out, ← HL5.out, ← HL4.out, ← HL3.out, ← HL2.out, ← HL1.out]
    simp only [List.append_assoc]
  have e2 : n7 = l.length + o.bytes.length := by
    rw [HB.out, ← HN7.out, ← HN6.out, ← HN5.out, ← HN4.out, ← HN3.out, ← HN2.out, ← HN1.out]
    simp only [List.length_append]
    omega
  rw [← e1, ← e2]
  exact owns_mono' ov (Nat.le_trans HB1.out.size B6.out.size)
end Go.Proofs.Ytmcippolnekogaa
