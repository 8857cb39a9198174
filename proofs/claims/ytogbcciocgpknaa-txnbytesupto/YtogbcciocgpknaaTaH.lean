/- What the reference's PutOp and PutReply do. -/
import Derived.Test.YtogbcciocgpknaaTaG
import Derived.Test.YtogbcciocgpknaaTaF
namespace Go.Proofs.Ytogbcciocgpknaa
open Go.RowKit Cod
set_option linter.unusedVariables false

set_option maxRecDepth 100000 in
set_option maxHeartbeats 1600000 in
theorem refPutOp_any (a : Option Addr) (len cap : Nat) (l : List (BitVec 8)) (o : OpD) (ho : o.ok) (w : World) (h : Seen w a len l) (hnil : a = none → cap = 0) (hm : len + 70 + o.size ≤ 140737488355328) :
    Calls Try.prog 56 #[.slice a len cap, o.val] w fun e w' => ∃ v', e = .returned v' ∧ w'.ownsRow w.heap.size 5 1 v' (len + o.bytes.length) (cellsOf (l ++ o.bytes)) ∧ Below w.heap.size w w' := by
  have H1 : Hid (i64ok o.kind) := ho.kind
  have H2 : Hid (i64ok o.amount) := ho.amount
  have H3 : Hid (i64ok o.slot) := ho.slot
  have H4 : Hid (i64ok o.shard) := ho.shard
  simp only [OpD.size] at hm
  have e1 := enc_ten (zig_lt o.kind ho.kind)
  have e2 := sz_le o.src (by omega)
  have e3 := sz_le o.dst (by omega)
  have e4 := enc_ten (zig_lt o.amount ho.amount)
  have e5 := sz_le o.key (by omega)
  have e6 := enc_ten (zig_lt o.slot ho.slot)
  have e7 := enc_ten (zig_lt o.shard ho.shard)
  have HB : Hid (o.bytes = enc (zig o.kind) ++ sz (bytesL o.src) ++ sz (bytesL o.dst) ++ enc (zig o.amount) ++ sz (bytesL o.key) ++ enc (zig o.slot) ++ enc (zig o.shard)) := (rfl : _ = _)
  generalize hw1 : w.alloc (.cells #[.int .i64 o.kind, .string o.src, .string o.dst, .int .i64 o.amount, .string o.key, .int .i64 o.slot, .int .i64 o.shard] 23) = w1
  have b1 : Below w.heap.size w w1 := by rw [← hw1]; exact (Below.refl _ w).alloc (Nat.le_refl _) _
  have hh : w1.heap[w.heap.size]? = some (.cells #[.int .i64 o.kind, .string o.src, .string o.dst, .int .i64 o.amount, .string o.key, .int .i64 o.slot, .int .i64 o.shard] 23 (0, 0)) := by rw [← hw1]; exact heap_alloc_new w _
  have CC : Hid (∀ w', Below w1.heap.size w1 w' → w'.heap[w.heap.size]? = some (.cells #[.int .i64 o.kind, .string o.src, .string o.dst, .int .i64 o.amount, .string o.key, .int .i64 o.slot, .int .i64 o.shard] 23 (0, 0))) := fun w' hb => (hb.block _ (Array.getElem?_eq_some_iff.1 hh).1).trans hh
  have HW : Hid _ := hw1
  have HB1 : Hid (Below w.heap.size w w1) := b1
  obtain rfl : len = l.length := h.1
  have S0 : Hid (Seen w1 a l.length l) := h.below b1
  have N0 : Hid _ := hnil
  have B0 : Hid (Below w1.heap.size w1 w1) := Below.refl _ _
  have M0 : Hid (l.length + 10 ≤ 140737488355328) := by show _ ≤ _; omega
  have M1 : Hid (l.length + (enc (zig o.kind)).length + 10 + o.src.size ≤ 140737488355328) := by show _ ≤ _; omega
  have M2 : Hid (l.length + (enc (zig o.kind)).length + (sz (bytesL o.src)).length + 10 + o.dst.size ≤ 140737488355328) := by show _ ≤ _; omega
  have M3 : Hid (l.length + (enc (zig o.kind)).length + (sz (bytesL o.src)).length + (sz (bytesL o.dst)).length + 10 ≤ 140737488355328) := by show _ ≤ _; omega
  have M4 : Hid (l.length + (enc (zig o.kind)).length + (sz (bytesL o.src)).length + (sz (bytesL o.dst)).length + (enc (zig o.amount)).length + 10 + o.key.size ≤ 140737488355328) := by show _ ≤ _; omega
  have M5 : Hid (l.length + (enc (zig o.kind)).length + (sz (bytesL o.src)).length + (sz (bytesL o.dst)).length + (enc (zig o.amount)).length + (sz (bytesL o.key)).length + 10 ≤ 140737488355328) := by show _ ≤ _; omega
  have M6 : Hid (l.length + (enc (zig o.kind)).length + (sz (bytesL o.src)).length + (sz (bytesL o.dst)).length + (enc (zig o.amount)).length + (sz (bytesL o.key)).length + (enc (zig o.slot)).length + 10 ≤ 140737488355328) := by show _ ≤ _; omega
  have M7 : Hid (l.length + (enc (zig o.kind)).length + (sz (bytesL o.src)).length + (sz (bytesL o.dst)).length + (enc (zig o.amount)).length + (sz (bytesL o.key)).length + (enc (zig o.slot)).length + (enc (zig o.shard)).length ≤ maxLen) := by show _ ≤ _; unfold maxLen; omega
  clear h hnil hm ho e1 e2 e3 e4 e5 e6 e7 b1 hh hw1
  show Calls Try.prog 56 #[.slice a l.length cap, .agg #[.int .i64 o.kind, .string o.src, .string o.dst, .int .i64 o.amount, .string o.key, .int .i64 o.slot, .int .i64 o.shard]] w _
  have q0 : w1.cell? ⟨w.heap.size, 0, none⟩ = some (.int .i64 o.kind) := by simp [World.cell?, CC.out w1 B0.out]
  go_enter Try.func56, Try.ntmps56
  go_wp2_with fail
  rw [HW.out]
  refine (refInt_any a l.length cap l o.kind H1.out w1 S0.out N0.out M0.out).mono ?_
  clear q0
  rintro e v1 ⟨r, rfl, ov, bv⟩
  obtain ⟨L1, hL1⟩ : ∃ L, l ++ enc (zig o.kind) = L := ⟨_, rfl⟩
  obtain ⟨n1, hn1⟩ : ∃ n, l.length + (enc (zig o.kind)).length = n := ⟨_, rfl⟩
  rw [hL1, hn1] at ov
  rw [hn1] at M1 M2 M3 M4 M5 M6 M7
  have HL1 : Hid _ := hL1
  have HN1 : Hid _ := hn1
  clear hL1 hn1
  obtain ⟨a1, c1, rfl, s1, nn1, _⟩ := owned_seen ov (by have := M1.out; unfold maxLen; omega)
  have S1 : Hid (Seen v1 a1 n1 L1) := s1
  have N1 : Hid _ := nn1
  have B1 : Hid (Below w1.heap.size w1 v1) := B0.out.trans (bv.mono B0.out.size)
  have q1 : v1.cell? ⟨w.heap.size, 1, none⟩ = some (.string o.src) := by simp [World.cell?, CC.out v1 B1.out]
  clear ov bv s1 nn1 S0 N0 B0
  go_wp2_with fail
  refine (refText_any a1 n1 c1 L1 o.src v1 S1.out N1.out M1.out).mono ?_
  clear q1
  rintro e v2 ⟨r, rfl, ov, bv⟩
  obtain ⟨L2, hL2⟩ : ∃ L, L1 ++ sz (bytesL o.src) = L := ⟨_, rfl⟩
  obtain ⟨n2, hn2⟩ : ∃ n, n1 + (sz (bytesL o.src)).length = n := ⟨_, rfl⟩
  rw [hL2, hn2] at ov
  rw [hn2] at M2 M3 M4 M5 M6 M7
  have HL2 : Hid _ := hL2
  have HN2 : Hid _ := hn2
  clear hL2 hn2
  obtain ⟨a2, c2, rfl, s2, nn2, _⟩ := owned_seen ov (by have := M2.out; unfold maxLen; omega)
  have S2 : Hid (Seen v2 a2 n2 L2) := s2
  have N2 : Hid _ := nn2
  have B2 : Hid (Below w1.heap.size w1 v2) := B1.out.trans (bv.mono B1.out.size)
  have q2 : v2.cell? ⟨w.heap.size, 2, none⟩ = some (.string o.dst) := by simp [World.cell?, CC.out v2 B2.out]
  clear ov bv s2 nn2 S1 N1 B1
  go_wp2_with fail
  refine (refText_any a2 n2 c2 L2 o.dst v2 S2.out N2.out M2.out).mono ?_
  clear q2
  rintro e v3 ⟨r, rfl, ov, bv⟩
  obtain ⟨L3, hL3⟩ : ∃ L, L2 ++ sz (bytesL o.dst) = L := ⟨_, rfl⟩
  obtain ⟨n3, hn3⟩ : ∃ n, n2 + (sz (bytesL o.dst)).length = n := ⟨_, rfl⟩
  rw [hL3, hn3] at ov
  rw [hn3] at M3 M4 M5 M6 M7
  have HL3 : Hid _ := hL3
  have HN3 : Hid _ := hn3
  clear hL3 hn3
  obtain ⟨a3, c3, rfl, s3, nn3, _⟩ := owned_seen ov (by have := M3.out; unfold maxLen; omega)
  have S3 : Hid (Seen v3 a3 n3 L3) := s3
  have N3 : Hid _ := nn3
  have B3 : Hid (Below w1.heap.size w1 v3) := B2.out.trans (bv.mono B2.out.size)
  have q3 : v3.cell? ⟨w.heap.size, 3, none⟩ = some (.int .i64 o.amount) := by simp [World.cell?, CC.out v3 B3.out]
  clear ov bv s3 nn3 S2 N2 B2
  go_wp2_with fail
  refine (refInt_any a3 n3 c3 L3 o.amount H2.out v3 S3.out N3.out M3.out).mono ?_
  clear q3
  rintro e v4 ⟨r, rfl, ov, bv⟩
  obtain ⟨L4, hL4⟩ : ∃ L, L3 ++ enc (zig o.amount) = L := ⟨_, rfl⟩
  obtain ⟨n4, hn4⟩ : ∃ n, n3 + (enc (zig o.amount)).length = n := ⟨_, rfl⟩
  rw [hL4, hn4] at ov
  rw [hn4] at M4 M5 M6 M7
  have HL4 : Hid _ := hL4
  have HN4 : Hid _ := hn4
  clear hL4 hn4
  obtain ⟨a4, c4, rfl, s4, nn4, _⟩ := owned_seen ov (by have := M4.out; unfold maxLen; omega)
  have S4 : Hid (Seen v4 a4 n4 L4) := s4
  have N4 : Hid _ := nn4
  have B4 : Hid (Below w1.heap.size w1 v4) := B3.out.trans (bv.mono B3.out.size)
  have q4 : v4.cell? ⟨w.heap.size, 4, none⟩ = some (.string o.key) := by simp [World.cell?, CC.out v4 B4.out]
  clear ov bv s4 nn4 S3 N3 B3
  go_wp2_with fail
  refine (refText_any a4 n4 c4 L4 o.key v4 S4.out N4.out M4.out).mono ?_
  clear q4
  rintro e v5 ⟨r, rfl, ov, bv⟩
  obtain ⟨L5, hL5⟩ : ∃ L, L4 ++ sz (bytesL o.key) = L := ⟨_, rfl⟩
  obtain ⟨n5, hn5⟩ : ∃ n, n4 + (sz (bytesL o.key)).length = n := ⟨_, rfl⟩
  rw [hL5, hn5] at ov
  rw [hn5] at M5 M6 M7
  have HL5 : Hid _ := hL5
  have HN5 : Hid _ := hn5
  clear hL5 hn5
  obtain ⟨a5, c5, rfl, s5, nn5, _⟩ := owned_seen ov (by have := M5.out; unfold maxLen; omega)
  have S5 : Hid (Seen v5 a5 n5 L5) := s5
  have N5 : Hid _ := nn5
  have B5 : Hid (Below w1.heap.size w1 v5) := B4.out.trans (bv.mono B4.out.size)
  have q5 : v5.cell? ⟨w.heap.size, 5, none⟩ = some (.int .i64 o.slot) := by simp [World.cell?, CC.out v5 B5.out]
  clear ov bv s5 nn5 S4 N4 B4
  go_wp2_with fail
  refine (refInt_any a5 n5 c5 L5 o.slot H3.out v5 S5.out N5.out M5.out).mono ?_
  clear q5
  rintro e v6 ⟨r, rfl, ov, bv⟩
  obtain ⟨L6, hL6⟩ : ∃ L, L5 ++ enc (zig o.slot) = L := ⟨_, rfl⟩
  obtain ⟨n6, hn6⟩ : ∃ n, n5 + (enc (zig o.slot)).length = n := ⟨_, rfl⟩
  rw [hL6, hn6] at ov
  rw [hn6] at M6 M7
  have HL6 : Hid _ := hL6
  have HN6 : Hid _ := hn6
  clear hL6 hn6
  obtain ⟨a6, c6, rfl, s6, nn6, _⟩ := owned_seen ov (by have := M6.out; unfold maxLen; omega)
  have S6 : Hid (Seen v6 a6 n6 L6) := s6
  have N6 : Hid _ := nn6
  have B6 : Hid (Below w1.heap.size w1 v6) := B5.out.trans (bv.mono B5.out.size)
  have q6 : v6.cell? ⟨w.heap.size, 6, none⟩ = some (.int .i64 o.shard) := by simp [World.cell?, CC.out v6 B6.out]
  clear ov bv s6 nn6 S5 N5 B5
  go_wp2_with fail
  refine (refInt_any a6 n6 c6 L6 o.shard H4.out v6 S6.out N6.out M6.out).mono ?_
  clear q6
  rintro e v7 ⟨r, rfl, ov, bv⟩
  obtain ⟨L7, hL7⟩ : ∃ L, L6 ++ enc (zig o.shard) = L := ⟨_, rfl⟩
  obtain ⟨n7, hn7⟩ : ∃ n, n6 + (enc (zig o.shard)).length = n := ⟨_, rfl⟩
  rw [hL7, hn7] at ov
  rw [hn7] at M7
  have HL7 : Hid _ := hL7
  have HN7 : Hid _ := hn7
  clear hL7 hn7
  go_wp2
  go_ret
  refine ⟨_, rfl, ?_, HB1.out.trans ((B6.out.trans (bv.mono B6.out.size)).mono HB1.out.size)⟩
  have e1 : L7 = l ++ o.bytes := by
    rw [HB.out, ← HL7.out, ← HL6.out, ← HL5.out, ← HL4.out, ← HL3.out, ← HL2.out, ← HL1.out]
    simp only [List.append_assoc]
  have e2 : n7 = l.length + o.bytes.length := by
    rw [HB.out, ← HN7.out, ← HN6.out, ← HN5.out, ← HN4.out, ← HN3.out, ← HN2.out, ← HN1.out]
    simp only [List.length_append]
    omega
  rw [← e1, ← e2]
  exact owns_mono' ov (Nat.le_trans HB1.out.size B6.out.size)
end Go.Proofs.Ytogbcciocgpknaa

namespace Go.Proofs.Ytogbcciocgpknaa
open Go.RowKit Cod
set_option linter.unusedVariables false

/-- A row of bytes that the call owns, with what is known of it. -/
structure Own (w1 w : World) (a : Option Addr) (n c : Nat) (L : List (BitVec 8)) : Prop where
  own : w.ownsRow w1.heap.size 5 1 (.slice a n c) n (cellsOf L)
  seen : Seen w a n L
  nil : a = none → c = 0
  below : Below w1.heap.size w1 w
theorem own_next {w1 w w' : World} {n : Nat} {v : Value} {L : List (BitVec 8)} (hb : Below w1.heap.size w1 w) (h : w'.ownsRow w.heap.size 5 1 v n (cellsOf L)) (hb' : Below w.heap.size w w') (hm : n ≤ 140737488355328) : ∃ a c, v = .slice a n c ∧ Own w1 w' a n c L := by
  obtain ⟨a, c, rfl, s, hn, _⟩ := owned_seen h (by unfold maxLen; omega)
  exact ⟨a, c, rfl, owns_mono' h hb.size, s, hn, hb.trans (hb'.mono hb.size)⟩
set_option maxRecDepth 100000 in
set_option maxHeartbeats 1600000 in
theorem refPutReply_any (a : Option Addr) (len cap : Nat) (l : List (BitVec 8)) (why amount : Int) (ra : Option Addr) (rn rc : Nat) (rows : List (ByteArray × Int)) (h1 : i64ok why) (h2 : i64ok amount) (hr : ∀ r ∈ rows, i64ok r.2)
    (w : World) (h : Seen w a len l) (hnil : a = none → cap = 0) (hR : RowsAt w ra rn rows) (hm : len + 30 + rowsSize rows ≤ 140737488355328) :
    Calls Try.prog 31 #[.slice a len cap, .agg #[.int .i64 why, .int .i64 amount, .slice ra rn rc]] w fun e w' => ∃ v', e = .returned v' ∧ w'.ownsRow w.heap.size 5 1 v' (len + (enc (zig why) ++ enc (zig amount) ++ enc rows.length ++ rowsB rows).length) (cellsOf (l ++ (enc (zig why) ++ enc (zig amount) ++ enc rows.length ++ rowsB rows))) ∧ Below w.heap.size w w' := by
  obtain rfl : rn = rows.length := hR.1
  generalize hw1 : w.alloc (.cells #[.int .i64 why, .int .i64 amount, .slice ra rows.length rc] 32) = w1
  have b1 : Below w.heap.size w w1 := by rw [← hw1]; exact (Below.refl _ w).alloc (Nat.le_refl _) _
  have hh : w1.heap[w.heap.size]? = some (.cells #[.int .i64 why, .int .i64 amount, .slice ra rows.length rc] 32 (0, 0)) := by rw [← hw1]; exact heap_alloc_new w _
  have CC : Hid (∀ w', Below w1.heap.size w1 w' → w'.cell? ⟨w.heap.size, 0, none⟩ = some (.int .i64 why) ∧ w'.cell? ⟨w.heap.size, 1, none⟩ = some (.int .i64 amount) ∧ w'.cell? ⟨w.heap.size, 2, none⟩ = some (.slice ra rows.length rc)) := fun w' h => by
    have hb : w'.heap[w.heap.size]? = w1.heap[w.heap.size]? := h.block _ (Array.getElem?_eq_some_iff.1 hh).1
    refine ⟨?_, ?_, ?_⟩ <;> simp [World.cell?, hb, hh]
  have HW : Hid _ := hw1
  have HB1 : Hid (Below w.heap.size w w1) := b1
  have S0 : Hid (Seen w1 a len l) := h.below b1
  have N0 : Hid _ := hnil
  have HRw : Hid (RowsAt w1 ra rows.length rows) := hR.below b1
  have e1 := enc_ten (zig_lt why h1)
  have e2 := enc_ten (zig_lt amount h2)
  have e3 := enc_ten (n := rows.length) (by have := hR.2.1; omega)
  have hwl : IntKind.u64.wrap (rows.length : Int) = rows.length := by have := hR.2.1; rw [IntKind.wrap_u64]; omega
  have M1 : Hid (len + 10 ≤ 140737488355328) := by show _ ≤ _; omega
  have M2 : Hid (len + (enc (zig why)).length + 10 ≤ 140737488355328) := by show _ ≤ _; omega
  have M3 : Hid (len + (enc (zig why)).length + (enc (zig amount)).length + 10 ≤ 140737488355328) := by show _ ≤ _; omega
  have M4 : Hid (len + (enc (zig why)).length + (enc (zig amount)).length + (enc rows.length).length + rowsSize rows ≤ 140737488355328) := by show _ ≤ _; omega
  have ML : Hid (rows.length ≤ 140737488355328) := hR.2.1
  have H1 : Hid _ := h1
  have H2 : Hid _ := h2
  have HRI : Hid _ := hr
  obtain ⟨q0, q1, q2⟩ := CC.out w1 (Below.refl _ _)
  clear h hnil hm hw1 b1 hh e1 e2 e3 h1 h2 hR hr q1 q2
  go_enter Try.func31, Try.ntmps31
  go_wp2_with fail
  rw [HW.out]
  refine (refInt_any a len cap l why H1.out w1 S0.out N0.out M1.out).mono ?_
  clear q0
  rintro e w2 ⟨v2, rfl, o2, b2⟩
  obtain ⟨a2, c2, rfl, s2⟩ := own_next (Below.refl w1.heap.size w1) o2 b2 (by have := M2.out; omega)
  obtain ⟨n2, hn2⟩ : ∃ n, len + (enc (zig why)).length = n := ⟨_, rfl⟩
  rw [hn2] at s2 M2 M3 M4 ⊢
  have S2 : Hid (Own w1 w2 a2 n2 c2 (l ++ enc (zig why))) := s2
  have HN2 : Hid _ := hn2
  obtain ⟨q0, q1, q2⟩ := CC.out w2 S2.out.below
  clear o2 b2 s2 hn2 q0 q2
  go_wp2_with fail
  refine (refInt_any a2 n2 c2 _ amount H2.out w2 S2.out.seen S2.out.nil M2.out).mono ?_
  clear q1
  rintro e w3 ⟨v3, rfl, o3, b3⟩
  obtain ⟨a3, c3, rfl, s3⟩ := own_next S2.out.below o3 b3 (by have := M3.out; omega)
  obtain ⟨n3, hn3⟩ : ∃ n, n2 + (enc (zig amount)).length = n := ⟨_, rfl⟩
  rw [hn3] at s3 M3 M4 ⊢
  have S3 : Hid (Own w1 w3 a3 n3 c3 (l ++ enc (zig why) ++ enc (zig amount))) := s3
  have HN3 : Hid _ := hn3
  obtain ⟨q0, q1, q2⟩ := CC.out w3 S3.out.below
  clear o3 b3 s3 hn3 q0 q1 S2
  go_wp2_with fail
  refine (refUint_any a3 n3 c3 _ rows.length (by have := ML.out; omega) w3 S3.out.seen S3.out.nil M3.out).mono ?_
  clear q2
  rintro e w4 ⟨v4, rfl, o4, b4⟩
  obtain ⟨a4, c4, rfl, s4⟩ := own_next S3.out.below o4 b4 (by have := M4.out; omega)
  obtain ⟨N, hN⟩ : ∃ n, n3 + (enc rows.length).length = n := ⟨_, rfl⟩
  obtain ⟨L, hL⟩ : ∃ L, l ++ enc (zig why) ++ enc (zig amount) ++ enc rows.length = L := ⟨_, rfl⟩
  rw [hN, hL] at s4
  rw [hN] at M4 ⊢
  have S4 : Hid (Own w1 w4 a4 N c4 L) := s4
  have HNL : Hid _ := hN
  have HLL : Hid _ := hL
  clear o4 b4 s4 hN hL S3 hwl
  go_wp2
  go_loopw [0, 5] (fun v i wr => ∃ (k : Nat) (va : Option Addr) (vc : Nat), k ≤ rows.length ∧ i = .int .i64 k ∧ v = .slice va (N + (rowsB (rows.take k)).length) vc ∧ Own w1 wr va (N + (rowsB (rows.take k)).length) vc (L ++ rowsB (rows.take k)))
    (fun _ i _ => rows.length - (intOf i).toNat)
  case atStart => exact ⟨0, a4, c4, Nat.zero_le _, rfl, by simp [rowsB], by simpa [rowsB] using S4.out⟩
  case round =>
    obtain ⟨k, va, vc, hk, rfl, rfl, ho⟩ := hrel
    obtain ⟨NK, hNK⟩ : ∃ NK, N + (rowsB (rows.take k)).length = NK := ⟨_, rfl⟩
    rw [hNK] at ho ⊢
    have HNK : Hid _ := hNK
    have OO : Hid (Own w1 wr va NK vc (L ++ rowsB (rows.take k))) := ho
    obtain ⟨q0, q1, q2⟩ := CC.out wr OO.out.below
    clear q0 q1 S4
    by_cases hlt : k < rows.length
    · obtain ⟨b, off, rfl, c1, c2⟩ := (HRw.out.below OO.out.below).at hlt
      have hT : Hid _ := rowsB_take hlt
      have hs1 := rowsSize_succ hlt
      have hszl := rowsSize_take_le rows (k + 1)
      have hbl := rowsB_le (rows.take k) (fun r hr => ⟨HRI.out r (List.mem_of_mem_take hr), by
        have h1 := rowsSize_mem (List.mem_of_mem_take hr)
        have h2 := M4.out
        omega⟩)
      have hm4 := M4.out
      have e1 := sz_le rows[k].1 (by omega)
      have m1 : Hid (NK + 10 + rows[k].1.size ≤ 140737488355328) := by show _ ≤ _; omega
      have m2 : Hid (NK + (sz (bytesL rows[k].1)).length + 10 ≤ 140737488355328) := by show _ ≤ _; omega
      have m3 : Hid (∀ z : Int, i64ok z → NK + (sz (bytesL rows[k].1)).length + (enc (zig z)).length ≤ 140737488355328) := fun z hz => by have := enc_ten (zig_lt z hz); omega
      have I2 : Hid (i64ok rows[k].2) := HRI.out rows[k] (List.getElem_mem hlt)
      have hk47 : rows.length ≤ 140737488355328 := ML.out
      have hlt' : (k : Int) < rows.length := by omega
      have CR : Hid (∀ w', Below wr.heap.size wr w' → w'.cell? ⟨b, off + k * 2, none⟩ = some (.string rows[k].1) ∧ w'.cell? ⟨b, off + k * 2 + 1, none⟩ = some (.int .i64 rows[k].2)) := fun w' hb => ⟨(hb.cell (p := ⟨b, off + k * 2, none⟩) (World.block_lt_of_cell? wr _ c1)).trans c1, (hb.cell (p := ⟨b, off + k * 2 + 1, none⟩) (World.block_lt_of_cell? wr _ c2)).trans c2⟩
      clear hbl hm4 hs1 e1 ho hszl hNK c2
      generalize rows[k] = r at *
      obtain ⟨rs, ri⟩ := r
      simp only at c1 CR I2 m1 m2 m3 hT
      go_wp2_with fail
      refine (refText_any va NK vc _ rs wr OO.out.seen OO.out.nil m1.out).mono ?_
      rintro e w5 ⟨v5, rfl, o5, b5⟩
      obtain ⟨a5, c5, rfl, s5⟩ := own_next OO.out.below o5 b5 (by have := m2.out; omega)
      obtain ⟨n5, hn5⟩ : ∃ n, NK + (sz (bytesL rs)).length = n := ⟨_, rfl⟩
      rw [hn5] at s5 m2 m3 ⊢
      have S5 : Hid (Own w1 w5 a5 n5 c5 (L ++ rowsB (rows.take k) ++ sz (bytesL rs))) := s5
      have HN5 : Hid _ := hn5
      have d1 := (CR.out w5 b5).2
      obtain ⟨q0, q1, q2'⟩ := CC.out w5 S5.out.below
      clear o5 b5 s5 hn5 c1 q2 q0 q1
      go_wp2_with fail
      refine (refInt_any a5 n5 c5 _ ri I2.out w5 S5.out.seen S5.out.nil m2.out).mono ?_
      clear d1 q2'
      rintro e w6 ⟨v6, rfl, o6, b6⟩
      obtain ⟨a6, c6, rfl, s6⟩ := own_next S5.out.below o6 b6 (m3.out ri I2.out)
      obtain ⟨n6, hn6⟩ : ∃ n, n5 + (enc (zig ri)).length = n := ⟨_, rfl⟩
      rw [hn6] at s6 ⊢
      have S6 : Hid (Own w1 w6 a6 n6 c6 (L ++ rowsB (rows.take k) ++ sz (bytesL rs) ++ enc (zig ri))) := s6
      have HN6 : Hid _ := hn6
      clear o6 b6 s6 hn6
      have eN : Hid (n6 = N + (rowsB (rows.take (k + 1))).length) := by
        show _ = _
        rw [hT.out, ← HN6.out, ← HN5.out, ← HNK.out]
        simp only [rowB, List.length_append]
        omega
      have eL : Hid (L ++ rowsB (rows.take k) ++ sz (bytesL rs) ++ enc (zig ri) = L ++ rowsB (rows.take (k + 1))) := by
        show _ = _
        rw [hT.out]
        simp only [rowB, List.append_assoc]
      go_wp2
      go_roundw
      case rel =>
        have h6 := S6.out
        rw [eL.out, eN.out] at h6
        exact ⟨k + 1, a6, c6, by omega, by go_num, by rw [← eN.out], h6⟩
      case measure => simp only [intOf]; omega
    · obtain rfl : k = rows.length := by omega
      clear ho hNK
      go_wp2
      go_ret
      refine ⟨.slice va NK vc, rfl, ?_, HB1.out.trans (OO.out.below.mono HB1.out.size)⟩
      have ho := owns_mono' OO.out.own HB1.out.size
      have e1 : NK = len + (enc (zig why) ++ enc (zig amount) ++ enc rows.length ++ rowsB rows).length := by
        rw [← HNK.out, ← HNL.out, ← HN3.out, ← HN2.out, List.take_length]
        simp only [List.length_append]
        omega
      rw [List.take_length, ← HLL.out] at ho
      rw [← e1]
      simpa only [List.append_assoc] using ho
end Go.Proofs.Ytogbcciocgpknaa

namespace Go.Proofs.Ytogbcciocgpknaa
open Go.RowKit Cod
set_option linter.unusedVariables false
/-- Bytes that were answered. -/
def Got (w : World) (v : Value) (l : List (BitVec 8)) : Prop := ∃ a c, v = .slice a l.length c ∧ Seen w a l.length l ∧ (a = none → c = 0)
theorem Got.below {w w' : World} {v : Value} {l : List (BitVec 8)} (h : Got w v l) (b : Below w.heap.size w w') : Got w' v l := by
  obtain ⟨a, c, h1, h2, h3⟩ := h
  exact ⟨a, c, h1, h2.below b, h3⟩
theorem got_nil (w : World) : Got w (.slice none 0 0) [] := ⟨none, 0, rfl, ⟨rfl, by simp, .inl rfl⟩, fun _ => rfl⟩
theorem got_owned {w : World} {base n : Nat} {v : Value} {l : List (BitVec 8)} (h : w.ownsRow base 5 1 v n (cellsOf l)) (hm : n ≤ maxLen) : Got w v l := by
  have hl : n = l.length := by have := h.1; rw [cellsOf_length] at this; omega
  subst hl
  obtain ⟨a, c, h1, h2, h3, _⟩ := owned_seen h hm
  exact ⟨a, c, h1, h2, h3⟩
theorem enc_zigX {n : Int} (h : i64ok n) : (enc (zig n)).length ≤ 10 := enc_ten (zig_lt n h)
theorem op_leX (o : OpD) (ho : o.ok) (hz : o.size ≤ 140737488355328) : o.bytes.length ≤ o.size + 70 := by
  simp only [OpD.size] at hz
  have e1 := enc_zigX ho.kind
  have e2 := sz_le o.src (by omega)
  have e3 := sz_le o.dst (by omega)
  have e4 := enc_zigX ho.amount
  have e5 := sz_le o.key (by omega)
  have e6 := enc_zigX ho.slot
  have e7 := enc_zigX ho.shard
  simp only [OpD.bytes, List.length_append, OpD.size]
  omega
theorem rowsX_le : ∀ (rows : List (ByteArray × Int)), (∀ r ∈ rows, i64ok r.2) → rowsSize rows ≤ 140737488355328 → (rowsB rows).length ≤ rowsSize rows
  | [], _, _ => by simp [rowsB, rowsSize]
  | r :: rest, h, hz => by
    simp only [rowsSize, List.map_cons, List.sum_cons] at hz
    have ih := rowsX_le rest (fun x hx => h x (List.mem_cons_of_mem _ hx)) (by simp only [rowsSize]; omega)
    have e1 := enc_zigX (h r List.mem_cons_self)
    have e2 := sz_le r.1 (by omega)
    simp only [rowsB, rowB, rowsSize, List.map_cons, List.sum_cons, List.flatten_cons, List.length_append] at ih ⊢
    omega
theorem rowsX_many : ∀ (rows : List (ByteArray × Int)), rows.length ≤ rowsSize rows
  | [] => by simp
  | r :: rest => by
    have ih := rowsX_many rest
    simp only [rowsSize, List.map_cons, List.sum_cons, List.length_cons] at ih ⊢
    omega
theorem replyX_le (why amount : Int) (rows : List (ByteArray × Int)) (g1 : i64ok why) (g2 : i64ok amount) (hr : ∀ r ∈ rows, i64ok r.2) (hz : rowsSize rows ≤ 140737488355300) : (enc (zig why) ++ enc (zig amount) ++ enc rows.length ++ rowsB rows).length ≤ 30 + rowsSize rows := by
  have e1 := enc_zigX g1
  have e2 := enc_zigX g2
  have e3 := rowsX_le rows hr (by omega)
  have e4 : (enc rows.length).length ≤ 10 := enc_ten (by have := rowsX_many rows; omega)
  simp only [List.length_append]
  omega
theorem int_got {w : World} {v : Value} {l : List (BitVec 8)} (h : Got w v l) (n : Int) (hn : i64ok n) (hm : l.length + 20 ≤ 140737488355328) :
    Calls Try.prog 22 #[v, .int .i64 n] w fun e w' => ∃ v', e = .returned v' ∧ Got w' v' (l ++ enc (zig n)) ∧ Below w.heap.size w w' := by
  obtain ⟨a, c, rfl, h2, h3⟩ := h
  skip
  refine (int_any a l.length c l n hn w h2 h3 (by omega)).mono fun e w' ⟨v', he, o, b⟩ => ⟨v', he, got_owned o ?_, b⟩
  have := enc_zigX hn
  unfold maxLen
  omega
theorem bool_got {w : World} {v : Value} {l : List (BitVec 8)} (h : Got w v l) (b : Bool)  (hm : l.length + 20 ≤ 140737488355328) :
    Calls Try.prog 28 #[v, .bool b] w fun e w' => ∃ v', e = .returned v' ∧ Got w' v' (l ++ [bit8 b]) ∧ Below w.heap.size w w' := by
  obtain ⟨a, c, rfl, h2, h3⟩ := h
  skip
  refine (bool_any a l.length c l b w h2 h3 (by omega)).mono fun e w' ⟨v', he, o, b⟩ => ⟨v', he, got_owned o ?_, b⟩
  skip
  unfold maxLen
  omega
theorem text_got {w : World} {v : Value} {l : List (BitVec 8)} (h : Got w v l) (s : ByteArray)  (hm : l.length + 20 + s.size ≤ 140737488355328) :
    Calls Try.prog 55 #[v, .string s] w fun e w' => ∃ v', e = .returned v' ∧ Got w' v' (l ++ sz (bytesL s)) ∧ Below w.heap.size w w' := by
  obtain ⟨a, c, rfl, h2, h3⟩ := h
  skip
  refine (text_any a l.length c l s w h2 h3 (by omega)).mono fun e w' ⟨v', he, o, b⟩ => ⟨v', he, got_owned o ?_, b⟩
  have := sz_le s (by omega)
  unfold maxLen
  omega
theorem bytes_got {w : World} {v : Value} {l : List (BitVec 8)} (h : Got w v l) {pv : Value} {p : List (BitVec 8)} (hp : Got w pv p) (hm : l.length + 20 + p.length ≤ 140737488355328) :
    Calls Try.prog 23 #[v, pv] w fun e w' => ∃ v', e = .returned v' ∧ Got w' v' (l ++ sz p) ∧ Below w.heap.size w w' := by
  obtain ⟨a, c, rfl, h2, h3⟩ := h
  obtain ⟨pa, pc, rfl, p2, p3⟩ := hp
  refine (bytes_any a l.length c l pa p.length pc p w h2 h3 p2 p3 (by omega)).mono fun e w' ⟨v', he, o, b⟩ => ⟨v', he, got_owned o ?_, b⟩
  have := sz_length_le p (by omega)
  unfold maxLen
  omega
theorem putOp_got {w : World} {v : Value} {l : List (BitVec 8)} (h : Got w v l) (od : OpD) (ho : od.ok) (hm : l.length + 80 + od.size ≤ 140737488355328) :
    Calls Try.prog 54 #[v, od.val] w fun e w' => ∃ v', e = .returned v' ∧ Got w' v' (l ++ od.bytes) ∧ Below w.heap.size w w' := by
  obtain ⟨a, c, rfl, h2, h3⟩ := h
  skip
  refine (putOp_any a l.length c l od ho w h2 h3 (by omega)).mono fun e w' ⟨v', he, o, b⟩ => ⟨v', he, got_owned o ?_, b⟩
  have := op_leX od ho (by omega)
  unfold maxLen
  omega
theorem putReply_got {w : World} {v : Value} {l : List (BitVec 8)} (h : Got w v l) (why amount : Int) (ra : Option Addr) (rc : Nat) (rows : List (ByteArray × Int)) (g1 : i64ok why) (g2 : i64ok amount) (hr : ∀ r ∈ rows, i64ok r.2) (hR : RowsAt w ra rows.length rows) (hm : l.length + 40 + rowsSize rows ≤ 140737488355328) :
    Calls Try.prog 29 #[v, .agg #[.int .i64 why, .int .i64 amount, .slice ra rows.length rc]] w fun e w' => ∃ v', e = .returned v' ∧ Got w' v' (l ++ (enc (zig why) ++ enc (zig amount) ++ enc rows.length ++ rowsB rows)) ∧ Below w.heap.size w w' := by
  obtain ⟨a, c, rfl, h2, h3⟩ := h
  skip
  refine (putReply_any a l.length c l why amount ra rows.length rc rows g1 g2 hr w h2 h3 hR (by omega)).mono fun e w' ⟨v', he, o, b⟩ => ⟨v', he, got_owned o ?_, b⟩
  have := replyX_le why amount rows g1 g2 hr (by omega)
  unfold maxLen
  omega
theorem refInt_got {w : World} {v : Value} {l : List (BitVec 8)} (h : Got w v l) (n : Int) (hn : i64ok n) (hm : l.length + 20 ≤ 140737488355328) :
    Calls Try.prog 26 #[v, .int .i64 n] w fun e w' => ∃ v', e = .returned v' ∧ Got w' v' (l ++ enc (zig n)) ∧ Below w.heap.size w w' := by
  obtain ⟨a, c, rfl, h2, h3⟩ := h
  skip
  refine (refInt_any a l.length c l n hn w h2 h3 (by omega)).mono fun e w' ⟨v', he, o, b⟩ => ⟨v', he, got_owned o ?_, b⟩
  have := enc_zigX hn
  unfold maxLen
  omega
theorem refBool_got {w : World} {v : Value} {l : List (BitVec 8)} (h : Got w v l) (b : Bool)  (hm : l.length + 20 ≤ 140737488355328) :
    Calls Try.prog 30 #[v, .bool b] w fun e w' => ∃ v', e = .returned v' ∧ Got w' v' (l ++ [bit8 b]) ∧ Below w.heap.size w w' := by
  obtain ⟨a, c, rfl, h2, h3⟩ := h
  skip
  refine (refBool_any a l.length c l b w h2 h3 (by omega)).mono fun e w' ⟨v', he, o, b⟩ => ⟨v', he, got_owned o ?_, b⟩
  skip
  unfold maxLen
  omega
theorem refText_got {w : World} {v : Value} {l : List (BitVec 8)} (h : Got w v l) (s : ByteArray)  (hm : l.length + 20 + s.size ≤ 140737488355328) :
    Calls Try.prog 57 #[v, .string s] w fun e w' => ∃ v', e = .returned v' ∧ Got w' v' (l ++ sz (bytesL s)) ∧ Below w.heap.size w w' := by
  obtain ⟨a, c, rfl, h2, h3⟩ := h
  skip
  refine (refText_any a l.length c l s w h2 h3 (by omega)).mono fun e w' ⟨v', he, o, b⟩ => ⟨v', he, got_owned o ?_, b⟩
  have := sz_le s (by omega)
  unfold maxLen
  omega
theorem refBytes_got {w : World} {v : Value} {l : List (BitVec 8)} (h : Got w v l) {pv : Value} {p : List (BitVec 8)} (hp : Got w pv p) (hm : l.length + 20 + p.length ≤ 140737488355328) :
    Calls Try.prog 27 #[v, pv] w fun e w' => ∃ v', e = .returned v' ∧ Got w' v' (l ++ sz p) ∧ Below w.heap.size w w' := by
  obtain ⟨a, c, rfl, h2, h3⟩ := h
  obtain ⟨pa, pc, rfl, p2, p3⟩ := hp
  refine (refBytes_any a l.length c l pa p.length pc p w h2 h3 p2 p3 (by omega)).mono fun e w' ⟨v', he, o, b⟩ => ⟨v', he, got_owned o ?_, b⟩
  have := sz_length_le p (by omega)
  unfold maxLen
  omega
theorem refPutOp_got {w : World} {v : Value} {l : List (BitVec 8)} (h : Got w v l) (od : OpD) (ho : od.ok) (hm : l.length + 80 + od.size ≤ 140737488355328) :
    Calls Try.prog 56 #[v, od.val] w fun e w' => ∃ v', e = .returned v' ∧ Got w' v' (l ++ od.bytes) ∧ Below w.heap.size w w' := by
  obtain ⟨a, c, rfl, h2, h3⟩ := h
  skip
  refine (refPutOp_any a l.length c l od ho w h2 h3 (by omega)).mono fun e w' ⟨v', he, o, b⟩ => ⟨v', he, got_owned o ?_, b⟩
  have := op_leX od ho (by omega)
  unfold maxLen
  omega
theorem refPutReply_got {w : World} {v : Value} {l : List (BitVec 8)} (h : Got w v l) (why amount : Int) (ra : Option Addr) (rc : Nat) (rows : List (ByteArray × Int)) (g1 : i64ok why) (g2 : i64ok amount) (hr : ∀ r ∈ rows, i64ok r.2) (hR : RowsAt w ra rows.length rows) (hm : l.length + 40 + rowsSize rows ≤ 140737488355328) :
    Calls Try.prog 31 #[v, .agg #[.int .i64 why, .int .i64 amount, .slice ra rows.length rc]] w fun e w' => ∃ v', e = .returned v' ∧ Got w' v' (l ++ (enc (zig why) ++ enc (zig amount) ++ enc rows.length ++ rowsB rows)) ∧ Below w.heap.size w w' := by
  obtain ⟨a, c, rfl, h2, h3⟩ := h
  skip
  refine (refPutReply_any a l.length c l why amount ra rows.length rc rows g1 g2 hr w h2 h3 hR (by omega)).mono fun e w' ⟨v', he, o, b⟩ => ⟨v', he, got_owned o ?_, b⟩
  have := replyX_le why amount rows g1 g2 hr (by omega)
  unfold maxLen
  omega
end Go.Proofs.Ytogbcciocgpknaa
