/- The statement CodecBack: the walk. -/
import Derived.Test.YtfdlgiomnmnhgaaDoorPuts
import Derived.Test.YtfdlgiomnmnhgaaDoorSame
import Derived.Test.YtfdlgiomnmnhgaaDoorGetReply
namespace Go.Proofs.YtfdlgiomnmnhgaaDoor
open Go.RowKit Cod
set_option linter.unusedVariables false

/-- All the bytes that are written. -/
def backB (n : Nat) (i : Int) (s : ByteArray) (o : OpD) (why amount : Int) (rows : List (ByteArray × Int)) : List (BitVec 8) :=
  enc n ++ enc (zig i) ++ sz (bytesL s) ++ o.bytes ++ [bit8 true] ++ (enc (zig why) ++ enc (zig amount) ++ enc rows.length ++ rowsB rows)
theorem op_le (o : OpD) (ho : o.ok) (h1 : o.src.size ≤ 65536) (h2 : o.dst.size ≤ 65536) (h3 : o.key.size ≤ 65536) : o.bytes.length ≤ 200000 ∧ o.size ≤ 196608 := by
  have e1 := enc_ten (zig_lt o.kind ho.kind)
  have e2 := sz_le o.src (by omega)
  have e3 := sz_le o.dst (by omega)
  have e4 := enc_ten (zig_lt o.amount ho.amount)
  have e5 := sz_le o.key (by omega)
  have e6 := enc_ten (zig_lt o.slot ho.slot)
  have e7 := enc_ten (zig_lt o.shard ho.shard)
  simp only [OpD.bytes, List.length_append, OpD.size]
  omega
theorem rowsSize_small : ∀ (rows : List (ByteArray × Int)), (∀ r ∈ rows, r.1.size ≤ 1000) → rowsSize rows ≤ 1020 * rows.length
  | [], _ => by simp [rowsSize]
  | r :: rest, h => by
    have ih := rowsSize_small rest (fun x hx => h x (List.mem_cons_of_mem _ hx))
    have h1 := h r List.mem_cons_self
    simp only [rowsSize, List.map_cons, List.sum_cons, List.length_cons] at ih ⊢
    omega
/-- What the reads answer, one behind the other. -/
structure BackRead (B : List (BitVec 8)) (n : Nat) (i : Int) (s : ByteArray) (o : OpD) (why amount : Int) (rows : List (ByteArray × Int)) (p1 p2 p3 p4 p5 : Nat) : Prop where
  u : rU B 0 0 = (n, p1, 0)
  i : rU B p1 0 = (zig i, p2, 0)
  s : rS B p2 0 = (bytesL s, p3, 0)
  o : rOpV B p3 0 = o ∧ (rOp7 B p3 0).2.1 = p4 ∧ (rOp7 B p3 0).2.2 = 0
  b : rB B p4 0 = (true, p5, 0)
  w : zag (rRe1 B p5 0).1 = why
  a : zag (rRe2 B p5 0).1 = amount
  r : rRe4 B p5 0 = (rows, B.length, 0)
theorem back_read (n : Nat) (i : Int) (s : ByteArray) (o : OpD) (why amount : Int) (rows : List (ByteArray × Int)) (hn : n < 18446744073709551616) (hi : i64ok i) (hs : s.size ≤ 65536) (ho : o.ok) (h1 : o.src.size ≤ 65536) (h2 : o.dst.size ≤ 65536) (h3 : o.key.size ≤ 65536)
    (hw : i64ok why) (ha : i64ok amount) (hr : ∀ r ∈ rows, i64ok r.2 ∧ r.1.size ≤ 65536) (hl : rows.length ≤ 600) : ∃ p1 p2 p3 p4 p5, BackRead (backB n i s o why amount rows) n i s o why amount rows p1 p2 p3 p4 p5 := by
  obtain ⟨B, hB⟩ : ∃ B, backB n i s o why amount rows = B := ⟨_, rfl⟩
  rw [hB]
  have s0 : B.drop 0 = enc n ++ (enc (zig i) ++ (sz (bytesL s) ++ (o.bytes ++ (bit8 true :: (enc (zig why) ++ (enc (zig amount) ++ (enc rows.length ++ (rowsB rows ++ [])))))))) := by
    rw [← hB]; simp [backB]
  have a0 := drop_len (Nat.zero_le _) s0
  have e1 := rU_back s0 hn
  have s1 := drop_next s0
  have e2 := rU_back s1 (zig_lt i hi)
  have s2 := drop_next s1
  have a1 := drop_len (by omega) s1
  have e3 := rS_back (by omega) s2 (by rw [bytesL_length]; exact hs)
  have s3 := drop_next s2
  have a2 := drop_len (by omega) s2
  have e4 := rOp_back ho (by omega) s3 h1 h2 h3
  have s4 := e4.2.2.2
  have a3 := drop_len (by omega) s3
  have e5 := rB_back true (by omega) s4
  have s5 := drop_next (x := [bit8 true]) s4
  have a4 := drop_len (x := [bit8 true]) (by omega) s4
  simp only [List.length_cons, List.length_nil] at s5 a4
  obtain ⟨P, hP⟩ : ∃ P, 0 + (enc n).length + (enc (zig i)).length + (sz (bytesL s)).length + o.bytes.length + (0 + 1) = P := ⟨_, rfl⟩
  rw [hP] at s5 a4
  have e6 : rRe1 B P 0 = (zig why, P + (enc (zig why)).length, 0) := by rw [rRe1]; exact rU_back s5 (zig_lt why hw)
  have s6 := drop_next s5
  have a5 := drop_len (by omega) s5
  have e7 : rRe2 B P 0 = (zig amount, P + (enc (zig why)).length + (enc (zig amount)).length, 0) := by rw [rRe2, e6]; exact rU_back s6 (zig_lt amount ha)
  have s7 := drop_next s6
  have a6 := drop_len (by omega) s6
  have a7 := drop_len (by omega) s7
  have hrow : rows.length ≤ (rowsB rows).length := rowsB_ge rows
  have e8 : rRe3 B P 0 = (rows.length, P + (enc (zig why)).length + (enc (zig amount)).length + (enc rows.length).length, 0) := by
    rw [rRe3, e7]
    exact rC_back (by simp only; omega) s7 (by omega) (by omega) (by simp; omega)
  have s8 := drop_next s7
  have e9 : rRe4 B P 0 = rRows B (P + (enc (zig why)).length + (enc (zig amount)).length + (enc rows.length).length) 0 rows.length := by rw [rRe4, e8]
  have e10 := rRows_back (by omega) s8 hr rows.length (Nat.le_refl _)
  rw [List.take_length] at e10
  rw [e10] at e9
  have a8 := drop_len (by omega) s8
  refine ⟨_, _, _, _, P, ⟨e1, e2, e3, ⟨e4.1, e4.2.1, e4.2.2.1⟩, ?_, by rw [e6]; exact zag_zig why, by rw [e7]; exact zag_zig amount, ?_⟩⟩
  · rw [e5, ← hP]
  · rw [e9]
    simp at a8
    rw [show P + (enc (zig why)).length + (enc (zig amount)).length + (enc rows.length).length + (rowsB rows).length = B.length by omega]
set_option maxRecDepth 100000 in
set_option maxHeartbeats 6400000 in
theorem back_walk (n : Nat) (i : Int) (s : ByteArray) (o : OpD) (why amount : Int) (ra : Option Addr) (rn rc : Nat) (rows : List (ByteArray × Int)) (w : World) (hT : Tabs w) (hn : n < 18446744073709551616) (hi : i64ok i) (ho : o.ok) (hw : i64ok why) (ha : i64ok amount) (hr : ∀ r ∈ rows, i64ok r.2) (hR : RowsAt w ra rn rows) :
    Calls Tryd.prog 6 #[.int .u64 n, .int .i64 i, .string s, o.val, .agg #[.int .i64 why, .int .i64 amount, .slice ra rn rc]] w fun e w' => e = .returned (.bool true) ∧ Below w.heap.size w w' := by
  obtain ⟨kind, src, dst, oam, key, slot, shard⟩ := o
  obtain rfl : rn = rows.length := hR.1
  have hrl : rows.length ≤ 140737488355328 := hR.2.1
  generalize hw1 : (w.alloc (.cells #[.int .i64 kind, .string src, .string dst, .int .i64 oam, .string key, .int .i64 slot, .int .i64 shard] 25)).alloc (.cells #[.int .i64 why, .int .i64 amount, .slice ra rows.length rc] 29) = w1
  have b1 : Below w.heap.size w w1 := by rw [← hw1]; exact ((Below.refl _ w).alloc (Nat.le_refl _) _).alloc (by simp) _
  have sz1 : w1.heap.size = w.heap.size + 2 := by rw [← hw1]; simp
  have hO : w1.heap[w.heap.size]? = some (.cells #[.int .i64 kind, .string src, .string dst, .int .i64 oam, .string key, .int .i64 slot, .int .i64 shard] 25 (0, 0)) := by
    rw [← hw1, Below.heap_alloc _ _ _ (by simp)]; exact heap_alloc_new w _
  have hP : w1.heap[w.heap.size + 1]? = some (.cells #[.int .i64 why, .int .i64 amount, .slice ra rows.length rc] 29 (0, 0)) := by
    rw [← hw1]; exact heap_alloc2_new w _ _
  have HW : Hid _ := hw1
  have HB1 : Hid (Below w.heap.size w w1) := b1
  have HT1 : Hid (Tabs w1) := hT.below b1 hT.size
  have HR1 : Hid (RowsAt w1 ra rows.length rows) := hR.below b1
  have HN : Hid _ := hn
  have HI : Hid _ := hi
  have HO : Hid (OpD.ok ⟨kind, src, dst, oam, key, slot, shard⟩) := ho
  have HWy : Hid _ := hw
  have HAm : Hid _ := ha
  have HRr : Hid _ := hr
  have cO : ∀ w', Below w1.heap.size w1 w' → w'.cell? ⟨w.heap.size, 0, none⟩ = some (.int .i64 kind) ∧ w'.cell? ⟨w.heap.size, 1, none⟩ = some (.string src) ∧ w'.cell? ⟨w.heap.size, 2, none⟩ = some (.string dst) ∧ w'.cell? ⟨w.heap.size, 3, none⟩ = some (.int .i64 oam) ∧ w'.cell? ⟨w.heap.size, 4, none⟩ = some (.string key) ∧ w'.cell? ⟨w.heap.size, 5, none⟩ = some (.int .i64 slot) ∧ w'.cell? ⟨w.heap.size, 6, none⟩ = some (.int .i64 shard) ∧ w'.cell? ⟨w.heap.size + 1, 0, none⟩ = some (.int .i64 why) ∧ w'.cell? ⟨w.heap.size + 1, 1, none⟩ = some (.int .i64 amount) ∧ w'.cell? ⟨w.heap.size + 1, 2, none⟩ = some (.slice ra rows.length rc) := fun w' h => by
    have h0 : w'.heap[w.heap.size]? = w1.heap[w.heap.size]? := h.block _ (by omega)
    have h1 : w'.heap[w.heap.size + 1]? = w1.heap[w.heap.size + 1]? := h.block _ (by omega)
    refine ⟨?_, ?_, ?_, ?_, ?_, ?_, ?_, ?_, ?_, ?_⟩ <;> simp [World.cell?, h0, h1, hO, hP]
  have CO : Hid _ := cO
  obtain ⟨q0, q1, q2, q3, q4, q5, q6, q7, q8, q9⟩ := cO w1 (Below.refl _ _)
  clear hw1 b1 hT hR hn hi ho hw ha hr hO hP cO
  show Calls Tryd.prog 6 #[.int .u64 n, .int .i64 i, .string s, .agg #[.int .i64 kind, .string src, .string dst, .int .i64 oam, .string key, .int .i64 slot, .int .i64 shard], .agg #[.int .i64 why, .int .i64 amount, .slice ra rows.length rc]] w _
  have K1 : Hid (∀ w', Below w1.heap.size w1 w' → Calls Tryd.prog 27 #[] w' fun e w'' => e = .returned (.bool true) ∧ Below w1.heap.size w1 w'') := fun w' h => known_later h HT1.out
  by_cases g1 : (65536 : Int) < (s.size : Int)
  · clear q0 q1 q2 q3 q4 q5 q6 q7 q8 q9
    go_enter Tryd.func6, Tryd.ntmps6
    go_wp2_with fail
    rw [HW.out]
    refine (known_later (Below.refl _ _) HT1.out).mono ?_
    rintro e w3 ⟨rfl, b3⟩
    go_wp2
    go_ret
    exact ⟨rfl, HB1.out.trans (b3.mono HB1.out.size)⟩
  by_cases g2 : (65536 : Int) < (src.size : Int)
  · clear q0 q1 q2 q3 q4 q5 q6 q7 q8 q9
    go_enter Tryd.func6, Tryd.ntmps6
    go_wp2_with fail
    rw [HW.out]
    refine (known_later (Below.refl _ _) HT1.out).mono ?_
    rintro e w3 ⟨rfl, b3⟩
    go_wp2
    go_ret
    exact ⟨rfl, HB1.out.trans (b3.mono HB1.out.size)⟩
  by_cases g3 : (65536 : Int) < (dst.size : Int)
  · clear q0 q1 q2 q3 q4 q5 q6 q7 q8 q9
    go_enter Tryd.func6, Tryd.ntmps6
    go_wp2_with fail
    rw [HW.out]
    refine (known_later (Below.refl _ _) HT1.out).mono ?_
    rintro e w3 ⟨rfl, b3⟩
    go_wp2
    go_ret
    exact ⟨rfl, HB1.out.trans (b3.mono HB1.out.size)⟩
  by_cases g4 : (65536 : Int) < (key.size : Int)
  · clear q0 q1 q2 q3 q4 q5 q6 q7 q8 q9
    go_enter Tryd.func6, Tryd.ntmps6
    go_wp2_with fail
    rw [HW.out]
    refine (known_later (Below.refl _ _) HT1.out).mono ?_
    rintro e w3 ⟨rfl, b3⟩
    go_wp2
    go_ret
    exact ⟨rfl, HB1.out.trans (b3.mono HB1.out.size)⟩
  by_cases g5 : (600 : Int) < (rows.length : Int)
  · clear q0 q1 q2 q3 q4 q5 q6 q7 q8 q9
    go_enter Tryd.func6, Tryd.ntmps6
    go_wp2_with fail
    rw [HW.out]
    refine (known_later (Below.refl _ _) HT1.out).mono ?_
    rintro e w3 ⟨rfl, b3⟩
    go_wp2
    go_ret
    exact ⟨rfl, HB1.out.trans (b3.mono HB1.out.size)⟩
  go_enter Tryd.func6, Tryd.ntmps6
  go_wp2
  go_loopw [11] (fun i wr => ∃ k : Nat, k ≤ rows.length ∧ i = .int .i64 k ∧ (∀ r ∈ rows.take k, r.1.size ≤ 1000) ∧ wr = w1) (fun i _ => rows.length - (intOf i).toNat)
  case atStart => exact ⟨0, Nat.zero_le _, rfl, (fun r hr => by simp at hr), HW.out⟩
  case round =>
    obtain ⟨k, hk, rfl, hall, hwr⟩ := hrel
    have hwr' := hwr.symm
    clear hwr
    subst hwr'
    by_cases hlt : k < rows.length
    · obtain ⟨b, off, rfl, c1, c2⟩ := HR1.out.at hlt
      have hk1 : (k : Int) < rows.length := by omega
      by_cases hbig : 1000 < rows[k].1.size
      · have hbig' : (1000 : Int) < (rows[k].1.size : Int) := by omega
        generalize rows[k] = r at *
        clear hbig hall
        go_wp2_with fail
        refine (K1.out _ (Below.refl _ _)).mono ?_
        rintro e w3 ⟨rfl, b3⟩
        go_wp2
        go_ret
        exact ⟨rfl, HB1.out.trans (b3.mono HB1.out.size)⟩
      · have HAll : Hid (∀ r ∈ rows.take (k + 1), r.1.size ≤ 1000) := fun r hr => by
          rw [List.take_add_one, List.getElem?_eq_getElem hlt] at hr
          rcases List.mem_append.1 hr with h | h
          · exact hall r h
          · simp at h
            subst h
            omega
        have hbig' : ¬ ((1000 : Int) < (rows[k].1.size : Int)) := by omega
        generalize rows[k] = r at *
        clear hbig hall
        go_wp2
        go_roundw
        case rel => exact ⟨k + 1, by omega, by go_num, HAll.out, trivial⟩
        case measure => simp only [intOf]; omega
    · obtain rfl : k = rows.length := by omega
      rw [List.take_length] at hall
      have hs : s.size ≤ 65536 := by omega
      have h1 : src.size ≤ 65536 := by omega
      have h2 : dst.size ≤ 65536 := by omega
      have h3 : key.size ≤ 65536 := by omega
      have hl : rows.length ≤ 600 := by omega
      obtain ⟨p1, p2, p3, p4, p5, BR⟩ := back_read n i s ⟨kind, src, dst, oam, key, slot, shard⟩ why amount rows HN.out HI.out hs HO.out h1 h2 h3 HWy.out HAm.out (fun r hr => ⟨HRr.out r hr, by have := hall r hr; omega⟩) hl
      obtain ⟨B, hB⟩ : ∃ B, backB n i s ⟨kind, src, dst, oam, key, slot, shard⟩ why amount rows = B := ⟨_, rfl⟩
      rw [hB] at BR
      have HBR : Hid (BackRead B n i s ⟨kind, src, dst, oam, key, slot, shard⟩ why amount rows p1 p2 p3 p4 p5) := BR
      have e1 := enc_ten HN.out
      have e2 := enc_ten (zig_lt i HI.out)
      have e3 := sz_le s (by omega)
      obtain ⟨e4, e5⟩ := op_le ⟨kind, src, dst, oam, key, slot, shard⟩ HO.out h1 h2 h3
      have e6 := rowsSize_small rows hall
      have M2 : Hid ((enc n).length + 10 ≤ 140737488355328) := by show _ ≤ _; omega
      have M3 : Hid ((enc n).length + (enc (zig i)).length + 10 + s.size ≤ 140737488355328) := by show _ ≤ _; omega
      have M4 : Hid ((enc n).length + (enc (zig i)).length + (sz (bytesL s)).length + 70 + OpD.size ⟨kind, src, dst, oam, key, slot, shard⟩ ≤ 140737488355328) := by show _ ≤ _; omega
      have M5 : Hid ((enc n).length + (enc (zig i)).length + (sz (bytesL s)).length + (OpD.bytes ⟨kind, src, dst, oam, key, slot, shard⟩).length + 1 ≤ 140737488355328) := by show _ ≤ _; omega
      have M6 : Hid ((enc n).length + (enc (zig i)).length + (sz (bytesL s)).length + (OpD.bytes ⟨kind, src, dst, oam, key, slot, shard⟩).length + 1 + 30 + rowsSize rows ≤ 140737488355328) := by show _ ≤ _; omega
      have HBB : Hid (backB n i s ⟨kind, src, dst, oam, key, slot, shard⟩ why amount rows = B) := hB
      have e7 := rowsB_le rows (fun r hr => ⟨HRr.out r hr, by have := hall r hr; omega⟩)
      have e8 := enc_ten (zig_lt why HWy.out)
      have e9 := enc_ten (zig_lt amount HAm.out)
      have e10 := enc_ten (n := rows.length) (by omega)
      have M7 : Hid (B.length ≤ 140737488355328) := by
        show B.length ≤ _
        rw [← hB]
        simp only [backB, List.length_append, List.length_cons, List.length_nil]
        omega
      have G : Hid (¬ (1000 : Int) < 0) := by show ¬ _; omega
      clear hall hs h1 h2 h3 hl BR hB e1 e2 e3 e4 e5 e6 e7 e8 e9 e10 hlt hk g1 g2 g3 g4 g5
      go_wp2_with fail
      refine (uint_any none 0 0 [] n HN.out w1 ⟨rfl, by simp, .inl rfl⟩ (fun _ => rfl) (by omega)).mono ?_
      rintro e w2 ⟨v2, rfl, o2, b2⟩
      rw [List.nil_append, Nat.zero_add] at o2
      obtain ⟨a2, c2, rfl, s2, n2, _⟩ := owned_seen o2 (by have := M2.out; unfold maxLen; omega)
      have S2 : Hid (Seen w2 a2 (enc n).length (enc n)) := s2
      have N2 : Hid _ := n2
      have B2 : Hid (Below w1.heap.size w1 w2) := b2
      clear o2 b2 s2 n2
      go_wp2_with fail
      refine (int_any a2 _ c2 _ i HI.out w2 S2.out N2.out M2.out).mono ?_
      rintro e w3 ⟨v3, rfl, o3, b3⟩
      obtain ⟨a3, c3, rfl, s3, n3, _⟩ := owned_seen o3 (by have := M3.out; unfold maxLen; omega)
      have S3 : Hid (Seen w3 a3 ((enc n).length + (enc (zig i)).length) (enc n ++ enc (zig i))) := s3
      have N3 : Hid _ := n3
      have B3 : Hid (Below w1.heap.size w1 w3) := B2.out.trans (b3.mono B2.out.size)
      clear o3 b3 s3 n3 S2 N2 B2
      go_wp2_with fail
      refine (text_any a3 _ c3 _ s w3 S3.out N3.out M3.out).mono ?_
      rintro e w4 ⟨v4, rfl, o4, b4⟩
      obtain ⟨a4, c4, rfl, s4, n4, _⟩ := owned_seen o4 (by have := M4.out; unfold maxLen; omega)
      have S4 : Hid (Seen w4 a4 ((enc n).length + (enc (zig i)).length + (sz (bytesL s)).length) (enc n ++ enc (zig i) ++ sz (bytesL s))) := s4
      have N4 : Hid _ := n4
      have B4 : Hid (Below w1.heap.size w1 w4) := B3.out.trans (b4.mono B3.out.size)
      clear o4 b4 s4 n4 S3 N3 B3
      obtain ⟨t0, t1, t2, t3, t4, t5, t6, t7, t8, t9⟩ := CO.out w4 B4.out
      go_wp2_with fail
      refine (putOp_any a4 _ c4 _ ⟨kind, src, dst, oam, key, slot, shard⟩ HO.out w4 S4.out N4.out M4.out).mono ?_
      clear t0 t1 t2 t3 t4 t5 t6 t7 t8 t9
      rintro e w5 ⟨v5, rfl, o5, b5⟩
      obtain ⟨a5, c5, rfl, s5, n5, _⟩ := owned_seen o5 (by have := M5.out; unfold maxLen; omega)
      have S5 : Hid (Seen w5 a5 ((enc n).length + (enc (zig i)).length + (sz (bytesL s)).length + (OpD.bytes ⟨kind, src, dst, oam, key, slot, shard⟩).length) (enc n ++ enc (zig i) ++ sz (bytesL s) ++ (OpD.bytes ⟨kind, src, dst, oam, key, slot, shard⟩))) := s5
      have N5 : Hid _ := n5
      have B5 : Hid (Below w1.heap.size w1 w5) := B4.out.trans (b5.mono B4.out.size)
      clear o5 b5 s5 n5 S4 N4 B4
      go_wp2_with fail
      refine (bool_any a5 _ c5 _ true w5 S5.out N5.out M5.out).mono ?_
      rintro e w6 ⟨v6, rfl, o6, b6⟩
      obtain ⟨a6, c6, rfl, s6, n6, _⟩ := owned_seen o6 (by have := M6.out; unfold maxLen; omega)
      have S6 : Hid (Seen w6 a6 ((enc n).length + (enc (zig i)).length + (sz (bytesL s)).length + (OpD.bytes ⟨kind, src, dst, oam, key, slot, shard⟩).length + 1) (enc n ++ enc (zig i) ++ sz (bytesL s) ++ (OpD.bytes ⟨kind, src, dst, oam, key, slot, shard⟩) ++ [bit8 true])) := s6
      have N6 : Hid _ := n6
      have B6 : Hid (Below w1.heap.size w1 w6) := B5.out.trans (b6.mono B5.out.size)
      clear o6 b6 s6 n6 S5 N5 B5
      obtain ⟨t0, t1, t2, t3, t4, t5, t6, t7, t8, t9⟩ := CO.out w6 B6.out
      go_wp2_with fail
      refine (putReply_any a6 _ c6 _ why amount ra rows.length rc rows HWy.out HAm.out HRr.out w6 S6.out N6.out (HR1.out.below B6.out) M6.out).mono ?_
      clear t0 t1 t2 t3 t4 t5 t6 t7 t8 t9
      rintro e w7 ⟨v7, rfl, o7, b7⟩
      have hBl : (enc n ++ enc (zig i) ++ sz (bytesL s) ++ (OpD.bytes ⟨kind, src, dst, oam, key, slot, shard⟩) ++ [bit8 true] ++ (enc (zig why) ++ enc (zig amount) ++ enc rows.length ++ rowsB rows)) = B := HBB.out
      have hBn : (enc n).length + (enc (zig i)).length + (sz (bytesL s)).length + (OpD.bytes ⟨kind, src, dst, oam, key, slot, shard⟩).length + 1 + (enc (zig why) ++ enc (zig amount) ++ enc rows.length ++ rowsB rows).length = B.length := by
        rw [← hBl]; simp only [List.length_append, List.length_cons, List.length_nil]
      rw [hBl, hBn] at o7
      obtain ⟨a7, c7, rfl, s7, n7, _⟩ := owned_seen o7 (by have := M7.out; unfold maxLen; omega)
      have S7 : Hid (Seen w7 a7 B.length B) := s7
      have N7 : Hid _ := n7
      have B7 : Hid (Below w1.heap.size w1 w7) := B6.out.trans (b7.mono B6.out.size)
      clear o7 b7 s7 n7 S6 N6 B6 hBl hBn
      go_wp2_with fail
      refine (newReader_any a7 _ c7 B w7 S7.out N7.out M7.out).mono ?_
      rintro e w8 ⟨R, rfl, hR8, r8, b8⟩
      have B8 : Below w1.heap.size w1 w8 := B7.out.trans (b8.mono B7.out.size)
      have hRR : w1.heap.size ≤ R := Nat.le_trans B7.out.size hR8
      have R8 : Rdr w8 R B 0 0 := r8
      clear b8 r8 hR8 S7 N7 B7 HBB
      have C1 : Hid (∀ w', Below w1.heap.size w1 w' → Rdr w' R B 0 0 → Calls Tryd.prog 34 #[.pointer (some ⟨R, 0, none⟩)] w' fun e w'' => e = .returned (.int .u64 n) ∧ Rdr w'' R B p1 0 ∧ Below w1.heap.size w1 w'') := fun w' hb h => by
        have := rUint_any R B 0 0 w' h
        rw [HBR.out.u] at this
        exact this.mono (fun e w'' ⟨h1, h2, h3⟩ => ⟨h1, h2, below_grown hb h3 hb.size hRR⟩)
      have C2 : Hid (∀ w', Below w1.heap.size w1 w' → Rdr w' R B p1 0 → Calls Tryd.prog 35 #[.pointer (some ⟨R, 0, none⟩)] w' fun e w'' => e = .returned (.int .i64 i) ∧ Rdr w'' R B p2 0 ∧ Below w1.heap.size w1 w'') := fun w' hb h => by
        have := rInt_any R B p1 0 w' h
        rw [HBR.out.i] at this
        exact this.mono (fun e w'' ⟨h1, h2, h3⟩ => ⟨h1.trans (by rw [zag_zig]), h2, below_grown hb h3 hb.size hRR⟩)
      have C3 : Hid (∀ w', Below w1.heap.size w1 w' → Rdr w' R B p2 0 → Calls Tryd.prog 37 #[.pointer (some ⟨R, 0, none⟩)] w' fun e w'' => e = .returned (.string s) ∧ Rdr w'' R B p3 0 ∧ Below w1.heap.size w1 w'') := fun w' hb h => by
        have := rText_any R B p2 0 w' h
        rw [HBR.out.s] at this
        exact this.mono (fun e w'' ⟨h1, h2, h3⟩ => ⟨h1.trans (by rw [textOf_bytesL]), h2, below_grown hb h3 hb.size hRR⟩)
      have C4 : Hid (∀ w', Below w1.heap.size w1 w' → Rdr w' R B p3 0 → Calls Tryd.prog 48 #[.pointer (some ⟨R, 0, none⟩)] w' fun e w'' => e = .returned (.agg #[.int .i64 kind, .string src, .string dst, .int .i64 oam, .string key, .int .i64 slot, .int .i64 shard]) ∧ Rdr w'' R B p4 0 ∧ Below w1.heap.size w1 w'') := fun w' hb h => by
        have := getOp_any R B p3 0 w' h
        rw [HBR.out.o.1, HBR.out.o.2.1, HBR.out.o.2.2] at this
        exact this.mono (fun e w'' ⟨h1, h2, h3⟩ => ⟨h1, h2, below_grown hb h3 hb.size hRR⟩)
      have C5 : Hid (∀ w', Below w1.heap.size w1 w' → Rdr w' R B p4 0 → Calls Tryd.prog 38 #[.pointer (some ⟨R, 0, none⟩)] w' fun e w'' => e = .returned (.bool true) ∧ Rdr w'' R B p5 0 ∧ Below w1.heap.size w1 w'') := fun w' hb h => by
        have := rBool_any R B p4 0 w' h
        rw [HBR.out.b] at this
        exact this.mono (fun e w'' ⟨h1, h2, h3⟩ => ⟨h1, h2, below_grown hb h3 hb.size hRR⟩)
      have C6 : Hid (∀ w', Below w1.heap.size w1 w' → Rdr w' R B p5 0 → Calls Tryd.prog 50 #[.pointer (some ⟨R, 0, none⟩)] w' fun e w'' => ∃ a n c, e = .returned (.agg #[.int .i64 why, .int .i64 amount, .slice a n c]) ∧ RowsAt w'' a n rows ∧ Rdr w'' R B B.length 0 ∧ Below w1.heap.size w1 w'') := fun w' hb h => by
        have := getReply_any R B p5 0 w' h
        rw [HBR.out.w, HBR.out.a, HBR.out.r] at this
        exact this.mono (fun e w'' ⟨a, n, c, h1, h2, h3, h4⟩ => ⟨a, n, c, h1, h2, h3, below_grown hb h4 hb.size hRR⟩)
      have C7 : Hid (∀ w' a n c, Below w1.heap.size w1 w' → RowsAt w' a n rows → Rdr w' R B B.length 0 → Calls Tryd.prog 49 #[.agg #[.int .i64 why, .int .i64 amount, .slice a n c], .agg #[.int .i64 why, .int .i64 amount, .slice ra rows.length rc]] w' fun e w'' => e = .returned (.bool true) ∧ Rdr w'' R B B.length 0 ∧ Below w1.heap.size w1 w'') := fun w' a n c hb hra h => by
        have := sameReply_any a ra n c rows.length rc rows rows why amount why amount w' hra (HR1.out.below hb)
        exact this.mono (fun e w'' ⟨h1, h2⟩ => ⟨h1.trans (by simp), Rdr.below h h2, hb.trans (h2.mono hb.size)⟩)
      have C8 : Hid (∀ w', Below w1.heap.size w1 w' → Rdr w' R B B.length 0 → Calls Tryd.prog 32 #[.pointer (some ⟨R, 0, none⟩)] w' fun e w'' => e = .returned (.int .i64 0) ∧ Rdr w'' R B B.length 0 ∧ Below w1.heap.size w1 w'') := fun w' hb h =>
        (rEnd_any R B B.length 0 w' h).mono (fun e w'' ⟨h1, n, h2⟩ => ⟨h1.trans (by simp [rEnd]), by rw [h2]; exact h, by rw [h2]; exact below_drewN' hb n⟩)
      have C9 : Hid (∀ w', Below w1.heap.size w1 w' → Rdr w' R B B.length 0 → Calls Tryd.prog 31 #[.pointer (some ⟨R, 0, none⟩)] w' fun e w'' => e = .returned (.int .i64 B.length) ∧ Rdr w'' R B B.length 0 ∧ Below w1.heap.size w1 w'') := fun w' hb h =>
        (rAt_any R B B.length 0 w' h).mono (fun e w'' ⟨h1, h2⟩ => ⟨h1, by rw [h2]; exact h, by rw [h2]; exact hb⟩)
      have MK : Hid (∀ w', Below w1.heap.size w1 w' → Below w1.heap.size w1 w' ∧ w'.cell? ⟨w.heap.size, 0, none⟩ = some (.int .i64 kind) ∧ w'.cell? ⟨w.heap.size, 1, none⟩ = some (.string src) ∧ w'.cell? ⟨w.heap.size, 2, none⟩ = some (.string dst) ∧ w'.cell? ⟨w.heap.size, 3, none⟩ = some (.int .i64 oam) ∧ w'.cell? ⟨w.heap.size, 4, none⟩ = some (.string key) ∧ w'.cell? ⟨w.heap.size, 5, none⟩ = some (.int .i64 slot) ∧ w'.cell? ⟨w.heap.size, 6, none⟩ = some (.int .i64 shard) ∧ w'.cell? ⟨w.heap.size + 1, 0, none⟩ = some (.int .i64 why) ∧ w'.cell? ⟨w.heap.size + 1, 1, none⟩ = some (.int .i64 amount) ∧ w'.cell? ⟨w.heap.size + 1, 2, none⟩ = some (.slice ra rows.length rc)) := fun w' h => ⟨h, CO.out w' h⟩
      have B8d : Below w1.heap.size w1 w8.drew := Below.drew B8
      have d1 : (src.toList == src.toList) = true := text_self src
      have d2 : (dst.toList == dst.toList) = true := text_self dst
      have d3 : (key.toList == key.toList) = true := text_self key
      have d4 : (s.toList == s.toList) = true := text_self s
      have R0 : Hid (Rdr w8.drew R B 0 0) := R8
      clear HBR CO HR1 R8 q0 q1 q2 q3 q4 q5 q6 q7 q8 q9
      go_wp2_with fail
      go_region_held3 (fun w' => Below w1.heap.size w1 w' ∧ w'.cell? ⟨w.heap.size, 0, none⟩ = some (.int .i64 kind) ∧ w'.cell? ⟨w.heap.size, 1, none⟩ = some (.string src) ∧ w'.cell? ⟨w.heap.size, 2, none⟩ = some (.string dst) ∧ w'.cell? ⟨w.heap.size, 3, none⟩ = some (.int .i64 oam) ∧ w'.cell? ⟨w.heap.size, 4, none⟩ = some (.string key) ∧ w'.cell? ⟨w.heap.size, 5, none⟩ = some (.int .i64 slot) ∧ w'.cell? ⟨w.heap.size, 6, none⟩ = some (.int .i64 shard) ∧ w'.cell? ⟨w.heap.size + 1, 0, none⟩ = some (.int .i64 why) ∧ w'.cell? ⟨w.heap.size + 1, 1, none⟩ = some (.int .i64 amount) ∧ w'.cell? ⟨w.heap.size + 1, 2, none⟩ = some (.slice ra rows.length rc))
        (first | assumption | exact MK.out _ (by assumption))
        (first
          | (go_at_call 34; refine (C1.out _ (by assumption) R0.out).mono ?_; rintro e x1 ⟨rfl, r1, hb1⟩)
          | (go_at_call 35; refine (C2.out _ (by assumption) (by assumption)).mono ?_; rintro e x1 ⟨rfl, r1, hb1⟩)
          | (go_at_call 37; refine (C3.out _ (by assumption) (by assumption)).mono ?_; rintro e x1 ⟨rfl, r1, hb1⟩)
          | (go_at_call 48; refine (C4.out _ (by assumption) (by assumption)).mono ?_; rintro e x1 ⟨rfl, r1, hb1⟩)
          | (go_at_call 38; refine (C5.out _ (by assumption) (by assumption)).mono ?_; rintro e x1 ⟨rfl, r1, hb1⟩)
          | (go_at_call 50; refine (C6.out _ (by assumption) (by assumption)).mono ?_; rintro e x1 ⟨a9, n9, k9, rfl, ra9, r1, hb1⟩)
          | (go_at_call 49; refine (C7.out _ _ _ _ (by assumption) (by assumption) (by assumption)).mono ?_; rintro e x1 ⟨rfl, r1, hb1⟩)
          | (go_at_call 32; refine (C8.out _ (by assumption) (by assumption)).mono ?_; rintro e x1 ⟨rfl, r1, hb1⟩)
          | (go_at_call 31; refine (C9.out _ (by assumption) (by assumption)).mono ?_; rintro e x1 ⟨rfl, r1, hb1⟩)
          | (go_at_call 27; refine (K1.out _ (by assumption)).mono ?_; rintro e x1 ⟨rfl, hb1⟩))
      go_wp2
      go_ret
      exact ⟨rfl, HB1.out.trans (Below.mono (by assumption) HB1.out.size)⟩
theorem back_walk_int (n i : Int) (s : ByteArray) (o : OpD) (why amount : Int) (ra : Option Addr) (rn rc : Nat) (rows : List (ByteArray × Int)) (w : World) (hT : Tabs w) (hn : (Lit.int .u64 n).wf = true) (hi : (Lit.int .i64 i).wf = true) (ho : o.ok) (hw : i64ok why) (ha : i64ok amount) (hr : ∀ r ∈ rows, i64ok r.2) (hR : RowsAt w ra rn rows) :
    Calls Tryd.prog 6 #[.int .u64 n, .int .i64 i, .string s, o.val, .agg #[.int .i64 why, .int .i64 amount, .slice ra rn rc]] w fun e w' => e = .returned (.bool true) ∧ Below w.heap.size w w' := by
  have h1 : 0 ≤ n ∧ n ≤ 18446744073709551615 := by simpa [Lit.wf, IntKind.min, IntKind.max, IntKind.bits, IntKind.signed] using hn
  have h2 : -9223372036854775808 ≤ i ∧ i ≤ 9223372036854775807 := by simpa [Lit.wf, IntKind.min, IntKind.max, IntKind.bits, IntKind.signed] using hi
  have := back_walk n.toNat i s o why amount ra rn rc rows w hT (by omega) ⟨h2.1, by omega⟩ ho hw ha hr hR
  rwa [Int.toNat_of_nonneg h1.1] at this
end Go.Proofs.YtfdlgiomnmnhgaaDoor
