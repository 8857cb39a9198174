/- What the reference's PutReply does. -/
import Derived.Test.YtmcippolnekogaaRefW
import Derived.Test.YtmcippolnekogaaPutReply
import Derived.Test.YtmcippolnekogaaSame
namespace Go.Proofs.Ytmcippolnekogaa
open Go.RowKit Cod
set_option linter.unusedVariables false

/-- A row of bytes that the call owns, with what is known of it. -/
structure Own (w1 w : World) (a : Option Addr) (n c : Nat) (L : List (BitVec 8)) : Prop where
  own : w.ownsRow w1.heap.size 5 1 (.slice a n c) n (cellsOf L)
  seen : Seen w a n L
  nil : a = none → c = 0
  below : Below w1.heap.size w1 w
theorem own_next {w1 w w' : World} {n : Nat} {v : Value} {L : List (BitVec 8)} (hb : Below w1.heap.size w1 w) (h : w'.ownsRow w.heap.size 5 1 v n (cellsOf L)) (hb' : Below w.heap.size w w') (hm : n ≤ 140737488355328) : ∃ a c, v = .slice a n c ∧ Own w1 w' a n c L := by
  obtain ⟨a, c, rfl, s, hn, _⟩ := owned_seen h (by unfold maxLen; omega)
  exact ⟨a, c, rfl, owns_mono' h hb.size, s, hn, hb.trans (hb'.mono hb.size)⟩
set_option maxRecDepth 100000 in
set_option maxHeartbeats 1600000 in
theorem refPutReply_any (a : Option Addr) (len cap : Nat) (l : List (BitVec 8)) (why amount : Int) (ra : Option Addr) (rn rc : Nat) (rows : List (ByteArray × Int)) (h1 : i64ok why) (h2 : i64ok amount) (hr : ∀ r ∈ rows, i64ok r.2)
    (w : World) (h : Seen w a len l) (hnil : a = none → cap = 0) (hR : RowsAt w ra rn rows) (hm : len + 30 + rowsSize rows ≤ 140737488355328) :
    Calls Try.prog 39 #[.slice a len cap, .agg #[.int .i64 why, .int .i64 amount, .slice ra rn rc]] w fun e w' => ∃ v', e = .returned v' ∧ w'.ownsRow w.heap.size 5 1 v' (len + (enc (zig why) ++ enc (zig amount) ++ enc rows.length ++ rowsB rows).length) (cellsOf (l ++ (enc (zig why) ++ enc (zig amount) ++ enc rows.length ++ rowsB rows))) ∧ Below w.heap.size w w' := by
  obtain rfl : rn = rows.length := hR.1
  generalize hw1 : w.alloc (.cells #[.int .i64 why, .int .i64 amount, .slice ra rows.length rc] 27) = w1
  have b1 : Below w.heap.size w w1 := by rw [← hw1]; exact (Below.refl _ w).alloc (Nat.le_refl _) _
  have hh : w1.heap[w.heap.size]? = some (.cells #[.int .i64 why, .int .i64 amount, .slice ra rows.length rc] 27 (0, 0)) := by rw [← hw1]; exact heap_alloc_new w _
  have CC : Hid (∀ w', Below w1.heap.size w1 w' → w'.cell? ⟨w.heap.size, 0, none⟩ = some (.int .i64 why) ∧ w'.cell? ⟨w.heap.size, 1, none⟩ = some (.int .i64 amount) ∧ w'.cell? ⟨w.heap.size, 2, none⟩ = some (.slice ra rows.length rc)) := fun w' h => by
    have hb : w'.heap[w.heap.size]? = w1.heap[w.heap.size]? := h.block _ (Array.getElem?_eq_some_iff.1 hh).1
    refine ⟨?_, ?_, ?_⟩ <;> simp [World.cell?, hb, hh]
  have HW : Hid _ := hw1
  have HB1 : Hid (Below w.heap.size w w1) := b1
  have S0 : Hid (Seen w1 a len l) := h.below b1
  have N0 : Hid _ := hnil
  have HRw : Hid (RowsAt w1 ra rows.length rows) := hR.below b1
  have e1 := enc_ten (zig_lt why h1)
  have e2 := enc_ten (zig_lt amount h2)
  have e3 := enc_ten (n := rows.length) (by have := hR.2.1; omega)
  have hwl : IntKind.u64.wrap (rows.length : Int) = rows.length := by have := hR.2.1; rw [IntKind.wrap_u64]; omega
  have M1 : Hid (len + 10 ≤ 140737488355328) := by show _ ≤ _; omega
  have M2 : Hid (len + (enc (zig why)).length + 10 ≤ 140737488355328) := by show _ ≤ _; omega
  have M3 : Hid (len + (enc (zig why)).length + (enc (zig amount)).length + 10 ≤ 140737488355328) := by show _ ≤ _; omega
  have M4 : Hid (len + (enc (zig why)).length + (enc (zig amount)).length + (enc rows.length).length + rowsSize rows ≤ 140737488355328) := by show _ ≤ _; omega
  have ML : Hid (rows.length ≤ 140737488355328) := hR.2.1
  have H1 : Hid _ := h1
  have H2 : Hid _ := h2
  have HRI : Hid _ := hr
  obtain ⟨q0, q1, q2⟩ := CC.out w1 (Below.refl _ _)
  clear h hnil hm hw1 b1 hh e1 e2 e3 h1 h2 hR hr q1 q2
  go_enter Try.func39, Try.ntmps39
  go_wp2_with fail
  rw [HW.out]
  refine (refInt_any a len cap l why H1.out w1 S0.out N0.out M1.out).mono ?_
  clear q0
  rintro e w2 ⟨v2, rfl, o2, b2⟩
  obtain ⟨a2, c2, rfl, s2⟩ := own_next (Below.refl w1.heap.size w1) o2 b2 (by have := M2.out; omega)
  obtain ⟨n2, hn2⟩ : ∃ n, len + (enc (zig why)).length = n := ⟨_, rfl⟩
  rw [hn2] at s2 M2 M3 M4 ⊢
  have S2 : Hid (Own w1 w2 a2 n2 c2 (l ++ enc (zig why))) := s2
  have HN2 : Hid _ := hn2
  obtain ⟨q0, q1, q2⟩ := CC.out w2 S2.out.below
  clear o2 b2 s2 hn2 q0 q2
  go_wp2_with fail
  refine (refInt_any a2 n2 c2 _ amount H2.out w2 S2.out.seen S2.out.nil M2.out).mono ?_
  clear q1
  rintro e w3 ⟨v3, rfl, o3, b3⟩
  obtain ⟨a3, c3, rfl, s3⟩ := own_next S2.out.below o3 b3 (by have := M3.out; omega)
  obtain ⟨n3, hn3⟩ : ∃ n, n2 + (enc (zig amount)).length = n := ⟨_, rfl⟩
  rw [hn3] at s3 M3 M4 ⊢
  have S3 : Hid (Own w1 w3 a3 n3 c3 (l ++ enc (zig why) ++ enc (zig amount))) := s3
  have HN3 : Hid _ := hn3
  obtain ⟨q0, q1, q2⟩ := CC.out w3 S3.out.below
  clear o3 b3 s3 hn3 q0 q1 S2
  go_wp2_with fail
  refine (refUint_any a3 n3 c3 _ rows.length (by have := ML.out; omega) w3 S3.out.seen S3.out.nil M3.out).mono ?_
  clear q2
  rintro e w4 ⟨v4, rfl, o4, b4⟩
  obtain ⟨a4, c4, rfl, s4⟩ := own_next S3.out.below o4 b4 (by have := M4.out; omega)
  obtain ⟨N, hN⟩ : ∃ n, n3 + (enc rows.length).length = n := ⟨_, rfl⟩
  obtain ⟨L, hL⟩ : ∃ L, l ++ enc (zig why) ++ enc (zig amount) ++ enc rows.length = L := ⟨_, rfl⟩
  rw [hN, hL] at s4
  rw [hN] at M4 ⊢
  have S4 : Hid (Own w1 w4 a4 N c4 L) := s4
  have HNL : Hid _ := hN
  have HLL : Hid _ := hL
  clear o4 b4 s4 hN hL S3 hwl
  go_wp2
  go_loopw [0, 5] (fun v i wr => ∃ (k : Nat) (va : Option Addr) (vc : Nat), k ≤ rows.length ∧ i = .int .i64 k ∧ v = .slice va (N + (rowsB (rows.take k)).length) vc ∧ Own w1 wr va (N + (rowsB (rows.take k)).length) vc (L ++ rowsB (rows.take k)))
    (fun _ i _ => rows.length - (intOf i).toNat)
  case atStart => exact ⟨0, a4, c4, Nat.zero_le _, rfl, by simp [rowsB], by simpa [rowsB] using S4.out⟩
  case round =>
    obtain ⟨k, va, vc, hk, rfl, rfl, ho⟩ := hrel
    obtain ⟨NK, hNK⟩ : ∃ NK, N + (rowsB (rows.take k)).length = NK := ⟨_, rfl⟩
    rw [hNK] at ho ⊢
    have HNK : Hid _ := hNK
    have OO : Hid (Own w1 wr va NK vc (L ++ rowsB (rows.take k))) := ho
    obtain ⟨q0, q1, q2⟩ := CC.out wr OO.out.below
    clear q0 q1 S4
    by_cases hlt : k < rows.length
    · obtain ⟨b, off, rfl, c1, c2⟩ := (HRw.out.below OO.out.below).at hlt
      have hT : Hid _ := rowsB_take hlt
      have hs1 := rowsSize_succ hlt
      have hszl := rowsSize_take_le rows (k + 1)
      have hbl := rowsB_le (rows.take k) (fun r hr => ⟨HRI.out r (List.mem_of_mem_take hr), by
        have h1 := rowsSize_mem (List.mem_of_mem_take hr)
        have h2 := M4.out
        omega⟩)
      have hm4 := M4.out
      have e1 := sz_le rows[k].1 (by omega)
      have m1 : Hid (NK + 10 + rows[k].1.size ≤ 140737488355328) := by show _ ≤ _; omega
      have m2 : Hid (NK + (sz (bytesL rows[k].1)).length + 10 ≤ 140737488355328) := by show _ ≤ _; omega
      have m3 : Hid (∀ z : Int, i64ok z → NK + (sz (bytesL rows[k].1)).length + (enc (zig z)).length ≤ 140737488355328) := fun z hz => by have := enc_ten (zig_lt z hz); omega
      have I2 : Hid (i64ok rows[k].2) := HRI.out rows[k] (List.getElem_mem hlt)
      have hk47 : rows.length ≤ 140737488355328 := ML.out
      have hlt' : (k : Int) < rows.length := by omega
      have CR : Hid (∀ w', Below wr.heap.size wr w' → w'.cell? ⟨b, off + k * 2, none⟩ = some (.string rows[k].1) ∧ w'.cell? ⟨b, off + k * 2 + 1, none⟩ = some (.int .i64 rows[k].2)) := fun w' hb => ⟨(hb.cell (p := ⟨b, off + k * 2, none⟩) (World.block_lt_of_cell? wr _ c1)).trans c1, (hb.cell (p := ⟨b, off + k * 2 + 1, none⟩) (World.block_lt_of_cell? wr _ c2)).trans c2⟩
      clear hbl hm4 hs1 e1 ho hszl hNK c2
      generalize rows[k] = r at *
      obtain ⟨rs, ri⟩ := r
      simp only at c1 CR I2 m1 m2 m3 hT
      go_wp2_with fail
      refine (refText_any va NK vc _ rs wr OO.out.seen OO.out.nil m1.out).mono ?_
      rintro e w5 ⟨v5, rfl, o5, b5⟩
      obtain ⟨a5, c5, rfl, s5⟩ := own_next OO.out.below o5 b5 (by have := m2.out; omega)
      obtain ⟨n5, hn5⟩ : ∃ n, NK + (sz (bytesL rs)).length = n := ⟨_, rfl⟩
      rw [hn5] at s5 m2 m3 ⊢
      have S5 : Hid (Own w1 w5 a5 n5 c5 (L ++ rowsB (rows.take k) ++ sz (bytesL rs))) := s5
      have HN5 : Hid _ := hn5
      have d1 := (CR.out w5 b5).2
      obtain ⟨q0, q1, q2'⟩ := CC.out w5 S5.out.below
      clear o5 b5 s5 hn5 c1 q2 q0 q1
      go_wp2_with fail
      refine (refInt_any a5 n5 c5 _ ri I2.out w5 S5.out.seen S5.out.nil m2.out).mono ?_
      clear d1 q2'
      rintro e w6 ⟨v6, rfl, o6, b6⟩
      obtain ⟨a6, c6, rfl, s6⟩ := own_next S5.out.below o6 b6 (m3.out ri I2.out)
      obtain ⟨n6, hn6⟩ : ∃ n, n5 + (enc (zig ri)).length = n := ⟨_, rfl⟩
      rw [hn6] at s6 ⊢
      have S6 : Hid (Own w1 w6 a6 n6 c6 (L ++ rowsB (rows.take k) ++ sz (bytesL rs) ++ enc (zig ri))) := s6
      have HN6 : Hid _ := hn6
      clear o6 b6 s6 hn6
      have eN : Hid (n6 = N + (rowsB (rows.take (k + 1))).length) := by
        show _ = _
        rw [hT.out, ← HN6.out, ← HN5.out, ← HNK.out]
        simp only [rowB, List.length_append]
        omega
      have eL : Hid (L ++ rowsB (rows.take k) ++ sz (bytesL rs) ++ enc (zig ri) = L ++ rowsB (rows.take (k + 1))) := by
        show _ = _
        rw [hT.out]
        simp only [rowB, List.append_assoc]
      go_wp2
      go_roundw
      case rel =>
        have h6 := S6.out
        rw [eL.out, eN.out] at h6
        exact ⟨k + 1, a6, c6, by omega, by go_num, by rw [← eN.out], h6⟩
      case measure => simp only [intOf]; omega
    · obtain rfl : k = rows.length := by omega
      clear ho hNK
      go_wp2
      go_ret
      refine ⟨.slice va NK vc, rfl, ?_, HB1.out.trans (OO.out.below.mono HB1.out.size)⟩
      have ho := owns_mono' OO.out.own HB1.out.size
      have e1 : NK = len + (enc (zig why) ++ enc (zig amount) ++ enc rows.length ++ rowsB rows).length := by
        rw [← HNK.out, ← HNL.out, ← HN3.out, ← HN2.out, List.take_length]
        simp only [List.length_append]
        omega
      rw [List.take_length, ← HLL.out] at ho
      rw [← e1]
      simpa only [List.append_assoc] using ho
end Go.Proofs.Ytmcippolnekogaa
