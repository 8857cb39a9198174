/- What PutReply does. -/
import Derived.Test.YtaakdnbaljoehaaPutOp
namespace Go.Proofs.Ytaakdnbaljoehaa
open Go.RowKit Cod
set_option linter.unusedVariables false

/-- Rows of an answer in memory. -/
def RowsAt (w : World) (a : Option Addr) (n : Nat) (rows : List (ByteArray × Int)) : Prop :=
  n = rows.length ∧ rows.length ≤ 140737488355328 ∧ (n = 0 ∨ ∃ b off, a = some ⟨b, off, none⟩ ∧ ∀ j (hj : j < rows.length), w.cell? ⟨b, off + j * 2, none⟩ = some (.string rows[j].1) ∧ w.cell? ⟨b, off + j * 2 + 1, none⟩ = some (.int .i64 rows[j].2))
theorem RowsAt.below {w w' : World} {a : Option Addr} {n : Nat} {rows : List (ByteArray × Int)} (h : RowsAt w a n rows) (hb : Below w.heap.size w w') : RowsAt w' a n rows := by
  obtain ⟨h1, h2, h3⟩ := h
  refine ⟨h1, h2, ?_⟩
  rcases h3 with h3 | ⟨b, off, ha, hc⟩
  · exact .inl h3
  · refine .inr ⟨b, off, ha, fun j hj => ?_⟩
    obtain ⟨c1, c2⟩ := hc j hj
    rw [hb.cell (p := ⟨b, off + j * 2, none⟩) (World.block_lt_of_cell? w _ c1), hb.cell (p := ⟨b, off + j * 2 + 1, none⟩) (World.block_lt_of_cell? w _ c2)]
    exact ⟨c1, c2⟩
def rowB (r : ByteArray × Int) : List (BitVec 8) := sz (bytesL r.1) ++ enc (zig r.2)
def rowsB (rows : List (ByteArray × Int)) : List (BitVec 8) := (rows.map rowB).flatten
def rowsSize (rows : List (ByteArray × Int)) : Nat := (rows.map fun r => r.1.size + 20).sum
theorem rowsB_take {rows : List (ByteArray × Int)} {k : Nat} (hk : k < rows.length) : rowsB (rows.take (k + 1)) = rowsB (rows.take k) ++ rowB rows[k] := by
  rw [List.take_add_one, List.getElem?_eq_getElem hk]
  simp only [rowsB, List.map_append, List.flatten_append, Option.toList_some, List.map_cons, List.map_nil, List.flatten_cons, List.flatten_nil, List.append_nil]
theorem rowsSize_take_le (rows : List (ByteArray × Int)) (k : Nat) : rowsSize (rows.take k) ≤ rowsSize rows := by
  have : rowsSize rows = rowsSize (rows.take k) + rowsSize (rows.drop k) := by
    conv => lhs; rw [← List.take_append_drop k rows]
    simp only [rowsSize, List.map_append, List.sum_append]
  omega
theorem rowsSize_succ {rows : List (ByteArray × Int)} {k : Nat} (hk : k < rows.length) : rowsSize (rows.take (k + 1)) = rowsSize (rows.take k) + (rows[k].1.size + 20) := by
  rw [List.take_add_one, List.getElem?_eq_getElem hk]
  simp only [rowsSize, List.map_append, List.sum_append, Option.toList_some, List.map_cons, List.map_nil, List.sum_cons, List.sum_nil, Nat.add_zero]
theorem rowsSize_mem {rows : List (ByteArray × Int)} {r : ByteArray × Int} (h : r ∈ rows) : r.1.size + 20 ≤ rowsSize rows := by
  induction rows with
  | nil => cases h
  | cons x rest ih =>
    simp only [rowsSize, List.map_cons, List.sum_cons] at ih ⊢
    rcases List.mem_cons.1 h with rfl | h
    · omega
    · have := ih h
      omega
theorem rowsB_le : ∀ (rows : List (ByteArray × Int)), (∀ r ∈ rows, i64ok r.2 ∧ r.1.size < 18446744073709551616) → (rowsB rows).length ≤ rowsSize rows
  | [], _ => by simp [rowsB, rowsSize]
  | r :: rest, h => by
    have ih := rowsB_le rest (fun x hx => h x (List.mem_cons_of_mem _ hx))
    have h1 := h r List.mem_cons_self
    have e1 := sz_le r.1 h1.2
    have e2 := enc_ten (zig_lt r.2 h1.1)
    simp only [rowsB, rowsSize, List.map_cons, List.flatten_cons, List.length_append, List.sum_cons, rowB] at ih ⊢
    omega

set_option maxRecDepth 100000 in
set_option maxHeartbeats 1600000 in
theorem putReply_any (a : Option Addr) (len cap : Nat) (l : List (BitVec 8)) (why amount : Int) (ra : Option Addr) (rn rc : Nat) (rows : List (ByteArray × Int)) (h1 : i64ok why) (h2 : i64ok amount) (hr : ∀ r ∈ rows, i64ok r.2)
    (w : World) (h : Seen w a len l) (hnil : a = none → cap = 0) (hR : RowsAt w ra rn rows) (hm : len + 30 + rowsSize rows ≤ 140737488355328) :
    Calls Try.prog 61 #[.slice a len cap, .agg #[.int .i64 why, .int .i64 amount, .slice ra rn rc]] w fun e w' => ∃ v', e = .returned v' ∧ w'.ownsRow w.heap.size 5 1 v' (len + (enc (zig why) ++ enc (zig amount) ++ enc rows.length ++ rowsB rows).length) (cellsOf (l ++ (enc (zig why) ++ enc (zig amount) ++ enc rows.length ++ rowsB rows))) ∧ Below w.heap.size w w' := by
  unfold i64ok at h1 h2
  obtain rfl : rn = rows.length := hR.1
  generalize hw1 : w.alloc (.cells #[.int .i64 why, .int .i64 amount, .slice ra rows.length rc] 28) = w1
  have b1 : Below w.heap.size w w1 := by rw [← hw1]; exact (Below.refl _ w).alloc (Nat.le_refl _) _
  have hh : w1.heap[w.heap.size]? = some (.cells #[.int .i64 why, .int .i64 amount, .slice ra rows.length rc] 28 (0, 0)) := by rw [← hw1]; exact heap_alloc_new w _
  have hlt : w.heap.size < w1.heap.size := by rw [← hw1]; simp
  have cc : ∀ w', Below w1.heap.size w1 w' → w'.cell? ⟨w.heap.size, 0, none⟩ = some (.int .i64 why) ∧ w'.cell? ⟨w.heap.size, 1, none⟩ = some (.int .i64 amount) ∧ w'.cell? ⟨w.heap.size, 2, none⟩ = some (.slice ra rows.length rc) := fun w' h => by
    have hb : w'.heap[w.heap.size]? = w1.heap[w.heap.size]? := h.block _ hlt
    refine ⟨?_, ?_, ?_⟩ <;> simp [World.cell?, hb, hh]
  have k0 : ∀ w', Below w1.heap.size w1 w' → w'.cell? ⟨w.heap.size, 0, none⟩ = some (.int .i64 why) := fun w' h => (cc w' h).1
  have hS : Seen w1 a len l := h.below b1
  have hRw : Hid (RowsAt w1 ra rows.length rows) := hR.below b1
  have C6 : ∀ w', Below w1.heap.size w1 w' → Hid (Calls Try.prog 65 #[.slice a len cap] w' fun e w'' => ∃ v, e = .returned v ∧ w''.ownsRow w1.heap.size 5 1 v len (cellsOf l) ∧ Below w1.heap.size w1 w'') := fun w' h => by
    refine (clone_any a len cap l w' (hS.below h) hnil (by omega)).mono ?_
    rintro e w'' ⟨v, rfl, o, b⟩
    exact ⟨v, rfl, owns_mono' o h.size, h.trans (b.mono h.size)⟩
  have C9 : ∀ w' v, Below w1.heap.size w1 w' → w'.ownsRow w1.heap.size 5 1 v len (cellsOf l) → Hid (Calls Try.prog 73 #[v, .int .i64 why] w' fun e w'' => ∃ v', e = .returned v' ∧ w''.ownsRow w1.heap.size 5 1 v' (len + (enc (zig why)).length) (cellsOf (l ++ enc (zig why))) ∧ Below w1.heap.size w1 w'') := fun w' v h ho => by
    refine (addInt_any w1.heap.size v len l why h1 w' ho h.size (by omega)).mono ?_
    rintro e w'' ⟨v', rfl, o, b⟩
    exact ⟨v', rfl, o, h.trans b⟩
  have B0 := Below.refl w1.heap.size w1
  have HW : Hid _ := hw1
  have HB1 : Hid _ := b1
  have CC : Hid (∀ w', Below w1.heap.size w1 w' → w'.cell? ⟨w.heap.size, 0, none⟩ = some (.int .i64 why) ∧ w'.cell? ⟨w.heap.size, 1, none⟩ = some (.int .i64 amount) ∧ w'.cell? ⟨w.heap.size, 2, none⟩ = some (.slice ra rows.length rc)) := cc
  have e1 := enc_ten (zig_lt why h1)
  have e2 := enc_ten (zig_lt amount h2)
  have e3 := enc_ten (n := rows.length) (by have := hR.2.1; omega)
  have hwl : IntKind.u64.wrap (rows.length : Int) = rows.length := by have := hR.2.1; rw [IntKind.wrap_u64]; omega
  have M2 : Hid (len + (enc (zig why)).length + 10 ≤ 140737488355328) := by show _ ≤ _; omega
  have M3 : Hid (len + (enc (zig why)).length + (enc (zig amount)).length + 10 ≤ 140737488355328) := by show _ ≤ _; omega
  have M4 : Hid (len + (enc (zig why)).length + (enc (zig amount)).length + (enc rows.length).length + rowsSize rows ≤ 140737488355328) := by show _ ≤ _; omega
  have ML : Hid (rows.length ≤ 140737488355328) := hR.2.1
  have H2 : Hid _ := h2
  have HRI : Hid _ := hr
  clear h hnil hm hw1 b1 hh hlt cc hS e1 e2 e3 h1 h2 hR hr
  go_enter Try.func61, Try.ntmps61
  go_wp2_with fail
  rw [HW.out]
  go_region_held3 (fun w' => Below w1.heap.size w1 w')
    (first | assumption | (exact Below.drew (by assumption)))
    (first
      | (go_at_call 65; refine (C6 _ (by assumption)).out.mono ?_; rintro e w2 ⟨v2, rfl, o2, hb2⟩)
      | (go_at_call 73; refine (C9 _ _ (by assumption) (by assumption)).out.mono ?_; rintro e w2 ⟨v2, rfl, o2, hb2⟩))
  have O2 : Hid (w2.ownsRow w1.heap.size 5 1 v2 (len + (enc (zig why)).length) (cellsOf (l ++ enc (zig why)))) := o2
  have B2 : Hid (Below w1.heap.size w1 w2) := hb2
  clear o2 hb2 C6 C9 k0
  obtain ⟨q0, q1, q2⟩ := CC.out w2 B2.out
  go_wp2_with fail
  refine (addInt_any w1.heap.size v2 _ _ amount H2.out w2 O2.out B2.out.size M2.out).mono ?_
  clear q0 q1 q2
  rintro e w3 ⟨v3, rfl, o3, b3⟩
  have O3 : Hid (w3.ownsRow w1.heap.size 5 1 v3 (len + (enc (zig why)).length + (enc (zig amount)).length) (cellsOf (l ++ enc (zig why) ++ enc (zig amount)))) := o3
  have B3 : Hid (Below w1.heap.size w1 w3) := B2.out.trans b3
  clear o3 b3 O2 B2
  obtain ⟨q0, q1, q2⟩ := CC.out w3 B3.out
  go_wp2_with fail
  refine (addUint_any w1.heap.size v3 _ _ rows.length (by have := ML.out; omega) w3 O3.out B3.out.size M3.out).mono ?_
  clear q0 q1 q2
  rintro e w4 ⟨v4, rfl, o4, b4⟩
  have O4 : Hid (w4.ownsRow w1.heap.size 5 1 v4 (len + (enc (zig why)).length + (enc (zig amount)).length + (enc rows.length).length) (cellsOf (l ++ enc (zig why) ++ enc (zig amount) ++ enc rows.length))) := o4
  have B4 : Hid (Below w1.heap.size w1 w4) := B3.out.trans b4
  clear o4 b4 O3 B3
  obtain ⟨q0, q1, q2⟩ := CC.out w4 B4.out
  go_wp2
  clear q0 q1 q2
  obtain ⟨N, hN⟩ : ∃ N, len + (enc (zig why)).length + (enc (zig amount)).length + (enc rows.length).length = N := ⟨_, rfl⟩
  obtain ⟨L, hL⟩ : ∃ L, l ++ enc (zig why) ++ enc (zig amount) ++ enc rows.length = L := ⟨_, rfl⟩
  rw [hN, hL] at O4
  rw [hN] at M4
  have HNL : Hid _ := hN
  have HLL : Hid _ := hL
  clear hN hL hwl
  go_loopw [0, 25] (fun v i wr => ∃ k : Nat, k ≤ rows.length ∧ i = .int .i64 k ∧ wr.ownsRow w1.heap.size 5 1 v (N + (rowsB (rows.take k)).length) (cellsOf (L ++ rowsB (rows.take k))) ∧ Below w1.heap.size w1 wr)
    (fun _ i _ => rows.length - (intOf i).toNat)
  case atStart => exact ⟨0, Nat.zero_le _, rfl, by simpa [rowsB] using O4.out, B4.out⟩
  case round =>
    obtain ⟨k, hk, rfl, ho, hb⟩ := hrel
    by_cases hlt : k < rows.length
    · have hRR := hRw.out.below hb
      obtain ⟨b, off, rfl, hc⟩ : ∃ b off, ra = some ⟨b, off, none⟩ ∧ ∀ j (hj : j < rows.length), wr.cell? ⟨b, off + j * 2, none⟩ = some (.string rows[j].1) ∧ wr.cell? ⟨b, off + j * 2 + 1, none⟩ = some (.int .i64 rows[j].2) := by
        rcases hRR.2.2 with h3 | h3
        · omega
        · exact h3
      obtain ⟨c1, c2⟩ := hc k hlt
      have hT : Hid _ := rowsB_take hlt
      have hsz : Hid _ := rowsSize_succ hlt
      have hszl := rowsSize_take_le rows (k + 1)
      have hbl := rowsB_le (rows.take k) (fun r hr => ⟨HRI.out r (List.mem_of_mem_take hr), by
        have h1 := rowsSize_mem (List.mem_of_mem_take hr)
        have h2 := M4.out
        omega⟩)
      have hi2 := HRI.out rows[k] (List.getElem_mem hlt)
      have hm4 := M4.out
      have hs1 := hsz.out
      have e1 := sz_le rows[k].1 (by omega)
      have m1 : Hid (N + (rowsB (rows.take k)).length + 10 + rows[k].1.size ≤ 140737488355328) := by show _ ≤ _; omega
      have m2 : Hid (N + (rowsB (rows.take k)).length + (sz (bytesL rows[k].1)).length + 10 ≤ 140737488355328) := by show _ ≤ _; omega
      have I2 : Hid (i64ok rows[k].2) := hi2
      have OO : Hid (wr.ownsRow w1.heap.size 5 1 u0 (N + (rowsB (rows.take k)).length) (cellsOf (L ++ rowsB (rows.take k)))) := ho
      have BB : Hid (Below w1.heap.size w1 wr) := hb
      have hml : Hid _ := ML.out
      have hk47 : rows.length ≤ 140737488355328 := ML.out
      clear hRR hc hbl hi2 hm4 hs1 e1 ho hb hszl hsz
      generalize rows[k] = r at *
      obtain ⟨rs, ri⟩ := r
      simp only at c1 c2
      go_wp2_with fail
      have bs : w1.heap.size ≤ (wr.alloc (.cells #[.string rs, .int .i64 ri] 59)).heap.size := by have := BB.out.size; simp; omega
      refine (addText_keep w1.heap.size u0 _ _ rs _ (OO.out.alloc _) bs m1.out).mono ?_
      rintro e w5 ⟨v5, rfl, o5, b5, t5⟩
      have hb5 : w5.heap[wr.heap.size]? = some (.cells #[.string rs, .int .i64 ri] 59 (0, 0)) := t5 _ _ _ _ (heap_alloc_new wr _) (by decide)
      have d1 : w5.cell? ⟨wr.heap.size, 1, none⟩ = some (.int .i64 ri) := by simp [World.cell?, hb5]
      have B5 : Hid (Below w1.heap.size w1 w5) := (BB.out.alloc BB.out.size _).trans b5
      have O5 : Hid (w5.ownsRow w1.heap.size 5 1 v5 (N + (rowsB (rows.take k)).length + (sz (bytesL rs)).length) (cellsOf (L ++ rowsB (rows.take k) ++ sz (bytesL rs)))) := o5
      clear o5 b5 t5 hb5 bs
      go_wp2_with fail
      refine (addInt_any w1.heap.size v5 _ _ ri I2.out w5 O5.out B5.out.size m2.out).mono ?_
      rintro e w6 ⟨v6, rfl, o6, b6⟩
      have B6 : Hid (Below w1.heap.size w1 w6) := B5.out.trans b6
      have O6 : Hid (w6.ownsRow w1.heap.size 5 1 v6 (N + (rowsB (rows.take k)).length + (sz (bytesL rs)).length + (enc (zig ri)).length) (cellsOf (L ++ rowsB (rows.take k) ++ sz (bytesL rs) ++ enc (zig ri)))) := o6
      clear o6 b6
      go_wp2
      go_roundw
      case rel =>
        refine ⟨k + 1, by omega, by go_num, ?_, B6.out⟩
        have := O6.out
        rw [hT.out]
        simpa only [rowB, List.append_assoc, List.length_append, Nat.add_assoc] using this
      case measure => simp only [intOf]; omega
    · go_wp2
      go_ret
      obtain rfl : k = rows.length := by omega
      rw [List.take_length] at ho
      refine ⟨u0, rfl, ?_, HB1.out.trans (hb.mono HB1.out.size)⟩
      have := owns_mono' ho HB1.out.size
      rw [← HNL.out, ← HLL.out] at this
      simpa only [List.append_assoc, List.length_append, Nat.add_assoc] using this
end Go.Proofs.Ytaakdnbaljoehaa
