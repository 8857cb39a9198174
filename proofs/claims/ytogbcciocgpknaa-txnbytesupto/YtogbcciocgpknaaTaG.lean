/- What PutReply does. -/
import Derived.Test.YtogbcciocgpknaaTaF
import Derived.Test.YtogbcciocgpknaaTaA
import Derived.Lib.ConvBytes
namespace Go.Proofs.Ytogbcciocgpknaa
open Go.RowKit Cod
set_option linter.unusedVariables false

/-- Rows of an answer in memory. -/
def RowsAt (w : World) (a : Option Addr) (n : Nat) (rows : List (ByteArray × Int)) : Prop :=
  n = rows.length ∧ rows.length ≤ 140737488355328 ∧ (n = 0 ∨ ∃ b off, a = some ⟨b, off, none⟩ ∧ ∀ j (hj : j < rows.length), w.cell? ⟨b, off + j * 2, none⟩ = some (.string rows[j].1) ∧ w.cell? ⟨b, off + j * 2 + 1, none⟩ = some (.int .i64 rows[j].2))
theorem RowsAt.below {w w' : World} {a : Option Addr} {n : Nat} {rows : List (ByteArray × Int)} (h : RowsAt w a n rows) (hb : Below w.heap.size w w') : RowsAt w' a n rows := by
  obtain ⟨h1, h2, h3⟩ := h
  refine ⟨h1, h2, ?_⟩
  rcases h3 with h3 | ⟨b, off, ha, hc⟩
  · exact .inl h3
  · refine .inr ⟨b, off, ha, fun j hj => ?_⟩
    obtain ⟨c1, c2⟩ := hc j hj
    rw [hb.cell (p := ⟨b, off + j * 2, none⟩) (World.block_lt_of_cell? w _ c1), hb.cell (p := ⟨b, off + j * 2 + 1, none⟩) (World.block_lt_of_cell? w _ c2)]
    exact ⟨c1, c2⟩
def rowB (r : ByteArray × Int) : List (BitVec 8) := sz (bytesL r.1) ++ enc (zig r.2)
def rowsB (rows : List (ByteArray × Int)) : List (BitVec 8) := (rows.map rowB).flatten
def rowsSize (rows : List (ByteArray × Int)) : Nat := (rows.map fun r => r.1.size + 20).sum
theorem rowsB_take {rows : List (ByteArray × Int)} {k : Nat} (hk : k < rows.length) : rowsB (rows.take (k + 1)) = rowsB (rows.take k) ++ rowB rows[k] := by
  rw [List.take_add_one, List.getElem?_eq_getElem hk]
  simp only [rowsB, List.map_append, List.flatten_append, Option.toList_some, List.map_cons, List.map_nil, List.flatten_cons, List.flatten_nil, List.append_nil]
theorem rowsSize_take_le (rows : List (ByteArray × Int)) (k : Nat) : rowsSize (rows.take k) ≤ rowsSize rows := by
  have : rowsSize rows = rowsSize (rows.take k) + rowsSize (rows.drop k) := by
    conv => lhs; rw [← List.take_append_drop k rows]
    simp only [rowsSize, List.map_append, List.sum_append]
  omega
theorem rowsSize_succ {rows : List (ByteArray × Int)} {k : Nat} (hk : k < rows.length) : rowsSize (rows.take (k + 1)) = rowsSize (rows.take k) + (rows[k].1.size + 20) := by
  rw [List.take_add_one, List.getElem?_eq_getElem hk]
  simp only [rowsSize, List.map_append, List.sum_append, Option.toList_some, List.map_cons, List.map_nil, List.sum_cons, List.sum_nil, Nat.add_zero]
theorem rowsSize_mem {rows : List (ByteArray × Int)} {r : ByteArray × Int} (h : r ∈ rows) : r.1.size + 20 ≤ rowsSize rows := by
  induction rows with
  | nil => cases h
  | cons x rest ih =>
    simp only [rowsSize, List.map_cons, List.sum_cons] at ih ⊢
    rcases List.mem_cons.1 h with rfl | h
    · omega
    · have := ih h
      omega
theorem rowsB_le : ∀ (rows : List (ByteArray × Int)), (∀ r ∈ rows, i64ok r.2 ∧ r.1.size < 18446744073709551616) → (rowsB rows).length ≤ rowsSize rows
  | [], _ => by simp [rowsB, rowsSize]
  | r :: rest, h => by
    have ih := rowsB_le rest (fun x hx => h x (List.mem_cons_of_mem _ hx))
    have h1 := h r List.mem_cons_self
    have e1 := sz_le r.1 h1.2
    have e2 := enc_ten (zig_lt r.2 h1.1)
    simp only [rowsB, rowsSize, List.map_cons, List.flatten_cons, List.length_append, List.sum_cons, rowB] at ih ⊢
    omega

set_option maxRecDepth 100000 in
set_option maxHeartbeats 1600000 in
theorem putReply_any (a : Option Addr) (len cap : Nat) (l : List (BitVec 8)) (why amount : Int) (ra : Option Addr) (rn rc : Nat) (rows : List (ByteArray × Int)) (h1 : i64ok why) (h2 : i64ok amount) (hr : ∀ r ∈ rows, i64ok r.2)
    (w : World) (h : Seen w a len l) (hnil : a = none → cap = 0) (hR : RowsAt w ra rn rows) (hm : len + 30 + rowsSize rows ≤ 140737488355328) :
    Calls Try.prog 29 #[.slice a len cap, .agg #[.int .i64 why, .int .i64 amount, .slice ra rn rc]] w fun e w' => ∃ v', e = .returned v' ∧ w'.ownsRow w.heap.size 5 1 v' (len + (enc (zig why) ++ enc (zig amount) ++ enc rows.length ++ rowsB rows).length) (cellsOf (l ++ (enc (zig why) ++ enc (zig amount) ++ enc rows.length ++ rowsB rows))) ∧ Below w.heap.size w w' := by
  unfold i64ok at h1 h2
  obtain rfl : rn = rows.length := hR.1
  generalize hw1 : w.alloc (.cells #[.int .i64 why, .int .i64 amount, .slice ra rows.length rc] 32) = w1
  have b1 : Below w.heap.size w w1 := by rw [← hw1]; exact (Below.refl _ w).alloc (Nat.le_refl _) _
  have hh : w1.heap[w.heap.size]? = some (.cells #[.int .i64 why, .int .i64 amount, .slice ra rows.length rc] 32 (0, 0)) := by rw [← hw1]; exact heap_alloc_new w _
  have hlt : w.heap.size < w1.heap.size := by rw [← hw1]; simp
  have cc : ∀ w', Below w1.heap.size w1 w' → w'.cell? ⟨w.heap.size, 0, none⟩ = some (.int .i64 why) ∧ w'.cell? ⟨w.heap.size, 1, none⟩ = some (.int .i64 amount) ∧ w'.cell? ⟨w.heap.size, 2, none⟩ = some (.slice ra rows.length rc) := fun w' h => by
    have hb : w'.heap[w.heap.size]? = w1.heap[w.heap.size]? := h.block _ hlt
    refine ⟨?_, ?_, ?_⟩ <;> simp [World.cell?, hb, hh]
  have k0 : ∀ w', Below w1.heap.size w1 w' → w'.cell? ⟨w.heap.size, 0, none⟩ = some (.int .i64 why) := fun w' h => (cc w' h).1
  have hS : Seen w1 a len l := h.below b1
  have hRw : Hid (RowsAt w1 ra rows.length rows) := hR.below b1
  have C6 : ∀ w', Below w1.heap.size w1 w' → Hid (Calls Try.prog 52 #[.slice a len cap] w' fun e w'' => ∃ v, e = .returned v ∧ w''.ownsRow w1.heap.size 5 1 v len (cellsOf l) ∧ Below w1.heap.size w1 w'') := fun w' h => by
    refine (clone_any a len cap l w' (hS.below h) hnil (by omega)).mono ?_
    rintro e w'' ⟨v, rfl, o, b⟩
    exact ⟨v, rfl, owns_mono' o h.size, h.trans (b.mono h.size)⟩
  have C9 : ∀ w' v, Below w1.heap.size w1 w' → w'.ownsRow w1.heap.size 5 1 v len (cellsOf l) → Hid (Calls Try.prog 51 #[v, .int .i64 why] w' fun e w'' => ∃ v', e = .returned v' ∧ w''.ownsRow w1.heap.size 5 1 v' (len + (enc (zig why)).length) (cellsOf (l ++ enc (zig why))) ∧ Below w1.heap.size w1 w'') := fun w' v h ho => by
    refine (addInt_any w1.heap.size v len l why h1 w' ho h.size (by omega)).mono ?_
    rintro e w'' ⟨v', rfl, o, b⟩
    exact ⟨v', rfl, o, h.trans b⟩
  have B0 := Below.refl w1.heap.size w1
  have HW : Hid _ := hw1
  have HB1 : Hid _ := b1
  have CC : Hid (∀ w', Below w1.heap.size w1 w' → w'.cell? ⟨w.heap.size, 0, none⟩ = some (.int .i64 why) ∧ w'.cell? ⟨w.heap.size, 1, none⟩ = some (.int .i64 amount) ∧ w'.cell? ⟨w.heap.size, 2, none⟩ = some (.slice ra rows.length rc)) := cc
  have e1 := enc_ten (zig_lt why h1)
  have e2 := enc_ten (zig_lt amount h2)
  have e3 := enc_ten (n := rows.length) (by have := hR.2.1; omega)
  have hwl : IntKind.u64.wrap (rows.length : Int) = rows.length := by have := hR.2.1; rw [IntKind.wrap_u64]; omega
  have M2 : Hid (len + (enc (zig why)).length + 10 ≤ 140737488355328) := by show _ ≤ _; omega
  have M3 : Hid (len + (enc (zig why)).length + (enc (zig amount)).length + 10 ≤ 140737488355328) := by show _ ≤ _; omega
  have M4 : Hid (len + (enc (zig why)).length + (enc (zig amount)).length + (enc rows.length).length + rowsSize rows ≤ 140737488355328) := by show _ ≤ _; omega
  have ML : Hid (rows.length ≤ 140737488355328) := hR.2.1
  have H2 : Hid _ := h2
  have HRI : Hid _ := hr
  clear h hnil hm hw1 b1 hh hlt cc hS e1 e2 e3 h1 h2 hR hr
  go_enter Try.func29, Try.ntmps29
  go_wp2_with fail
  rw [HW.out]
  go_region_held3 (fun w' => Below w1.heap.size w1 w')
    (first | assumption | (exact Below.drew (by assumption)))
    (first
      | (go_at_call 52; refine (C6 _ (by assumption)).out.mono ?_; rintro e w2 ⟨v2, rfl, o2, hb2⟩)
      | (go_at_call 51; refine (C9 _ _ (by assumption) (by assumption)).out.mono ?_; rintro e w2 ⟨v2, rfl, o2, hb2⟩))
  have O2 : Hid (w2.ownsRow w1.heap.size 5 1 v2 (len + (enc (zig why)).length) (cellsOf (l ++ enc (zig why)))) := o2
  have B2 : Hid (Below w1.heap.size w1 w2) := hb2
  clear o2 hb2 C6 C9 k0
  obtain ⟨q0, q1, q2⟩ := CC.out w2 B2.out
  go_wp2_with fail
  refine (addInt_any w1.heap.size v2 _ _ amount H2.out w2 O2.out B2.out.size M2.out).mono ?_
  clear q0 q1 q2
  rintro e w3 ⟨v3, rfl, o3, b3⟩
  have O3 : Hid (w3.ownsRow w1.heap.size 5 1 v3 (len + (enc (zig why)).length + (enc (zig amount)).length) (cellsOf (l ++ enc (zig why) ++ enc (zig amount)))) := o3
  have B3 : Hid (Below w1.heap.size w1 w3) := B2.out.trans b3
  clear o3 b3 O2 B2
  obtain ⟨q0, q1, q2⟩ := CC.out w3 B3.out
  go_wp2_with fail
  refine (addUint_any w1.heap.size v3 _ _ rows.length (by have := ML.out; omega) w3 O3.out B3.out.size M3.out).mono ?_
  clear q0 q1 q2
  rintro e w4 ⟨v4, rfl, o4, b4⟩
  have O4 : Hid (w4.ownsRow w1.heap.size 5 1 v4 (len + (enc (zig why)).length + (enc (zig amount)).length + (enc rows.length).length) (cellsOf (l ++ enc (zig why) ++ enc (zig amount) ++ enc rows.length))) := o4
  have B4 : Hid (Below w1.heap.size w1 w4) := B3.out.trans b4
  clear o4 b4 O3 B3
  obtain ⟨q0, q1, q2⟩ := CC.out w4 B4.out
  go_wp2
  clear q0 q1 q2
  obtain ⟨N, hN⟩ : ∃ N, len + (enc (zig why)).length + (enc (zig amount)).length + (enc rows.length).length = N := ⟨_, rfl⟩
  obtain ⟨L, hL⟩ : ∃ L, l ++ enc (zig why) ++ enc (zig amount) ++ enc rows.length = L := ⟨_, rfl⟩
  rw [hN, hL] at O4
  rw [hN] at M4
  have HNL : Hid _ := hN
  have HLL : Hid _ := hL
  clear hN hL hwl
  go_loopw [0, 25] (fun v i wr => ∃ k : Nat, k ≤ rows.length ∧ i = .int .i64 k ∧ wr.ownsRow w1.heap.size 5 1 v (N + (rowsB (rows.take k)).length) (cellsOf (L ++ rowsB (rows.take k))) ∧ Below w1.heap.size w1 wr)
    (fun _ i _ => rows.length - (intOf i).toNat)
  case atStart => exact ⟨0, Nat.zero_le _, rfl, by simpa [rowsB] using O4.out, B4.out⟩
  case round =>
    obtain ⟨k, hk, rfl, ho, hb⟩ := hrel
    by_cases hlt : k < rows.length
    · have hRR := hRw.out.below hb
      obtain ⟨b, off, rfl, hc⟩ : ∃ b off, ra = some ⟨b, off, none⟩ ∧ ∀ j (hj : j < rows.length), wr.cell? ⟨b, off + j * 2, none⟩ = some (.string rows[j].1) ∧ wr.cell? ⟨b, off + j * 2 + 1, none⟩ = some (.int .i64 rows[j].2) := by
        rcases hRR.2.2 with h3 | h3
        · omega
        · exact h3
      obtain ⟨c1, c2⟩ := hc k hlt
      have hT : Hid _ := rowsB_take hlt
      have hsz : Hid _ := rowsSize_succ hlt
      have hszl := rowsSize_take_le rows (k + 1)
      have hbl := rowsB_le (rows.take k) (fun r hr => ⟨HRI.out r (List.mem_of_mem_take hr), by
        have h1 := rowsSize_mem (List.mem_of_mem_take hr)
        have h2 := M4.out
        omega⟩)
      have hi2 := HRI.out rows[k] (List.getElem_mem hlt)
      have hm4 := M4.out
      have hs1 := hsz.out
      have e1 := sz_le rows[k].1 (by omega)
      have m1 : Hid (N + (rowsB (rows.take k)).length + 10 + rows[k].1.size ≤ 140737488355328) := by show _ ≤ _; omega
      have m2 : Hid (N + (rowsB (rows.take k)).length + (sz (bytesL rows[k].1)).length + 10 ≤ 140737488355328) := by show _ ≤ _; omega
      have I2 : Hid (i64ok rows[k].2) := hi2
      have OO : Hid (wr.ownsRow w1.heap.size 5 1 u0 (N + (rowsB (rows.take k)).length) (cellsOf (L ++ rowsB (rows.take k)))) := ho
      have BB : Hid (Below w1.heap.size w1 wr) := hb
      have hml : Hid _ := ML.out
      have hk47 : rows.length ≤ 140737488355328 := ML.out
      clear hRR hc hbl hi2 hm4 hs1 e1 ho hb hszl hsz
      generalize rows[k] = r at *
      obtain ⟨rs, ri⟩ := r
      simp only at c1 c2
      go_wp2_with fail
      have bs : w1.heap.size ≤ (wr.alloc (.cells #[.string rs, .int .i64 ri] 62)).heap.size := by have := BB.out.size; simp; omega
      refine (addText_keep w1.heap.size u0 _ _ rs _ (OO.out.alloc _) bs m1.out).mono ?_
      rintro e w5 ⟨v5, rfl, o5, b5, t5⟩
      have hb5 : w5.heap[wr.heap.size]? = some (.cells #[.string rs, .int .i64 ri] 62 (0, 0)) := t5 _ _ _ _ (heap_alloc_new wr _) (by decide)
      have d1 : w5.cell? ⟨wr.heap.size, 1, none⟩ = some (.int .i64 ri) := by simp [World.cell?, hb5]
      have B5 : Hid (Below w1.heap.size w1 w5) := (BB.out.alloc BB.out.size _).trans b5
      have O5 : Hid (w5.ownsRow w1.heap.size 5 1 v5 (N + (rowsB (rows.take k)).length + (sz (bytesL rs)).length) (cellsOf (L ++ rowsB (rows.take k) ++ sz (bytesL rs)))) := o5
      clear o5 b5 t5 hb5 bs
      go_wp2_with fail
      refine (addInt_any w1.heap.size v5 _ _ ri I2.out w5 O5.out B5.out.size m2.out).mono ?_
      rintro e w6 ⟨v6, rfl, o6, b6⟩
      have B6 : Hid (Below w1.heap.size w1 w6) := B5.out.trans b6
      have O6 : Hid (w6.ownsRow w1.heap.size 5 1 v6 (N + (rowsB (rows.take k)).length + (sz (bytesL rs)).length + (enc (zig ri)).length) (cellsOf (L ++ rowsB (rows.take k) ++ sz (bytesL rs) ++ enc (zig ri)))) := o6
      clear o6 b6
      go_wp2
      go_roundw
      case rel =>
        refine ⟨k + 1, by omega, by go_num, ?_, B6.out⟩
        have := O6.out
        rw [hT.out]
        simpa only [rowB, List.append_assoc, List.length_append, Nat.add_assoc] using this
      case measure => simp only [intOf]; omega
    · go_wp2
      go_ret
      obtain rfl : k = rows.length := by omega
      rw [List.take_length] at ho
      refine ⟨u0, rfl, ?_, HB1.out.trans (hb.mono HB1.out.size)⟩
      have := owns_mono' ho HB1.out.size
      rw [← HNL.out, ← HLL.out] at this
      simpa only [List.append_assoc, List.length_append, Nat.add_assoc] using this
end Go.Proofs.Ytogbcciocgpknaa

namespace Go.Proofs.Ytogbcciocgpknaa
open Go.RowKit Cod
set_option linter.unusedVariables false

theorem V_small (m : Nat) (h : m < 256) : V (BitVec.ofNat 8 m) = m := by rw [V_of]; omega
set_option maxHeartbeats 800000 in
theorem refUint_any (a : Option Addr) (len cap : Nat) (l : List (BitVec 8)) (n : Nat) (hn : n < 18446744073709551616) (w : World) (h : Seen w a len l) (hnil : a = none → cap = 0) (hm : len + 10 ≤ 140737488355328) :
    Calls Try.prog 58 #[.slice a len cap, .int .u64 n] w fun e w' => ∃ v', e = .returned v' ∧ w'.ownsRow w.heap.size 5 1 v' (len + (enc n).length) (cellsOf (l ++ enc n)) ∧ Below w.heap.size w w' := by
  obtain ⟨v1, w1, hr1, o1, g1⟩ := run_append_bytes 25 w w.heap.size (.slice none 0 0) 0 [] (World.ownsRow_nil _ _ _ _) a len cap l h hnil (by omega) (Nat.le_refl _)
  rw [List.nil_append, Nat.zero_add] at o1
  have b1 : Below w.heap.size w w1 := (Below.refl _ w).grown g1 (Nat.le_refl _) (fun k e => by cases e)
  have h10 : Hid _ := enc_ten hn
  have HK : Hid _ := hm
  have HN : Hid _ := hn
  have HO : Hid (w1.ownsRow w.heap.size 5 1 v1 len (cellsOf l)) := o1
  have HB1 : Hid (Below w.heap.size w w1) := b1
  have HR1 : Hid _ := hr1
  clear hm h hnil hn o1 g1 b1 hr1
  go_enter Try.func58, Try.ntmps58
  go_wp2_with (at_builtin; refine wpList_append_known rfl (.tmp 6) (.tmp 7) 25 25 rfl _ _ rfl rfl _ _ HR1.out ?_)
  go_loopw [1, 5] (fun i b wr => ∃ (m : Nat) (d : List (BitVec 8)), enc n = d ++ enc m ∧ m ≤ n ∧ i = .int .u64 m ∧ wr.ownsRow w.heap.size 5 1 b (len + d.length) (cellsOf (l ++ d)) ∧ Below w.heap.size w wr)
    (fun i _ _ => (intOf i).toNat)
  case atStart => exact ⟨n, [], rfl, Nat.le_refl _, rfl, by rw [List.append_nil]; exact HO.out, HB1.out⟩
  case round =>
    obtain ⟨m, d, hd, hmn, rfl, hown, hb⟩ := hrel
    have hlen : d.length + (enc m).length ≤ 10 := by have := h10.out; rw [hd] at this; simpa using this
    have hpos := enc_pos m
    have hbs : w.heap.size ≤ wr.heap.size := hb.size
    have hkk := HK.out
    by_cases hlt : m < 128
    · obtain ⟨v', w', hr, h1, h2, h3⟩ := append_one wr w.heap.size u5 _ _ hown (BitVec.ofNat 8 m) (by omega) hbs
      rw [V_small m (by omega)] at hr
      have HR : Hid _ := hr
      have hnot : ¬ ((128 : Int) ≤ (m : Int)) := by omega
      have h8 : IntKind.u8.wrap (m : Int) = m := by rw [IntKind.wrap_u8]; omega
      have HL : Hid _ := hlt
      clear hlt
      have H1 : Hid _ := h1
      have H2 : Hid _ := h2
      have HD : Hid _ := hd
      have HB : Hid _ := hb
      clear hr h1 h2 h3 hown hd hb hlen hpos hbs hkk hmn
      go_wp2_with (at_builtin; refine wpList_append_known rfl (.tmp 20) (.tmp 23) 25 25 rfl _ _ rfl rfl _ _ HR.out ?_)
      go_ret
      refine ⟨_, rfl, ?_, HB.out.trans H2.out⟩
      rw [HD.out, enc_low HL.out, ← List.append_assoc, List.length_append]
      exact H1.out
    · obtain ⟨v', w', hr, h1, h2, h3⟩ := append_one wr w.heap.size u5 _ _ hown (BitVec.ofNat 8 (m % 128 + 128)) (by omega) hbs
      rw [V_small (m % 128 + 128) (by omega)] at hr
      have HR : Hid _ := hr
      have hyes : (128 : Int) ≤ (m : Int) := by omega
      have h8 : IntKind.u8.wrap ((m : Int) % 128) = (m : Int) % 128 := by rw [IntKind.wrap_u8]; omega
      have h9 : IntKind.u8.wrap ((m : Int) % 128 + 128) = (m : Int) % 128 + 128 := by rw [IntKind.wrap_u8]; omega
      have hwp : IntKind.u64.wrap ((m : Int) / 128) = (m : Int) / 128 := by have := HN.out; rw [IntKind.wrap_u64]; omega
      have H1 : Hid _ := h1
      have H2 : Hid _ := h2
      have HD : Hid _ := hd
      have HB : Hid _ := hb
      have HMN : Hid _ := hmn
      clear hr h1 h2 h3 hown hd hb hlen hpos hbs hkk hmn
      go_wp2_with (at_builtin; refine wpList_append_known rfl (.tmp 11) (.tmp 16) 25 25 rfl _ _ rfl rfl _ _ HR.out ?_)
      go_roundw
      case rel =>
        refine ⟨m / 128, d ++ [BitVec.ofNat 8 (m % 128 + 128)], ?_, Nat.le_trans (Nat.div_le_self _ _) HMN.out, by go_num, ?_, HB.out.trans H2.out⟩
        · rw [HD.out, enc_high hlt]; simp
        · rw [← List.append_assoc, List.length_append]; exact H1.out
      case measure => simp only [intOf]; omega
theorem zig_neg {n : Int} (h : n < 0) : (zig n : Int) = 2 * (-(n + 1)) + 1 := by unfold zig; split <;> omega
theorem zig_pos {n : Int} (h : ¬ n < 0) : (zig n : Int) = 2 * n := by unfold zig; split <;> omega
theorem refInt_any (a : Option Addr) (len cap : Nat) (l : List (BitVec 8)) (n : Int) (hn : i64ok n) (w : World) (h : Seen w a len l) (hnil : a = none → cap = 0) (hm : len + 10 ≤ 140737488355328) :
    Calls Try.prog 26 #[.slice a len cap, .int .i64 n] w fun e w' => ∃ v', e = .returned v' ∧ w'.ownsRow w.heap.size 5 1 v' (len + (enc (zig n)).length) (cellsOf (l ++ enc (zig n))) ∧ Below w.heap.size w w' := by
  have HC : Hid (Calls Try.prog 58 #[.slice a len cap, .int .u64 (zig n)] w fun e w' => ∃ v', e = .returned v' ∧ w'.ownsRow w.heap.size 5 1 v' (len + (enc (zig n)).length) (cellsOf (l ++ enc (zig n))) ∧ Below w.heap.size w w') := refUint_any a len cap l (zig n) (zig_lt n hn) w h hnil hm
  unfold i64ok at hn
  clear h hnil hm
  by_cases hlt : n < 0
  · have e1 := zig_neg hlt
    have w1 : IntKind.i64.wrap (n + 1) = n + 1 := by rw [IntKind.wrap_i64]; omega
    have w2 : IntKind.i64.wrap (-(n + 1)) = -(n + 1) := by rw [IntKind.wrap_i64]; omega
    have w3 : IntKind.u64.wrap (-(n + 1)) = -(n + 1) := by rw [IntKind.wrap_u64]; omega
    have w4 : IntKind.u64.wrap (2 * (-(n + 1))) = 2 * (-(n + 1)) := by rw [IntKind.wrap_u64]; omega
    have w5 : IntKind.u64.wrap (2 * (-(n + 1)) + 1) = 2 * (-(n + 1)) + 1 := by rw [IntKind.wrap_u64]; omega
    rw [e1] at HC
    obtain ⟨s, hs⟩ : ∃ s, n + 1 = s := ⟨_, rfl⟩
    rw [hs] at w1 w2 w3 w4 w5 HC
    clear e1 hn
    go_enter Try.func26, Try.ntmps26
    go_wp2_with fail
    refine HC.out.mono ?_
    rintro e x ⟨v, rfl, o1, b1⟩
    go_wp2
    go_ret
    exact ⟨_, rfl, o1, b1⟩
  · have e1 := zig_pos hlt
    have w3 : IntKind.u64.wrap n = n := by rw [IntKind.wrap_u64]; omega
    have w4 : IntKind.u64.wrap (2 * n) = 2 * n := by rw [IntKind.wrap_u64]; omega
    rw [e1] at HC
    clear e1 hn
    go_enter Try.func26, Try.ntmps26
    go_wp2_with fail
    refine HC.out.mono ?_
    rintro e x ⟨v, rfl, o1, b1⟩
    go_wp2
    go_ret
    exact ⟨_, rfl, o1, b1⟩
/-- []byte(s) -/
theorem text_bytes (w : World) (s : ByteArray) (hs : s.size ≤ 140737488355328) : ∃ c w', (convert 9 25 (.string s)).run Try.prog w = .ok (.slice (some ⟨w.heap.size, 0, none⟩) s.size c) w' ∧ Below w.heap.size w w' ∧ Seen w' (some ⟨w.heap.size, 0, none⟩) s.size (bytesL s) := by
  exact ⟨_, _, Lib.run_convert_string_bytes w 9 25 5 s Try.underlying9 Try.underlying25 Try.underlying5, below_bytes w s, seen_bytes w s (by unfold maxLen; omega)⟩
theorem refBytes_any (a : Option Addr) (len cap : Nat) (l : List (BitVec 8)) (pa : Option Addr) (pn pc : Nat) (p : List (BitVec 8)) (w : World) (h : Seen w a len l) (hnil : a = none → cap = 0) (hp : Seen w pa pn p) (hpn : pa = none → pc = 0) (hm : len + 10 + pn ≤ 140737488355328) :
    Calls Try.prog 27 #[.slice a len cap, .slice pa pn pc] w fun e w' => ∃ v', e = .returned v' ∧ w'.ownsRow w.heap.size 5 1 v' (len + (sz p).length) (cellsOf (l ++ sz p)) ∧ Below w.heap.size w w' := by
  obtain rfl : pn = p.length := hp.1
  have HC := refUint_any a len cap l p.length (by omega) w h hnil (by omega)
  have hw : IntKind.u64.wrap (p.length : Int) = p.length := by rw [IntKind.wrap_u64]; omega
  have HE := enc_ten (n := p.length) (by omega)
  have HP : Hid (Seen w pa p.length p) := hp
  have HPN : Hid _ := hpn
  have HM : Hid (len + (enc p.length).length + p.length ≤ 140737488355328) := by show _ ≤ _; omega
  clear h hnil hp hpn hm HE
  go_enter Try.func27, Try.ntmps27
  go_wp2_with fail
  refine HC.mono ?_
  rintro e w1 ⟨v1, rfl, o1, b1⟩
  obtain ⟨v2, w2, hr2, o2, g2⟩ := run_append_bytes 25 w1 w.heap.size v1 _ _ o1 pa p.length pc p (HP.out.below b1) HPN.out HM.out b1.size
  have HR : Hid _ := hr2
  have B2 : Hid (Below w.heap.size w w2) := b1.trans ((Below.refl _ w1).grown g2 b1.size (fun k e => (o1.lt _ e).1))
  have O2 : Hid _ := o2
  clear hr2 o1 b1 g2 o2
  go_wp2_with (at_builtin; refine wpList_append_known rfl (.tmp 11) (.tmp 12) 25 25 rfl _ _ rfl rfl _ _ HR.out ?_)
  go_ret
  refine ⟨_, rfl, ?_, B2.out⟩
  rw [sz, List.length_append, ← List.append_assoc, ← Nat.add_assoc]
  exact O2.out
theorem refText_any (a : Option Addr) (len cap : Nat) (l : List (BitVec 8)) (s : ByteArray) (w : World) (h : Seen w a len l) (hnil : a = none → cap = 0) (hm : len + 10 + s.size ≤ 140737488355328) :
    Calls Try.prog 57 #[.slice a len cap, .string s] w fun e w' => ∃ v', e = .returned v' ∧ w'.ownsRow w.heap.size 5 1 v' (len + (sz (bytesL s)).length) (cellsOf (l ++ sz (bytesL s))) ∧ Below w.heap.size w w' := by
  obtain ⟨c, w1, hc, b1, s1⟩ := text_bytes w s (by omega)
  have HC := refBytes_any a len cap l (some ⟨w.heap.size, 0, none⟩) s.size c (bytesL s) w1 (h.below b1) hnil s1 (fun e => by cases e) hm
  have B1 : Hid (Below w.heap.size w w1) := b1
  clear h hnil hm b1 s1
  go_enter Try.func57, Try.ntmps57
  go_wp2_with fail
  refine HC.mono ?_
  rintro e w2 ⟨v2, rfl, o2, b2⟩
  go_wp2
  go_ret
  exact ⟨_, rfl, owns_mono' o2 B1.out.size, B1.out.trans (b2.mono B1.out.size)⟩
theorem refBool_any (a : Option Addr) (len cap : Nat) (l : List (BitVec 8)) (b : Bool) (w : World) (h : Seen w a len l) (hnil : a = none → cap = 0) (hm : len + 10 ≤ 140737488355328) :
    Calls Try.prog 30 #[.slice a len cap, .bool b] w fun e w' => ∃ v', e = .returned v' ∧ w'.ownsRow w.heap.size 5 1 v' (len + 1) (cellsOf (l ++ [bit8 b])) ∧ Below w.heap.size w w' := by
  have C1 := refUint_any a len cap l 1 (by omega) w h hnil hm
  have C0 := refUint_any a len cap l 0 (by omega) w h hnil hm
  rw [enc_low (by omega)] at C1 C0
  clear h hnil hm
  cases b
  · go_enter Try.func30, Try.ntmps30
    go_wp2_with fail
    refine C0.mono ?_
    rintro e w2 ⟨v2, rfl, o2, b2⟩
    go_wp2
    go_ret
    exact ⟨_, rfl, o2, b2⟩
  · go_enter Try.func30, Try.ntmps30
    go_wp2_with fail
    refine C1.mono ?_
    rintro e w2 ⟨v2, rfl, o2, b2⟩
    go_wp2
    go_ret
    exact ⟨_, rfl, o2, b2⟩
end Go.Proofs.Ytogbcciocgpknaa

namespace Go.Proofs.Ytogbcciocgpknaa
open Go.RowKit Cod
set_option linter.unusedVariables false

theorem RowsAt.at {w : World} {a : Option Addr} {n : Nat} {rows : List (ByteArray × Int)} (h : RowsAt w a n rows) {k : Nat} (hk : k < rows.length) :
    ∃ b off, a = some ⟨b, off, none⟩ ∧ w.cell? ⟨b, off + k * 2, none⟩ = some (.string rows[k].1) ∧ w.cell? ⟨b, off + k * 2 + 1, none⟩ = some (.int .i64 rows[k].2) := by
  rcases h.2.2 with h3 | ⟨b, off, ha, hc⟩
  · have := h.1; omega
  · exact ⟨b, off, ha, hc k hk⟩
theorem sameRows_len (aa ab : Option Addr) (la ca lb cb : Nat) (w : World) (hl : la ≠ lb) :
    Calls Try.prog 73 #[.slice aa la ca, .slice ab lb cb] w fun e w' => e = .returned (.bool false) ∧ ∃ n, w' = w.drewN n := by
  have hl' : ¬ ((la : Int) = lb) := by omega
  clear hl
  go_enter Try.func73, Try.ntmps73
  go_wp2
  go_ret
  exact ⟨rfl, 0, rfl⟩
theorem takes_succ {α : Type} {A B : List α} {k : Nat} (h : A.take k = B.take k) (h1 : k < A.length) (h2 : k < B.length) (e : A[k] = B[k]) : A.take (k + 1) = B.take (k + 1) := by
  rw [List.take_add_one, List.take_add_one, h, List.getElem?_eq_getElem h1, List.getElem?_eq_getElem h2, e]
set_option maxRecDepth 100000 in
set_option maxHeartbeats 800000 in
theorem sameRows_any (aa ab : Option Addr) (la ca lb cb : Nat) (A B : List (ByteArray × Int)) (w : World) (hA : RowsAt w aa la A) (hB : RowsAt w ab lb B) :
    Calls Try.prog 73 #[.slice aa la ca, .slice ab lb cb] w fun e w' => e = .returned (.bool (decide (A = B))) ∧ ∃ n, w' = w.drewN n := by
  by_cases hl : la = lb
  · subst hl
    have hla : la = A.length := hA.1
    have hlb : la = B.length := hB.1
    have hm : la ≤ 140737488355328 := by rw [hla]; exact hA.2.1
    have HA : Hid (RowsAt w aa la A) := hA
    have HB : Hid (RowsAt w ab la B) := hB
    clear hA hB
    go_enter Try.func73, Try.ntmps73
    go_wp2
    go_loopw [5] (fun i wr => ∃ k q : Nat, k ≤ la ∧ i = .int .i64 k ∧ A.take k = B.take k ∧ wr = w.drewN q) (fun i _ => la - (intOf i).toNat)
    case atStart => exact ⟨0, 0, Nat.zero_le _, rfl, rfl, rfl⟩
    case round =>
      obtain ⟨k, q, hk, rfl, ht, rfl⟩ := hrel
      by_cases hlt : k < la
      · obtain ⟨ba, oa, rfl, a1, a2⟩ := HA.out.at (show k < A.length by omega)
        obtain ⟨bb, ob, rfl, b1, b2⟩ := HB.out.at (show k < B.length by omega)
        have hk1 : (k : Int) < (la : Int) := by omega
        have HT : Hid _ := ht
        by_cases he : A[k]'(by omega) = B[k]'(by omega)
        · have HS : Hid _ := takes_succ ht (by omega) (by omega) he
          rw [← he] at b1 b2
          generalize A[k]'(by omega) = x at *
          clear he ht
          obtain ⟨xs, xn⟩ := x
          simp only at a1 a2 b1 b2
          have hxs := text_self xs
          go_wp2_with fail
          go_quiet (fail)
          go_wp2
          go_roundw
          case rel => exact ⟨k + 1, _, by omega, by go_num, HS.out, rfl⟩
          case measure => simp only [intOf]; omega
        · have HN : Hid (¬ A = B) := fun e => he (by subst e; rfl)
          generalize A[k]'(by omega) = x at *
          generalize B[k]'(by omega) = y at *
          obtain ⟨xs, xn⟩ := x
          obtain ⟨ys, yn⟩ := y
          simp only at a1 a2 b1 b2
          by_cases hs : xs = ys
          · subst hs
            have hn : ((xn == yn) : Bool) = false := by rw [beq_eq_false_iff_ne]; exact fun e => he (by rw [e])
            have hn' : ¬ (xn = yn) := fun e => he (by rw [e])
            have hxs := text_self xs
            clear he ht
            go_wp2_with fail
            go_quiet (fail)
            go_wp2
            go_ret
            rw [decide_eq_false HN.out]
            exact ⟨rfl, q + nq, by simp [World.drewN, Nat.add_assoc]⟩
          · have hxs := text_ne hs
            clear he ht
            go_wp2_with fail
            go_quiet (fail)
            go_wp2
            go_ret
            rw [decide_eq_false HN.out]
            exact ⟨rfl, q + nq, by simp [World.drewN, Nat.add_assoc]⟩
      · obtain rfl : k = la := by omega
        have HE : Hid (A = B) := by
          show A = B
          have := ht
          rwa [List.take_of_length_le (by omega), List.take_of_length_le (by omega)] at this
        clear ht
        go_wp2
        go_ret
        rw [decide_eq_true HE.out]
        exact ⟨rfl, q, rfl⟩
  · refine (sameRows_len aa ab la ca lb cb w hl).mono ?_
    rintro e w' ⟨rfl, hw⟩
    have : ¬ A = B := fun e => hl (by rw [hA.1, hB.1, e])
    rw [decide_eq_false this]
    exact ⟨rfl, hw⟩
set_option maxRecDepth 100000 in
set_option maxHeartbeats 800000 in
theorem sameReply_any (aa ab : Option Addr) (la ca lb cb : Nat) (A B : List (ByteArray × Int)) (y m y' m' : Int) (w : World) (hA : RowsAt w aa la A) (hB : RowsAt w ab lb B) :
    Calls Try.prog 48 #[.agg #[.int .i64 y, .int .i64 m, .slice aa la ca], .agg #[.int .i64 y', .int .i64 m', .slice ab lb cb]] w fun e w' => e = .returned (.bool (decide (y = y' ∧ m = m' ∧ A = B))) ∧ Below w.heap.size w w' := by
  have HB : Hid (∀ w', Below w.heap.size w w' → Calls Try.prog 73 #[.slice aa la ca, .slice ab lb cb] w' fun e w'' => e = .returned (.bool (decide (A = B))) ∧ Below w.heap.size w w'') := fun w' hb => by
    refine (sameRows_any aa ab la ca lb cb A B w' (hA.below hb) (hB.below hb)).mono ?_
    rintro e w'' ⟨rfl, n, rfl⟩
    exact ⟨rfl, below_drewN' hb n⟩
  generalize hw1 : (w.alloc (.cells #[.int .i64 y, .int .i64 m, .slice aa la ca] 32)).alloc (.cells #[.int .i64 y', .int .i64 m', .slice ab lb cb] 32) = w1
  have b1 : Below w.heap.size w w1 := by rw [← hw1]; exact ((Below.refl _ w).alloc (Nat.le_refl _) _).alloc (by simp) _
  have HB1 : Hid _ := b1
  have HW : Hid _ := hw1
  clear hA hB b1 hw1
  by_cases h1 : y = y'
  · subst h1
    by_cases h2 : m = m'
    · subst h2
      go_enter Try.func48, Try.ntmps48
      go_wp2_with fail
      rw [HW.out]
      refine (HB.out _ HB1.out).mono ?_
      rintro e w3 ⟨rfl, b3⟩
      have B3 : Hid _ := b3
      clear b3
      go_wp2
      go_ret
      exact ⟨by simp, B3.out⟩
    · have h2' : ((m == m') : Bool) = false := by rw [beq_eq_false_iff_ne]; exact h2
      go_enter Try.func48, Try.ntmps48
      go_wp2
      go_ret
      rw [HW.out]
      exact ⟨by simp [h2], HB1.out⟩
  · have h1' : ((y == y') : Bool) = false := by rw [beq_eq_false_iff_ne]; exact h1
    go_enter Try.func48, Try.ntmps48
    go_wp2
    go_ret
    rw [HW.out]
    exact ⟨by simp [h1], HB1.out⟩
end Go.Proofs.Ytogbcciocgpknaa
