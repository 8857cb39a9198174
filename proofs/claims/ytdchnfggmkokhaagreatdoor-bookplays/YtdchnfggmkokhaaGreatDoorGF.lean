/- What PutOp does. -/
import Derived.Test.YtdchnfggmkokhaaGreatDoorWriters
import Derived.Test.YtdchnfggmkokhaaGreatDoorText
namespace Go.Proofs.YtdchnfggmkokhaaGreatDoor
open Go.RowKit Cod
set_option linter.unusedVariables false

/-- An operation. -/
structure OpD where
  kind : Int
  src : ByteArray
  dst : ByteArray
  amount : Int
  key : ByteArray
  slot : Int
  shard : Int
def i64ok (n : Int) : Prop := -9223372036854775808 ≤ n ∧ n < 9223372036854775808
structure OpD.ok (o : OpD) : Prop where
  kind : i64ok o.kind
  amount : i64ok o.amount
  slot : i64ok o.slot
  shard : i64ok o.shard
def OpD.val (o : OpD) : Value := .agg #[.int .i64 o.kind, .string o.src, .string o.dst, .int .i64 o.amount, .string o.key, .int .i64 o.slot, .int .i64 o.shard]
def OpD.bytes (o : OpD) : List (BitVec 8) := enc (zig o.kind) ++ sz (bytesL o.src) ++ sz (bytesL o.dst) ++ enc (zig o.amount) ++ sz (bytesL o.key) ++ enc (zig o.slot) ++ enc (zig o.shard)
def OpD.size (o : OpD) : Nat := o.src.size + o.dst.size + o.key.size
theorem sz_le (s : ByteArray) (h : s.size < 18446744073709551616) : (sz (bytesL s)).length ≤ s.size + 10 := by
  have := sz_length_le (bytesL s) (by rw [bytesL_length]; exact h)
  rwa [bytesL_length] at this
theorem owns_mono' {w : World} {base base' : Nat} {e : TypeId} {size : Nat} {v : Value} {n : Nat} {xs : List Value} (h : w.ownsRow base e size v n xs) (hb : base' ≤ base) : w.ownsRow base' e size v n xs :=
  ⟨h.1, h.2.imp id fun ⟨g, cap, cur, e1, e2, e3⟩ => ⟨g, cap, cur, e1, Nat.le_trans hb e2, e3⟩⟩
end Go.Proofs.YtdchnfggmkokhaaGreatDoor

namespace Go.Proofs.YtdchnfggmkokhaaGreatDoor
open Go.RowKit Cod
set_option linter.unusedVariables false

/-- Rows of an answer in memory. -/
def RowsAt (w : World) (a : Option Addr) (n : Nat) (rows : List (ByteArray × Int)) : Prop :=
  n = rows.length ∧ rows.length ≤ 140737488355328 ∧ (n = 0 ∨ ∃ b off, a = some ⟨b, off, none⟩ ∧ ∀ j (hj : j < rows.length), w.cell? ⟨b, off + j * 2, none⟩ = some (.string rows[j].1) ∧ w.cell? ⟨b, off + j * 2 + 1, none⟩ = some (.int .i64 rows[j].2))
theorem RowsAt.below {w w' : World} {a : Option Addr} {n : Nat} {rows : List (ByteArray × Int)} (h : RowsAt w a n rows) (hb : Below w.heap.size w w') : RowsAt w' a n rows := by
  obtain ⟨h1, h2, h3⟩ := h
  refine ⟨h1, h2, ?_⟩
  rcases h3 with h3 | ⟨b, off, ha, hc⟩
  · exact .inl h3
  · refine .inr ⟨b, off, ha, fun j hj => ?_⟩
    obtain ⟨c1, c2⟩ := hc j hj
    rw [hb.cell (p := ⟨b, off + j * 2, none⟩) (World.block_lt_of_cell? w _ c1), hb.cell (p := ⟨b, off + j * 2 + 1, none⟩) (World.block_lt_of_cell? w _ c2)]
    exact ⟨c1, c2⟩
def rowB (r : ByteArray × Int) : List (BitVec 8) := sz (bytesL r.1) ++ enc (zig r.2)
def rowsB (rows : List (ByteArray × Int)) : List (BitVec 8) := (rows.map rowB).flatten
def rowsSize (rows : List (ByteArray × Int)) : Nat := (rows.map fun r => r.1.size + 20).sum
theorem rowsB_take {rows : List (ByteArray × Int)} {k : Nat} (hk : k < rows.length) : rowsB (rows.take (k + 1)) = rowsB (rows.take k) ++ rowB rows[k] := by
  rw [List.take_add_one, List.getElem?_eq_getElem hk]
  simp only [rowsB, List.map_append, List.flatten_append, Option.toList_some, List.map_cons, List.map_nil, List.flatten_cons, List.flatten_nil, List.append_nil]
theorem rowsSize_take_le (rows : List (ByteArray × Int)) (k : Nat) : rowsSize (rows.take k) ≤ rowsSize rows := by
  have : rowsSize rows = rowsSize (rows.take k) + rowsSize (rows.drop k) := by
    conv => lhs; rw [← List.take_append_drop k rows]
    simp only [rowsSize, List.map_append, List.sum_append]
  omega
theorem rowsSize_succ {rows : List (ByteArray × Int)} {k : Nat} (hk : k < rows.length) : rowsSize (rows.take (k + 1)) = rowsSize (rows.take k) + (rows[k].1.size + 20) := by
  rw [List.take_add_one, List.getElem?_eq_getElem hk]
  simp only [rowsSize, List.map_append, List.sum_append, Option.toList_some, List.map_cons, List.map_nil, List.sum_cons, List.sum_nil, Nat.add_zero]
theorem rowsSize_mem {rows : List (ByteArray × Int)} {r : ByteArray × Int} (h : r ∈ rows) : r.1.size + 20 ≤ rowsSize rows := by
  induction rows with
  | nil => cases h
  | cons x rest ih =>
    simp only [rowsSize, List.map_cons, List.sum_cons] at ih ⊢
    rcases List.mem_cons.1 h with rfl | h
    · omega
    · have := ih h
      omega
theorem rowsB_le : ∀ (rows : List (ByteArray × Int)), (∀ r ∈ rows, i64ok r.2 ∧ r.1.size < 18446744073709551616) → (rowsB rows).length ≤ rowsSize rows
  | [], _ => by simp [rowsB, rowsSize]
  | r :: rest, h => by
    have ih := rowsB_le rest (fun x hx => h x (List.mem_cons_of_mem _ hx))
    have h1 := h r List.mem_cons_self
    have e1 := sz_le r.1 h1.2
    have e2 := enc_ten (zig_lt r.2 h1.1)
    simp only [rowsB, rowsSize, List.map_cons, List.flatten_cons, List.length_append, List.sum_cons, rowB] at ih ⊢
    omega

end Go.Proofs.YtdchnfggmkokhaaGreatDoor

namespace Go.Proofs.YtdchnfggmkokhaaGreatDoor
open Go.RowKit Cod
set_option linter.unusedVariables false

theorem RowsAt.at {w : World} {a : Option Addr} {n : Nat} {rows : List (ByteArray × Int)} (h : RowsAt w a n rows) {k : Nat} (hk : k < rows.length) :
    ∃ b off, a = some ⟨b, off, none⟩ ∧ w.cell? ⟨b, off + k * 2, none⟩ = some (.string rows[k].1) ∧ w.cell? ⟨b, off + k * 2 + 1, none⟩ = some (.int .i64 rows[k].2) := by
  rcases h.2.2 with h3 | ⟨b, off, ha, hc⟩
  · have := h.1; omega
  · exact ⟨b, off, ha, hc k hk⟩
theorem sameRows_len (aa ab : Option Addr) (la ca lb cb : Nat) (w : World) (hl : la ≠ lb) :
    Calls Tryz.prog 46 #[.slice aa la ca, .slice ab lb cb] w fun e w' => e = .returned (.bool false) ∧ ∃ n, w' = w.drewN n := by
  have hl' : ¬ ((la : Int) = lb) := by omega
  clear hl
  go_enter Tryz.func46, Tryz.ntmps46
  go_wp2
  go_ret
  exact ⟨rfl, 0, rfl⟩
theorem takes_succ {α : Type} {A B : List α} {k : Nat} (h : A.take k = B.take k) (h1 : k < A.length) (h2 : k < B.length) (e : A[k] = B[k]) : A.take (k + 1) = B.take (k + 1) := by
  rw [List.take_add_one, List.take_add_one, h, List.getElem?_eq_getElem h1, List.getElem?_eq_getElem h2, e]
set_option maxRecDepth 100000 in
set_option maxHeartbeats 800000 in
theorem sameRows_any (aa ab : Option Addr) (la ca lb cb : Nat) (A B : List (ByteArray × Int)) (w : World) (hA : RowsAt w aa la A) (hB : RowsAt w ab lb B) :
    Calls Tryz.prog 46 #[.slice aa la ca, .slice ab lb cb] w fun e w' => e = .returned (.bool (decide (A = B))) ∧ ∃ n, w' = w.drewN n := by
  by_cases hl : la = lb
  · subst hl
    have hla : la = A.length := hA.1
    have hlb : la = B.length := hB.1
    have hm : la ≤ 140737488355328 := by rw [hla]; exact hA.2.1
    have HA : Hid (RowsAt w aa la A) := hA
    have HB : Hid (RowsAt w ab la B) := hB
    clear hA hB
    go_enter Tryz.func46, Tryz.ntmps46
    go_wp2
    go_loopw [5] (fun i wr => ∃ k q : Nat, k ≤ la ∧ i = .int .i64 k ∧ A.take k = B.take k ∧ wr = w.drewN q) (fun i _ => la - (intOf i).toNat)
    case atStart => exact ⟨0, 0, Nat.zero_le _, rfl, rfl, rfl⟩
    case round =>
      obtain ⟨k, q, hk, rfl, ht, rfl⟩ := hrel
      by_cases hlt : k < la
      · obtain ⟨ba, oa, rfl, a1, a2⟩ := HA.out.at (show k < A.length by omega)
        obtain ⟨bb, ob, rfl, b1, b2⟩ := HB.out.at (show k < B.length by omega)
        have hk1 : (k : Int) < (la : Int) := by omega
        have HT : Hid _ := ht
        by_cases he : A[k]'(by omega) = B[k]'(by omega)
        · have HS : Hid _ := takes_succ ht (by omega) (by omega) he
          rw [← he] at b1 b2
          generalize A[k]'(by omega) = x at *
          clear he ht
          obtain ⟨xs, xn⟩ := x
          simp only at a1 a2 b1 b2
          have hxs := text_self xs
          go_wp2_with fail
          go_quiet (fail)
          go_wp2
          go_roundw
          case rel => exact ⟨k + 1, _, by omega, by go_num, HS.out, rfl⟩
          case measure => simp only [intOf]; omega
        · have HN : Hid (¬ A = B) := fun e => he (by subst e; rfl)
          generalize A[k]'(by omega) = x at *
          generalize B[k]'(by omega) = y at *
          obtain ⟨xs, xn⟩ := x
          obtain ⟨ys, yn⟩ := y
          simp only at a1 a2 b1 b2
          by_cases hs : xs = ys
          · subst hs
            have hn : ((xn == yn) : Bool) = false := by rw [beq_eq_false_iff_ne]; exact fun e => he (by rw [e])
            have hn' : ¬ (xn = yn) := fun e => he (by rw [e])
            have hxs := text_self xs
            clear he ht
            go_wp2_with fail
            go_quiet (fail)
            go_wp2
            go_ret
            rw [decide_eq_false HN.out]
            exact ⟨rfl, q + nq, by simp [World.drewN, Nat.add_assoc]⟩
          · have hxs := text_ne hs
            clear he ht
            go_wp2_with fail
            go_quiet (fail)
            go_wp2
            go_ret
            rw [decide_eq_false HN.out]
            exact ⟨rfl, q + nq, by simp [World.drewN, Nat.add_assoc]⟩
      · obtain rfl : k = la := by omega
        have HE : Hid (A = B) := by
          show A = B
          have := ht
          rwa [List.take_of_length_le (by omega), List.take_of_length_le (by omega)] at this
        clear ht
        go_wp2
        go_ret
        rw [decide_eq_true HE.out]
        exact ⟨rfl, q, rfl⟩
  · refine (sameRows_len aa ab la ca lb cb w hl).mono ?_
    rintro e w' ⟨rfl, hw⟩
    have : ¬ A = B := fun e => hl (by rw [hA.1, hB.1, e])
    rw [decide_eq_false this]
    exact ⟨rfl, hw⟩
end Go.Proofs.YtdchnfggmkokhaaGreatDoor
