/- What PutOp does. -/
import Derived.Test.YtaakdnbaljoehaaWriters
namespace Go.Proofs.Ytaakdnbaljoehaa
open Go.RowKit Cod
set_option linter.unusedVariables false

/-- An operation. -/
structure OpD where
  kind : Int
  src : ByteArray
  dst : ByteArray
  amount : Int
  key : ByteArray
  slot : Int
  shard : Int
def i64ok (n : Int) : Prop := -9223372036854775808 ≤ n ∧ n < 9223372036854775808
structure OpD.ok (o : OpD) : Prop where
  kind : i64ok o.kind
  amount : i64ok o.amount
  slot : i64ok o.slot
  shard : i64ok o.shard
def OpD.val (o : OpD) : Value := .agg #[.int .i64 o.kind, .string o.src, .string o.dst, .int .i64 o.amount, .string o.key, .int .i64 o.slot, .int .i64 o.shard]
def OpD.bytes (o : OpD) : List (BitVec 8) := enc (zig o.kind) ++ sz (bytesL o.src) ++ sz (bytesL o.dst) ++ enc (zig o.amount) ++ sz (bytesL o.key) ++ enc (zig o.slot) ++ enc (zig o.shard)
def OpD.size (o : OpD) : Nat := o.src.size + o.dst.size + o.key.size
theorem sz_le (s : ByteArray) (h : s.size < 18446744073709551616) : (sz (bytesL s)).length ≤ s.size + 10 := by
  have := sz_length_le (bytesL s) (by rw [bytesL_length]; exact h)
  rwa [bytesL_length] at this
theorem owns_mono' {w : World} {base base' : Nat} {e : TypeId} {size : Nat} {v : Value} {n : Nat} {xs : List Value} (h : w.ownsRow base e size v n xs) (hb : base' ≤ base) : w.ownsRow base' e size v n xs :=
  ⟨h.1, h.2.imp id fun ⟨g, cap, cur, e1, e2, e3⟩ => ⟨g, cap, cur, e1, Nat.le_trans hb e2, e3⟩⟩
set_option maxRecDepth 100000 in
set_option maxHeartbeats 800000 in
theorem putOp_any (a : Option Addr) (len cap : Nat) (l : List (BitVec 8)) (o : OpD) (ho : o.ok) (w : World) (h : Seen w a len l) (hnil : a = none → cap = 0) (hm : len + 70 + o.size ≤ 140737488355328) :
    Calls Try.prog 59 #[.slice a len cap, o.val] w fun e w' => ∃ v', e = .returned v' ∧ w'.ownsRow w.heap.size 5 1 v' (len + o.bytes.length) (cellsOf (l ++ o.bytes)) ∧ Below w.heap.size w w' := by
  obtain ⟨kind, src, dst, amount, key, slot, shard⟩ := o
  obtain ⟨h1, h2, h3, h4⟩ := ho
  simp only [OpD.size] at hm
  simp only at h1 h2 h3 h4
  unfold i64ok at h1 h2 h3 h4
  show Calls Try.prog 59 #[.slice a len cap, .agg #[.int .i64 kind, .string src, .string dst, .int .i64 amount, .string key, .int .i64 slot, .int .i64 shard]] w _
  generalize hw1 : w.alloc (.cells #[.int .i64 kind, .string src, .string dst, .int .i64 amount, .string key, .int .i64 slot, .int .i64 shard] 23) = w1
  have b1 : Below w.heap.size w w1 := by rw [← hw1]; exact (Below.refl _ w).alloc (Nat.le_refl _) _
  have hh : w1.heap[w.heap.size]? = some (.cells #[.int .i64 kind, .string src, .string dst, .int .i64 amount, .string key, .int .i64 slot, .int .i64 shard] 23 (0, 0)) := by rw [← hw1]; exact heap_alloc_new w _
  have hlt : w.heap.size < w1.heap.size := by rw [← hw1]; simp
  have cc : ∀ w', Below w1.heap.size w1 w' → w'.cell? ⟨w.heap.size, 0, none⟩ = some (.int .i64 kind) ∧ w'.cell? ⟨w.heap.size, 1, none⟩ = some (.string src) ∧ w'.cell? ⟨w.heap.size, 2, none⟩ = some (.string dst) ∧ w'.cell? ⟨w.heap.size, 3, none⟩ = some (.int .i64 amount) ∧ w'.cell? ⟨w.heap.size, 4, none⟩ = some (.string key) ∧ w'.cell? ⟨w.heap.size, 5, none⟩ = some (.int .i64 slot) ∧ w'.cell? ⟨w.heap.size, 6, none⟩ = some (.int .i64 shard) := fun w' h => by
    have hb : w'.heap[w.heap.size]? = w1.heap[w.heap.size]? := h.block _ hlt
    refine ⟨?_, ?_, ?_, ?_, ?_, ?_, ?_⟩ <;> simp [World.cell?, hb, hh]
  have k0 : ∀ w', Below w1.heap.size w1 w' → w'.cell? ⟨w.heap.size, 0, none⟩ = some (.int .i64 kind) := fun w' h => (cc w' h).1
  have hS : Seen w1 a len l := h.below b1
  have C6 : ∀ w', Below w1.heap.size w1 w' → Hid (Calls Try.prog 65 #[.slice a len cap] w' fun e w'' => ∃ v, e = .returned v ∧ w''.ownsRow w1.heap.size 5 1 v len (cellsOf l) ∧ Below w1.heap.size w1 w'') := fun w' h => by
    refine (clone_any a len cap l w' (hS.below h) hnil (by omega)).mono ?_
    rintro e w'' ⟨v, rfl, o, b⟩
    exact ⟨v, rfl, ⟨o.1, o.2.imp id fun ⟨g, cap, cur, e1, e2, e3⟩ => ⟨g, cap, cur, e1, Nat.le_trans h.size e2, e3⟩⟩, h.trans (b.mono h.size)⟩
  have C9 : ∀ w' v, Below w1.heap.size w1 w' → w'.ownsRow w1.heap.size 5 1 v len (cellsOf l) → Hid (Calls Try.prog 73 #[v, .int .i64 kind] w' fun e w'' => ∃ v', e = .returned v' ∧ w''.ownsRow w1.heap.size 5 1 v' (len + (enc (zig kind)).length) (cellsOf (l ++ enc (zig kind))) ∧ Below w1.heap.size w1 w'') := fun w' v h ho => by
    refine (addInt_any w1.heap.size v len l kind h1 w' ho h.size (by omega)).mono ?_
    rintro e w'' ⟨v', rfl, o, b⟩
    exact ⟨v', rfl, o, h.trans b⟩
  have B0 := Below.refl w1.heap.size w1
  have HW : Hid _ := hw1
  have HB1 : Hid _ := b1
  have CC : Hid (∀ w', Below w1.heap.size w1 w' → w'.cell? ⟨w.heap.size, 0, none⟩ = some (.int .i64 kind) ∧ w'.cell? ⟨w.heap.size, 1, none⟩ = some (.string src) ∧ w'.cell? ⟨w.heap.size, 2, none⟩ = some (.string dst) ∧ w'.cell? ⟨w.heap.size, 3, none⟩ = some (.int .i64 amount) ∧ w'.cell? ⟨w.heap.size, 4, none⟩ = some (.string key) ∧ w'.cell? ⟨w.heap.size, 5, none⟩ = some (.int .i64 slot) ∧ w'.cell? ⟨w.heap.size, 6, none⟩ = some (.int .i64 shard)) := cc
  have e1 := enc_ten (zig_lt kind h1)
  have e2 := sz_le src (by omega)
  have e3 := sz_le dst (by omega)
  have e4 := enc_ten (zig_lt amount h2)
  have e5 := sz_le key (by omega)
  have e6 := enc_ten (zig_lt slot h3)
  have M2 : Hid (len + (enc (zig kind)).length + 10 + src.size ≤ 140737488355328) := by show _ ≤ _; omega
  have M3 : Hid (len + (enc (zig kind)).length + (sz (bytesL src)).length + 10 + dst.size ≤ 140737488355328) := by show _ ≤ _; omega
  have M4 : Hid (len + (enc (zig kind)).length + (sz (bytesL src)).length + (sz (bytesL dst)).length + 10 ≤ 140737488355328) := by show _ ≤ _; omega
  have M5 : Hid (len + (enc (zig kind)).length + (sz (bytesL src)).length + (sz (bytesL dst)).length + (enc (zig amount)).length + 10 + key.size ≤ 140737488355328) := by show _ ≤ _; omega
  have M6 : Hid (len + (enc (zig kind)).length + (sz (bytesL src)).length + (sz (bytesL dst)).length + (enc (zig amount)).length + (sz (bytesL key)).length + 10 ≤ 140737488355328) := by show _ ≤ _; omega
  have M7 : Hid (len + (enc (zig kind)).length + (sz (bytesL src)).length + (sz (bytesL dst)).length + (enc (zig amount)).length + (sz (bytesL key)).length + (enc (zig slot)).length + 10 ≤ 140737488355328) := by show _ ≤ _; omega
  have H2 : Hid _ := h2
  have H3 : Hid _ := h3
  have H4 : Hid _ := h4
  clear h hnil hm hw1 b1 hh hlt cc hS e1 e2 e3 e4 e5 e6 h1 h2 h3 h4
  go_enter Try.func59, Try.ntmps59
  go_wp2_with fail
  rw [HW.out]
  go_region_held3 (fun w' => Below w1.heap.size w1 w')
    (first | assumption | (exact Below.drew (by assumption)))
    (first
      | (go_at_call 65; refine (C6 _ (by assumption)).out.mono ?_; rintro e w2 ⟨v2, rfl, o2, hb2⟩)
      | (go_at_call 73; refine (C9 _ _ (by assumption) (by assumption)).out.mono ?_; rintro e w2 ⟨v2, rfl, o2, hb2⟩))
  have O2 : Hid (w2.ownsRow w1.heap.size 5 1 v2 (len + (enc (zig kind)).length) (cellsOf (l ++ enc (zig kind)))) := o2
  have B2 : Hid (Below w1.heap.size w1 w2) := hb2
  clear o2 hb2 C6 C9 k0
  obtain ⟨q0, q1, q2, q3, q4, q5, q6⟩ := CC.out w2 B2.out
  go_wp2_with fail
  refine (addText_any w1.heap.size v2 _ _ src w2 O2.out B2.out.size M2.out).mono ?_
  clear q0 q1 q2 q3 q4 q5 q6
  rintro e w3 ⟨v3, rfl, o3, b3⟩
  have O3 : Hid (w3.ownsRow w1.heap.size 5 1 v3 (len + (enc (zig kind)).length + (sz (bytesL src)).length) (cellsOf (l ++ enc (zig kind) ++ sz (bytesL src)))) := o3
  have B3 : Hid (Below w1.heap.size w1 w3) := B2.out.trans b3
  clear o3 b3 O2 B2
  obtain ⟨q0, q1, q2, q3, q4, q5, q6⟩ := CC.out w3 B3.out
  go_wp2_with fail
  refine (addText_any w1.heap.size v3 _ _ dst w3 O3.out B3.out.size M3.out).mono ?_
  clear q0 q1 q2 q3 q4 q5 q6
  rintro e w4 ⟨v4, rfl, o4, b4⟩
  have O4 : Hid (w4.ownsRow w1.heap.size 5 1 v4 (len + (enc (zig kind)).length + (sz (bytesL src)).length + (sz (bytesL dst)).length) (cellsOf (l ++ enc (zig kind) ++ sz (bytesL src) ++ sz (bytesL dst)))) := o4
  have B4 : Hid (Below w1.heap.size w1 w4) := B3.out.trans b4
  clear o4 b4 O3 B3
  obtain ⟨q0, q1, q2, q3, q4, q5, q6⟩ := CC.out w4 B4.out
  go_wp2_with fail
  refine (addInt_any w1.heap.size v4 _ _ amount H2.out w4 O4.out B4.out.size M4.out).mono ?_
  clear q0 q1 q2 q3 q4 q5 q6
  rintro e w5 ⟨v5, rfl, o5, b5⟩
  have O5 : Hid (w5.ownsRow w1.heap.size 5 1 v5 (len + (enc (zig kind)).length + (sz (bytesL src)).length + (sz (bytesL dst)).length + (enc (zig amount)).length) (cellsOf (l ++ enc (zig kind) ++ sz (bytesL src) ++ sz (bytesL dst) ++ enc (zig amount)))) := o5
  have B5 : Hid (Below w1.heap.size w1 w5) := B4.out.trans b5
  clear o5 b5 O4 B4
  obtain ⟨q0, q1, q2, q3, q4, q5, q6⟩ := CC.out w5 B5.out
  go_wp2_with fail
  refine (addText_any w1.heap.size v5 _ _ key w5 O5.out B5.out.size M5.out).mono ?_
  clear q0 q1 q2 q3 q4 q5 q6
  rintro e w6 ⟨v6, rfl, o6, b6⟩
  have O6 : Hid (w6.ownsRow w1.heap.size 5 1 v6 (len + (enc (zig kind)).length + (sz (bytesL src)).length + (sz (bytesL dst)).length + (enc (zig amount)).length + (sz (bytesL key)).length) (cellsOf (l ++ enc (zig kind) ++ sz (bytesL src) ++ sz (bytesL dst) ++ enc (zig amount) ++ sz (bytesL key)))) := o6
  have B6 : Hid (Below w1.heap.size w1 w6) := B5.out.trans b6
  clear o6 b6 O5 B5
  obtain ⟨q0, q1, q2, q3, q4, q5, q6⟩ := CC.out w6 B6.out
  go_wp2_with fail
  refine (addInt_any w1.heap.size v6 _ _ slot H3.out w6 O6.out B6.out.size M6.out).mono ?_
  clear q0 q1 q2 q3 q4 q5 q6
  rintro e w7 ⟨v7, rfl, o7, b7⟩
  have O7 : Hid (w7.ownsRow w1.heap.size 5 1 v7 (len + (enc (zig kind)).length + (sz (bytesL src)).length + (sz (bytesL dst)).length + (enc (zig amount)).length + (sz (bytesL key)).length + (enc (zig slot)).length) (cellsOf (l ++ enc (zig kind) ++ sz (bytesL src) ++ sz (bytesL dst) ++ enc (zig amount) ++ sz (bytesL key) ++ enc (zig slot)))) := o7
  have B7 : Hid (Below w1.heap.size w1 w7) := B6.out.trans b7
  clear o7 b7 O6 B6
  obtain ⟨q0, q1, q2, q3, q4, q5, q6⟩ := CC.out w7 B7.out
  go_wp2_with fail
  refine (addInt_any w1.heap.size v7 _ _ shard H4.out w7 O7.out B7.out.size M7.out).mono ?_
  clear q0 q1 q2 q3 q4 q5 q6
  rintro e w8 ⟨v8, rfl, o8, b8⟩
  have O8 : Hid (w8.ownsRow w1.heap.size 5 1 v8 (len + (enc (zig kind)).length + (sz (bytesL src)).length + (sz (bytesL dst)).length + (enc (zig amount)).length + (sz (bytesL key)).length + (enc (zig slot)).length + (enc (zig shard)).length) (cellsOf (l ++ enc (zig kind) ++ sz (bytesL src) ++ sz (bytesL dst) ++ enc (zig amount) ++ sz (bytesL key) ++ enc (zig slot) ++ enc (zig shard)))) := o8
  have B8 : Hid (Below w1.heap.size w1 w8) := B7.out.trans b8
  clear o8 b8 O7 B7
  go_wp2
  go_ret
  refine ⟨v8, rfl, ?_, HB1.out.trans (B8.out.mono HB1.out.size)⟩
  have := owns_mono' O8.out HB1.out.size
  simpa only [OpD.bytes, List.append_assoc, List.length_append, Nat.add_assoc] using this
end Go.Proofs.Ytaakdnbaljoehaa
