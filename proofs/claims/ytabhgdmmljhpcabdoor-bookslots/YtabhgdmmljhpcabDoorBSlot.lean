/- Package crc: Slot. Package book: an account's slot, and its bytes. -/
import Derived.Test.YtabhgdmmljhpcabDoorBHeld
import Derived.Test.YtabhgdmmljhpcabDoorWriters
namespace Go.Proofs.YtabhgdmmljhpcabDoor
open Go.RowKit Cod
attribute [local go_sem] Oper.semAt_some
set_option linter.unusedVariables false

/-- An append whose run is known, as one step of a region that draws. -/
theorem step_append_known {P : Program} {ops : Array Oper} {o : Oper} {a : Act} {w : World} {K : Act → World → Prop} {Q : Exit → Act → World → Prop} {E : Prop} (hgd : o.guard = none) (s x : Operand) (t : TypeId)
    (ho : o.op = .call { callee := .builtin .append, args := #[s, x], argTypes := #[t, t] }) (vs vx v' : Value) (w' : World) (hs : a.eval s = vs) (hx : a.eval x = vx)
    (hr : (Builtin.append_ #[t, t] o.type #[vs, vx]).run P w = .ok v' w') (hK : K (a.put o.dst v') w') : if Region.wanted o (yielded ops a.tmps) = true then Oper.wp P o a w K Q else E := by
  have hw : Region.wanted o (yielded ops a.tmps) = true := by simp [Region.wanted, hgd]
  rw [if_pos hw]
  unfold Oper.wp
  simp [execOp, ho, resolve, invoke, builtin, hs, hx, hr, Result.andThen]
  exact hK
/-- A name's slot. -/
def slotOf (s : ByteArray) : Int := U (Crc.more 0#32 (bytesL s)) % 16
theorem slotOf_bd (s : ByteArray) : 0 ≤ slotOf s ∧ slotOf s < 16 := by unfold slotOf; omega
set_option maxRecDepth 100000 in
theorem slot_any (s : ByteArray) (w : World) (hT : Tabs w) (hs : s.size ≤ maxLen) : Calls Tryd.prog 25 #[.string s] w fun e w' => e = .returned (.int .i64 (slotOf s)) ∧ Below w.heap.size w w' := by
  have hcv := fun w => Lib.run_convert_string_bytes (P := Tryd.prog) w 9 46 5 s Tryd.underlying9 Tryd.underlying46 Tryd.underlying5
  have HC := fun cap => sum_any _ _ cap _ _ (hT.below (below_bytes w s) hT.size) (seen_bytes w s hs)
  have hR : Hid (slotOf s = U (Crc.more 0#32 (bytesL s)) % 16) := rfl
  have hu := U_lt (Crc.more 0#32 (bytesL s))
  have hu0 := U_nn (Crc.more 0#32 (bytesL s))
  generalize Crc.more 0#32 (bytesL s) = r at *
  clear hT hs
  go_enter Tryd.func25, Tryd.ntmps25
  go_wp2_with fail
  refine (HC _).mono ?_
  rintro e w1 ⟨rfl, n, rfl⟩
  clear HC
  have B1 : Hid (Below w.heap.size w ((Lib.bytesWorld w 5 s).drewN n)) := below_drewN' (below_bytes w s) n
  generalize (Lib.bytesWorld w 5 s).drewN n = w1 at *
  go_wp2
  go_ret
  refine ⟨?_, B1.out⟩
  rw [hR.out]
  rfl
set_option maxRecDepth 100000 in
theorem accSlot_any (nm by_ : ByteArray) (amt : Int) (w : World) (hT : Tabs w) (hs : nm.size ≤ maxLen) : Calls Tryd.prog 14 #[.agg #[.string nm, .int .i64 amt, .string by_]] w fun e w' => e = .returned (.int .i64 (slotOf nm)) ∧ Below w.heap.size w w' := by
  have b0 : Below w.heap.size w (w.alloc (.cells #[.string nm, .int .i64 amt, .string by_] 42)) := (Below.refl _ w).alloc (Nat.le_refl _) _
  have HC := slot_any nm _ (hT.below b0 hT.size) hs
  have B0 : Hid _ := b0
  clear b0 hT hs
  go_enter Tryd.func14, Tryd.ntmps14
  go_wp2_with fail
  refine HC.mono ?_
  rintro e w1 ⟨rfl, b1⟩
  clear HC
  have B1 : Hid (Below w.heap.size w w1) := B0.out.trans (b1.mono B0.out.size)
  clear b1
  go_wp2
  go_ret
  exact ⟨rfl, B1.out⟩
/-- An account's bytes. -/
def accB (p : Acc) : List (BitVec 8) := sz (bytesL p.nm) ++ enc (zig p.amt) ++ sz (bytesL p.by_)
theorem sz_len (s : ByteArray) : (sz (bytesL s)).length = (enc s.size).length + s.size := by rw [sz, bytesL_length, List.length_append, bytesL_length]
set_option maxRecDepth 100000 in
theorem accBytes_any (nm by_ : ByteArray) (amt : Int) (w : World) (hn : nm.size ≤ 24) (hb : by_.size ≤ 65536) (ha : 0 ≤ amt ∧ amt ≤ 9223372036854775807) : Calls Tryd.prog 34 #[.agg #[.string nm, .int .i64 amt, .string by_]] w fun e w' => ∃ v, e = .returned v ∧ w'.ownsRow w.heap.size 5 1 v (accB ⟨nm, amt, by_⟩).length (cellsOf (accB ⟨nm, amt, by_⟩)) ∧ Below w.heap.size w w' := by
  have l1 := enc_ten (n := nm.size) (by omega)
  have l2 := enc_ten (n := zig amt) (zig_lt amt (by omega))
  have s1 := sz_len nm
  have L1 : Hid _ := l1
  have L2 : Hid _ := l2
  have S1 : Hid _ := s1
  have HB : Hid (by_.size ≤ 65536) := hb
  have HN : Hid (nm.size ≤ 24) := hn
  have HA : Hid (0 ≤ amt ∧ amt ≤ 9223372036854775807) := ha
  have b0 : Below w.heap.size w (w.alloc (.cells #[.string nm, .int .i64 amt, .string by_] 42)) := (Below.refl _ w).alloc (Nat.le_refl _) _
  have HC := text_any none 0 0 [] nm (w.alloc (.cells #[.string nm, .int .i64 amt, .string by_] 42)) ⟨rfl, by simp, .inl rfl⟩ (fun _ => rfl) (by omega)
  have B0 : Hid _ := b0
  clear b0 hn hb ha l1 l2 s1
  go_enter Tryd.func34, Tryd.ntmps34
  go_wp2_with fail
  refine HC.mono ?_
  clear HC
  rintro e w1 ⟨v1, rfl, o1, b1⟩
  rw [Nat.zero_add] at o1
  obtain ⟨a1, c1, e1, q1, n1, _⟩ := owned_seen o1 (by have := L1.out; have := S1.out; have := HN.out; unfold maxLen; omega)
  subst e1
  rw [List.nil_append] at q1
  have r1 : w1.cell? ⟨w.heap.size, 1, none⟩ = some (.int .i64 amt) := by
    rw [b1.cell (p := ⟨w.heap.size, 1, none⟩) (by simp), World.cell?_alloc_mark]; rfl
  have r2 : w1.cell? ⟨w.heap.size, 2, none⟩ = some (.string by_) := by
    rw [b1.cell (p := ⟨w.heap.size, 2, none⟩) (by simp), World.cell?_alloc_mark]; rfl
  have B1 : Hid (Below w.heap.size w w1) := B0.out.trans (b1.mono B0.out.size)
  have HC2 := int_any a1 _ c1 _ amt (by have := HA.out; omega) w1 q1 n1 (by have := L1.out; have := S1.out; have := HN.out; omega)
  have R2 : Hid _ := r2
  have hz : w.heap.size < w1.heap.size := by have := b1.size; simp at this; omega
  clear o1 b1 q1 n1 r2
  go_wp2_with fail
  refine HC2.mono ?_
  clear HC2
  rintro e w2 ⟨v2, rfl, o2, b2⟩
  obtain ⟨a2, c2, e2, q2, n2, _⟩ := owned_seen o2 (by have := L1.out; have := L2.out; have := S1.out; have := HN.out; unfold maxLen; omega)
  subst e2
  have r2 : w2.cell? ⟨w.heap.size, 2, none⟩ = some (.string by_) := (b2.cell (p := ⟨w.heap.size, 2, none⟩) hz).trans R2.out
  have B2 : Hid (Below w.heap.size w w2) := B1.out.trans (b2.mono B1.out.size)
  have HC3 := text_any a2 _ c2 _ by_ w2 q2 n2 (by have := L1.out; have := L2.out; have := S1.out; have := HN.out; have := HB.out; omega)
  clear o2 b2 q2 n2 r1
  go_wp2_with fail
  refine HC3.mono ?_
  clear HC3
  rintro e w3 ⟨v3, rfl, o3, b3⟩
  have B3 : Hid (Below w.heap.size w w3) := B2.out.trans (b3.mono B2.out.size)
  have O3 : Hid (w3.ownsRow w.heap.size 5 1 v3 (accB ⟨nm, amt, by_⟩).length (cellsOf (accB ⟨nm, amt, by_⟩))) := by
    show w3.ownsRow w.heap.size 5 1 v3 (accB ⟨nm, amt, by_⟩).length (cellsOf (accB ⟨nm, amt, by_⟩))
    have hl : (accB ⟨nm, amt, by_⟩).length = (sz (bytesL nm)).length + (enc (zig amt)).length + (sz (bytesL by_)).length := by simp [accB]; omega
    rw [hl]
    have hw := B2.out.size
    exact ⟨o3.1, o3.2.imp id (by rintro ⟨g, c, cur, e, h1, h2⟩; exact ⟨g, c, cur, e, Nat.le_trans hw h1, h2⟩)⟩
  clear o3 b3
  go_wp2
  go_ret
  exact ⟨_, rfl, O3.out, B3.out⟩
end Go.Proofs.YtabhgdmmljhpcabDoor
