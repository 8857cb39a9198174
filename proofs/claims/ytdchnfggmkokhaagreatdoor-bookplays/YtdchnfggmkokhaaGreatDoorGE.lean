/- Package crc: Slot. Package book: an account's slot, and its bytes. -/
import Derived.Test.YtdchnfggmkokhaaGreatDoorGD
import Derived.Test.YtdchnfggmkokhaaGreatDoorWriters
namespace Go.Proofs.YtdchnfggmkokhaaGreatDoor
open Go.RowKit Cod
attribute [local go_sem] Oper.semAt_some
set_option linter.unusedVariables false

/-- An append whose run is known, as one step of a region that draws. -/
theorem step_append_known {P : Program} {ops : Array Oper} {o : Oper} {a : Act} {w : World} {K : Act → World → Prop} {Q : Exit → Act → World → Prop} {E : Prop} (hgd : o.guard = none) (s x : Operand) (t : TypeId)
    (ho : o.op = .call { callee := .builtin .append, args := #[s, x], argTypes := #[t, t] }) (vs vx v' : Value) (w' : World) (hs : a.eval s = vs) (hx : a.eval x = vx)
    (hr : (Builtin.append_ #[t, t] o.type #[vs, vx]).run P w = .ok v' w') (hK : K (a.put o.dst v') w') : if Region.wanted o (yielded ops a.tmps) = true then Oper.wp P o a w K Q else E := by
  have hw : Region.wanted o (yielded ops a.tmps) = true := by simp [Region.wanted, hgd]
  rw [if_pos hw]
  unfold Oper.wp
  simp [execOp, ho, resolve, invoke, builtin, hs, hx, hr, Result.andThen]
  exact hK
/-- A name's slot. -/
def slotOf (s : ByteArray) : Int := U (Crc.more 0#32 (bytesL s)) % 16
theorem slotOf_bd (s : ByteArray) : 0 ≤ slotOf s ∧ slotOf s < 16 := by unfold slotOf; omega
set_option maxRecDepth 100000 in
theorem slot_any (s : ByteArray) (w : World) (hT : Tabs w) (hs : s.size ≤ maxLen) : Calls Tryz.prog 92 #[.string s] w fun e w' => e = .returned (.int .i64 (slotOf s)) ∧ Below w.heap.size w w' := by
  have hcv := fun w => Lib.run_convert_string_bytes (P := Tryz.prog) w 9 31 5 s Tryz.underlying9 Tryz.underlying31 Tryz.underlying5
  have HC := fun cap => sum_any _ _ cap _ _ (hT.below (below_bytes w s) hT.size) (seen_bytes w s hs)
  have hR : Hid (slotOf s = U (Crc.more 0#32 (bytesL s)) % 16) := rfl
  have hu := U_lt (Crc.more 0#32 (bytesL s))
  have hu0 := U_nn (Crc.more 0#32 (bytesL s))
  generalize Crc.more 0#32 (bytesL s) = r at *
  clear hT hs
  go_enter Tryz.func92, Tryz.ntmps92
  go_wp2_with fail
  refine (HC _).mono ?_
  rintro e w1 ⟨rfl, n, rfl⟩
  clear HC
  have B1 : Hid (Below w.heap.size w ((Lib.bytesWorld w 5 s).drewN n)) := below_drewN' (below_bytes w s) n
  generalize (Lib.bytesWorld w 5 s).drewN n = w1 at *
  go_wp2
  go_ret
  refine ⟨?_, B1.out⟩
  rw [hR.out]
  rfl
set_option maxRecDepth 100000 in
theorem accSlot_any (nm by_ : ByteArray) (amt : Int) (w : World) (hT : Tabs w) (hs : nm.size ≤ maxLen) : Calls Tryz.prog 73 #[.agg #[.string nm, .int .i64 amt, .string by_]] w fun e w' => e = .returned (.int .i64 (slotOf nm)) ∧ Below w.heap.size w w' := by
  have b0 : Below w.heap.size w (w.alloc (.cells #[.string nm, .int .i64 amt, .string by_] 52)) := (Below.refl _ w).alloc (Nat.le_refl _) _
  have HC := slot_any nm _ (hT.below b0 hT.size) hs
  have B0 : Hid _ := b0
  clear b0 hT hs
  go_enter Tryz.func73, Tryz.ntmps73
  go_wp2_with fail
  refine HC.mono ?_
  rintro e w1 ⟨rfl, b1⟩
  clear HC
  have B1 : Hid (Below w.heap.size w w1) := B0.out.trans (b1.mono B0.out.size)
  clear b1
  go_wp2
  go_ret
  exact ⟨rfl, B1.out⟩
/-- An account's bytes. -/
def accB (p : Acc) : List (BitVec 8) := sz (bytesL p.nm) ++ enc (zig p.amt) ++ sz (bytesL p.by_)
theorem sz_len (s : ByteArray) : (sz (bytesL s)).length = (enc s.size).length + s.size := by rw [sz, bytesL_length, List.length_append, bytesL_length]
set_option maxRecDepth 100000 in
theorem accBytes_any (nm by_ : ByteArray) (amt : Int) (w : World) (hn : nm.size ≤ 24) (hb : by_.size ≤ 65536) (ha : 0 ≤ amt ∧ amt ≤ 9223372036854775807) : Calls Tryz.prog 18 #[.agg #[.string nm, .int .i64 amt, .string by_]] w fun e w' => ∃ v, e = .returned v ∧ w'.ownsRow w.heap.size 5 1 v (accB ⟨nm, amt, by_⟩).length (cellsOf (accB ⟨nm, amt, by_⟩)) ∧ Below w.heap.size w w' := by
  have l1 := enc_ten (n := nm.size) (by omega)
  have l2 := enc_ten (n := zig amt) (zig_lt amt (by omega))
  have s1 := sz_len nm
  have L1 : Hid _ := l1
  have L2 : Hid _ := l2
  have S1 : Hid _ := s1
  have HB : Hid (by_.size ≤ 65536) := hb
  have HN : Hid (nm.size ≤ 24) := hn
  have HA : Hid (0 ≤ amt ∧ amt ≤ 9223372036854775807) := ha
  have b0 : Below w.heap.size w (w.alloc (.cells #[.string nm, .int .i64 amt, .string by_] 52)) := (Below.refl _ w).alloc (Nat.le_refl _) _
  have HC := text_any none 0 0 [] nm (w.alloc (.cells #[.string nm, .int .i64 amt, .string by_] 52)) ⟨rfl, by simp, .inl rfl⟩ (fun _ => rfl) (by omega)
  have B0 : Hid _ := b0
  clear b0 hn hb ha l1 l2 s1
  go_enter Tryz.func18, Tryz.ntmps18
  go_wp2_with fail
  refine HC.mono ?_
  clear HC
  rintro e w1 ⟨v1, rfl, o1, b1⟩
  rw [Nat.zero_add] at o1
  obtain ⟨a1, c1, e1, q1, n1, _⟩ := owned_seen o1 (by have := L1.out; have := S1.out; have := HN.out; unfold maxLen; omega)
  subst e1
  rw [List.nil_append] at q1
  have r1 : w1.cell? ⟨w.heap.size, 1, none⟩ = some (.int .i64 amt) := by
    rw [b1.cell (p := ⟨w.heap.size, 1, none⟩) (by simp), World.cell?_alloc_mark]; rfl
  have r2 : w1.cell? ⟨w.heap.size, 2, none⟩ = some (.string by_) := by
    rw [b1.cell (p := ⟨w.heap.size, 2, none⟩) (by simp), World.cell?_alloc_mark]; rfl
  have B1 : Hid (Below w.heap.size w w1) := B0.out.trans (b1.mono B0.out.size)
  have HC2 := int_any a1 _ c1 _ amt (by have := HA.out; omega) w1 q1 n1 (by have := L1.out; have := S1.out; have := HN.out; omega)
  have R2 : Hid _ := r2
  have hz : w.heap.size < w1.heap.size := by have := b1.size; simp at this; omega
  clear o1 b1 q1 n1 r2
  go_wp2_with fail
  refine HC2.mono ?_
  clear HC2
  rintro e w2 ⟨v2, rfl, o2, b2⟩
  obtain ⟨a2, c2, e2, q2, n2, _⟩ := owned_seen o2 (by have := L1.out; have := L2.out; have := S1.out; have := HN.out; unfold maxLen; omega)
  subst e2
  have r2 : w2.cell? ⟨w.heap.size, 2, none⟩ = some (.string by_) := (b2.cell (p := ⟨w.heap.size, 2, none⟩) hz).trans R2.out
  have B2 : Hid (Below w.heap.size w w2) := B1.out.trans (b2.mono B1.out.size)
  have HC3 := text_any a2 _ c2 _ by_ w2 q2 n2 (by have := L1.out; have := L2.out; have := S1.out; have := HN.out; have := HB.out; omega)
  clear o2 b2 q2 n2 r1
  go_wp2_with fail
  refine HC3.mono ?_
  clear HC3
  rintro e w3 ⟨v3, rfl, o3, b3⟩
  have B3 : Hid (Below w.heap.size w w3) := B2.out.trans (b3.mono B2.out.size)
  have O3 : Hid (w3.ownsRow w.heap.size 5 1 v3 (accB ⟨nm, amt, by_⟩).length (cellsOf (accB ⟨nm, amt, by_⟩))) := by
    show w3.ownsRow w.heap.size 5 1 v3 (accB ⟨nm, amt, by_⟩).length (cellsOf (accB ⟨nm, amt, by_⟩))
    have hl : (accB ⟨nm, amt, by_⟩).length = (sz (bytesL nm)).length + (enc (zig amt)).length + (sz (bytesL by_)).length := by simp [accB]; omega
    rw [hl]
    have hw := B2.out.size
    exact ⟨o3.1, o3.2.imp id (by rintro ⟨g, c, cur, e, h1, h2⟩; exact ⟨g, c, cur, e, Nat.le_trans hw h1, h2⟩)⟩
  clear o3 b3
  go_wp2
  go_ret
  exact ⟨_, rfl, O3.out, B3.out⟩
end Go.Proofs.YtdchnfggmkokhaaGreatDoor

namespace Go.Proofs.YtdchnfggmkokhaaGreatDoor
open Go.RowKit Cod
attribute [local go_sem] Oper.semAt_some
set_option linter.unusedVariables false

/-- All accounts' bytes. -/
def accsB (L : List Acc) : List (BitVec 8) := L.flatMap accB
def bookB (L : List Acc) : List (BitVec 8) := enc L.length ++ accsB L
theorem accsB_snoc (L : List Acc) (p : Acc) : accsB (L ++ [p]) = accsB L ++ accB p := by simp [accsB]
theorem accB_len {p : Acc} (h1 : p.nm.size ≤ 24) (h2 : p.by_.size ≤ 65536) (h3 : 0 ≤ p.amt ∧ p.amt ≤ 9223372036854775807) : (accB p).length ≤ 66000 := by
  have l1 := enc_ten (n := p.nm.size) (by omega)
  have l2 := enc_ten (n := zig p.amt) (zig_lt p.amt (by omega))
  have l3 := enc_ten (n := p.by_.size) (by omega)
  have s1 := sz_len p.nm
  have s2 := sz_len p.by_
  simp only [accB, List.length_append]
  omega
theorem accsB_len : ∀ (L : List Acc), (∀ p ∈ L, (accB p).length ≤ 66000) → (accsB L).length ≤ L.length * 66000
  | [], _ => by simp [accsB]
  | p :: L, h => by
    have h1 := h p (by simp)
    have h2 := accsB_len L (fun q hq => h q (by simp [hq]))
    simp only [accsB, List.flatMap_cons, List.length_append, List.length_cons] at h2 ⊢
    omega
theorem Fit.acc {L : List Acc} (h : Fit L) {p : Acc} (hp : p ∈ L) : p.nm.size ≤ 24 ∧ p.by_.size ≤ 65536 ∧ (0 ≤ p.amt ∧ p.amt ≤ 9223372036854775807) ∧ (accB p).length ≤ 66000 :=
  ⟨(nameOk_size (h.nm p hp)).2, h.by_ p hp, h.amt p hp, accB_len (nameOk_size (h.nm p hp)).2 (h.by_ p hp) (h.amt p hp)⟩
theorem Fit.bytes {L : List Acc} (h : Fit L) (k : Nat) : (accsB (L.take k)).length ≤ 13200000 := by
  have := accsB_len (L.take k) (fun p hp => (h.acc (List.mem_of_mem_take hp)).2.2.2)
  have hl := h.len
  have : (L.take k).length ≤ L.length := by rw [List.length_take]; omega
  omega
section
variable {w : World} {base N : Nat} {sv : Value} {L : List Acc}
/-- A row of bytes is no box of a slice. -/
theorem row_box {w : World} {b n g : Nat} {v : Value} {xs : List Value} {cs : Array Value} (h : w.ownsRow b 5 1 v n xs) (e : v.ownBlock = some g) (hb : w.heap[g]? = some (.cells cs 31 (0, 0))) : False := by
  obtain ⟨_, _, cur, h3⟩ := row_kind h e
  rw [hb] at h3
  injection h3 with h3
  injection h3 with _ h3
  exact absurd h3 (by decide)
theorem bytes1_step {b B : Nat} {w0 w2 : World} {a1 : Option Addr} {c1 : Nat} {l q : List (BitVec 8)} {v2 : Value} (hbB : b ≤ B) (hl : l.length ≤ 100000000) (hq : q.length ≤ 66000) (hB : w0.heap[B]? = some (.cells #[.slice a1 l.length c1] 31 (0, 0))) (ho : w0.ownsRow b 5 1 (.slice a1 l.length c1) l.length (cellsOf l))
    (o2 : w2.ownsRow w0.heap.size 5 1 v2 q.length (cellsOf q)) (b2 : Below w0.heap.size w0 w2) :
    ∃ a2 c2 a3 c3 w3, v2 = .slice a2 q.length c2 ∧ w2.cell? ⟨B, 0, none⟩ = some (.slice a1 l.length c1) ∧ (Builtin.append_ #[31, 31] 31 #[.slice a1 l.length c1, .slice a2 q.length c2]).run Tryz.prog w2 = .ok (.slice a3 (l.length + q.length) c3) w3 ∧ w3.cell? ⟨B, 0, none⟩ = some (.slice a1 l.length c1) ∧ w3.frozen? ⟨B, 0, none⟩ = false ∧
      (w3.setCell ⟨B, 0, none⟩ (.slice a3 (l.length + q.length) c3)).heap[B]? = some (.cells #[.slice a3 (l.length + q.length) c3] 31 (0, 0)) ∧ (w3.setCell ⟨B, 0, none⟩ (.slice a3 (l.length + q.length) c3)).ownsRow b 5 1 (.slice a3 (l.length + q.length) c3) (l ++ q).length (cellsOf (l ++ q)) ∧ Below b w0 (w3.setCell ⟨B, 0, none⟩ (.slice a3 (l.length + q.length) c3)) := by
  have hlt : B < w0.heap.size := (Array.getElem?_eq_some_iff.1 hB).1
  have hs := b2.size
  obtain ⟨a2, c2, e2, q2, n2, _⟩ := owned_seen o2 (by unfold maxLen; omega)
  have O2 : w2.ownsRow b 5 1 (.slice a1 l.length c1) l.length (cellsOf l) := owns_kept ho (fun g e => b2.block g (ho.lt _ e).2)
  have h2 : w2.heap[B]? = some (.cells #[.slice a1 l.length c1] 31 (0, 0)) := (b2.block B hlt).trans hB
  obtain ⟨v3, w3, r3, o3, g3⟩ := run_append_bytes 31 w2 b _ l.length l O2 a2 _ c2 _ q2 n2 (by omega) (by omega)
  obtain ⟨a3, c3, e3, _⟩ := row_form o3
  subst e3
  have hnb : ∀ g, (Value.slice a1 l.length c1).ownBlock = some g → g ≠ B := fun g e q => by subst q; exact row_box O2 e h2
  have h3 : w3.heap[B]? = some (.cells #[.slice a1 l.length c1] 31 (0, 0)) := (g3.block B (by omega) (fun e => hnb B e.symm rfl)).trans h2
  refine ⟨a2, c2, a3, c3, w3, e2, by simp [World.cell?, h2], r3, by simp [World.cell?, h3], by simp [World.frozen?, h3], set_of3 h3, ?_, ?_⟩
  · rw [List.length_append, setCell_eq_setRow w3 B 0 _ _ _ _ h3]
    exact owns_kept o3 (fun g e => setRow_other _ _ _ _ (fun q => by subst q; exact row_box o3 e h3))
  · exact Below.setCell ((b2.mono (by omega)).grown g3 (by omega) (fun k e => (O2.lt k e).1)) hbB _
set_option maxRecDepth 100000 in
set_option maxHeartbeats 2000000 in
theorem bytes1_any (b B : Nat) (hbB : b ≤ B) (w : World) (nm by_ : ByteArray) (amt : Int) (hn : nm.size ≤ 24) (hb : by_.size ≤ 65536) (ha : 0 ≤ amt ∧ amt ≤ 9223372036854775807) (v : Value) (l : List (BitVec 8)) (hl : l.length ≤ 100000000) (hB : w.heap[B]? = some (.cells #[v] 31 (0, 0))) (ho : w.ownsRow b 5 1 v l.length (cellsOf l)) :
    Calls Tryz.prog 17 #[.agg #[.string nm, .int .i64 amt, .string by_], .pointer (some ⟨B, 0, none⟩)] w fun e w' => e = .returned (.tuple #[]) ∧ ∃ v', w'.heap[B]? = some (.cells #[v'] 31 (0, 0)) ∧ w'.ownsRow b 5 1 v' (l ++ accB ⟨nm, amt, by_⟩).length (cellsOf (l ++ accB ⟨nm, amt, by_⟩)) ∧ Below b w w' := by
  have hlt : B < w.heap.size := (Array.getElem?_eq_some_iff.1 hB).1
  obtain ⟨w0, ew0⟩ : ∃ w0, w0 = w.alloc (.cells #[.string nm, .int .i64 amt, .string by_] 52) := ⟨_, rfl⟩
  have b0 : Below w.heap.size w w0 := by rw [ew0]; exact (Below.refl _ w).alloc (Nat.le_refl _) _
  have hB0 : w0.heap[B]? = some (.cells #[v] 31 (0, 0)) := (b0.block B hlt).trans hB
  have ho0 : w0.ownsRow b 5 1 v l.length (cellsOf l) := owns_kept ho (fun g e => b0.block g (ho.lt _ e).2)
  obtain ⟨a1, c1, e1, q1, n1, _⟩ := owned_seen ho0 (by unfold maxLen; omega)
  subst e1
  have HC := accBytes_any nm by_ amt w0.drew hn hb ha
  have hal := accB_len (p := ⟨nm, amt, by_⟩) hn hb ha
  have HAL : Hid _ := hal
  have HL : Hid _ := hl
  have k0 : w0.cell? ⟨B, 0, none⟩ = some (.slice a1 l.length c1) := by simp [World.cell?, hB0]
  have HB0 : Hid _ := hB0
  have HO0 : Hid _ := ho0
  have B0 : Hid (Below b w w0) := b0.mono (by omega)
  have hz : w.heap.size < w0.heap.size := by rw [ew0]; simp
  have hs0 : B < w0.heap.size := by omega
  have r0 : w0.cell? ⟨w.heap.size, 0, none⟩ = some (.string nm) := by rw [ew0, World.cell?_alloc_mark]; rfl
  have r1 : w0.cell? ⟨w.heap.size, 1, none⟩ = some (.int .i64 amt) := by rw [ew0, World.cell?_alloc_mark]; rfl
  have r2 : w0.cell? ⟨w.heap.size, 2, none⟩ = some (.string by_) := by rw [ew0, World.cell?_alloc_mark]; rfl
  clear hB ho hB0 ho0 hal q1 n1 hn hb ha b0
  go_enter Tryz.func17, Tryz.ntmps17
  go_wp2
  rw [← ew0]
  clear ew0
  go_region_law (first
    | (go_simp; go_at_call 18; refine HC.mono ?_; rintro e w2 ⟨v2, rfl, o2, b2⟩; obtain ⟨a2, c2, a3, c3, w3, e2, k2, r3, k3, f3, z1, z2, z3⟩ := bytes1_step (w0 := w0) hbB HL.out HAL.out HB0.out HO0.out o2 ⟨b2.os, b2.tape, b2.output, b2.size, b2.block⟩; subst e2)
    | (refine step_append_known (by rfl) _ _ _ (by rfl) _ _ _ _ (by rfl) (by rfl) r3 ?_))
  all_goals
    go_wp2
    exact bodyPost_end (results_none rfl _ _ _) rfl ⟨rfl, _, z1, z2, B0.out.trans z3⟩
set_option maxRecDepth 100000 in
theorem bytes_any (h : BookIn w base N sv L) : Calls Tryz.prog 6 #[.pointer (some ⟨N, 0, none⟩)] w fun e w' => ∃ a c, e = .returned (.slice a (bookB L).length c) ∧ w'.ownsRow w.heap.size 5 1 (.slice a (bookB L).length c) (bookB L).length (cellsOf (bookB L)) ∧ Below w.heap.size w w' := by
  have hl := h.fit.len
  have c0 := h.c0
  obtain ⟨a, cap, esv, _⟩ := h.sv_form
  rw [esv] at c0
  have H : Hid (BookIn w base N sv L) := h
  have h10 := enc_ten (n := L.length) (by omega)
  have H10 : Hid ((enc L.length).length ≤ 10) := h10
  have HC := uint_any none 0 0 [] L.length (by omega) w ⟨rfl, by simp, .inl rfl⟩ (fun _ => rfl) (by omega)
  rw [List.nil_append, Nat.zero_add] at HC
  have hcv : IntKind.u64.wrap (L.length : Int) = (L.length : Int) := by rw [IntKind.wrap_u64]; omega
  have HFit : Hid (Fit L) := h.fit
  clear h h10
  go_enter Tryz.func6, Tryz.ntmps6
  go_wp2_with fail
  refine HC.mono ?_
  clear HC
  rintro e w1 ⟨v1, rfl, o1, b1⟩
  obtain ⟨a1, c1, e1, _⟩ := row_form o1
  subst e1
  obtain ⟨w2, ew2⟩ : ∃ w2, w2 = w1.alloc (.cells #[.slice a1 (enc L.length).length c1] 31) := ⟨_, rfl⟩
  have b2 : Below w1.heap.size w1 w2 := by rw [ew2]; exact (Below.refl _ w1).alloc (Nat.le_refl _) _
  have B2 : Below w.heap.size w w2 := b1.trans (b2.mono b1.size)
  have HE := each_one (H.out.below B2) 17 (.pointer (some ⟨w1.heap.size, 0, none⟩)) (fun args w => by kernel_rfl)
    (fun k W => Below w.heap.size w W ∧ ∃ a' c', W.heap[w1.heap.size]? = some (.cells #[.slice a' (enc L.length ++ accsB (L.take k)).length c'] 31 (0, 0)) ∧ W.ownsRow w.heap.size 5 1 (.slice a' (enc L.length ++ accsB (L.take k)).length c') (enc L.length ++ accsB (L.take k)).length (cellsOf (enc L.length ++ accsB (L.take k))))
    ⟨B2, a1, c1, by
      have e0 : enc L.length ++ accsB (L.take 0) = enc L.length := by simp [accsB]
      rw [ew2, e0]
      exact heap_alloc_new w1 _, by
      have e0 : enc L.length ++ accsB (L.take 0) = enc L.length := by simp [accsB]
      rw [e0]
      exact owns_kept o1 (fun g e => b2.block g (o1.lt _ e).2)⟩
    (fun k W hI => ⟨(hI.1.block N H.out.ltN).trans (B2.block N H.out.ltN).symm, fun g e => by
      have := (row_kind H.out.row e).2.1
      exact (hI.1.block g this).trans (B2.block g this).symm⟩)
    (fun k hk W hI => by
      obtain ⟨hb, a', c', hbx, ho⟩ := hI
      have hs : w1.heap.size < W.heap.size := (Array.getElem?_eq_some_iff.1 hbx).1
      obtain ⟨p1, p2, p3, p4⟩ := HFit.out.acc (List.getElem_mem hk)
      have hlen : (enc L.length ++ accsB (L.take k)).length ≤ 100000000 := by
        rw [List.length_append]
        have := HFit.out.bytes k
        have := H10.out
        omega
      have bA : Below W.heap.size W (W.alloc (.cells #[.string L[k].nm, .int .i64 L[k].amt, .string L[k].by_] 52)) := (Below.refl _ W).alloc (Nat.le_refl _) _
      refine (bytes1_any w.heap.size w1.heap.size b1.size _ L[k].nm L[k].by_ L[k].amt p1 p2 p3 _ _ hlen ((bA.block _ hs).trans hbx) (owns_kept ho (fun g e => bA.block g (ho.lt _ e).2))).mono ?_
      rintro e W' ⟨rfl, v', q1, q2, q3⟩
      obtain ⟨a2, c2, e2, _⟩ := row_form q2
      subst e2
      refine ⟨rfl, hb.trans ((bA.mono hb.size).trans q3), a2, c2, ?_⟩
      rw [List.take_succ_eq_append_getElem hk, accsB_snoc, ← List.append_assoc]
      exact ⟨q1, q2⟩)
  rw [List.take_length] at HE
  rw [ew2] at HE
  clear o1 b1 b2 B2 ew2
  have HE' : Calls Tryz.prog 16 #[.pointer (some ⟨N, 0, none⟩), .func (.func 17) #[] #[.pointer (some ⟨w1.heap.size, 0, none⟩)]] (w1.alloc (.cells #[.slice a1 (enc L.length).length c1] 31)) (fun e W => e = .returned (.tuple #[]) ∧ Below w.heap.size w W ∧ ∃ a' c', W.heap[w1.heap.size]? = some (.cells #[.slice a' (bookB L).length c'] 31 (0, 0)) ∧ W.ownsRow w.heap.size 5 1 (.slice a' (bookB L).length c') (bookB L).length (cellsOf (bookB L))) := HE
  clear HE
  go_wp2_with fail
  refine HE'.mono ?_
  rintro e w3 ⟨rfl, b3, a3, c3, h3, o3⟩
  have B3 : Hid (Below w.heap.size w w3) := b3
  have O3 : Hid (w3.ownsRow w.heap.size 5 1 (.slice a3 (bookB L).length c3) (bookB L).length (cellsOf (bookB L))) := o3
  have k3 : w3.cell? ⟨w1.heap.size, 0, none⟩ = some (.slice a3 (bookB L).length c3) := by simp [World.cell?, h3]
  clear HE' b3 o3 h3
  go_wp2
  go_ret
  exact ⟨a3, c3, rfl, O3.out, B3.out⟩
end
end Go.Proofs.YtdchnfggmkokhaaGreatDoor

namespace Go.Proofs.YtdchnfggmkokhaaGreatDoor
open Go.RowKit Cod
attribute [local go_sem] Oper.semAt_some
set_option linter.unusedVariables false

/-- A law's own book, made behind w0. -/
def MyB (w0 w : World) (N : Nat) (L : List Acc) : Prop := ∃ sv, BookIn w w0.heap.size N sv L ∧ Below w0.heap.size w0 w
section
variable {w0 w : World} {N : Nat} {L : List Acc}
theorem MyB.bel (h : MyB w0 w N L) : Below w0.heap.size w0 w := by obtain ⟨_, _, b⟩ := h; exact b
theorem MyB.fit (h : MyB w0 w N L) : Fit L := by obtain ⟨_, h, _⟩ := h; exact h.fit
theorem MyB.below {w' : World} (h : MyB w0 w N L) (b : Below w.heap.size w w') : MyB w0 w' N L := by
  obtain ⟨sv, h1, h2⟩ := h
  exact ⟨sv, h1.below b, h2.trans (b.mono h2.size)⟩
theorem MyB.told {w' : World} {sv : Value} {L' : List Acc} (h : BookIn w w0.heap.size N sv L) (b : Below w0.heap.size w0 w) (t : BTold w w' w0.heap.size N sv L') : MyB w0 w' N L' := by
  obtain ⟨sv', h1, h2, _⟩ := t
  exact ⟨sv', h1, b.trans (h.chg_below h2)⟩
theorem my_new (b : Below w0.heap.size w0 w) : Calls Tryz.prog 4 #[] w fun e w' => ∃ N, e = .returned (.pointer (some ⟨N, 0, none⟩)) ∧ MyB w0 w' N [] := by
  refine (new_any w).mono ?_
  rintro e w' ⟨rfl, b1, h1⟩
  exact ⟨_, rfl, _, h1.base_le b.size, b.trans (b1.mono b.size)⟩
theorem my_open (h : MyB w0 w N L) (t : ByteArray) (hs : t.size ≤ maxLen) : Calls Tryz.prog 13 #[.pointer (some ⟨N, 0, none⟩), .string t] w fun e w' => e = .returned (.int .i64 (putP L t 0).1) ∧ MyB w0 w' N (putP L t 0).2 := by
  obtain ⟨sv, h1, b⟩ := h
  exact (open_any h1 t hs).mono (by rintro e w' ⟨rfl, q⟩; exact ⟨rfl, MyB.told h1 b q⟩)
theorem my_put (h : MyB w0 w N L) (t : ByteArray) (n : Int) (hn : -9223372036854775808 ≤ n ∧ n ≤ 9223372036854775807) (hs : t.size ≤ maxLen) : Calls Tryz.prog 34 #[.pointer (some ⟨N, 0, none⟩), .agg #[.string t, .int .i64 n]] w fun e w' => e = .returned (.int .i64 (putP L t n).1) ∧ MyB w0 w' N (putP L t n).2 := by
  obtain ⟨sv, h1, b⟩ := h
  exact (put_any h1 t n hn hs).mono (by rintro e w' ⟨rfl, q⟩; exact ⟨rfl, MyB.told h1 b q⟩)
theorem my_add (h : MyB w0 w N L) (t : ByteArray) (n : Int) (hn : -9223372036854775808 ≤ n ∧ n ≤ 9223372036854775807) : Calls Tryz.prog 26 #[.pointer (some ⟨N, 0, none⟩), .string t, .int .i64 n] w fun e w' => e = .returned (.int .i64 (onP L t (addP n)).1) ∧ MyB w0 w' N (onP L t (addP n)).2 := by
  obtain ⟨sv, h1, b⟩ := h
  exact (add_any h1 t n hn).mono (by rintro e w' ⟨rfl, q⟩; exact ⟨rfl, MyB.told h1 b q⟩)
theorem my_take (h : MyB w0 w N L) (t : ByteArray) (n : Int) (hn : -9223372036854775808 ≤ n ∧ n ≤ 9223372036854775807) : Calls Tryz.prog 28 #[.pointer (some ⟨N, 0, none⟩), .string t, .int .i64 n] w fun e w' => e = .returned (.int .i64 (onP L t (takeP n)).1) ∧ MyB w0 w' N (onP L t (takeP n)).2 := by
  obtain ⟨sv, h1, b⟩ := h
  exact (take_any h1 t n hn).mono (by rintro e w' ⟨rfl, q⟩; exact ⟨rfl, MyB.told h1 b q⟩)
theorem my_hold (h : MyB w0 w N L) (t s : ByteArray) : Calls Tryz.prog 30 #[.pointer (some ⟨N, 0, none⟩), .string t, .string s] w fun e w' => e = .returned (.int .i64 (onP L t (holdP s)).1) ∧ MyB w0 w' N (onP L t (holdP s)).2 := by
  obtain ⟨sv, h1, b⟩ := h
  exact (hold_any h1 t s).mono (by rintro e w' ⟨rfl, q⟩; exact ⟨rfl, MyB.told h1 b q⟩)
theorem my_bytes (h : MyB w0 w N L) : Calls Tryz.prog 6 #[.pointer (some ⟨N, 0, none⟩)] w fun e w' => ∃ a c, e = .returned (.slice a (bookB L).length c) ∧ Seen w' a (bookB L).length (bookB L) ∧ MyB w0 w' N L := by
  obtain ⟨sv, h1, b⟩ := h
  refine (bytes_any h1).mono ?_
  rintro e w' ⟨a, c, rfl, o, b1⟩
  have hl : (bookB L).length ≤ maxLen := by
    have := h1.fit.bytes L.length
    rw [List.take_length] at this
    have h10 := enc_ten (n := L.length) (by have := h1.fit.len; omega)
    unfold maxLen bookB
    rw [List.length_append]
    omega
  obtain ⟨a', c', e', q, _⟩ := owned_seen o hl
  cases e'
  exact ⟨a, c, rfl, q, sv, h1.below b1, b.trans (b1.mono b.size)⟩
end
def sAnn : ByteArray := ⟨#[97, 110, 110]⟩
def sX : ByteArray := ⟨#[120]⟩
theorem kn1 : putP [] ⟨#[97, 110, 110]⟩ 0 = (0, [⟨⟨#[97, 110, 110]⟩, 0, ⟨#[]⟩⟩]) := by rfl
theorem kn2 : onP [⟨⟨#[97, 110, 110]⟩, 0, ⟨#[]⟩⟩] ⟨#[97, 110, 110]⟩ (addP 5) = (0, [⟨⟨#[97, 110, 110]⟩, 5, ⟨#[]⟩⟩]) := by rfl
theorem kn3 : onP [⟨⟨#[97, 110, 110]⟩, 5, ⟨#[]⟩⟩] ⟨#[97, 110, 110]⟩ (takeP 6) = (42, [⟨⟨#[97, 110, 110]⟩, 5, ⟨#[]⟩⟩]) := by rfl
theorem kn4 : onP [⟨⟨#[97, 110, 110]⟩, 5, ⟨#[]⟩⟩] ⟨#[97, 110, 110]⟩ (holdP ⟨#[120]⟩) = (0, [⟨⟨#[97, 110, 110]⟩, 5, ⟨#[120]⟩⟩]) := by rfl
theorem kn5 : onP [⟨⟨#[97, 110, 110]⟩, 5, ⟨#[120]⟩⟩] ⟨#[97, 110, 110]⟩ (holdP ⟨#[121]⟩) = (5, [⟨⟨#[97, 110, 110]⟩, 5, ⟨#[120]⟩⟩]) := by rfl
theorem kn6 : bookB [⟨⟨#[97, 110, 110]⟩, 5, ⟨#[120]⟩⟩] = [1#8, 3#8, 97#8, 110#8, 110#8, 10#8, 1#8, 120#8] := by
  unfold bookB accsB
  simp only [List.flatMap_cons, List.flatMap_nil, accB, sz, bytesL, List.length_cons, List.length_nil]
  rw [enc_low (by decide), enc_low (by decide), enc_low (by decide), enc_low (by decide)]
  rfl
set_option maxRecDepth 100000 in
set_option maxHeartbeats 1000000 in
theorem knownB_any (w : World) : Calls Tryz.prog 14 #[] w fun e w' => e = .returned (.bool true) ∧ Below w.heap.size w w' := by
  go_enter Tryz.func14, Tryz.ntmps14
  go_wp2_with fail
  refine (my_new (Below.refl _ w)).mono ?_
  rintro e w1 ⟨N, rfl, h1⟩
  go_wp2_with fail
  have HC := my_open h1 ⟨#[97, 110, 110]⟩ (by simp [ByteArray.size, maxLen])
  rw [kn1] at HC
  clear h1
  refine HC.mono ?_
  clear HC
  rintro e w2 ⟨rfl, h2⟩
  go_wp2_with fail
  have HC := my_add h2 ⟨#[97, 110, 110]⟩ 5 (by omega)
  rw [kn2] at HC
  clear h2
  refine HC.mono ?_
  clear HC
  rintro e w3 ⟨rfl, h3⟩
  go_wp2_with fail
  have HC := my_take h3 ⟨#[97, 110, 110]⟩ 6 (by omega)
  rw [kn3] at HC
  clear h3
  refine HC.mono ?_
  clear HC
  rintro e w4 ⟨rfl, h4⟩
  go_wp2_with fail
  have HC := my_hold h4 ⟨#[97, 110, 110]⟩ ⟨#[120]⟩
  rw [kn4] at HC
  clear h4
  refine HC.mono ?_
  clear HC
  rintro e w5 ⟨rfl, h5⟩
  go_wp2_with fail
  have HC := my_hold h5 ⟨#[97, 110, 110]⟩ ⟨#[121]⟩
  rw [kn5] at HC
  clear h5
  refine HC.mono ?_
  clear HC
  rintro e w6 ⟨rfl, h6⟩
  have HC := my_bytes h6
  rw [kn6] at HC
  clear h6
  go_wp2_with fail
  refine HC.mono ?_
  clear HC
  rintro e w7 ⟨a7, c7, rfl, q7, h7⟩
  have HS : Hid _ := run_to_text w7 a7 _ c7 _ q7
  have H7 : Hid (MyB w w7 N [⟨⟨#[97, 110, 110]⟩, 5, ⟨#[120]⟩⟩]) := h7
  clear q7 h7
  have hs : (convert 31 9 (.slice a7 8 c7)).run Tryz.prog w7 = .ok (.string ⟨#[1, 3, 97, 110, 110, 10, 1, 120]⟩) w7 := HS.out
  clear HS
  go_wp2
  go_ret
  exact ⟨rfl, H7.out.bel⟩
end Go.Proofs.YtdchnfggmkokhaaGreatDoor

namespace Go.Proofs.YtdchnfggmkokhaaGreatDoor
open Go.RowKit Cod
attribute [local go_sem] Oper.semAt_some
set_option linter.unusedVariables false

/-- A row: a name and an amount. -/
abbrev RowB := ByteArray × Int
def cells2 (l : List RowB) : List Value := l.flatMap fun r => [.string r.1, .int .i64 r.2]
theorem cells2_append (a b : List RowB) : cells2 (a ++ b) = cells2 a ++ cells2 b := by simp [cells2]
theorem cells2_length (l : List RowB) : (cells2 l).length = l.length * 2 := by
  induction l with
  | nil => rfl
  | cons r l ih => simp [cells2] at ih ⊢; omega
theorem cells2_at : ∀ (l : List RowB) (i : Nat) (hi : i < l.length), (cells2 l)[i * 2]? = some (.string l[i].1) ∧ (cells2 l)[i * 2 + 1]? = some (.int .i64 l[i].2)
  | r :: l, 0, _ => by simp [cells2]
  | r :: l, i + 1, hi => by
    have ih := cells2_at l i (by simpa using hi)
    have e1 : (i + 1) * 2 = i * 2 + 1 + 1 := by omega
    simp only [cells2, List.flatMap_cons, List.cons_append, List.nil_append, e1, List.getElem?_cons_succ, List.getElem_cons_succ] at ih ⊢
    exact ih
theorem one2 (l : List RowB) : ∀ u ∈ cells2 l, u.oneCell' = true := fun u hu => by
  obtain ⟨p, hp, hu⟩ := List.mem_flatMap.1 hu
  simp only [List.mem_cons, List.not_mem_nil, or_false] at hu
  rcases hu with rfl | rfl <;> rfl
/-- An account is told of. -/
def inSlot (slot : Int) (p : Acc) : Bool := decide (slot = -1) || decide (slot = slotOf p.nm)
/-- The accounts of a slot. -/
def rowsOf (slot : Int) (L : List Acc) : List RowB := (L.filter (inSlot slot)).map fun p => (p.nm, p.amt)
theorem rowsOf_snoc (slot : Int) (L : List Acc) (p : Acc) : rowsOf slot (L ++ [p]) = if inSlot slot p = true then rowsOf slot L ++ [(p.nm, p.amt)] else rowsOf slot L := by
  unfold rowsOf
  rw [List.filter_append]
  by_cases h : inSlot slot p = true
  · rw [if_pos h]; simp [h]
  · rw [if_neg h]; simp [h]
theorem rowsOf_len (slot : Int) (L : List Acc) : (rowsOf slot L).length ≤ L.length := by
  unfold rowsOf
  rw [List.length_map]
  exact List.length_filter_le _ _
theorem info_row : (Tryz.prog.info? 50).map (fun i => (i.zero, i.size, i.bytes)) = some (some (.agg #[.string ⟨#[]⟩, .int .i64 0]), 2, 24) := by kernel_rfl
theorem row_boxR {w : World} {b n g : Nat} {v : Value} {xs : List Value} {cs : Array Value} {t : TypeId} (ht : t ≠ 50) (h : w.ownsRow b 50 2 v n xs) (e : v.ownBlock = some g) (hb : w.heap[g]? = some (.cells cs t (0, 0))) : False := by
  obtain ⟨_, _, cur, h3⟩ := row_kind h e
  rw [hb] at h3
  injection h3 with h3
  injection h3 with _ h3
  exact ht h3
/-- What lies in memory while Rows goes through the accounts. -/
structure RowsI (w : World) (S : Nat) (slot : Int) (W : World) (l : List RowB) (a : Option Addr) (c : Nat) : Prop where
  bel : Below S w W
  bx : W.heap[S]? = some (.cells #[.int .i64 slot] 3 (0, 0))
  rv : W.heap[S + 1]? = some (.cells #[.slice a l.length c] 66 (0, 0))
  row : W.ownsRow S 50 2 (.slice a l.length c) l.length (cells2 l)
theorem RowsI.below {w W W' : World} {S : Nat} {slot : Int} {l : List RowB} {a : Option Addr} {c : Nat} (h : RowsI w S slot W l a c) (b : Below W.heap.size W W') : RowsI w S slot W' l a c :=
  ⟨h.bel.trans (b.mono (Nat.le_of_lt (Array.getElem?_eq_some_iff.1 h.bx).1)), (b.block _ (Array.getElem?_eq_some_iff.1 h.bx).1).trans h.bx, (b.block _ (Array.getElem?_eq_some_iff.1 h.rv).1).trans h.rv, owns_kept h.row (fun g e => b.block g (row_kind h.row e).2.1)⟩
/-- One row more. -/
theorem RowsI.more {w W : World} {S : Nat} {slot : Int} {l : List RowB} {a : Option Addr} {c : Nat} (h : RowsI w S slot W l a c) (hl : l.length ≤ 1000) (r : RowB) (hS : S ≤ w.heap.size) :
    ∃ a' c' W', (Builtin.append_ #[66, 66] 66 #[.slice a l.length c, .slice (some ⟨W.heap.size, 0, none⟩) 1 1]).run Tryz.prog (W.alloc (.cells #[.string r.1, .int .i64 r.2] 50)) = .ok (.slice a' (l.length + 1) c') W' ∧ W'.cell? ⟨S + 1, 0, none⟩ = some (.slice a l.length c) ∧ W'.frozen? ⟨S + 1, 0, none⟩ = false ∧ RowsI w S slot (W'.setCell ⟨S + 1, 0, none⟩ (.slice a' (l.length + 1) c')) (l ++ [r]) a' c' := by
  have h1 : RowsI w S slot (W.alloc (.cells #[.string r.1, .int .i64 r.2] 50)) l a c := h.below ((Below.refl _ W).alloc (Nat.le_refl _) _)
  have hnew := heap_alloc_new W (.cells #[.string r.1, .int .i64 r.2] 50)
  generalize W.alloc (.cells #[.string r.1, .int .i64 r.2] 50) = W1 at h1 hnew ⊢
  obtain ⟨i0, hi, hz0, hz1, hz2⟩ := info_parts info_row
  obtain ⟨v', W', hr, q1, q2, _, _⟩ := run_append_own_at (P := Tryz.prog) W1 S 66 66 50 i0 (.agg #[.string ⟨#[]⟩, .int .i64 0]) 2 24 Tryz.underlying66 hi hz0 hz1 hz2 rfl (by omega) (.slice a l.length c) l.length (cells2 l) h1.row ⟨W.heap.size, 0, none⟩ 1 1 (cells2 [r]) rfl (fun j v hj => by
    rw [Addr.add_lit, Nat.zero_add]
    simp only [World.cell?, hnew]
    simpa [cells2] using hj) (one2 [r]) (by unfold maxLen; omega) (by omega) (by have := (Array.getElem?_eq_some_iff.1 h1.bx).1; omega)
  obtain ⟨a', c', e', _⟩ := row_form q1
  subst e'
  have hb : ∀ k, k < W1.heap.size → (Value.slice a l.length c).ownBlock ≠ some k → W'.heap[k]? = W1.heap[k]? := fun k hk hn => q2.block k hk (fun e => hn e.symm)
  have k1 : W'.heap[S + 1]? = some (.cells #[.slice a l.length c] 66 (0, 0)) := (hb _ (Array.getElem?_eq_some_iff.1 h1.rv).1 (fun e => row_boxR (by decide) h1.row e h1.rv)).trans h1.rv
  have k0 : W'.heap[S]? = some (.cells #[.int .i64 slot] 3 (0, 0)) := (hb _ (Array.getElem?_eq_some_iff.1 h1.bx).1 (fun e => row_boxR (by decide) h1.row e h1.bx)).trans h1.bx
  refine ⟨a', c', W', hr, by simp [World.cell?, k1], by simp [World.frozen?, k1], ?_⟩
  have el : (l ++ [r]).length = l.length + 1 := by simp
  have e := setCell_eq_setRow W' (S + 1) 0 _ _ _ (.slice a' (l.length + 1) c') k1
  refine ⟨?_, ?_, ?_, ?_⟩
  · exact Below.setCell (h1.bel.grown q2 (Nat.le_of_lt (Array.getElem?_eq_some_iff.1 h1.bx).1) (fun k e => (row_kind h1.row e).1)) (Nat.le_succ S) _
  · rw [e, setRow_other _ _ _ _ (by omega)]
    exact k0
  · rw [el]
    exact set_of3 k1
  · rw [el, e, cells2_append]
    exact owns_kept q1 (fun g q => setRow_other _ _ _ _ (fun z => by subst z; exact row_boxR (by decide) q1 q k1))
set_option maxRecDepth 100000 in
set_option maxHeartbeats 2000000 in
theorem rows1_any {w0 : World} {S : Nat} {slot : Int} {w : World} {l : List RowB} {a : Option Addr} {c : Nat} (h : RowsI w0 S slot w l a c) (hS : S ≤ w0.heap.size) (hT : Tabs w) (p : Acc) (hn : p.nm.size ≤ 24) (hl : l.length ≤ 1000) :
    Calls Tryz.prog 76 #[.agg #[.string p.nm, .int .i64 p.amt, .string p.by_], .pointer (some ⟨S, 0, none⟩), .pointer (some ⟨S + 1, 0, none⟩)] w fun e w' => e = .returned (.tuple #[]) ∧ ∃ a' c', RowsI w0 S slot w' (if inSlot slot p = true then l ++ [(p.nm, p.amt)] else l) a' c' := by
  obtain ⟨nm, amt, by_⟩ := p
  simp only at hn ⊢
  obtain ⟨w1, ew1⟩ : ∃ w1, w1 = w.alloc (.cells #[.string nm, .int .i64 amt, .string by_] 52) := ⟨_, rfl⟩
  have b1 : Below w.heap.size w w1 := by rw [ew1]; exact (Below.refl _ w).alloc (Nat.le_refl _) _
  have h1 := h.below b1
  have H1 : Hid (RowsI w0 S slot w1 l a c) := h1
  have k0 : w1.cell? ⟨S, 0, none⟩ = some (.int .i64 slot) := by simp [World.cell?, h1.bx]
  have r0 : w1.cell? ⟨w.heap.size, 0, none⟩ = some (.string nm) := by rw [ew1, World.cell?_alloc_mark]; rfl
  have r1 : w1.cell? ⟨w.heap.size, 1, none⟩ = some (.int .i64 amt) := by rw [ew1, World.cell?_alloc_mark]; rfl
  have r2 : w1.cell? ⟨w.heap.size, 2, none⟩ = some (.string by_) := by rw [ew1, World.cell?_alloc_mark]; rfl
  have hz : w.heap.size < w1.heap.size := by rw [ew1]; simp
  have HC := accSlot_any nm by_ amt w1.drew ((hT.below b1 hT.size).below (Below.refl _ _).drew (hT.below b1 hT.size).size) (by unfold maxLen; omega)
  -- the tail: one row more
  have TAIL : ∀ W, Below w1.heap.size w1 W → ∃ a' c' W', W.cell? ⟨S + 1, 0, none⟩ = some (.slice a l.length c) ∧ W.cell? ⟨w.heap.size, 0, none⟩ = some (.string nm) ∧ W.cell? ⟨w.heap.size, 1, none⟩ = some (.int .i64 amt) ∧ (Builtin.append_ #[66, 66] 66 #[.slice a l.length c, .slice (some ⟨W.heap.size, 0, none⟩) 1 1]).run Tryz.prog (W.alloc (.cells #[.string nm, .int .i64 amt] 50)) = .ok (.slice a' (l.length + 1) c') W' ∧ W'.cell? ⟨S + 1, 0, none⟩ = some (.slice a l.length c) ∧ W'.frozen? ⟨S + 1, 0, none⟩ = false ∧ RowsI w0 S slot (W'.setCell ⟨S + 1, 0, none⟩ (.slice a' (l.length + 1) c')) (l ++ [(nm, amt)]) a' c' := fun W b => by
    have hW := H1.out.below b
    obtain ⟨a', c', W', q1, q2, q3, q4⟩ := hW.more hl (nm, amt) hS
    exact ⟨a', c', W', by simp [World.cell?, hW.rv], (b.cell (p := ⟨w.heap.size, 0, none⟩) hz).trans r0, (b.cell (p := ⟨w.heap.size, 1, none⟩) hz).trans r1, q1, q2, q3, q4⟩
  have HTL : Hid _ := TAIL
  clear TAIL h h1 hT b1 hn
  by_cases e1 : slot = -1
  · subst e1
    rw [if_pos (by simp [inSlot])]
    go_enter Tryz.func76, Tryz.ntmps76
    go_wp2
    rw [← ew1]
    clear ew1
    go_quiet (fail)
    obtain ⟨a', c', W', q0, q1, q2, q3, q4, q5, q6⟩ := HTL.out (w1.drewN nq) (below_drewN' (Below.refl _ w1) nq)
    have Q3 : Hid _ := q3
    have Q6 : Hid (RowsI w0 S (-1) (W'.setCell ⟨S + 1, 0, none⟩ (.slice a' (l.length + 1) c')) (l ++ [(nm, amt)]) a' c') := q6
    generalize w1.drewN nq = W at *
    clear q3 q6 HTL HC r0 r1 r2
    go_wp2_with (at_builtin; refine wpList_append_known rfl _ _ 66 66 rfl _ _ rfl rfl _ _ Q3.out ?_)
    exact bodyPost_end (results_none rfl _ _ _) rfl ⟨rfl, a', c', Q6.out⟩
  · have e1b : (slot == -1) = false := by simpa using e1
    obtain ⟨s, es⟩ : ∃ s, slotOf nm = s := ⟨_, rfl⟩
    have hin : inSlot slot ⟨nm, amt, by_⟩ = decide (slot = s) := by simp [inSlot, e1, es]
    rw [hin]
    rw [es] at HC
    by_cases e2 : slot = s
    · subst e2
      rw [if_pos (by simp)]
      clear hin es
      go_enter Tryz.func76, Tryz.ntmps76
      go_wp2
      rw [← ew1]
      clear ew1
      go_region_law (go_simp; go_at_call 73; refine HC.mono ?_; rintro e w2 ⟨rfl, b2⟩; have b2' : Below w1.heap.size w1 w2 := ⟨b2.os, b2.tape, b2.output, b2.size, b2.block⟩; have k2 : w2.cell? ⟨S, 0, none⟩ = some (.int .i64 slot) := (b2'.cell (p := ⟨S, 0, none⟩) (World.block_lt_of_cell? w1 _ k0)).trans k0)
      all_goals
        obtain ⟨a', c', W', q0, q1, q2, q3, q4, q5, q6⟩ := HTL.out w2 b2'
        have Q3 : Hid _ := q3
        have Q6 : Hid (RowsI w0 S slot (W'.setCell ⟨S + 1, 0, none⟩ (.slice a' (l.length + 1) c')) (l ++ [(nm, amt)]) a' c') := q6
        clear q3 q6 HTL HC r0 r1 r2 b2 b2'
        go_wp2_with (at_builtin; refine wpList_append_known rfl _ _ 66 66 rfl _ _ rfl rfl _ _ Q3.out ?_)
        exact bodyPost_end (results_none rfl _ _ _) rfl ⟨rfl, a', c', Q6.out⟩
    · rw [if_neg (by simpa using e2)]
      have e2b : (slot == s) = false := by simpa using e2
      clear hin es HTL
      go_enter Tryz.func76, Tryz.ntmps76
      go_wp2
      rw [← ew1]
      clear ew1
      go_region_law (go_simp; go_at_call 73; refine HC.mono ?_; rintro e w2 ⟨rfl, b2⟩; have b2' : Below w1.heap.size w1 w2 := ⟨b2.os, b2.tape, b2.output, b2.size, b2.block⟩; have k2 : w2.cell? ⟨S, 0, none⟩ = some (.int .i64 slot) := (b2'.cell (p := ⟨S, 0, none⟩) (World.block_lt_of_cell? w1 _ k0)).trans k0)
      all_goals
        have Q6 := H1.out.below b2'
        clear HC r0 r1 r2 b2 b2'
        go_wp2
        exact bodyPost_end (results_none rfl _ _ _) rfl ⟨rfl, a, c, Q6⟩
set_option maxRecDepth 100000 in
theorem rows_any {w : World} {base N : Nat} {sv : Value} {L : List Acc} (h : BookIn w base N sv L) (hT : Tabs w) (slot : Int) : Calls Tryz.prog 40 #[.pointer (some ⟨N, 0, none⟩), .int .i64 slot] w fun e w' => ∃ a c, e = .returned (.slice a (rowsOf slot L).length c) ∧ w'.ownsRow w.heap.size 50 2 (.slice a (rowsOf slot L).length c) (rowsOf slot L).length (cells2 (rowsOf slot L)) ∧ Below w.heap.size w w' := by
  obtain ⟨w1, ew1⟩ : ∃ w1, w1 = (w.alloc (.cells #[.int .i64 slot] 3)).alloc (.cells #[.slice none 0 0] 66) := ⟨_, rfl⟩
  have b1 : Below w.heap.size w w1 := by rw [ew1]; exact ((Below.refl _ w).alloc (Nat.le_refl _) _).alloc (by simp) _
  have hl := h.fit.len
  have hR : RowsI w w.heap.size slot w1 (rowsOf slot (L.take 0)) none 0 := by
    refine ⟨b1, ?_, ?_, World.ownsRow_nil _ _ _ _⟩
    · rw [ew1, Below.heap_alloc _ _ _ (by simp)]
      exact heap_alloc_new w _
    · rw [ew1]
      have := heap_alloc_new (w.alloc (.cells #[.int .i64 slot] 3)) (.cells #[.slice none 0 0] 66)
      simpa [rowsOf] using this
  have HE := each_two (h.below b1) 76 (.pointer (some ⟨w.heap.size, 0, none⟩)) (.pointer (some ⟨w.heap.size + 1, 0, none⟩)) (fun args w => by kernel_rfl)
    (fun k W => ∃ a c, RowsI w w.heap.size slot W (rowsOf slot (L.take k)) a c)
    ⟨none, 0, hR⟩
    (fun k W hI => by
      obtain ⟨a, c, hI⟩ := hI
      exact ⟨(hI.bel.block N h.ltN).trans (b1.block N h.ltN).symm, fun g e => by
        have := (row_kind h.row e).2.1
        exact (hI.bel.block g this).trans (b1.block g this).symm⟩)
    (fun k hk W hI => by
      obtain ⟨a, c, hI⟩ := hI
      have bA : Below W.heap.size W (W.alloc (.cells #[.string L[k].nm, .int .i64 L[k].amt, .string L[k].by_] 52)) := (Below.refl _ W).alloc (Nat.le_refl _) _
      have hTW : Tabs W := hT.below hI.bel hT.size
      have hle := rowsOf_len slot (L.take k)
      rw [List.length_take] at hle
      refine (rows1_any (hI.below bA) (Nat.le_refl _) (hTW.below bA hTW.size) L[k] (h.fit.acc (List.getElem_mem hk)).1 (by omega)).mono ?_
      rintro e W' ⟨rfl, a', c', q⟩
      refine ⟨rfl, a', c', ?_⟩
      rw [List.take_succ_eq_append_getElem hk, rowsOf_snoc]
      exact q)
  rw [List.take_length] at HE
  rw [ew1] at HE
  clear h hl hR b1 ew1 hT
  go_enter Tryz.func40, Tryz.ntmps40
  go_wp2_with fail
  refine HE.mono ?_
  rintro e w2 ⟨rfl, a2, c2, h2⟩
  have k2 : w2.cell? ⟨w.heap.size + 1, 0, none⟩ = some (.slice a2 (rowsOf slot L).length c2) := by simp [World.cell?, h2.rv]
  have H2 : Hid (RowsI w w.heap.size slot w2 (rowsOf slot L) a2 c2) := h2
  clear HE h2
  go_wp2
  go_ret
  exact ⟨a2, c2, rfl, H2.out.row, H2.out.bel⟩
end Go.Proofs.YtdchnfggmkokhaaGreatDoor
