/- ClientDesk. -/
import Derived.Test.YtaakdnbaljoehaaKDuo
import Derived.Test.YtaakdnbaljoehaaKAlikeH
import Derived.Test.YtaakdnbaljoehaaKAlikeN
import Derived.Test.YtaakdnbaljoehaaKKnown
import Derived.Laws.StructEq
namespace Go.Proofs.Ytaakdnbaljoehaa
open Go.RowKit Cod
attribute [local go_sem] Oper.semAt_some
set_option linter.unusedVariables false

theorem alike_B {w0 w : World} {P R : Nat} {L L' : List CallV} (du : Du w0 w P R L L') (sy : Say L L') (n : Int) : Calls Try.prog 22 #[.pointer (some ⟨P, 0, none⟩), .pointer (some ⟨R, 0, none⟩), .int .i64 n] w fun e w' => e = .returned (.bool true) ∧ Below w.heap.size w w' := by
  cases hh : hasN L n with
  | false => exact alike_no du.d du.r sy.like hh
  | true =>
    obtain ⟨k, rfl, hk⟩ := hasN_true hh
    exact alike_has du.d du.r sy.like hk (sy.few _ (List.getElem_mem hk))
/-- A law's box of an act. -/
theorem act_box {w : World} {B : Nat} {kind nn : Int} {o1 : Int} {o2 o3 : ByteArray} {o4 : Int} {o5 : ByteArray} {o6 o7 why am : Int} {ra : Option Addr} {rows : List (ByteArray × Int)} {rc : Nat} (h : w.heap[B]? = some (.cells #[.int .i64 kind, .int .i64 nn, .int .i64 o1, .string o2, .string o3, .int .i64 o4, .string o5, .int .i64 o6, .int .i64 o7, .int .i64 why, .int .i64 am, .slice ra rows.length rc] 57 (0, 0))) :
    w.cell? ⟨B, 0, none⟩ = some (.int .i64 kind) ∧ w.cell? ⟨B, 1, none⟩ = some (.int .i64 nn) ∧ w.rangeAt B 2 [.int .i64 o1, .string o2, .string o3, .int .i64 o4, .string o5, .int .i64 o6, .int .i64 o7] ∧ w.rangeAt B 9 [.int .i64 why, .int .i64 am, .slice ra rows.length rc] := by
  refine ⟨by simp [World.cell?, h], by simp [World.cell?, h], fun j v hv => ?_, fun j v hv => ?_⟩
  · have hj : j < 7 := (List.getElem?_eq_some_iff.1 hv).1
    simp only [World.cell?, h]
    match j, hj with
    | 0, _ => simpa using hv
    | 1, _ => simpa using hv
    | 2, _ => simpa using hv
    | 3, _ => simpa using hv
    | 4, _ => simpa using hv
    | 5, _ => simpa using hv
    | 6, _ => simpa using hv
  · have hj : j < 3 := (List.getElem?_eq_some_iff.1 hv).1
    simp only [World.cell?, h]
    match j, hj with
    | 0, _ => simpa using hv
    | 1, _ => simpa using hv
    | 2, _ => simpa using hv
theorem rows_block {w : World} {a : Option Addr} {rows : List (ByteArray × Int)} (h : RowsAt w a rows.length rows) : ∀ x, a = some x → rows ≠ [] → x.block < w.heap.size := fun x e hne => by
  rcases h.2.2 with h0 | ⟨b, off, e2, hc⟩
  · exact absurd (List.eq_nil_of_length_eq_zero h0) hne
  · rw [e] at e2
    injection e2 with e2
    subst e2
    have hl : 0 < rows.length := by cases rows with | nil => exact absurd rfl hne | cons _ _ => simp
    exact World.block_lt_of_cell? w _ (hc 0 hl).1
theorem spoil_du {w0 wr : World} {P R : Nat} {L L' : List CallV} {base m j g cap B B7 : Nat} {xs : List Value} {A C : Array Value} (du : Du w0 wr P R L L') (o : wr.ownsRow base 59 2 (.slice (some ⟨g, 0, none⟩) m cap) m xs) (hj : j < m) (hb : w0.heap.size ≤ g) (a1 : Off g L) (a2 : Off g L') (qb : wr.heap[B]? = some (.cells A 57 (0, 0))) (q7 : wr.heap[B7]? = some (.cells C 28 (0, 0))) (v : Value) :
    (∃ u, wr.cell? ⟨g, j * 2 + 1, none⟩ = some u) ∧ wr.frozen? ⟨g, j * 2 + 1, none⟩ = false ∧ Du w0 (wr.setCell ⟨g, j * 2 + 1, none⟩ v) P R L L' ∧ (∃ xs', (wr.setCell ⟨g, j * 2 + 1, none⟩ v).ownsRow base 59 2 (.slice (some ⟨g, 0, none⟩) m cap) m xs') ∧ (wr.setCell ⟨g, j * 2 + 1, none⟩ v).heap[B]? = some (.cells A 57 (0, 0)) ∧ (wr.setCell ⟨g, j * 2 + 1, none⟩ v).heap[B7]? = some (.cells C 28 (0, 0)) := by
  have hl : j * 2 + 1 < xs.length := by rw [o.1]; omega
  obtain ⟨_, _, cur, hc⟩ := row_kind o (g := g) rfl
  have ne : ∀ K c t f, wr.heap[K]? = some (.cells c t f) → t ≠ 59 → K ≠ g := fun K c t f hK ht e => by
    rw [e, hc] at hK
    injection hK with hK
    injection hK with _ hK
    exact ht hK.symm
  exact ⟨⟨xs[j * 2 + 1], by rw [o.cellAt _ (by omega)]; exact List.getElem?_eq_getElem hl⟩, o.frozenAt _, du.spoil hc hb a1 a2 v, ⟨_, (o.stored _ _).1⟩, by rw [Below.heap_setCell _ _ _ _ (ne _ _ _ _ qb (by decide))]; exact qb, by rw [Below.heap_setCell _ _ _ _ (ne _ _ _ _ q7 (by decide))]; exact q7⟩
theorem letter_only (why am : Int) (ra : Option Addr) (rows : List (ByteArray × Int)) (rc : Nat) : (LetD.v ⟨0, 0, 0, ⟨0, ⟨#[]⟩, ⟨#[]⟩, 0, ⟨#[]⟩, 0, 0⟩, why, am, rows, []⟩ ra rc none 0).cells = #[.int .i64 0, .int .i64 0, .int .i64 0, .int .i64 0, .string ⟨#[]⟩, .string ⟨#[]⟩, .int .i64 0, .string ⟨#[]⟩, .int .i64 0, .int .i64 0, .int .i64 why, .int .i64 am, .slice ra rows.length rc, .slice none 0 0] := rfl
theorem letter_only2 (why am : Int) (ra : Option Addr) (rows : List (ByteArray × Int)) (rc : Nat) (ba : Option Addr) (bc : Nat) : (LetD.v ⟨0, 0, 0, ⟨0, ⟨#[]⟩, ⟨#[]⟩, 0, ⟨#[]⟩, 0, 0⟩, why, am, rows, []⟩ ra rc ba bc).cells = #[.int .i64 0, .int .i64 0, .int .i64 0, .int .i64 0, .string ⟨#[]⟩, .string ⟨#[]⟩, .int .i64 0, .string ⟨#[]⟩, .int .i64 0, .int .i64 0, .int .i64 why, .int .i64 am, .slice ra rows.length rc, .slice ba 0 bc] := rfl
set_option maxRecDepth 100000 in
set_option maxHeartbeats 8000000 in
theorem clientDesk_any (a : Option Addr) (n cap : Nat) (l : List ActV) (w : World) (h : ActsAt w a n l) (hm : n ≤ maxLen) : Calls Try.prog 5 #[.slice a n cap] w fun e w' => e = .returned (.bool true) ∧ Below w.heap.size w w' := by
  have HA : Hid (ActsAt w a n l) := h
  have HM : Hid (n ≤ maxLen) := hm
  have HN := desk_new w
  have HLN : Hid (n = l.length) := h.1.1
  clear h hm
  go_enter Try.func5, Try.ntmps5
  go_wp2_with fail
  refine HN.mono ?_
  clear HN
  rintro e w1 ⟨rfl, d1, b1⟩
  have b2 : Below w1.heap.size w1 (w1.alloc (.cells #[.slice none 0 0] 55)) := (Below.refl _ w1).alloc (Nat.le_refl _) _
  have g2 := heap_alloc_new w1 (.cells #[.slice none 0 0] 55)
  obtain ⟨w2, e2⟩ : ∃ w2, w1.alloc (.cells #[.slice none 0 0] 55) = w2 := ⟨_, rfl⟩
  rw [e2] at b2 g2
  have du2 : Du w w2 w.heap.size w1.heap.size [] [] := ⟨d1.below b2, ⟨⟨_, g2, World.ownsRow_nil _ _ _ _⟩, fun c hc => (by cases hc), b1.size, by simp⟩, b1.trans (b2.mono b1.size)⟩
  have DU2 : Hid (∃ L L', Du w w2 w.heap.size w1.heap.size L L' ∧ Say L L') := ⟨[], [], du2, Say.nil⟩
  obtain ⟨P, eP⟩ : ∃ P, w.heap.size = P := ⟨_, rfl⟩
  obtain ⟨R, eR⟩ : ∃ R, w1.heap.size = R := ⟨_, rfl⟩
  rw [eP, eR] at DU2
  have E2 : Hid (_ = w2) := e2
  clear d1 b1 b2 g2 du2 e2
  rw [eP]
  go_wp2_with fail
  try rw [show _ = w2 from E2.out]
  try rw [eR]
  clear E2 eR
  go_loopw [5] (fun y wr => ∃ i : Nat, i ≤ n ∧ y = .int .i64 i ∧ Hid (∃ L L', Du w wr P R L L' ∧ Say L L')) (fun y _ => n - (intOf y).toNat)
  case atStart => exact ⟨0, Nat.zero_le _, rfl, DU2⟩
  case round =>
    clear DU2
    obtain ⟨i, hi, rfl, hD⟩ := hrel
    by_cases hin : i < n
    · by_cases h100 : i < 100
      · obtain ⟨L, L', du, sy⟩ := hD.out
        have hil : i < l.length := by have := HLN.out; omega
        have ain := (HA.out.2 l[i] (List.getElem_mem hil))
        obtain ⟨gb, off, rfl, hc⟩ := RecsAt.at HA.out.1 hil
        have lgb : gb < w.heap.size := World.block_lt_of_cell? w _ (hc 0 _ rfl)
        generalize l[i] = act at ain hc
        obtain ⟨kind, nn, ⟨o1, o2, o3, o4, o5, o6, o7⟩, why, am, rows, ra, rc⟩ := act
        have RG : Hid (wr.rangeAt gb (off + i * 12) [.int .i64 kind, .int .i64 nn, .int .i64 o1, .string o2, .string o3, .int .i64 o4, .string o5, .int .i64 o6, .int .i64 o7, .int .i64 why, .int .i64 am, .slice ra rows.length rc]) := fun j v hv => (du.b.cell (p := ⟨gb, off + i * 12 + j, none⟩) lgb).trans (hc j v hv)
        have b6 : Below wr.heap.size wr (wr.alloc (.cells #[.int .i64 kind, .int .i64 nn, .int .i64 o1, .string o2, .string o3, .int .i64 o4, .string o5, .int .i64 o6, .int .i64 o7, .int .i64 why, .int .i64 am, .slice ra rows.length rc] 57)) := (Below.refl _ wr).alloc (Nat.le_refl _) _
        have q6 := heap_alloc_new wr (.cells #[.int .i64 kind, .int .i64 nn, .int .i64 o1, .string o2, .string o3, .int .i64 o4, .string o5, .int .i64 o6, .int .i64 o7, .int .i64 why, .int .i64 am, .slice ra rows.length rc] 57)
        obtain ⟨w6, e6⟩ : ∃ w6, wr.alloc (.cells #[.int .i64 kind, .int .i64 nn, .int .i64 o1, .string o2, .string o3, .int .i64 o4, .string o5, .int .i64 o6, .int .i64 o7, .int .i64 why, .int .i64 am, .slice ra rows.length rc] 57) = w6 := ⟨_, rfl⟩
        rw [e6] at b6 q6
        obtain ⟨B, eB⟩ : ∃ B, wr.heap.size = B := ⟨_, rfl⟩
        rw [eB] at q6
        have du6 := du.below b6
        have RW : Hid (RowsAt w ra rows.length rows) := ain.rows
        have RN : Hid (ra = none → rc = 0) := ain.nil
        have RF : Hid (rows.length * 24 ≤ 140737488355328) := ain.few
        have DU : Hid (Du w w6 P R L L') := du6
        have SY : Hid (Say L L') := sy
        have Q6 : Hid (w6.heap[B]? = some (.cells #[.int .i64 kind, .int .i64 nn, .int .i64 o1, .string o2, .string o3, .int .i64 o4, .string o5, .int .i64 o6, .int .i64 o7, .int .i64 why, .int .i64 am, .slice ra rows.length rc] 57 (0, 0))) := q6
        have c0 := (act_box q6).1
        have hii : (i : Int) < (n : Int) := by omega
        have hi1 : (i : Int) < 100 := by omega
        have HI : Hid (i + 1 ≤ n) := hin
        have E6 : Hid (_ = w6) := e6
        have EB : Hid (wr.heap.size = B) := eB
        clear hD du sy hil ain hc lgb b6 q6 du6 hi hin h100 e6
        rcases (by omega : (kind = 0 ∨ kind = 1) ∨ (kind = 2 ∨ kind = 3) ∨ kind = 4 ∨ (kind ≠ 0 ∧ kind ≠ 1 ∧ kind ≠ 2 ∧ kind ≠ 3 ∧ kind ≠ 4)) with hk | hk | hk | ⟨n0, n1, n2, n3, n4⟩
        · have hms : ((kind == 0) = true ∧ (kind == 1) = false) ∨ ((kind == 0) = false ∧ (kind == 1) = true) := by rcases hk with rfl | rfl <;> decide
          clear hk
          rcases hms with ⟨m0, m1⟩ | ⟨m0, m1⟩
          all_goals
            go_wp2_with (refine wpList_load_mid rfl 57 (.tmp 27) rfl gb (off + i * 12) rfl [.int .i64 kind, .int .i64 nn, .int .i64 o1, .string o2, .string o3, .int .i64 o4, .string o5, .int .i64 o6, .int .i64 o7, .int .i64 why, .int .i64 am, .slice ra rows.length rc] _ RG.out Try.underlying57 rfl (by kernel_rfl) ?_)
            try rw [show _ = w6 from E6.out]
            clear c0 RG E6 m0 m1
            refine wp_region_calm (S := fun W => W.heap[B]? = some (.cells #[.int .i64 kind, .int .i64 nn, .int .i64 o1, .string o2, .string o3, .int .i64 o4, .string o5, .int .i64 o6, .int .i64 o7, .int .i64 why, .int .i64 am, .slice ra rows.length rc] 57 (0, 0))) (by kernel_rfl) Q6.out (fun hHeld => ?_)
            refine take_run (i := 0) (oi := { dst := some 34, op := Go.Op.move (Go.Operand.tmp 3), type := 24, pos := "law.go:125", after := #[], guard := none }) (v := .pointer (some ⟨P, 0, none⟩)) rfl (by kernel_rfl) (by kernel_rfl) (by kernel_rfl) (fun _ _ _ h => h) (by rfl) ?_ hHeld ?_
            · (intro wq hSw; go_simp <;> with_reducible rfl)
            try simp only [Act.put, List.setIfInBounds_toArray, List.set_cons_zero, List.set_cons_succ]
            refine take_run (i := 1) (oi := { dst := some 35, op := Go.Op.fieldAddr 57 (Go.Operand.tmp 6) 2, type := 0, pos := "law.go:125", after := #[], guard := none }) (v := .pointer (some ⟨B, 2, none⟩)) rfl (by kernel_rfl) (by kernel_rfl) (by kernel_rfl) (fun _ _ _ h => h) (by rfl) ?_ hHeld ?_
            · (intro wq hSw; go_simp <;> with_reducible rfl)
            try simp only [Act.put, List.setIfInBounds_toArray, List.set_cons_zero, List.set_cons_succ]
            refine take_mid (i := 2) (oi := { dst := some 36, op := Go.Op.load 23 (Go.Operand.tmp 35), type := 23, pos := "law.go:125", after := #[{ on := 1, ground := Go.Ground.data }], guard := none }) rfl (by kernel_rfl) (by kernel_rfl) (by kernel_rfl) 23 (.tmp 35) B 2 [.int .i64 o1, .string o2, .string o3, .int .i64 o4, .string o5, .int .i64 o6, .int .i64 o7] _ (fun _ _ _ h => h) (by rfl) rfl (by go_simp <;> with_reducible rfl) (fun W hW => (act_box hW).2.2.1) Try.underlying23 rfl (by kernel_rfl) hHeld ?_
            try simp only [Act.put, List.setIfInBounds_toArray, List.set_cons_zero, List.set_cons_succ]
            refine take_run (i := 4) (oi := { dst := some 38, op := Go.Op.move (Go.Operand.tmp 4), type := 52, pos := "law.go:125", after := #[], guard := none }) (v := .pointer (some ⟨R, 0, none⟩)) rfl (by kernel_rfl) (by kernel_rfl) (by kernel_rfl) (fun _ _ _ h => h) (by rfl) ?_ hHeld ?_
            · (intro wq hSw; go_simp <;> with_reducible rfl)
            try simp only [Act.put, List.setIfInBounds_toArray, List.set_cons_zero, List.set_cons_succ]
            refine take_run (i := 5) (oi := { dst := some 39, op := Go.Op.fieldAddr 57 (Go.Operand.tmp 6) 2, type := 0, pos := "law.go:125", after := #[], guard := none }) (v := .pointer (some ⟨B, 2, none⟩)) rfl (by kernel_rfl) (by kernel_rfl) (by kernel_rfl) (fun _ _ _ h => h) (by rfl) ?_ hHeld ?_
            · (intro wq hSw; go_simp <;> with_reducible rfl)
            try simp only [Act.put, List.setIfInBounds_toArray, List.set_cons_zero, List.set_cons_succ]
            refine take_mid (i := 6) (oi := { dst := some 40, op := Go.Op.load 23 (Go.Operand.tmp 39), type := 23, pos := "law.go:125", after := #[{ on := 5, ground := Go.Ground.data }], guard := none }) rfl (by kernel_rfl) (by kernel_rfl) (by kernel_rfl) 23 (.tmp 39) B 2 [.int .i64 o1, .string o2, .string o3, .int .i64 o4, .string o5, .int .i64 o6, .int .i64 o7] _ (fun _ _ _ h => h) (by rfl) rfl (by go_simp <;> with_reducible rfl) (fun W hW => (act_box hW).2.2.1) Try.underlying23 rfl (by kernel_rfl) hHeld ?_
            try simp only [Act.put, List.setIfInBounds_toArray, List.set_cons_zero, List.set_cons_succ]
            refine take_call (i := 3) (oi := { dst := some 37, op := Go.Op.call { callee := Go.Callee.value (Go.Operand.func 9), args := #[Go.Operand.tmp 34, Go.Operand.tmp 36], argTypes := #[24, 23] }, type := 3, pos := "law.go:125", after := #[{ on := 0, ground := Go.Ground.data }, { on := 2, ground := Go.Ground.data }], guard := none }) rfl (by kernel_rfl) (by rfl) 9 _ (by go_simp <;> with_reducible rfl) ?_
            refine (desk_begin (DU.out.drew).d ⟨o1, o2, o3, o4, o5, o6, o7⟩).mono ?_
            rintro e x1 ⟨he, hd1, on1, bb1⟩
            obtain ⟨bv, ebv⟩ : ∃ bv, (beginL L ⟨o1, o2, o3, o4, o5, o6, o7⟩).1 = bv := ⟨_, rfl⟩
            rw [ebv] at he
            subst he
            have du1 := (DU.out.drew).left hd1 on1 (by decide) (by decide) (by decide) bb1
            have s1 := on1 _ _ _ _ hHeld (by decide)
            refine ⟨_, rfl, s1, ?_⟩
            try simp only [Act.put, List.setIfInBounds_toArray, List.set_cons_zero, List.set_cons_succ]
            refine take_call (i := 7) (oi := { dst := some 41, op := Go.Op.call { callee := Go.Callee.value (Go.Operand.func 20), args := #[Go.Operand.tmp 38, Go.Operand.tmp 40], argTypes := #[52, 23] }, type := 3, pos := "law.go:125", after := #[{ on := 4, ground := Go.Ground.data }, { on := 6, ground := Go.Ground.data }, { on := 3, ground := Go.Ground.chain }], guard := none }) rfl (by kernel_rfl) (by rfl) 20 _ (by go_simp <;> with_reducible rfl) ?_
            refine (rdesk_begin du1.r ⟨o1, o2, o3, o4, o5, o6, o7⟩).mono ?_
            rintro e x2 ⟨he, hd2, on2, bb2⟩
            rw [← (SY.out.begin ⟨o1, o2, o3, o4, o5, o6, o7⟩).1, ebv] at he
            subst he
            have du2 := du1.right hd2 on2 (by decide) (by decide) (by decide) bb2
            have s2 := on2 _ _ _ _ s1 (by decide)
            refine ⟨_, rfl, s2, ?_⟩
            try simp only [Act.put, List.setIfInBounds_toArray, List.set_cons_zero, List.set_cons_succ]
            refine take_run (i := 8) (oi := { dst := some 42, op := Go.Op.binOp Go.BinOp.neq 3 (Go.Operand.tmp 37) (Go.Operand.tmp 41) 3, type := 4, pos := "law.go:125", after := #[{ on := 3, ground := Go.Ground.data }, { on := 7, ground := Go.Ground.data }], guard := none }) (v := .bool false) rfl (by kernel_rfl) (by kernel_rfl) (by kernel_rfl) (fun _ _ _ h => h) (by rfl) ?_ s2 ?_
            · (intro wq hSw; go_simp <;> with_reducible rfl)
            try simp only [Act.put, List.setIfInBounds_toArray, List.set_cons_zero, List.set_cons_succ]
            refine wpAnyH_done (by kernel_rfl) ?_ _
            have DU9 : Hid (Du w x2 P R (beginL L ⟨o1, o2, o3, o4, o5, o6, o7⟩).2 (beginL L' ⟨o1, o2, o3, o4, o5, o6, o7⟩).2) := du2
            have SY9 : Hid (Say (beginL L ⟨o1, o2, o3, o4, o5, o6, o7⟩).2 (beginL L' ⟨o1, o2, o3, o4, o5, o6, o7⟩).2) := (SY.out.begin ⟨o1, o2, o3, o4, o5, o6, o7⟩).2
            have Q9 : Hid (x2.heap[B]? = some (.cells #[.int .i64 kind, .int .i64 nn, .int .i64 o1, .string o2, .string o3, .int .i64 o4, .string o5, .int .i64 o6, .int .i64 o7, .int .i64 why, .int .i64 am, .slice ra rows.length rc] 57 (0, 0))) := s2
            clear hHeld du1 s1 hd1 on1 bb1 hd2 on2 bb2 du2 s2 DU SY Q6 ebv
            have HAl := alike_B DU9.out SY9.out nn
            have cn := (act_box Q9.out).2.1
            have DU9' : Hid _ := DU9
            go_wp2_with fail
            refine HAl.mono ?_
            rintro e w10 ⟨rfl, b10⟩
            have D10 : Hid (∃ L L', Du w w10 P R L L' ∧ Say L L') := ⟨_, _, DU9.out.below b10, SY9.out⟩
            clear HAl cn b10 DU9 SY9 Q9
            go_wp2
            go_roundw
            case rel => exact ⟨i + 1, HI.out, by go_num, D10⟩
            case measure => have := HI.out; simp only [intOf]; omega
        · have hms : ((kind == 0) = false ∧ (kind == 1) = false) ∧ (((kind == 2) = true ∧ (kind == 3) = false) ∨ ((kind == 2) = false ∧ (kind == 3) = true)) := by rcases hk with rfl | rfl <;> decide
          clear hk
          obtain ⟨⟨m0, m1⟩, hms⟩ := hms
          rcases hms with ⟨m2, m3⟩ | ⟨m2, m3⟩
          all_goals
            have HGV := given_any ⟨0, 0, 0, ⟨0, ⟨#[]⟩, ⟨#[]⟩, 0, ⟨#[]⟩, 0, 0⟩, why, am, rows, []⟩ ra rc none 0 w6 ⟨(RW.out.below (DU.out.b)), seen_none w6, fun _ => rfl⟩ RN.out RF.out (by simp)
            rw [letter_only] at HGV
            have r9 : Hid (w6.rangeAt B 9 [.int .i64 why, .int .i64 am, .slice ra rows.length rc]) := (act_box Q6.out).2.2.2
            have BLD : ∀ (W : World), (Instr.build 43 #[(4, .agg #[.int .i64 why, .int .i64 am, .slice ra rows.length rc])]).run Try.prog W = .ok (.agg #[.int .i64 0, .int .i64 0, .int .i64 0, .int .i64 0, .string ⟨#[]⟩, .string ⟨#[]⟩, .int .i64 0, .string ⟨#[]⟩, .int .i64 0, .int .i64 0, .int .i64 why, .int .i64 am, .slice ra rows.length rc, .slice none 0 0]) W := fun W => by kernel_rfl
            go_wp2_with (first | (refine wpList_load_mid rfl 57 (.tmp 27) rfl gb (off + i * 12) rfl [.int .i64 kind, .int .i64 nn, .int .i64 o1, .string o2, .string o3, .int .i64 o4, .string o5, .int .i64 o6, .int .i64 o7, .int .i64 why, .int .i64 am, .slice ra rows.length rc] _ RG.out Try.underlying57 rfl (by kernel_rfl) ?_) | (refine wpList_load_mid rfl 28 (.tmp 46) rfl B 9 rfl [.int .i64 why, .int .i64 am, .slice ra rows.length rc] _ r9.out Try.underlying28 rfl (by kernel_rfl) ?_))
            try rw [show _ = w6 from E6.out]
            clear c0 RG E6 m0 m1 m2 m3 BLD r9
            refine HGV.mono ?_
            rintro e w7 ⟨ra', rc', ba', bc', he, own7, b7⟩
            rw [letter_only2] at he
            subst he
            have row7 : w7.ownsRow w6.heap.size 59 2 (.slice ra' rows.length rc') rows.length (rowCells rows) := own7.rows
            have du7 := DU.out.below b7
            have q67 := (b7.block _ (Array.getElem?_eq_some_iff.1 Q6.out).1).trans Q6.out
            have b8 : Below w7.heap.size w7 (w7.alloc (.cells #[.int .i64 why, .int .i64 am, .slice ra' rows.length rc'] 28)) := (Below.refl _ w7).alloc (Nat.le_refl _) _
            have q8 := heap_alloc_new w7 (.cells #[.int .i64 why, .int .i64 am, .slice ra' rows.length rc'] 28)
            obtain ⟨w8, e8⟩ : ∃ w8, w7.alloc (.cells #[.int .i64 why, .int .i64 am, .slice ra' rows.length rc'] 28) = w8 := ⟨_, rfl⟩
            rw [e8] at b8 q8
            obtain ⟨B7, eB7⟩ : ∃ B7, w7.heap.size = B7 := ⟨_, rfl⟩
            rw [eB7] at q8
            have DU8 : Hid (Du w w8 P R L L') := du7.below b8
            have Q68 : Hid (w8.heap[B]? = some (.cells #[.int .i64 kind, .int .i64 nn, .int .i64 o1, .string o2, .string o3, .int .i64 o4, .string o5, .int .i64 o6, .int .i64 o7, .int .i64 why, .int .i64 am, .slice ra rows.length rc] 57 (0, 0))) := (b8.block _ (Array.getElem?_eq_some_iff.1 q67).1).trans q67
            have Q8 : Hid (w8.heap[B7]? = some (.cells #[.int .i64 why, .int .i64 am, .slice ra' rows.length rc'] 28 (0, 0))) := q8
            have ROW : Hid (w8.ownsRow w6.heap.size 59 2 (.slice ra' rows.length rc') rows.length (rowCells rows)) := ownsB row7 b8
            have RN7 : Hid (ra' = none → rc' = 0) := by
              obtain ⟨a, c, e, hn, _⟩ := row_form' row7
              injection e with e1 _ e3
              subst e1 e3
              exact hn
            have OFF : Hid (∀ x, ra' = some x → Off x.block L ∧ Off x.block L' ∧ x.block < w8.heap.size ∧ w.heap.size ≤ x.block) := fun x e => by
              have hk := row_kind row7 (g := x.block) (by rw [e]; rfl)
              have ho := DU.out.off hk.1
              exact ⟨ho.1, ho.2, Nat.lt_of_lt_of_le hk.2.1 b8.size, Nat.le_trans DU.out.b.size hk.1⟩
            have RL : Hid (rows.length ≤ 140737488355328) := by
              have := RF.out
              show _ ≤ _
              omega
            have E8 : Hid (_ = w8) := e8
            have FLD : ∀ W : World, (Instr.field 46 (.agg #[.int .i64 0, .int .i64 0, .int .i64 0, .int .i64 0, .string ⟨#[]⟩, .string ⟨#[]⟩, .int .i64 0, .string ⟨#[]⟩, .int .i64 0, .int .i64 0, .int .i64 why, .int .i64 am, .slice ra' rows.length rc', .slice ba' 0 bc']) 4).run Try.prog W = .ok (.agg #[.int .i64 why, .int .i64 am, .slice ra' rows.length rc']) W := fun W => by kernel_rfl
            clear HGV own7 b7 row7 du7 q67 b8 q8 e8 DU Q6
            go_wp2_with fail
            try rw [show _ = w8 from E8.out]
            try rw [eB7]
            clear E8 eB7 FLD
            clear eB
            refine wp_region_calm (S := fun W => W.heap[B]? = some (.cells #[.int .i64 kind, .int .i64 nn, .int .i64 o1, .string o2, .string o3, .int .i64 o4, .string o5, .int .i64 o6, .int .i64 o7, .int .i64 why, .int .i64 am, .slice ra rows.length rc] 57 (0, 0)) ∧ W.heap[B7]? = some (.cells #[.int .i64 why, .int .i64 am, .slice ra' rows.length rc'] 28 (0, 0))) (by kernel_rfl) ⟨Q68.out, Q8.out⟩ (fun hHeld => ?_)
            refine take_run (i := 0) (oi := { dst := some 51, op := Go.Op.move (Go.Operand.tmp 3), type := 24, pos := "law.go:130", after := #[], guard := none }) (v := .pointer (some ⟨P, 0, none⟩)) rfl (by kernel_rfl) (by kernel_rfl) (by kernel_rfl) (fun _ _ _ h => h) (by rfl) ?_ hHeld ?_
            · (intro wq hSw; go_simp <;> with_reducible rfl)
            try simp only [Act.put, List.setIfInBounds_toArray, List.set_cons_zero, List.set_cons_succ]
            refine take_run (i := 1) (oi := { dst := some 52, op := Go.Op.fieldAddr 57 (Go.Operand.tmp 6) 1, type := 0, pos := "law.go:130", after := #[], guard := none }) (v := .pointer (some ⟨B, 1, none⟩)) rfl (by kernel_rfl) (by kernel_rfl) (by kernel_rfl) (fun _ _ _ h => h) (by rfl) ?_ hHeld ?_
            · (intro wq hSw; go_simp <;> with_reducible rfl)
            try simp only [Act.put, List.setIfInBounds_toArray, List.set_cons_zero, List.set_cons_succ]
            refine take_run (i := 2) (oi := { dst := some 53, op := Go.Op.load 3 (Go.Operand.tmp 52), type := 3, pos := "law.go:130", after := #[{ on := 1, ground := Go.Ground.data }], guard := none }) (v := .int .i64 nn) rfl (by kernel_rfl) (by kernel_rfl) (by kernel_rfl) (fun _ _ _ h => h) (by rfl) ?_ hHeld ?_
            · (intro wq hSw; have cn := (act_box hSw.1).2.1; go_simp <;> with_reducible rfl)
            try simp only [Act.put, List.setIfInBounds_toArray, List.set_cons_zero, List.set_cons_succ]
            refine take_row (i := 3) (oi := { dst := some 54, op := Go.Op.load 28 (Go.Operand.tmp 7), type := 28, pos := "law.go:130", after := #[], guard := none }) rfl (by kernel_rfl) (by kernel_rfl) (by kernel_rfl) 28 (.tmp 7) B7 28 #[.int .i64 why, .int .i64 am, .slice ra' rows.length rc'] (0, 0) _ (fun _ _ _ h => h) (by rfl) rfl (by go_simp <;> with_reducible rfl) (fun W hW => hW.2) Try.underlying28 rfl (by kernel_rfl) hHeld ?_
            try simp only [Act.put, List.setIfInBounds_toArray, List.set_cons_zero, List.set_cons_succ]
            refine take_run (i := 5) (oi := { dst := some 56, op := Go.Op.move (Go.Operand.tmp 4), type := 52, pos := "law.go:130", after := #[], guard := none }) (v := .pointer (some ⟨R, 0, none⟩)) rfl (by kernel_rfl) (by kernel_rfl) (by kernel_rfl) (fun _ _ _ h => h) (by rfl) ?_ hHeld ?_
            · (intro wq hSw; go_simp <;> with_reducible rfl)
            try simp only [Act.put, List.setIfInBounds_toArray, List.set_cons_zero, List.set_cons_succ]
            refine take_run (i := 6) (oi := { dst := some 57, op := Go.Op.fieldAddr 57 (Go.Operand.tmp 6) 1, type := 0, pos := "law.go:130", after := #[], guard := none }) (v := .pointer (some ⟨B, 1, none⟩)) rfl (by kernel_rfl) (by kernel_rfl) (by kernel_rfl) (fun _ _ _ h => h) (by rfl) ?_ hHeld ?_
            · (intro wq hSw; go_simp <;> with_reducible rfl)
            try simp only [Act.put, List.setIfInBounds_toArray, List.set_cons_zero, List.set_cons_succ]
            refine take_run (i := 7) (oi := { dst := some 58, op := Go.Op.load 3 (Go.Operand.tmp 57), type := 3, pos := "law.go:130", after := #[{ on := 6, ground := Go.Ground.data }], guard := none }) (v := .int .i64 nn) rfl (by kernel_rfl) (by kernel_rfl) (by kernel_rfl) (fun _ _ _ h => h) (by rfl) ?_ hHeld ?_
            · (intro wq hSw; have cn := (act_box hSw.1).2.1; go_simp <;> with_reducible rfl)
            try simp only [Act.put, List.setIfInBounds_toArray, List.set_cons_zero, List.set_cons_succ]
            refine take_run (i := 8) (oi := { dst := some 59, op := Go.Op.fieldAddr 57 (Go.Operand.tmp 6) 3, type := 0, pos := "law.go:130", after := #[], guard := none }) (v := .pointer (some ⟨B, 9, none⟩)) rfl (by kernel_rfl) (by kernel_rfl) (by kernel_rfl) (fun _ _ _ h => h) (by rfl) ?_ hHeld ?_
            · (intro wq hSw; go_simp <;> with_reducible rfl)
            try simp only [Act.put, List.setIfInBounds_toArray, List.set_cons_zero, List.set_cons_succ]
            refine take_mid (i := 9) (oi := { dst := some 60, op := Go.Op.load 28 (Go.Operand.tmp 59), type := 28, pos := "law.go:130", after := #[{ on := 8, ground := Go.Ground.data }], guard := none }) rfl (by kernel_rfl) (by kernel_rfl) (by kernel_rfl) 28 (.tmp 59) B 9 [.int .i64 why, .int .i64 am, .slice ra rows.length rc] _ (fun _ _ _ h => h) (by rfl) rfl (by go_simp <;> with_reducible rfl) (fun W hW => (act_box hW.1).2.2.2) Try.underlying28 rfl (by kernel_rfl) hHeld ?_
            try simp only [Act.put, List.setIfInBounds_toArray, List.set_cons_zero, List.set_cons_succ]
            refine take_call (i := 4) (oi := { dst := some 55, op := Go.Op.call { callee := Go.Callee.value (Go.Operand.func 10), args := #[Go.Operand.tmp 51, Go.Operand.tmp 53, Go.Operand.tmp 54], argTypes := #[24, 3, 28] }, type := 4, pos := "law.go:130", after := #[{ on := 0, ground := Go.Ground.data }, { on := 2, ground := Go.Ground.data }, { on := 3, ground := Go.Ground.data }], guard := none }) rfl (by kernel_rfl) (by rfl) 10 _ (by go_simp <;> with_reducible rfl) ?_
            refine (desk_hearB (DU8.out.drew).d nn why am ra' rc' rows ((rows_owned ROW.out rfl RL.out).below (Below.refl _ w8).drew) RN7.out RF.out (DU8.out.drew).b.size).mono ?_
            rintro e x1 ⟨L2, he, hd1, on1, bb1, ht1, ho1⟩
            obtain ⟨bv, ebv⟩ : ∃ bv, hearOk L nn = bv := ⟨_, rfl⟩
            rw [ebv] at he
            subst he
            have du1 := (DU8.out.drew).left hd1 on1 (by decide) (by decide) (by decide) bb1
            have s1 : x1.heap[B]? = some (.cells #[.int .i64 kind, .int .i64 nn, .int .i64 o1, .string o2, .string o3, .int .i64 o4, .string o5, .int .i64 o6, .int .i64 o7, .int .i64 why, .int .i64 am, .slice ra rows.length rc] 57 (0, 0)) ∧ x1.heap[B7]? = some (.cells #[.int .i64 why, .int .i64 am, .slice ra' rows.length rc'] 28 (0, 0)) := ⟨on1 _ _ _ _ hHeld.1 (by decide), on1 _ _ _ _ hHeld.2 (by decide)⟩
            refine ⟨_, rfl, s1, ?_⟩
            try simp only [Act.put, List.setIfInBounds_toArray, List.set_cons_zero, List.set_cons_succ]
            refine take_call (i := 10) (oi := { dst := some 61, op := Go.Op.call { callee := Go.Callee.value (Go.Operand.func 21), args := #[Go.Operand.tmp 56, Go.Operand.tmp 58, Go.Operand.tmp 60], argTypes := #[52, 3, 28] }, type := 4, pos := "law.go:130", after := #[{ on := 5, ground := Go.Ground.data }, { on := 7, ground := Go.Ground.data }, { on := 9, ground := Go.Ground.data }, { on := 4, ground := Go.Ground.chain }], guard := none }) rfl (by kernel_rfl) (by rfl) 21 _ (by go_simp <;> with_reducible rfl) ?_
            refine (rdesk_hearB du1.r nn why am ra rc rows (RW.out.below du1.b) RN.out RF.out (rows_block RW.out) du1.b.size).mono ?_
            rintro e x2 ⟨L2', he, hd2, on2, bb2, ht2, ho2⟩
            rw [← SY.out.ok, ebv] at he
            subst he
            have du2 := du1.right hd2 on2 (by decide) (by decide) (by decide) bb2
            have s2 : x2.heap[B]? = some (.cells #[.int .i64 kind, .int .i64 nn, .int .i64 o1, .string o2, .string o3, .int .i64 o4, .string o5, .int .i64 o6, .int .i64 o7, .int .i64 why, .int .i64 am, .slice ra rows.length rc] 57 (0, 0)) ∧ x2.heap[B7]? = some (.cells #[.int .i64 why, .int .i64 am, .slice ra' rows.length rc'] 28 (0, 0)) := ⟨on2 _ _ _ _ s1.1 (by decide), on2 _ _ _ _ s1.2 (by decide)⟩
            refine ⟨_, rfl, s2, ?_⟩
            try simp only [Act.put, List.setIfInBounds_toArray, List.set_cons_zero, List.set_cons_succ]
            refine take_run (i := 11) (oi := { dst := some 62, op := Go.Op.binOp Go.BinOp.neq 4 (Go.Operand.tmp 55) (Go.Operand.tmp 61) 4, type := 4, pos := "law.go:130", after := #[{ on := 4, ground := Go.Ground.data }, { on := 10, ground := Go.Ground.data }], guard := none }) (v := .bool false) rfl (by kernel_rfl) (by kernel_rfl) (by kernel_rfl) (fun _ _ _ h => h) (by rfl) ?_ s2 ?_
            · (intro wq hSw; go_simp <;> with_reducible rfl)
            try simp only [Act.put, List.setIfInBounds_toArray, List.set_cons_zero, List.set_cons_succ]
            refine wpAnyH_done (by kernel_rfl) ?_ _
            have SY9 : Hid (Say L2 L2') := SY.out.hear RF.out ht1 ht2 ho1 ho2
            have OFF9 : Hid (∀ x, ra' = some x → Off x.block L2 ∧ Off x.block L2' ∧ w.heap.size ≤ x.block) := fun x e => by
              obtain ⟨f1, f2, f3, f4⟩ := OFF.out x e
              exact ⟨f1.hear f3 ht1, f2.hear (Nat.lt_of_lt_of_le f3 bb1.size) ht2, f4⟩
            have ROW9 : Hid (∃ xs, x2.ownsRow w6.heap.size 59 2 (.slice ra' rows.length rc') rows.length xs) := ⟨_, ownsT (ownsT (ownsB ROW.out (Below.refl _ w8).drew) on1 (by decide)) on2 (by decide)⟩
            have DU0 : Hid (Du w x2 P R L2 L2') := du2
            have Q0 : Hid (x2.heap[B]? = some (.cells #[.int .i64 kind, .int .i64 nn, .int .i64 o1, .string o2, .string o3, .int .i64 o4, .string o5, .int .i64 o6, .int .i64 o7, .int .i64 why, .int .i64 am, .slice ra rows.length rc] 57 (0, 0))) := s2.1
            have Q1 : Hid (x2.heap[B7]? = some (.cells #[.int .i64 why, .int .i64 am, .slice ra' rows.length rc'] 28 (0, 0))) := s2.2
            have hmm : rows.length ≤ 140737488355328 := RL.out
            clear hHeld du1 s1 hd1 on1 bb1 ht1 ho1 hd2 on2 bb2 ht2 ho2 du2 s2 DU8 SY Q68 Q8 ROW RN7 OFF RL RW RN RF ebv EB
            obtain ⟨m, hgm⟩ : ∃ m, rows.length = m := ⟨_, rfl⟩
            have GM : Hid (rows.length = m) := hgm
            rw [hgm] at ROW9 hmm ⊢
            clear hgm
            go_wp2_with fail
            go_loopw [8] (fun y wr => ∃ j : Nat, j ≤ m ∧ y = .int .i64 j ∧ Hid (Du w wr P R L2 L2') ∧ Hid (∃ xs, wr.ownsRow w6.heap.size 59 2 (.slice ra' m rc') m xs) ∧ Hid (wr.heap[B]? = some (.cells #[.int .i64 kind, .int .i64 nn, .int .i64 o1, .string o2, .string o3, .int .i64 o4, .string o5, .int .i64 o6, .int .i64 o7, .int .i64 why, .int .i64 am, .slice ra rows.length rc] 57 (0, 0))) ∧ Hid (wr.heap[B7]? = some (.cells #[.int .i64 why, .int .i64 am, .slice ra' rows.length rc'] 28 (0, 0)))) (fun y _ => m - (intOf y).toNat)
            case atStart => exact ⟨0, Nat.zero_le _, rfl, DU0, ROW9, Q0, Q1⟩
            case round =>
              clear DU0 ROW9 Q0 Q1
              obtain ⟨j, hj, rfl, hDu, hRo, hQ0, hQ1⟩ := hrel
              have r2n : wr.cell? ⟨B7, 2, none⟩ = some (.slice ra' m rc') := by simp [World.cell?, hQ1.out, GM.out]
              by_cases hlt : j < m
              · obtain ⟨xs, ho⟩ := hRo.out
                rcases ho.2 with ⟨e1, e2⟩ | ⟨g5, cap5, cur5, e5, _⟩
                · omega
                · injection e5 with e5 _ e6
                  subst e5
                  obtain ⟨f1, f2, f4⟩ := OFF9.out _ rfl
                  obtain ⟨⟨u, hu⟩, hz, hdu', ho', hq0', hq1'⟩ := spoil_du hDu.out ho hlt f4 f1 f2 hQ0.out hQ1.out (.int .i64 99)
                  have HJ : Hid (j + 1 ≤ m) := hlt
                  have hjm : (j : Int) < (m : Int) := by omega
                  have D7 : Hid _ := hdu'
                  have O7 : Hid _ := ho'
                  have Q7 : Hid _ := hq0'
                  have R7 : Hid _ := hq1'
                  clear ho hRo hDu hQ0 hQ1 ho' hdu' hq0' hq1' f1 f2 f4 hlt hj
                  go_wp2
                  go_roundw
                  case rel => exact ⟨j + 1, HJ.out, by go_num, D7, O7, Q7, R7⟩
                  case measure => have := HJ.out; simp only [intOf]; omega
              · have hjn : ¬ (j : Int) < (m : Int) := by omega
                have DU9 : Hid (Du w wr P R L2 L2') := hDu
                have Q9 : Hid (wr.heap[B]? = some (.cells #[.int .i64 kind, .int .i64 nn, .int .i64 o1, .string o2, .string o3, .int .i64 o4, .string o5, .int .i64 o6, .int .i64 o7, .int .i64 why, .int .i64 am, .slice ra rows.length rc] 57 (0, 0))) := hQ0
                clear hDu hRo hQ0 hQ1 hlt hj
                have HAl := alike_B DU9.out SY9.out nn
                have cn := (act_box Q9.out).2.1
                have DU9' : Hid _ := DU9
                go_wp2_with fail
                refine HAl.mono ?_
                rintro e w10 ⟨rfl, b10⟩
                have D10 : Hid (∃ L L', Du w w10 P R L L' ∧ Say L L') := ⟨_, _, DU9.out.below b10, SY9.out⟩
                clear HAl cn b10 DU9 SY9 Q9
                go_wp2
                go_roundw
                case rel => exact ⟨i + 1, HI.out, by go_num, D10⟩
                case measure => have := HI.out; simp only [intOf]; omega
        · have m0 : (kind == 0) = false := by rw [hk]; decide
          have m1 : (kind == 1) = false := by rw [hk]; decide
          have m2 : (kind == 2) = false := by rw [hk]; decide
          have m3 : (kind == 3) = false := by rw [hk]; decide
          have m4 : (kind == 4) = true := by rw [hk]; decide
          clear hk
          go_wp2_with (refine wpList_load_mid rfl 57 (.tmp 27) rfl gb (off + i * 12) rfl [.int .i64 kind, .int .i64 nn, .int .i64 o1, .string o2, .string o3, .int .i64 o4, .string o5, .int .i64 o6, .int .i64 o7, .int .i64 why, .int .i64 am, .slice ra rows.length rc] _ RG.out Try.underlying57 rfl (by kernel_rfl) ?_)
          try rw [show _ = w6 from E6.out]
          clear c0 RG E6 m0 m1 m2 m3 m4 eB EB RW RN RF
          go_loopw [9] (fun y wr => ∃ j : Nat, j ≤ 2001 ∧ y = .int .i64 j ∧ Hid (∃ L L', Du w wr P R L L' ∧ Say L L') ∧ Hid (wr.heap[B]? = some (.cells #[.int .i64 kind, .int .i64 nn, .int .i64 o1, .string o2, .string o3, .int .i64 o4, .string o5, .int .i64 o6, .int .i64 o7, .int .i64 why, .int .i64 am, .slice ra rows.length rc] 57 (0, 0)))) (fun y _ => 2001 - (intOf y).toNat)
          case atStart => exact ⟨0, Nat.zero_le _, rfl, ⟨L, L', DU.out, SY.out⟩, Q6⟩
          case round =>
            clear DU SY Q6
            obtain ⟨j, hj, rfl, hD, Q6⟩ := hrel
            obtain ⟨L, L', du, sy⟩ := hD.out
            have DU : Hid (Du w wr P R L L') := du
            have SY : Hid (Say L L') := sy
            clear hD du sy
            by_cases hlt : j < 2001
            · have hjm : (j : Int) < 2001 := by omega
              have HJ : Hid (j + 1 ≤ 2001) := hlt
              clear hlt hj
              go_wp2_with fail
              refine wp_region_calm (S := fun W => W.heap[B]? = some (.cells #[.int .i64 kind, .int .i64 nn, .int .i64 o1, .string o2, .string o3, .int .i64 o4, .string o5, .int .i64 o6, .int .i64 o7, .int .i64 why, .int .i64 am, .slice ra rows.length rc] 57 (0, 0))) (by kernel_rfl) Q6.out (fun hHeld => ?_)
              refine take_run (i := 0) (oi := { dst := some 81, op := Go.Op.move (Go.Operand.tmp 3), type := 24, pos := "law.go:138", after := #[], guard := none }) (v := .pointer (some ⟨P, 0, none⟩)) rfl (by kernel_rfl) (by kernel_rfl) (by kernel_rfl) (fun _ _ _ h => h) (by rfl) ?_ hHeld ?_
              · (intro wq hSw; go_simp <;> with_reducible rfl)
              try simp only [Act.put, List.setIfInBounds_toArray, List.set_cons_zero, List.set_cons_succ]
              refine take_run (i := 1) (oi := { dst := some 82, op := Go.Op.fieldAddr 57 (Go.Operand.tmp 6) 2, type := 0, pos := "law.go:138", after := #[], guard := none }) (v := .pointer (some ⟨B, 2, none⟩)) rfl (by kernel_rfl) (by kernel_rfl) (by kernel_rfl) (fun _ _ _ h => h) (by rfl) ?_ hHeld ?_
              · (intro wq hSw; go_simp <;> with_reducible rfl)
              try simp only [Act.put, List.setIfInBounds_toArray, List.set_cons_zero, List.set_cons_succ]
              refine take_mid (i := 2) (oi := { dst := some 83, op := Go.Op.load 23 (Go.Operand.tmp 82), type := 23, pos := "law.go:138", after := #[{ on := 1, ground := Go.Ground.data }], guard := none }) rfl (by kernel_rfl) (by kernel_rfl) (by kernel_rfl) 23 (.tmp 82) B 2 [.int .i64 o1, .string o2, .string o3, .int .i64 o4, .string o5, .int .i64 o6, .int .i64 o7] _ (fun _ _ _ h => h) (by rfl) rfl (by go_simp <;> with_reducible rfl) (fun W hW => (act_box hW).2.2.1) Try.underlying23 rfl (by kernel_rfl) hHeld ?_
              try simp only [Act.put, List.setIfInBounds_toArray, List.set_cons_zero, List.set_cons_succ]
              refine take_run (i := 4) (oi := { dst := some 85, op := Go.Op.move (Go.Operand.tmp 4), type := 52, pos := "law.go:138", after := #[], guard := none }) (v := .pointer (some ⟨R, 0, none⟩)) rfl (by kernel_rfl) (by kernel_rfl) (by kernel_rfl) (fun _ _ _ h => h) (by rfl) ?_ hHeld ?_
              · (intro wq hSw; go_simp <;> with_reducible rfl)
              try simp only [Act.put, List.setIfInBounds_toArray, List.set_cons_zero, List.set_cons_succ]
              refine take_run (i := 5) (oi := { dst := some 86, op := Go.Op.fieldAddr 57 (Go.Operand.tmp 6) 2, type := 0, pos := "law.go:138", after := #[], guard := none }) (v := .pointer (some ⟨B, 2, none⟩)) rfl (by kernel_rfl) (by kernel_rfl) (by kernel_rfl) (fun _ _ _ h => h) (by rfl) ?_ hHeld ?_
              · (intro wq hSw; go_simp <;> with_reducible rfl)
              try simp only [Act.put, List.setIfInBounds_toArray, List.set_cons_zero, List.set_cons_succ]
              refine take_mid (i := 6) (oi := { dst := some 87, op := Go.Op.load 23 (Go.Operand.tmp 86), type := 23, pos := "law.go:138", after := #[{ on := 5, ground := Go.Ground.data }], guard := none }) rfl (by kernel_rfl) (by kernel_rfl) (by kernel_rfl) 23 (.tmp 86) B 2 [.int .i64 o1, .string o2, .string o3, .int .i64 o4, .string o5, .int .i64 o6, .int .i64 o7] _ (fun _ _ _ h => h) (by rfl) rfl (by go_simp <;> with_reducible rfl) (fun W hW => (act_box hW).2.2.1) Try.underlying23 rfl (by kernel_rfl) hHeld ?_
              try simp only [Act.put, List.setIfInBounds_toArray, List.set_cons_zero, List.set_cons_succ]
              refine take_call (i := 3) (oi := { dst := some 84, op := Go.Op.call { callee := Go.Callee.value (Go.Operand.func 9), args := #[Go.Operand.tmp 81, Go.Operand.tmp 83], argTypes := #[24, 23] }, type := 3, pos := "law.go:138", after := #[{ on := 0, ground := Go.Ground.data }, { on := 2, ground := Go.Ground.data }], guard := none }) rfl (by kernel_rfl) (by rfl) 9 _ (by go_simp <;> with_reducible rfl) ?_
              refine (desk_begin (DU.out.drew).d ⟨o1, o2, o3, o4, o5, o6, o7⟩).mono ?_
              rintro e x1 ⟨he, hd1, on1, bb1⟩
              obtain ⟨bv, ebv⟩ : ∃ bv, (beginL L ⟨o1, o2, o3, o4, o5, o6, o7⟩).1 = bv := ⟨_, rfl⟩
              rw [ebv] at he
              subst he
              have du1 := (DU.out.drew).left hd1 on1 (by decide) (by decide) (by decide) bb1
              have s1 := on1 _ _ _ _ hHeld (by decide)
              refine ⟨_, rfl, s1, ?_⟩
              try simp only [Act.put, List.setIfInBounds_toArray, List.set_cons_zero, List.set_cons_succ]
              refine take_call (i := 7) (oi := { dst := some 88, op := Go.Op.call { callee := Go.Callee.value (Go.Operand.func 20), args := #[Go.Operand.tmp 85, Go.Operand.tmp 87], argTypes := #[52, 23] }, type := 3, pos := "law.go:138", after := #[{ on := 4, ground := Go.Ground.data }, { on := 6, ground := Go.Ground.data }, { on := 3, ground := Go.Ground.chain }], guard := none }) rfl (by kernel_rfl) (by rfl) 20 _ (by go_simp <;> with_reducible rfl) ?_
              refine (rdesk_begin du1.r ⟨o1, o2, o3, o4, o5, o6, o7⟩).mono ?_
              rintro e x2 ⟨he, hd2, on2, bb2⟩
              rw [← (SY.out.begin ⟨o1, o2, o3, o4, o5, o6, o7⟩).1, ebv] at he
              subst he
              have du2 := du1.right hd2 on2 (by decide) (by decide) (by decide) bb2
              have s2 := on2 _ _ _ _ s1 (by decide)
              refine ⟨_, rfl, s2, ?_⟩
              try simp only [Act.put, List.setIfInBounds_toArray, List.set_cons_zero, List.set_cons_succ]
              refine take_run (i := 8) (oi := { dst := some 89, op := Go.Op.binOp Go.BinOp.neq 3 (Go.Operand.tmp 84) (Go.Operand.tmp 88) 3, type := 4, pos := "law.go:138", after := #[{ on := 3, ground := Go.Ground.data }, { on := 7, ground := Go.Ground.data }], guard := none }) (v := .bool false) rfl (by kernel_rfl) (by kernel_rfl) (by kernel_rfl) (fun _ _ _ h => h) (by rfl) ?_ s2 ?_
              · (intro wq hSw; go_simp <;> with_reducible rfl)
              try simp only [Act.put, List.setIfInBounds_toArray, List.set_cons_zero, List.set_cons_succ]
              refine wpAnyH_done (by kernel_rfl) ?_ _
              have DU9 : Hid (Du w x2 P R (beginL L ⟨o1, o2, o3, o4, o5, o6, o7⟩).2 (beginL L' ⟨o1, o2, o3, o4, o5, o6, o7⟩).2) := du2
              have SY9 : Hid (Say (beginL L ⟨o1, o2, o3, o4, o5, o6, o7⟩).2 (beginL L' ⟨o1, o2, o3, o4, o5, o6, o7⟩).2) := (SY.out.begin ⟨o1, o2, o3, o4, o5, o6, o7⟩).2
              have Q9 : Hid (x2.heap[B]? = some (.cells #[.int .i64 kind, .int .i64 nn, .int .i64 o1, .string o2, .string o3, .int .i64 o4, .string o5, .int .i64 o6, .int .i64 o7, .int .i64 why, .int .i64 am, .slice ra rows.length rc] 57 (0, 0))) := s2
              clear hHeld du1 s1 hd1 on1 bb1 hd2 on2 bb2 du2 s2 DU SY Q6 ebv
              go_wp2
              go_roundw
              case rel => exact ⟨j + 1, HJ.out, by go_num, ⟨_, _, DU9.out, SY9.out⟩, Q9⟩
              case measure => have := HJ.out; simp only [intOf]; omega
            · have hjn : ¬ (j : Int) < 2001 := by omega
              have DU9 : Hid (Du w wr P R L L') := DU
              have SY9 : Hid (Say L L') := SY
              have Q9 : Hid (wr.heap[B]? = some (.cells #[.int .i64 kind, .int .i64 nn, .int .i64 o1, .string o2, .string o3, .int .i64 o4, .string o5, .int .i64 o6, .int .i64 o7, .int .i64 why, .int .i64 am, .slice ra rows.length rc] 57 (0, 0))) := Q6
              clear DU SY Q6 hlt hj
              have HAl := alike_B DU9.out SY9.out nn
              have cn := (act_box Q9.out).2.1
              have DU9' : Hid _ := DU9
              go_wp2_with fail
              refine HAl.mono ?_
              rintro e w10 ⟨rfl, b10⟩
              have D10 : Hid (∃ L L', Du w w10 P R L L' ∧ Say L L') := ⟨_, _, DU9.out.below b10, SY9.out⟩
              clear HAl cn b10 DU9 SY9 Q9
              go_wp2
              go_roundw
              case rel => exact ⟨i + 1, HI.out, by go_num, D10⟩
              case measure => have := HI.out; simp only [intOf]; omega
        · have m0 : (kind == 0) = false := by simpa using n0
          have m1 : (kind == 1) = false := by simpa using n1
          have m2 : (kind == 2) = false := by simpa using n2
          have m3 : (kind == 3) = false := by simpa using n3
          have m4 : (kind == 4) = false := by simpa using n4
          clear n0 n1 n2 n3 n4
          go_wp2_with (refine wpList_load_mid rfl 57 (.tmp 27) rfl gb (off + i * 12) rfl [.int .i64 kind, .int .i64 nn, .int .i64 o1, .string o2, .string o3, .int .i64 o4, .string o5, .int .i64 o6, .int .i64 o7, .int .i64 why, .int .i64 am, .slice ra rows.length rc] _ RG.out Try.underlying57 rfl (by kernel_rfl) ?_)
          try rw [show _ = w6 from E6.out]
          clear c0 RG E6 m0 m1 m2 m3 m4
          have DU9 : Hid (Du w w6 P R L L') := DU
          have SY9 : Hid (Say L L') := SY
          have Q9 : Hid (w6.heap[B]? = some (.cells #[.int .i64 kind, .int .i64 nn, .int .i64 o1, .string o2, .string o3, .int .i64 o4, .string o5, .int .i64 o6, .int .i64 o7, .int .i64 why, .int .i64 am, .slice ra rows.length rc] 57 (0, 0))) := Q6
          have HAl := alike_B DU9.out SY9.out nn
          have cn := (act_box Q9.out).2.1
          have DU9' : Hid _ := DU9
          go_wp2_with fail
          refine HAl.mono ?_
          rintro e w10 ⟨rfl, b10⟩
          have D10 : Hid (∃ L L', Du w w10 P R L L' ∧ Say L L') := ⟨_, _, DU9.out.below b10, SY9.out⟩
          clear HAl cn b10 DU9 SY9 Q9
          go_wp2
          go_roundw
          case rel => exact ⟨i + 1, HI.out, by go_num, D10⟩
          case measure => have := HI.out; simp only [intOf]; omega
      · have hi1 : ¬ (i : Int) < 100 := by omega
        have hii : (i : Int) < (n : Int) := by omega
        clear hin h100
        obtain ⟨L, L', du, sy⟩ := hD.out
        have HK := knownK_any wr
        have BD : Hid (Below w.heap.size w wr) := du.b
        clear hD du sy
        go_wp2_with fail
        refine HK.mono ?_
        rintro e w10 ⟨rfl, b10⟩
        go_wp2
        go_ret
        exact ⟨rfl, BD.out.trans (b10.mono BD.out.size)⟩
    · have hii : ¬ (i : Int) < (n : Int) := by omega
      clear hin hi
      obtain ⟨L, L', du, sy⟩ := hD.out
      have HK := knownK_any wr
      have BD : Hid (Below w.heap.size w wr) := du.b
      clear hD du sy
      go_wp2_with fail
      refine HK.mono ?_
      rintro e w10 ⟨rfl, b10⟩
      go_wp2
      go_ret
      exact ⟨rfl, BD.out.trans (b10.mono BD.out.size)⟩
end Go.Proofs.Ytaakdnbaljoehaa
