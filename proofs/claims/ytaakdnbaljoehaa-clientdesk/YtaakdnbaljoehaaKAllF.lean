/- Package client: own, Get. -/
import Derived.Test.YtaakdnbaljoehaaKDesk
import Derived.Test.YtaakdnbaljoehaaKNil
namespace Go.Proofs.Ytaakdnbaljoehaa
open Go.RowKit Cod
attribute [local go_sem] Oper.semAt_some
set_option linter.unusedVariables false

set_option maxRecDepth 100000 in
set_option maxHeartbeats 1600000 in
theorem own_any (why amount : Int) (ra : Option Addr) (rc : Nat) (rows : List (ByteArray × Int)) (w : World) (h : RowsAt w ra rows.length rows) (hnil : ra = none → rc = 0) (hb : rows.length * 24 ≤ 140737488355328) :
    Calls Try.prog 33 #[.agg #[.int .i64 why, .int .i64 amount, .slice ra rows.length rc]] w fun e w' => ∃ a5 c5, e = .returned (.agg #[.int .i64 why, .int .i64 amount, .slice a5 rows.length c5]) ∧ w'.ownsRow w.heap.size 59 2 (.slice a5 rows.length c5) rows.length (rowCells rows) ∧ Below w.heap.size w w' := by
  generalize hw1 : (w.alloc (.cells #[.int .i64 why, .int .i64 amount, .slice ra rows.length rc] 28)).alloc (.cells #[.int .i64 0, .int .i64 0, .slice none 0 0] 28) = w1
  have b1 : Below w.heap.size w w1 := by rw [← hw1]; exact below_two w _ _
  have g0 : w1.heap[w.heap.size]? = some (.cells #[.int .i64 why, .int .i64 amount, .slice ra rows.length rc] 28 (0, 0)) := by
    rw [← hw1]
    exact (((Below.refl _ (w.alloc (.cells #[.int .i64 why, .int .i64 amount, .slice ra rows.length rc] 28))).alloc (Nat.le_refl _) _).block w.heap.size (by simp)).trans (heap_alloc_new w _)
  have g1 : w1.heap[w.heap.size + 1]? = some (.cells #[.int .i64 0, .int .i64 0, .slice none 0 0] 28 (0, 0)) := by rw [← hw1]; exact heapTwo w _ _
  have C := cloneR_any ra rows.length rc rows w1 (h.below b1) hnil hb
  have HW : Hid (_ = w1) := hw1
  have B1 : Hid (Below w.heap.size w w1) := b1
  have G0 : Hid _ := g0
  have G1 : Hid _ := g1
  clear hw1 b1 g0 g1 h hnil hb
  go_enter Try.func33, Try.ntmps33
  go_wp2_with fail
  rw [HW.out]
  refine C.mono ?_
  rintro e w2 ⟨v2, rfl, o2, b2⟩
  obtain ⟨a5, c5, rfl, _, _⟩ := row_form' o2
  have l0 := (Array.getElem?_eq_some_iff.1 G0.out).1
  have l1 := (Array.getElem?_eq_some_iff.1 G1.out).1
  have g02 := (b2.block _ l0).trans G0.out
  have g12 := (b2.block _ l1).trans G1.out
  have k2 : w2.cell? ⟨w.heap.size, 2, none⟩ = some (.slice ra rows.length rc) := by simp [World.cell?, g02]
  have z2 : w2.frozen? ⟨w.heap.size, 2, none⟩ = false := by simp [World.frozen?, g02]
  have g03 : (w2.setCell ⟨w.heap.size, 2, none⟩ (.slice a5 rows.length c5)).heap[w.heap.size]? = some (.cells #[.int .i64 why, .int .i64 amount, .slice a5 rows.length c5] 28 (0, 0)) := set_block g02 2 _
  have g13 : (w2.setCell ⟨w.heap.size, 2, none⟩ (.slice a5 rows.length c5)).heap[w.heap.size + 1]? = some (.cells #[.int .i64 0, .int .i64 0, .slice none 0 0] 28 (0, 0)) := (Below.heap_setCell _ _ _ _ (by simp)).trans g12
  have b3 : Below w.heap.size w (w2.setCell ⟨w.heap.size, 2, none⟩ (.slice a5 rows.length c5)) := (B1.out.trans (b2.mono B1.out.size)).setCell (Nat.le_refl _) _
  have o3 : (w2.setCell ⟨w.heap.size, 2, none⟩ (.slice a5 rows.length c5)).ownsRow w1.heap.size 59 2 (.slice a5 rows.length c5) rows.length (rowCells rows) := owns_set o2 _ _ (by show w.heap.size < w1.heap.size; omega)
  obtain ⟨w3, e3⟩ : ∃ w3, w2.setCell ⟨w.heap.size, 2, none⟩ (.slice a5 rows.length c5) = w3 := ⟨_, rfl⟩
  rw [e3] at g03 g13 b3 o3
  have E3 : Hid (_ = w3) := e3
  have G03 : Hid _ := g03
  have G13 : Hid _ := g13
  have b4 : Below w.heap.size w (w3.setRow (w.heap.size + 1) #[.int .i64 why, .int .i64 amount, .slice a5 rows.length c5]) := ⟨b3.os, b3.tape, b3.output, by simpa using b3.size, fun k hk => (setRow_other _ _ _ _ (by omega)).trans (b3.block k hk)⟩
  have B4 : Hid _ := b4
  have G4 : Hid _ := setRow_heap w3 (w.heap.size + 1) _ #[.int .i64 why, .int .i64 amount, .slice a5 rows.length c5] _ _ g13
  have O4 : Hid ((w3.setRow (w.heap.size + 1) #[.int .i64 why, .int .i64 amount, .slice a5 rows.length c5]).ownsRow w.heap.size 59 2 (.slice a5 rows.length c5) rows.length (rowCells rows)) := owns_mono' (ownsK o3 fun g hg => setRow_other _ _ _ _ (by have := (o3.lt _ hg).1; omega)) B1.out.size
  clear C o2 b2 l0 l1 g02 g12 g03 g13 b3 o3 e3 b4 HW
  go_wp2_with (first
    | (rw [E3.out]; refine wpList_load_row rfl 28 (.tmp 1) rfl w.heap.size rfl 28 #[.int .i64 why, .int .i64 amount, .slice a5 rows.length c5] (0, 0) _ G03.out Try.underlying28 rfl (by kernel_rfl) ?_)
    | (refine wpList_store_row rfl 28 (.tmp 2) (.tmp 7) rfl (w.heap.size + 1) #[.int .i64 why, .int .i64 amount, .slice a5 rows.length c5] rfl rfl 28 _ G13.out (by kernel_rfl) rfl (by simp [Value.oneCell']) ?_))
  exact bodyPost_ret (results_cell_row rfl _ _ (w.heap.size + 1) 28 _ (0, 0) _ rfl G4.out Try.underlying28 rfl (by kernel_rfl)) rfl ⟨a5, c5, rfl, O4.out, B4.out⟩
end Go.Proofs.Ytaakdnbaljoehaa

namespace Go.Proofs.Ytaakdnbaljoehaa
open Go.RowKit Cod
attribute [local go_sem] Oper.semAt_some
set_option linter.unusedVariables false

theorem take_store_rowG {P : Program} {ops : Array Oper} {Q : Exit → Act → World → Prop} {md : Region.Mode} {S : World → Prop} {i : Nat} {oi : Oper} {fuel : Nat} {listed : Array Bool} {a : Act} {w : World} (hi : ops[i]? = some oi) (hr : Region.ready md ops listed = [i]) (hw : Region.wanted oi (yielded ops a.tmps) = true)
    (ty : TypeId) (x y : Operand) (g : Nat) (cells : Array Value) (t : TypeId) (old : Array Value) (ho : oi.op = .store ty x y) (hx : a.eval x = .pointer (some ⟨g, 0, none⟩)) (hy : a.eval y = .agg cells) (hg : w.heap[g]? = some (.cells old t (0, 0)))
    (hz : (P.info? ty).map (·.size) = some cells.size) (hold : old.size = cells.size) (h1 : cells.all (·.oneCell') = true) (hS : S (w.setRow g cells))
    (h : wpAnyH P md ops Q S fuel (listed.setIfInBounds i true) (a.put oi.dst undef) (w.setRow g cells)) : wpAnyH P md ops Q S (fuel + 1) listed a w :=
  take_eff hi hr hw (by
    unfold execOp
    simp only [ho, hx, hy, Instr.storeAt, Instr.sureAddr, Sem.run_bind, Sem.run_pure, Result.andThen_ok, run_storeVar_row w g t ty old cells hg hz hold h1]) hS h
theorem range_call {w : World} {base g cap : Nat} {L : List CallV} (h : w.ownsRow base 74 11 (.slice (some ⟨g, 0, none⟩) L.length cap) L.length (flat CallV.cells L)) {k : Nat} (hk : k < L.length) : w.rangeAt g (k * 11) L[k].cells := fun j v hv => by
  have hj : j < 11 := by have := (List.getElem?_eq_some_iff.1 hv).1; rwa [CallV.cells11] at this
  have q := flat_at (enc := CallV.cells) CallV.cells11 L k hk j hj
  rw [h.cellAt (k * 11 + j) (by omega), q]
  exact hv
theorem desk_row {w : World} {base P : Nat} {L : List CallV} (h : DeskIn w base P L) {k : Nat} (hk : k < L.length) : ∃ g cap, w.heap[P]? = some (.cells #[.slice (some ⟨g, 0, none⟩) L.length cap] 77 (0, 0)) ∧ w.ownsRow base 74 11 (.slice (some ⟨g, 0, none⟩) L.length cap) L.length (flat CallV.cells L) := by
  obtain ⟨v, hv, ho⟩ := h.ex
  rcases ho.2 with ⟨e1, e2⟩ | ⟨g, cap, cur, rfl, _⟩
  · omega
  · exact ⟨g, cap, hv, ho⟩
theorem hasN_true {L : List CallV} {n : Int} (h : hasN L n = true) : ∃ k : Nat, n = (k : Int) ∧ k < L.length := by
  unfold hasN at h
  rw [Bool.and_eq_true, decide_eq_true_eq, decide_eq_true_eq] at h
  exact ⟨n.toNat, by omega, by omega⟩
set_option maxRecDepth 100000 in
set_option maxHeartbeats 1600000 in
theorem desk_getNo {w : World} {base P : Nat} {L : List CallV} (h : DeskIn w base P L) (n : Int) (hn : hasN L n = false) : Calls Try.prog 7 #[.pointer (some ⟨P, 0, none⟩), .int .i64 n] w fun e w' => e = .returned (.tuple #[.agg #[.int .i64 0, .string ⟨#[]⟩, .string ⟨#[]⟩, .int .i64 0, .string ⟨#[]⟩, .int .i64 0, .int .i64 0], .agg #[.int .i64 0, .int .i64 0, .slice none 0 0], .bool false]) ∧ Below w.heap.size w w' := by
  have b2 := below_two w (.cells #[.int .i64 0, .string ⟨#[]⟩, .string ⟨#[]⟩, .int .i64 0, .string ⟨#[]⟩, .int .i64 0, .int .i64 0] 23) (.cells #[.int .i64 0, .int .i64 0, .slice none 0 0] 28)
  have HH := desk_has (h.below b2) n
  rw [hn] at HH
  have g1' := ((((Below.refl _ (w.alloc (.cells #[.int .i64 0, .string ⟨#[]⟩, .string ⟨#[]⟩, .int .i64 0, .string ⟨#[]⟩, .int .i64 0, .int .i64 0] 23))).alloc (Nat.le_refl _) (.cells #[.int .i64 0, .int .i64 0, .slice none 0 0] 28)).block w.heap.size (by simp))).trans (heap_alloc_new w (.cells #[.int .i64 0, .string ⟨#[]⟩, .string ⟨#[]⟩, .int .i64 0, .string ⟨#[]⟩, .int .i64 0, .int .i64 0] 23))
  have g2 := heapTwo w (.cells #[.int .i64 0, .string ⟨#[]⟩, .string ⟨#[]⟩, .int .i64 0, .string ⟨#[]⟩, .int .i64 0, .int .i64 0] 23) (.cells #[.int .i64 0, .int .i64 0, .slice none 0 0] 28)
  have B2 : Hid _ := b2
  have G1 : Hid _ := g1'
  have G2 : Hid _ := g2
  clear b2 g2 g1' h hn
  go_enter Try.func7, Try.ntmps7
  go_wp2_with fail
  refine HH.mono ?_
  rintro e w1 ⟨rfl, rfl⟩
  go_wp2
  exact bodyPost_ret (results_cct rfl _ _ w.heap.size (w.heap.size + 1) 23 28 _ _ (0, 0) (0, 0) _ _ rfl G1.out Try.underlying23 rfl (by kernel_rfl) rfl G2.out Try.underlying28 rfl (by kernel_rfl)) rfl ⟨rfl, B2.out⟩
set_option maxRecDepth 100000 in
set_option maxHeartbeats 4000000 in
theorem desk_get {w : World} {base P : Nat} {L : List CallV} (h : DeskIn w base P L) {k : Nat} (hk : k < L.length) (hsz : L[k].rows.length * 24 ≤ 140737488355328) : Calls Try.prog 7 #[.pointer (some ⟨P, 0, none⟩), .int .i64 (k : Int)] w fun e w' => ∃ a5 c5, e = .returned (.tuple #[L[k].op.val, .agg #[.int .i64 L[k].why, .int .i64 L[k].amount, .slice a5 L[k].rows.length c5], .bool L[k].heard]) ∧ w'.ownsRow w.heap.size 59 2 (.slice a5 L[k].rows.length c5) L[k].rows.length (rowCells L[k].rows) ∧ Below w.heap.size w w' := by
  have b2 := below_two w (.cells #[.int .i64 0, .string ⟨#[]⟩, .string ⟨#[]⟩, .int .i64 0, .string ⟨#[]⟩, .int .i64 0, .int .i64 0] 23) (.cells #[.int .i64 0, .int .i64 0, .slice none 0 0] 28)
  obtain ⟨w2, e2⟩ : ∃ w2, (w.alloc (.cells #[.int .i64 0, .string ⟨#[]⟩, .string ⟨#[]⟩, .int .i64 0, .string ⟨#[]⟩, .int .i64 0, .int .i64 0] 23)).alloc (.cells #[.int .i64 0, .int .i64 0, .slice none 0 0] 28) = w2 := ⟨_, rfl⟩
  have g1 : w2.heap[w.heap.size]? = some (.cells #[.int .i64 0, .string ⟨#[]⟩, .string ⟨#[]⟩, .int .i64 0, .string ⟨#[]⟩, .int .i64 0, .int .i64 0] 23 (0, 0)) := by
    rw [← e2]
    exact ((((Below.refl _ (w.alloc (.cells #[.int .i64 0, .string ⟨#[]⟩, .string ⟨#[]⟩, .int .i64 0, .string ⟨#[]⟩, .int .i64 0, .int .i64 0] 23))).alloc (Nat.le_refl _) (.cells #[.int .i64 0, .int .i64 0, .slice none 0 0] 28)).block w.heap.size (by simp))).trans (heap_alloc_new w (.cells #[.int .i64 0, .string ⟨#[]⟩, .string ⟨#[]⟩, .int .i64 0, .string ⟨#[]⟩, .int .i64 0, .int .i64 0] 23))
  have g2 : w2.heap[w.heap.size + 1]? = some (.cells #[.int .i64 0, .int .i64 0, .slice none 0 0] 28 (0, 0)) := by rw [← e2]; exact heapTwo w _ _
  rw [e2] at b2
  have d2 := h.below b2
  have HH := desk_has d2 (k : Int)
  have hhas : hasN L (k : Int) = true := by unfold hasN; rw [decide_eq_true (by omega), decide_eq_true (by omega)]; rfl
  rw [hhas] at HH
  obtain ⟨g, cap, hv, ho⟩ := desk_row d2 hk
  have hr := range_call ho hk
  have hro := d2.rows L[k] (List.getElem_mem hk)
  have c0 : w2.cell? ⟨P, 0, none⟩ = some (.slice (some ⟨g, 0, none⟩) L.length cap) := by simp [World.cell?, hv]
  have hkl : (k : Int) < (L.length : Int) := by omega
  generalize L[k] = cc at *
  obtain ⟨⟨kind, src, dst, amt, key, slot, shard⟩, heard, why, amount, rows, ra, rc⟩ := cc
  simp only at hsz hr hro ⊢
  have hr' : w2.rangeAt g (k * 11) [.int .i64 kind, .string src, .string dst, .int .i64 amt, .string key, .int .i64 slot, .int .i64 shard, .bool heard, .int .i64 why, .int .i64 amount, .slice ra rows.length rc] := hr
  have HRG : Hid (w2.rangeAt g (k * 11) [.int .i64 kind, .string src, .string dst, .int .i64 amt, .string key, .int .i64 slot, .int .i64 shard, .bool heard, .int .i64 why, .int .i64 amount, .slice ra rows.length rc]) := hr'
  have bq := (Below.refl _ w2).alloc (Nat.le_refl _) (.cells ([.int .i64 kind, .string src, .string dst, .int .i64 amt, .string key, .int .i64 slot, .int .i64 shard, .bool heard, .int .i64 why, .int .i64 amount, .slice ra rows.length rc] : List Value).toArray 74)
  have g3 : (w2.alloc (.cells ([.int .i64 kind, .string src, .string dst, .int .i64 amt, .string key, .int .i64 slot, .int .i64 shard, .bool heard, .int .i64 why, .int .i64 amount, .slice ra rows.length rc] : List Value).toArray 74)).heap[w2.heap.size]? = some (.cells ([.int .i64 kind, .string src, .string dst, .int .i64 amt, .string key, .int .i64 slot, .int .i64 shard, .bool heard, .int .i64 why, .int .i64 amount, .slice ra rows.length rc] : List Value).toArray 74 (0, 0)) := heap_alloc_new w2 _
  obtain ⟨w3, e3⟩ : ∃ w3, w2.alloc (.cells ([.int .i64 kind, .string src, .string dst, .int .i64 amt, .string key, .int .i64 slot, .int .i64 shard, .bool heard, .int .i64 why, .int .i64 amount, .slice ra rows.length rc] : List Value).toArray 74) = w3 := ⟨_, rfl⟩
  rw [e3] at bq g3
  have hro3 := ownsB hro bq
  have hra : RowsAt w3.drew ra rows.length rows ∧ (ra = none → rc = 0) := by
    obtain ⟨a', c', ee, hn', _⟩ := row_form' hro3
    injection ee with e1 _ e3
    subst e1
    subst e3
    exact ⟨rows_owned hro3 rfl (by omega), hn'⟩
  have CO := own_any why amount ra rc rows w3.drew hra.1 hra.2 hsz
  have l1 : w.heap.size < w3.heap.size ∧ w.heap.size + 1 < w3.heap.size ∧ w2.heap.size < w3.heap.size := ⟨Nat.lt_of_lt_of_le (Array.getElem?_eq_some_iff.1 g1).1 bq.size, Nat.lt_of_lt_of_le (Array.getElem?_eq_some_iff.1 g2).1 bq.size, (Array.getElem?_eq_some_iff.1 g3).1⟩
  have G13 : Hid (w3.heap[w.heap.size]? = some (.cells #[.int .i64 0, .string ⟨#[]⟩, .string ⟨#[]⟩, .int .i64 0, .string ⟨#[]⟩, .int .i64 0, .int .i64 0] 23 (0, 0))) := (bq.block _ (Array.getElem?_eq_some_iff.1 g1).1).trans g1
  have G23 : Hid (w3.heap[w.heap.size + 1]? = some (.cells #[.int .i64 0, .int .i64 0, .slice none 0 0] 28 (0, 0))) := (bq.block _ (Array.getElem?_eq_some_iff.1 g2).1).trans g2
  have BW : Hid (Below w.heap.size w w3) := b2.trans (bq.mono b2.size)
  have L1 : Hid _ := l1
  have NB : Hid (w.heap.size + 2 ≤ w2.heap.size) := by have := (Array.getElem?_eq_some_iff.1 g2).1; show _ ≤ _; omega
  have E2 : Hid (_ = w2) := e2
  have E3 : Hid (_ = w3) := e3
  have KO : Hid (∀ W : World, W.heap[w2.heap.size]? = w3.heap[w2.heap.size]? → W.rangeAt w2.heap.size 0 [.int .i64 kind, .string src, .string dst, .int .i64 amt, .string key, .int .i64 slot, .int .i64 shard]) := fun W hW j v hv => by
    have hj : j < 7 := (List.getElem?_eq_some_iff.1 hv).1
    simp only [World.cell?, hW, g3]
    match j, hj with
    | 0, _ => simpa using hv
    | 1, _ => simpa using hv
    | 2, _ => simpa using hv
    | 3, _ => simpa using hv
    | 4, _ => simpa using hv
    | 5, _ => simpa using hv
    | 6, _ => simpa using hv
  have KR : Hid (∀ W : World, W.heap[w2.heap.size]? = w3.heap[w2.heap.size]? → W.rangeAt w2.heap.size 8 [.int .i64 why, .int .i64 amount, .slice ra rows.length rc]) := fun W hW j v hv => by
    have hj : j < 3 := (List.getElem?_eq_some_iff.1 hv).1
    simp only [World.cell?, hW, g3]
    match j, hj with
    | 0, _ => simpa using hv
    | 1, _ => simpa using hv
    | 2, _ => simpa using hv
  have KH : Hid (∀ W : World, W.heap[w2.heap.size]? = w3.heap[w2.heap.size]? → W.cell? ⟨w2.heap.size, 7, none⟩ = some (.bool heard)) := fun W hW => by simp [World.cell?, hW, g3]
  clear h b2 g1 g2 e2 d2 hhas hv ho hr hro hr' bq g3 e3 hro3 hra l1 hsz hk
  go_enter Try.func7, Try.ntmps7
  go_wp2_with fail
  rw [E2.out]
  refine HH.mono ?_
  rintro e wq ⟨rfl, hq⟩
  subst wq
  clear HH E2
  go_wp2_with (refine wpList_load_mid rfl 74 (.tmp 19) rfl g (k * 11) rfl [.int .i64 kind, .string src, .string dst, .int .i64 amt, .string key, .int .i64 slot, .int .i64 shard, .bool heard, .int .i64 why, .int .i64 amount, .slice ra rows.length rc] _ HRG.out Try.underlying74 rfl (by kernel_rfl) ?_)
  rw [E3.out]
  clear E3 HRG c0
  refine wp_region_held_drew (S := fun W => W.heap[w2.heap.size]? = w3.heap[w2.heap.size]?) (by kernel_rfl) rfl (fun hHeld => ?_)
  refine take_run (i := 0) (oi := { dst := some 21, op := Go.Op.fieldAddr 74 (Go.Operand.tmp 7) 0, type := 0, pos := "desk.go:62", after := #[], guard := none }) (v := .pointer (some ⟨w2.heap.size, 0, none⟩)) rfl (by kernel_rfl) (by kernel_rfl) (by kernel_rfl) (fun _ _ _ h => h) (by rfl) ?_ hHeld ?_
  · (intro wq hSw; go_simp <;> with_reducible rfl)
  try simp only [Act.put, List.setIfInBounds_toArray, List.set_cons_zero, List.set_cons_succ]
  refine take_mid (i := 1) (oi := { dst := some 22, op := Go.Op.load 23 (Go.Operand.tmp 21), type := 23, pos := "desk.go:62", after := #[{ on := 0, ground := Go.Ground.data }], guard := none }) rfl (by kernel_rfl) (by kernel_rfl) (by kernel_rfl) 23 (.tmp 21) w2.heap.size 0 [.int .i64 kind, .string src, .string dst, .int .i64 amt, .string key, .int .i64 slot, .int .i64 shard] _ (fun _ _ _ h => h) (by rfl) rfl (by go_simp <;> with_reducible rfl) (fun W hW => KO.out W hW) Try.underlying23 rfl (by kernel_rfl) hHeld ?_
  try simp only [Act.put, List.setIfInBounds_toArray, List.set_cons_zero, List.set_cons_succ]
  refine take_run (i := 2) (oi := { dst := some 23, op := Go.Op.fieldAddr 74 (Go.Operand.tmp 7) 2, type := 0, pos := "desk.go:62", after := #[], guard := none }) (v := .pointer (some ⟨w2.heap.size, 8, none⟩)) rfl (by kernel_rfl) (by kernel_rfl) (by kernel_rfl) (fun _ _ _ h => h) (by rfl) ?_ hHeld ?_
  · (intro wq hSw; go_simp <;> with_reducible rfl)
  try simp only [Act.put, List.setIfInBounds_toArray, List.set_cons_zero, List.set_cons_succ]
  refine take_mid (i := 3) (oi := { dst := some 24, op := Go.Op.load 28 (Go.Operand.tmp 23), type := 28, pos := "desk.go:62", after := #[{ on := 2, ground := Go.Ground.data }], guard := none }) rfl (by kernel_rfl) (by kernel_rfl) (by kernel_rfl) 28 (.tmp 23) w2.heap.size 8 [.int .i64 why, .int .i64 amount, .slice ra rows.length rc] _ (fun _ _ _ h => h) (by rfl) rfl (by go_simp <;> with_reducible rfl) (fun W hW => KR.out W hW) Try.underlying28 rfl (by kernel_rfl) hHeld ?_
  try simp only [Act.put, List.setIfInBounds_toArray, List.set_cons_zero, List.set_cons_succ]
  refine take_run (i := 5) (oi := { dst := some 26, op := Go.Op.fieldAddr 74 (Go.Operand.tmp 7) 1, type := 0, pos := "desk.go:62", after := #[{ on := 8, ground := Go.Ground.gcOnly Go.Departure.lateStores }], guard := none }) (v := .pointer (some ⟨w2.heap.size, 7, none⟩)) rfl (by kernel_rfl) (by kernel_rfl) (by kernel_rfl) (fun _ _ _ h => h) (by rfl) ?_ hHeld ?_
  · (intro wq hSw; go_simp <;> with_reducible rfl)
  try simp only [Act.put, List.setIfInBounds_toArray, List.set_cons_zero, List.set_cons_succ]
  refine take_run (i := 6) (oi := { dst := some 27, op := Go.Op.load 4 (Go.Operand.tmp 26), type := 4, pos := "desk.go:62", after := #[{ on := 5, ground := Go.Ground.data }, { on := 8, ground := Go.Ground.gcOnly Go.Departure.lateStores }], guard := none }) (v := .bool heard) rfl (by kernel_rfl) (by kernel_rfl) (by kernel_rfl) (fun _ _ _ h => h) (by rfl) ?_ hHeld ?_
  · (intro wq hSw; have hk := KH.out wq hSw; go_simp <;> with_reducible rfl)
  try simp only [Act.put, List.setIfInBounds_toArray, List.set_cons_zero, List.set_cons_succ]
  refine take_call (i := 4) (oi := { dst := some 25, op := Go.Op.call { callee := Go.Callee.value (Go.Operand.func 33), args := #[Go.Operand.tmp 24], argTypes := #[28] }, type := 28, pos := "desk.go:62", after := #[{ on := 3, ground := Go.Ground.data }], guard := none }) rfl (by kernel_rfl) (by rfl) 33 _ (by go_simp <;> with_reducible rfl) ?_
  refine CO.mono ?_
  rintro e w4 ⟨a5, c5, rfl, o4, b4⟩
  have b4' : Below w3.heap.size w3 w4 := ((Below.refl _ w3).drew).trans b4
  have h4 : w4.heap[w2.heap.size]? = w3.heap[w2.heap.size]? := b4'.block _ L1.out.2.2
  have x1 : w4.heap[w.heap.size]? = some (.cells #[.int .i64 0, .string ⟨#[]⟩, .string ⟨#[]⟩, .int .i64 0, .string ⟨#[]⟩, .int .i64 0, .int .i64 0] 23 (0, 0)) := (b4'.block _ L1.out.1).trans G13.out
  have x2 : w4.heap[w.heap.size + 1]? = some (.cells #[.int .i64 0, .int .i64 0, .slice none 0 0] 28 (0, 0)) := (b4'.block _ L1.out.2.1).trans G23.out
  have o4' : w4.ownsRow w3.heap.size 59 2 (.slice a5 rows.length c5) rows.length (rowCells rows) := o4
  have bw4 : Below w.heap.size w w4 := BW.out.trans (b4'.mono BW.out.size)
  refine ⟨_, rfl, h4, ?_⟩
  try simp only [Act.put, List.setIfInBounds_toArray, List.set_cons_zero, List.set_cons_succ]
  have y1 : (w4.setRow w.heap.size ([.int .i64 kind, .string src, .string dst, .int .i64 amt, .string key, .int .i64 slot, .int .i64 shard] : List Value).toArray).heap[w.heap.size]? = some (.cells ([.int .i64 kind, .string src, .string dst, .int .i64 amt, .string key, .int .i64 slot, .int .i64 shard] : List Value).toArray 23 (0, 0)) := setRow_heap _ _ _ _ _ _ x1
  have y2 : (w4.setRow w.heap.size ([.int .i64 kind, .string src, .string dst, .int .i64 amt, .string key, .int .i64 slot, .int .i64 shard] : List Value).toArray).heap[w.heap.size + 1]? = some (.cells #[.int .i64 0, .int .i64 0, .slice none 0 0] 28 (0, 0)) := (setRow_other _ _ _ _ (by omega)).trans x2
  have h5 : (w4.setRow w.heap.size ([.int .i64 kind, .string src, .string dst, .int .i64 amt, .string key, .int .i64 slot, .int .i64 shard] : List Value).toArray).heap[w2.heap.size]? = w3.heap[w2.heap.size]? := (setRow_other _ _ _ _ (by have := NB.out; omega)).trans h4
  refine take_store_rowG (i := 7) (oi := { dst := none, op := Go.Op.store 23 (Go.Operand.tmp 4) (Go.Operand.tmp 22), type := 0, pos := "desk.go:62", after := #[{ on := 1, ground := Go.Ground.data }, { on := 4, ground := Go.Ground.chain }, { on := 0, ground := Go.Ground.phase }, { on := 1, ground := Go.Ground.phase }, { on := 2, ground := Go.Ground.textOnly Go.Departure.lateStores }, { on := 3, ground := Go.Ground.textOnly Go.Departure.lateStores }, { on := 4, ground := Go.Ground.textOnly Go.Departure.lateStoresUnsure }, { on := 5, ground := Go.Ground.textOnly Go.Departure.lateStores }, { on := 6, ground := Go.Ground.textOnly Go.Departure.lateStores }], guard := none }) rfl (by kernel_rfl) (by rfl) 23 (.tmp 4) (.tmp 22) w.heap.size ([.int .i64 kind, .string src, .string dst, .int .i64 amt, .string key, .int .i64 slot, .int .i64 shard] : List Value).toArray 23 _ rfl (by go_simp <;> with_reducible rfl) (by go_simp <;> with_reducible rfl) x1 (by kernel_rfl) rfl (by simp [Value.oneCell']) h5 ?_
  try simp only [Act.put]
  have h6 : ((w4.setRow w.heap.size ([.int .i64 kind, .string src, .string dst, .int .i64 amt, .string key, .int .i64 slot, .int .i64 shard] : List Value).toArray).setRow (w.heap.size + 1) ([.int .i64 why, .int .i64 amount, .slice a5 rows.length c5] : List Value).toArray).heap[w2.heap.size]? = w3.heap[w2.heap.size]? := (setRow_other _ _ _ _ (by have := NB.out; omega)).trans h5
  refine take_store_rowG (i := 8) (oi := { dst := none, op := Go.Op.store 28 (Go.Operand.tmp 5) (Go.Operand.tmp 25), type := 0, pos := "desk.go:62", after := #[{ on := 4, ground := Go.Ground.data }, { on := 7, ground := Go.Ground.chain }, { on := 0, ground := Go.Ground.phase }, { on := 1, ground := Go.Ground.phase }, { on := 2, ground := Go.Ground.phase }, { on := 3, ground := Go.Ground.phase }, { on := 4, ground := Go.Ground.phase }, { on := 5, ground := Go.Ground.textOnly Go.Departure.lateStores }, { on := 6, ground := Go.Ground.textOnly Go.Departure.lateStores }, { on := 7, ground := Go.Ground.phase }], guard := none }) rfl (by kernel_rfl) (by rfl) 28 (.tmp 5) (.tmp 25) (w.heap.size + 1) ([.int .i64 why, .int .i64 amount, .slice a5 rows.length c5] : List Value).toArray 28 _ rfl (by go_simp <;> with_reducible rfl) (by go_simp <;> with_reducible rfl) y2 (by kernel_rfl) rfl (by simp [Value.oneCell']) h6 ?_
  try simp only [Act.put]
  refine take_run (i := 9) (oi := { dst := some 6, op := Go.Op.assign (Go.Operand.tmp 27), type := 4, pos := "desk.go:62", after := #[{ on := 6, ground := Go.Ground.data }, { on := 8, ground := Go.Ground.chain }, { on := 0, ground := Go.Ground.phase }, { on := 1, ground := Go.Ground.phase }, { on := 2, ground := Go.Ground.phase }, { on := 3, ground := Go.Ground.phase }, { on := 4, ground := Go.Ground.phase }, { on := 5, ground := Go.Ground.phase }, { on := 6, ground := Go.Ground.phase }, { on := 7, ground := Go.Ground.phase }, { on := 8, ground := Go.Ground.phase }], guard := none }) (v := .bool heard) rfl (by kernel_rfl) (by kernel_rfl) (by kernel_rfl) (fun _ _ _ h => h) (by rfl) ?_ h6 ?_
  · (intro wq hSw; go_simp <;> with_reducible rfl)
  try simp only [Act.put, List.setIfInBounds_toArray, List.set_cons_zero, List.set_cons_succ]
  refine wpAnyH_done (by kernel_rfl) ?_ _
  have z1 : ((w4.setRow w.heap.size ([.int .i64 kind, .string src, .string dst, .int .i64 amt, .string key, .int .i64 slot, .int .i64 shard] : List Value).toArray).setRow (w.heap.size + 1) ([.int .i64 why, .int .i64 amount, .slice a5 rows.length c5] : List Value).toArray).heap[w.heap.size]? = some (.cells ([.int .i64 kind, .string src, .string dst, .int .i64 amt, .string key, .int .i64 slot, .int .i64 shard] : List Value).toArray 23 (0, 0)) := (setRow_other _ _ _ _ (by omega)).trans y1
  have z2 : ((w4.setRow w.heap.size ([.int .i64 kind, .string src, .string dst, .int .i64 amt, .string key, .int .i64 slot, .int .i64 shard] : List Value).toArray).setRow (w.heap.size + 1) ([.int .i64 why, .int .i64 amount, .slice a5 rows.length c5] : List Value).toArray).heap[w.heap.size + 1]? = some (.cells ([.int .i64 why, .int .i64 amount, .slice a5 rows.length c5] : List Value).toArray 28 (0, 0)) := setRow_heap _ _ _ _ _ _ y2
  have z3 : ((w4.setRow w.heap.size ([.int .i64 kind, .string src, .string dst, .int .i64 amt, .string key, .int .i64 slot, .int .i64 shard] : List Value).toArray).setRow (w.heap.size + 1) ([.int .i64 why, .int .i64 amount, .slice a5 rows.length c5] : List Value).toArray).ownsRow w.heap.size 59 2 (.slice a5 rows.length c5) rows.length (rowCells rows) := owns_mono' (ownsK (ownsK o4' fun g hg => setRow_other _ _ _ _ (by have := (o4'.lt _ hg).1; have := L1.out; omega)) fun g hg => setRow_other _ _ _ _ (by have := (o4'.lt _ hg).1; have := L1.out; omega)) BW.out.size
  have z4 : Below w.heap.size w ((w4.setRow w.heap.size ([.int .i64 kind, .string src, .string dst, .int .i64 amt, .string key, .int .i64 slot, .int .i64 shard] : List Value).toArray).setRow (w.heap.size + 1) ([.int .i64 why, .int .i64 amount, .slice a5 rows.length c5] : List Value).toArray) := ⟨bw4.os, bw4.tape, bw4.output, by simpa using bw4.size, fun k hk => ((setRow_other _ _ _ _ (by omega)).trans (setRow_other _ _ _ _ (by omega))).trans (bw4.block k hk)⟩
  have Z1 : Hid _ := z1
  have Z2 : Hid _ := z2
  have Z3 : Hid _ := z3
  have Z4 : Hid _ := z4
  clear z1 z2 z3 z4 hHeld h4 h5 h6 x1 x2 y1 y2 o4 o4' b4 b4' bw4 CO
  go_wp2
  exact bodyPost_ret (results_cct rfl _ _ w.heap.size (w.heap.size + 1) 23 28 _ _ (0, 0) (0, 0) _ _ rfl Z1.out Try.underlying23 rfl (by kernel_rfl) rfl Z2.out Try.underlying28 rfl (by kernel_rfl)) rfl ⟨a5, c5, rfl, Z3.out, Z4.out⟩
end Go.Proofs.Ytaakdnbaljoehaa

namespace Go.Proofs.Ytaakdnbaljoehaa
open Go.RowKit Cod
attribute [local go_sem] Oper.semAt_some
set_option linter.unusedVariables false

theorem take_twoK {P : Program} {ops : Array Oper} {Q : Exit → Act → World → Prop} {md : Region.Mode} {S : World → Prop} {i j : Nat} {oi oj : Oper} {fuel : Nat} {listed : Array Bool} {a : Act} {w w1 w2 : World} (u v : Value) (hi : ops[i]? = some oi) (hj : ops[j]? = some oj) (hr : Region.ready md ops listed = [i, j]) (hw : Region.wanted oi (yielded ops a.tmps) = true) (hw2 : Region.wanted oj (yielded ops a.tmps) = true)
    (hx : (execOp a.eval oi).run P w = .ok (.value u) w1) (hS : S w1) (hx2 : (execOp a.eval oj).run P w = .ok (.value v) w2) (hS2 : S w2)
    (h : wpAnyH P md ops Q S fuel (listed.setIfInBounds i true) (a.put oi.dst u) w1) (h2 : wpAnyH P md ops Q S fuel (listed.setIfInBounds j true) (a.put oj.dst v) w2) : wpAnyH P md ops Q S (fuel + 1) listed a w := by
  refine wpAnyH_all (rs := [i, j]) hr (by simp) (fun k hk => ?_)
  rcases (by simpa using hk : k = i ∨ k = j) with rfl | rfl
  · unfold wpOp
    simp only [hi, hw, if_true, Oper.wp, hx]
    rw [Oper.upon_value]
    exact .inl ⟨hS, h⟩
  · unfold wpOp
    simp only [hj, hw2, if_true, Oper.wp, hx2]
    rw [Oper.upon_value]
    exact .inl ⟨hS2, h2⟩
theorem exec_appendK {P : Program} {o : Oper} {a : Act} {w w' : World} {v u x : Value} {s y : Operand} {t : TypeId} (ho : o.op = .call { callee := .builtin .append, args := #[s, y], argTypes := #[t, t] }) (hs : a.eval s = u) (hx : a.eval y = x) (hr : (Builtin.append_ #[t, t] o.type #[u, x]).run P w = .ok v w') : (execOp a.eval o).run P w = .ok (.value v) w' := by
  simp [execOp, ho, resolve, invoke, builtin, hs, hx, hr, Result.andThen]
/-- A call that has begun. -/
def callOf (o : OpD) : CallV := ⟨o, false, 0, 0, [], none, 0⟩
def beginL (L : List CallV) (o : OpD) : Int × List CallV := if 2000 ≤ L.length then (-1, L) else (L.length, L ++ [callOf o])
theorem infoCall : (Try.prog.info? 74).map (fun i => (i.zero, i.size, i.bytes)) = some (some (.agg #[.int .i64 0, .string ⟨#[]⟩, .string ⟨#[]⟩, .int .i64 0, .string ⟨#[]⟩, .int .i64 0, .int .i64 0, .bool false, .int .i64 0, .int .i64 0, .slice none 0 0]), 11, 128) := by kernel_rfl
theorem one_call (c : CallV) : ∀ u ∈ c.cells, u.oneCell' = true := fun u hu => by
  simp only [CallV.cells, List.mem_cons, List.not_mem_nil, or_false] at hu
  rcases hu with rfl | rfl | rfl | rfl | rfl | rfl | rfl | rfl | rfl | rfl | rfl <;> rfl
/-- append(v, c) -/
theorem run_append_call (w : World) (base : Nat) (v : Value) (L : List CallV) (hown : w.ownsRow base 74 11 v L.length (flat CallV.cells L)) (c : CallV) (hb : L.length ≤ 2000) (hbase : base ≤ w.heap.size) :
    ∃ v' w', (Builtin.append_ #[75, 75] 75 #[v, .slice (some ⟨w.heap.size, 0, none⟩) 1 1]).run Try.prog (w.alloc (.cells c.cells.toArray 74)) = .ok v' w' ∧ w'.ownsRow base 74 11 v' (L ++ [c]).length (flat CallV.cells (L ++ [c])) ∧ (w.alloc (.cells c.cells.toArray 74)).grownBy w' v.ownBlock := by
  obtain ⟨i0, hi, hz0, hz1, hz2⟩ := info_parts infoCall
  obtain ⟨v', w', hr, h1, h2, _⟩ := run_append_own (P := Try.prog) (w.alloc (.cells c.cells.toArray 74)) base 75 75 74 i0 _ 11 128 Try.underlying75 hi hz0 hz1 hz2 rfl (by omega) v L.length _ (hown.alloc _) ⟨w.heap.size, 0, none⟩ 1 1 c.cells (by simp [CallV.cells11]) (fun j u hj => by
    rw [Addr.add_lit, Nat.zero_add, World.cell?_alloc_mark]
    simpa using hj) (one_call c) (by unfold maxLen; omega) (by omega) (by simp; omega)
  exact ⟨v', w', hr, by rw [List.length_append, flat_append]; simpa [flat] using h1, h2⟩
/-- What stays where a row of calls grows and the desk's cell is set. -/
theorem desk_grow {w w1 w' : World} {base P : Nat} {L L' : List CallV} {v v' : Value} (h : DeskIn w base P L) (hv : w.heap[P]? = some (.cells #[v] 77 (0, 0))) (ho : w.ownsRow base 74 11 v L.length (flat CallV.cells L)) (b1 : Below w.heap.size w w1) (g : w1.grownBy w' v.ownBlock) (o' : w'.ownsRow base 74 11 v' L'.length (flat CallV.cells L')) (hL : ∀ c ∈ L', c ∈ L ∨ c.rows = [] ∧ c.ra = none ∧ c.rc = 0) (few : L'.length ≤ 2000) :
    DeskIn (w'.setCell ⟨P, 0, none⟩ v') base P L' ∧ OnlyT [77, 74] w (w'.setCell ⟨P, 0, none⟩ v') ∧ Below base w (w'.setCell ⟨P, 0, none⟩ v') ∧ (w'.heap[P]? = some (.cells #[v] 77 (0, 0))) := by
  have hP := h.lt
  have ne : v.ownBlock ≠ some P := fun e => by
    obtain ⟨_, _, cur, hc⟩ := row_kind ho e
    rw [hv] at hc
    injection hc with hc
    injection hc with _ hc
    exact absurd hc (by decide)
  have keep : ∀ (K : Nat) (c : Array Value) (t : TypeId) (fr : Nat × Nat), w.heap[K]? = some (.cells c t fr) → t ≠ 74 → w'.heap[K]? = some (.cells c t fr) := fun K c t fr hK ht => by
    have lt := (Array.getElem?_eq_some_iff.1 hK).1
    rw [g.block K (Nat.lt_of_lt_of_le lt b1.size) (fun e => by
      obtain ⟨_, _, cur, hc⟩ := row_kind ho e.symm
      rw [hK] at hc
      injection hc with hc
      injection hc with _ hc
      exact ht hc), b1.block K lt]
    exact hK
  have hvP := keep P _ _ _ hv (by decide)
  have on : OnlyT [77, 74] w (w'.setCell ⟨P, 0, none⟩ v') := fun K c t fr hK ht => by
    simp only [List.mem_cons, List.not_mem_nil, or_false, not_or] at ht
    rw [Below.heap_setCell _ _ _ _ (fun e => by
      rw [show K = P from e, hv] at hK
      injection hK with hK
      injection hK with _ hK
      exact ht.1 hK.symm)]
    exact keep K c t fr hK ht.2
  have hbase : base ≤ w.heap.size := Nat.le_trans h.pb (Nat.le_of_lt hP)
  have bb : Below base w w' := (b1.mono hbase).grown g (Nat.le_trans hbase b1.size) (fun k e => (ho.lt _ e).1)
  refine ⟨⟨⟨v', set_block hvP 0 v', ownsK o' fun gg hg => Below.heap_setCell _ _ _ _ (fun e => by
      obtain ⟨_, _, cur, hc⟩ := row_kind o' hg
      rw [show gg = P from e, hvP] at hc
      injection hc with hc
      injection hc with _ hc
      exact absurd hc (by decide))⟩, fun c hc => ?_, h.pb, few⟩, on, bb.setCell h.pb v', hvP⟩
  rcases hL c hc with hc | ⟨h1, h2, h3⟩
  · exact ownsT (h.rows c hc) on (by decide)
  · rw [h1, h2, h3]; exact ⟨rfl, .inl ⟨rfl, rfl⟩⟩
set_option maxRecDepth 100000 in
set_option maxHeartbeats 4000000 in
theorem desk_begin {w : World} {base P : Nat} {L : List CallV} (h : DeskIn w base P L) (o : OpD) : Calls Try.prog 9 #[.pointer (some ⟨P, 0, none⟩), o.val] w fun e w' => e = .returned (.int .i64 (beginL L o).1) ∧ DeskIn w' base P (beginL L o).2 ∧ OnlyT [77, 74] w w' ∧ Below base w w' := by
  obtain ⟨v, hv, ho⟩ := h.ex
  obtain ⟨a, c, rfl, _, _⟩ := row_form' ho
  have hP := h.lt
  have hbase : base ≤ w.heap.size := Nat.le_trans h.pb (Nat.le_of_lt hP)
  obtain ⟨kind, src, dst, amount, key, slot, shard⟩ := o
  show Calls Try.prog 9 #[.pointer (some ⟨P, 0, none⟩), .agg #[.int .i64 kind, .string src, .string dst, .int .i64 amount, .string key, .int .i64 slot, .int .i64 shard]] w _
  have b1 : Below w.heap.size w (w.alloc (.cells #[.int .i64 kind, .string src, .string dst, .int .i64 amount, .string key, .int .i64 slot, .int .i64 shard] 23)) := (Below.refl _ w).alloc (Nat.le_refl _) _
  have c0 : (w.alloc (.cells #[.int .i64 kind, .string src, .string dst, .int .i64 amount, .string key, .int .i64 slot, .int .i64 shard] 23)).cell? ⟨P, 0, none⟩ = some (.slice a L.length c) := by
    rw [b1.cell (p := ⟨P, 0, none⟩) hP]; simp [World.cell?, hv]
  by_cases hf : 2000 ≤ L.length
  · have hf' : (2000 : Int) ≤ (L.length : Int) := by omega
    have HR : Hid (beginL L ⟨kind, src, dst, amount, key, slot, shard⟩ = (-1, L)) := if_pos hf
    have H1 : Hid _ := h.below b1
    have H2 : Hid (OnlyT [77, 74] w _) := OnlyT.below b1
    have H3 : Hid (Below base w _) := b1.mono hbase
    clear hv ho h b1 hf hP hbase
    go_enter Try.func9, Try.ntmps9
    go_wp2
    go_ret
    exact ⟨by rw [HR.out]; rfl, by rw [HR.out]; exact H1.out, H2.out, H3.out⟩
  have hf' : ¬ (2000 : Int) ≤ (L.length : Int) := by omega
  have HR : Hid (beginL L ⟨kind, src, dst, amount, key, slot, shard⟩ = ((L.length : Int), L ++ [callOf ⟨kind, src, dst, amount, key, slot, shard⟩])) := if_neg hf
  have HF : Hid (L.length < 2000) := by show _ < _; omega
  have g1 : (w.alloc (.cells #[.int .i64 kind, .string src, .string dst, .int .i64 amount, .string key, .int .i64 slot, .int .i64 shard] 23)).heap[w.heap.size]? = some (.cells #[.int .i64 kind, .string src, .string dst, .int .i64 amount, .string key, .int .i64 slot, .int .i64 shard] 23 (0, 0)) := heap_alloc_new w _
  obtain ⟨w1, e1⟩ : ∃ w1, w.alloc (.cells #[.int .i64 kind, .string src, .string dst, .int .i64 amount, .string key, .int .i64 slot, .int .i64 shard] 23) = w1 := ⟨_, rfl⟩
  rw [e1] at b1 g1
  have d1 := h.below b1
  have hv1 : w1.heap[P]? = some (.cells #[.slice a L.length c] 77 (0, 0)) := (b1.block P hP).trans hv
  have ho1 := ownsB ho b1
  have hb1 : base ≤ w1.heap.size := Nat.le_trans hbase b1.size
  obtain ⟨v2, w2, r2, o2, gr2⟩ := run_append_call w1.drew base (.slice a L.length c) L ho1 (callOf ⟨kind, src, dst, amount, key, slot, shard⟩) (by have := HF.out; omega) hb1
  have b1d : Below w1.drew.heap.size w1.drew (w1.drew.alloc (.cells (callOf ⟨kind, src, dst, amount, key, slot, shard⟩).cells.toArray 74)) := (Below.refl _ w1.drew).alloc (Nat.le_refl _) _
  have d1d : DeskIn w1.drew base P L := ⟨⟨_, hv1, ho1⟩, d1.rows, d1.pb, d1.few⟩
  obtain ⟨z1, z2, z3, z4⟩ := desk_grow d1d hv1 ho1 b1d gr2 o2 (fun x hx => by
    rcases List.mem_append.1 hx with hx | hx
    · exact .inl hx
    · rw [List.mem_singleton] at hx; subst hx; exact .inr ⟨rfl, rfl, rfl⟩) (by rw [List.length_append]; have := HF.out; simp; omega)
  obtain ⟨a2, c2, rfl, _, _⟩ := row_form' o2
  have Z1 : Hid (DeskIn (w2.setCell ⟨P, 0, none⟩ (.slice a2 (L ++ [callOf ⟨kind, src, dst, amount, key, slot, shard⟩]).length c2)) base P (L ++ [callOf ⟨kind, src, dst, amount, key, slot, shard⟩])) := z1
  have Z2 : Hid (OnlyT [77, 74] w (w2.setCell ⟨P, 0, none⟩ (.slice a2 (L ++ [callOf ⟨kind, src, dst, amount, key, slot, shard⟩]).length c2))) := (OnlyT.below b1).trans z2
  have Z3 : Hid (Below base w (w2.setCell ⟨P, 0, none⟩ (.slice a2 (L ++ [callOf ⟨kind, src, dst, amount, key, slot, shard⟩]).length c2))) := (b1.mono hbase).trans (((Below.refl base w1).drew).trans z3)
  have Z4 : Hid (w2.heap[P]? = some (.cells #[.slice a L.length c] 77 (0, 0))) := z4
  have R2 : Hid ((Builtin.append_ #[75, 75] 75 #[.slice a L.length c, .slice (some ⟨w1.drew.heap.size, 0, none⟩) 1 1]).run Try.prog (w1.drew.alloc (.cells #[.int .i64 kind, .string src, .string dst, .int .i64 amount, .string key, .int .i64 slot, .int .i64 shard, .bool false, .int .i64 0, .int .i64 0, .slice none 0 0] 74)) = .ok (.slice a2 (L ++ [callOf ⟨kind, src, dst, amount, key, slot, shard⟩]).length c2) w2) := r2
  have BK : Hid (∀ W : World, W.heap[w.heap.size]? = w1.heap[w.heap.size]? → W.heap[w.heap.size]? = some (.cells #[.int .i64 kind, .string src, .string dst, .int .i64 amount, .string key, .int .i64 slot, .int .i64 shard] 23 (0, 0))) := fun W hW => hW.trans g1
  have lB : w.heap.size < w1.heap.size := (Array.getElem?_eq_some_iff.1 g1).1
  have SA : Hid ((w1.drew.alloc (.cells #[.int .i64 kind, .string src, .string dst, .int .i64 amount, .string key, .int .i64 slot, .int .i64 shard, .bool false, .int .i64 0, .int .i64 0, .slice none 0 0] 74)).heap[w.heap.size]? = w1.heap[w.heap.size]?) := b1d.block _ lB
  have SW : Hid (w2.heap[w.heap.size]? = w1.heap[w.heap.size]?) := by
    show _ = _
    rw [gr2.block w.heap.size (Nat.lt_of_lt_of_le lB b1d.size) (fun e => by
      obtain ⟨_, _, cur, hc⟩ := row_kind ho1 e.symm
      rw [g1] at hc
      injection hc with hc
      injection hc with _ hc
      exact absurd hc (by decide))]
    exact SA.out
  have nP : Hid (w.heap.size ≠ P) := by show _ ≠ _; omega
  have K1 : Hid (w1.drew.cell? ⟨P, 0, none⟩ = some (.slice a L.length c)) := by show _ = _; show w1.cell? ⟨P, 0, none⟩ = _; simp [World.cell?, hv1]
  have K2 : Hid ((w1.alloc (.cells #[.int .i64 kind, .string src, .string dst, .int .i64 amount, .string key, .int .i64 slot, .int .i64 shard, .bool false, .int .i64 0, .int .i64 0, .slice none 0 0] 74)).cell? ⟨P, 0, none⟩ = some (.slice a L.length c)) := by
    show _ = _
    rw [((Below.refl _ w1).alloc (Nat.le_refl _) _).cell (p := ⟨P, 0, none⟩) (Array.getElem?_eq_some_iff.1 hv1).1]
    exact K1.out
  have K3 : Hid (w2.cell? ⟨P, 0, none⟩ = some (.slice a L.length c) ∧ w2.frozen? ⟨P, 0, none⟩ = false) := by constructor <;> simp [World.cell?, World.frozen?, Z4.out]
  have E1 : Hid (_ = w1) := e1
  have LL : Hid ((L ++ [callOf ⟨kind, src, dst, amount, key, slot, shard⟩]).length = L.length + 1) := by show _ = _; simp
  obtain ⟨NL, eNL⟩ : ∃ NL, (L ++ [callOf ⟨kind, src, dst, amount, key, slot, shard⟩]).length = NL := ⟨_, rfl⟩
  rw [eNL] at R2 LL
  have ENL : Hid (_ = NL) := eNL
  have CF : Hid ((w2.setCell ⟨P, 0, none⟩ (.slice a2 NL c2)).cell? ⟨P, 0, none⟩ = some (.slice a2 NL c2)) := World.cell?_setCell_same' _ _ _ (by rw [K3.out.1]; rfl)
  clear hv ho h b1 hf hP hbase g1 e1 d1 hv1 ho1 hb1 r2 o2 gr2 b1d d1d z1 z2 z3 z4 lB eNL
  go_enter Try.func9, Try.ntmps9
  go_wp2_with fail
  rw [E1.out]
  clear c0
  refine wp_region_held_drew (S := fun W => W.heap[w.heap.size]? = w1.heap[w.heap.size]?) (by kernel_rfl) rfl (fun hHeld => ?_)
  refine take_run (i := 0) (oi := { dst := some 15, op := Go.Op.move (Go.Operand.tmp 0), type := 24, pos := "desk.go:32", after := #[], guard := none }) (v := .pointer (some ⟨P, 0, none⟩)) rfl (by kernel_rfl) (by kernel_rfl) (by kernel_rfl) (fun _ _ _ h => h) (by rfl) ?_ hHeld ?_
  · (intro wq hSw; go_simp <;> with_reducible rfl)
  try simp only [Act.put, List.setIfInBounds_toArray, List.set_cons_zero, List.set_cons_succ]
  refine take_run (i := 1) (oi := { dst := some 16, op := Go.Op.move (Go.Operand.tmp 0), type := 24, pos := "desk.go:32", after := #[], guard := none }) (v := .pointer (some ⟨P, 0, none⟩)) rfl (by kernel_rfl) (by kernel_rfl) (by kernel_rfl) (fun _ _ _ h => h) (by rfl) ?_ hHeld ?_
  · (intro wq hSw; go_simp <;> with_reducible rfl)
  try simp only [Act.put, List.setIfInBounds_toArray, List.set_cons_zero, List.set_cons_succ]
  refine take_run (i := 2) (oi := { dst := some 17, op := Go.Op.nilCheck (Go.Operand.tmp 16), type := 0, pos := "desk.go:32", after := #[{ on := 1, ground := Go.Ground.data }], guard := none }) (v := .pointer (some ⟨P, 0, none⟩)) rfl (by kernel_rfl) (by kernel_rfl) (by kernel_rfl) (fun _ _ _ h => h) (by rfl) ?_ hHeld ?_
  · (intro wq hSw; go_simp <;> with_reducible rfl)
  try simp only [Act.put, List.setIfInBounds_toArray, List.set_cons_zero, List.set_cons_succ]
  refine take_run (i := 3) (oi := { dst := some 18, op := Go.Op.fieldAddr 77 (Go.Operand.tmp 17) 0, type := 0, pos := "desk.go:32", after := #[{ on := 2, ground := Go.Ground.data }], guard := none }) (v := .pointer (some ⟨P, 0, none⟩)) rfl (by kernel_rfl) (by kernel_rfl) (by kernel_rfl) (fun _ _ _ h => h) (by rfl) ?_ hHeld ?_
  · (intro wq hSw; go_simp <;> with_reducible rfl)
  try simp only [Act.put, List.setIfInBounds_toArray, List.set_cons_zero, List.set_cons_succ]
  refine take_row (i := 5) (oi := { dst := some 20, op := Go.Op.load 23 (Go.Operand.tmp 3), type := 23, pos := "desk.go:32", after := #[], guard := none }) rfl (by kernel_rfl) (by kernel_rfl) (by kernel_rfl) 23 (.tmp 3) w.heap.size 23 #[.int .i64 kind, .string src, .string dst, .int .i64 amount, .string key, .int .i64 slot, .int .i64 shard] (0, 0) _ (fun _ _ _ h => h) (by rfl) rfl (by go_simp <;> with_reducible rfl) (fun W hW => BK.out W hW) Try.underlying23 rfl (by kernel_rfl) hHeld ?_
  try simp only [Act.put, List.setIfInBounds_toArray, List.set_cons_zero, List.set_cons_succ]
  refine take_run (i := 6) (oi := { dst := some 21, op := Go.Op.build 74 #[(0, Go.Operand.tmp 20)], type := 74, pos := "desk.go:32", after := #[{ on := 5, ground := Go.Ground.data }], guard := none }) (v := .agg #[.int .i64 kind, .string src, .string dst, .int .i64 amount, .string key, .int .i64 slot, .int .i64 shard, .bool false, .int .i64 0, .int .i64 0, .slice none 0 0]) rfl (by kernel_rfl) (by kernel_rfl) (by kernel_rfl) (fun _ _ _ h => h) (by rfl) ?_ hHeld ?_
  · (intro wq hSw; go_simp <;> with_reducible rfl)
  try simp only [Act.put, List.setIfInBounds_toArray, List.set_cons_zero, List.set_cons_succ]
  refine take_twoK (i := 4) (j := 7) (oi := { dst := some 19, op := Go.Op.load 75 (Go.Operand.tmp 18), type := 75, pos := "desk.go:32", after := #[{ on := 3, ground := Go.Ground.data }], guard := none }) (oj := { dst := some 22, op := Go.Op.buildSlice 75 1 #[(0, Go.Operand.tmp 21)], type := 75, pos := "desk.go:32", after := #[{ on := 6, ground := Go.Ground.data }], guard := none }) (.slice a L.length c) (.slice (some ⟨w1.drew.heap.size, 0, none⟩) 1 1) (w1 := w1.drew) (w2 := w1.drew.alloc (.cells #[.int .i64 kind, .string src, .string dst, .int .i64 amount, .string key, .int .i64 slot, .int .i64 shard, .bool false, .int .i64 0, .int .i64 0, .slice none 0 0] 74)) rfl rfl (by kernel_rfl) (by rfl) (by rfl) (by have hk := K1.out; go_simp <;> with_reducible rfl) hHeld (by go_simp <;> with_reducible rfl) SA.out ?_ ?_
  · try simp only [Act.put, List.setIfInBounds_toArray, List.set_cons_zero, List.set_cons_succ]
    refine take_val (i := 7) (oi := { dst := some 22, op := Go.Op.buildSlice 75 1 #[(0, Go.Operand.tmp 21)], type := 75, pos := "desk.go:32", after := #[{ on := 6, ground := Go.Ground.data }], guard := none }) (w' := w1.drew.alloc (.cells #[.int .i64 kind, .string src, .string dst, .int .i64 amount, .string key, .int .i64 slot, .int .i64 shard, .bool false, .int .i64 0, .int .i64 0, .slice none 0 0] 74)) (.slice (some ⟨w1.drew.heap.size, 0, none⟩) 1 1) rfl (by kernel_rfl) (by rfl) (by go_simp <;> with_reducible rfl) SA.out ?_
    try simp only [Act.put, List.setIfInBounds_toArray, List.set_cons_zero, List.set_cons_succ]
    refine take_val (i := 8) (oi := { dst := some 23, op := Go.Op.call { callee := Go.Callee.builtin Go.Builtin.append, args := #[Go.Operand.tmp 19, Go.Operand.tmp 22], argTypes := #[75, 75] }, type := 75, pos := "desk.go:32", after := #[{ on := 4, ground := Go.Ground.data }, { on := 7, ground := Go.Ground.data }], guard := none }) (w' := w2) (.slice a2 NL c2) rfl (by kernel_rfl) (by rfl) (exec_appendK rfl (by go_simp <;> with_reducible rfl) (by go_simp <;> with_reducible rfl) R2.out) SW.out ?_
    try simp only [Act.put, List.setIfInBounds_toArray, List.set_cons_zero, List.set_cons_succ]
    refine take_run (i := 9) (oi := { dst := some 24, op := Go.Op.nilCheck (Go.Operand.tmp 15), type := 0, pos := "desk.go:32", after := #[{ on := 0, ground := Go.Ground.data }, { on := 0, ground := Go.Ground.phase }, { on := 1, ground := Go.Ground.phase }, { on := 2, ground := Go.Ground.phase }, { on := 3, ground := Go.Ground.phase }, { on := 4, ground := Go.Ground.phase }, { on := 5, ground := Go.Ground.phase }, { on := 6, ground := Go.Ground.phase }, { on := 7, ground := Go.Ground.phase }, { on := 8, ground := Go.Ground.phase }], guard := none }) (v := .pointer (some ⟨P, 0, none⟩)) rfl (by kernel_rfl) (by kernel_rfl) (by kernel_rfl) (fun _ _ _ h => h) (by rfl) ?_ SW.out ?_
    · (intro wq hSw; go_simp <;> with_reducible rfl)
    try simp only [Act.put, List.setIfInBounds_toArray, List.set_cons_zero, List.set_cons_succ]
    refine take_run (i := 10) (oi := { dst := some 25, op := Go.Op.fieldAddr 77 (Go.Operand.tmp 24) 0, type := 0, pos := "desk.go:32", after := #[{ on := 9, ground := Go.Ground.data }, { on := 0, ground := Go.Ground.phase }, { on := 1, ground := Go.Ground.phase }, { on := 2, ground := Go.Ground.phase }, { on := 3, ground := Go.Ground.phase }, { on := 4, ground := Go.Ground.phase }, { on := 5, ground := Go.Ground.phase }, { on := 6, ground := Go.Ground.phase }, { on := 7, ground := Go.Ground.phase }, { on := 8, ground := Go.Ground.phase }], guard := none }) (v := .pointer (some ⟨P, 0, none⟩)) rfl (by kernel_rfl) (by kernel_rfl) (by kernel_rfl) (fun _ _ _ h => h) (by rfl) ?_ SW.out ?_
    · (intro wq hSw; go_simp <;> with_reducible rfl)
    try simp only [Act.put, List.setIfInBounds_toArray, List.set_cons_zero, List.set_cons_succ]
    refine take_eff (i := 11) (oi := { dst := none, op := Go.Op.store 75 (Go.Operand.tmp 25) (Go.Operand.tmp 23), type := 0, pos := "desk.go:32", after := #[{ on := 10, ground := Go.Ground.data }, { on := 8, ground := Go.Ground.data }, { on := 8, ground := Go.Ground.chain }, { on := 0, ground := Go.Ground.phase }, { on := 1, ground := Go.Ground.phase }, { on := 2, ground := Go.Ground.phase }, { on := 3, ground := Go.Ground.phase }, { on := 4, ground := Go.Ground.phase }, { on := 5, ground := Go.Ground.phase }, { on := 6, ground := Go.Ground.phase }, { on := 7, ground := Go.Ground.phase }, { on := 8, ground := Go.Ground.phase }], guard := none }) (w' := w2.setCell ⟨P, 0, none⟩ (.slice a2 NL c2)) rfl (by kernel_rfl) (by rfl) (by obtain ⟨hk, hz⟩ := K3.out; go_simp <;> with_reducible rfl) ((Below.heap_setCell _ _ _ _ nP.out).trans SW.out) ?_
    try simp only [Act.put]
    refine wpAnyH_done (by kernel_rfl) ?_ _
    have cf := CF.out
    have hn : (NL : Int) - 1 = (L.length : Int) := by have := LL.out; omega
    have hnw : NL < 3000 := by have := LL.out; have := HF.out; omega
    clear hHeld
    go_wp2
    go_ret
    exact ⟨by rw [HR.out]; first | rfl | (simp only; congr 2), by rw [HR.out, ← ENL.out]; exact Z1.out, by rw [← ENL.out]; exact Z2.out, by rw [← ENL.out]; exact Z3.out⟩
  · try simp only [Act.put, List.setIfInBounds_toArray, List.set_cons_zero, List.set_cons_succ]
    refine take_val (i := 4) (oi := { dst := some 19, op := Go.Op.load 75 (Go.Operand.tmp 18), type := 75, pos := "desk.go:32", after := #[{ on := 3, ground := Go.Ground.data }], guard := none }) (w' := w1.drew.alloc (.cells #[.int .i64 kind, .string src, .string dst, .int .i64 amount, .string key, .int .i64 slot, .int .i64 shard, .bool false, .int .i64 0, .int .i64 0, .slice none 0 0] 74)) (.slice a L.length c) rfl (by kernel_rfl) (by rfl) (by have hk := K2.out; go_simp <;> with_reducible rfl) SA.out ?_
    try simp only [Act.put, List.setIfInBounds_toArray, List.set_cons_zero, List.set_cons_succ]
    refine take_val (i := 8) (oi := { dst := some 23, op := Go.Op.call { callee := Go.Callee.builtin Go.Builtin.append, args := #[Go.Operand.tmp 19, Go.Operand.tmp 22], argTypes := #[75, 75] }, type := 75, pos := "desk.go:32", after := #[{ on := 4, ground := Go.Ground.data }, { on := 7, ground := Go.Ground.data }], guard := none }) (w' := w2) (.slice a2 NL c2) rfl (by kernel_rfl) (by rfl) (exec_appendK rfl (by go_simp <;> with_reducible rfl) (by go_simp <;> with_reducible rfl) R2.out) SW.out ?_
    try simp only [Act.put, List.setIfInBounds_toArray, List.set_cons_zero, List.set_cons_succ]
    refine take_run (i := 9) (oi := { dst := some 24, op := Go.Op.nilCheck (Go.Operand.tmp 15), type := 0, pos := "desk.go:32", after := #[{ on := 0, ground := Go.Ground.data }, { on := 0, ground := Go.Ground.phase }, { on := 1, ground := Go.Ground.phase }, { on := 2, ground := Go.Ground.phase }, { on := 3, ground := Go.Ground.phase }, { on := 4, ground := Go.Ground.phase }, { on := 5, ground := Go.Ground.phase }, { on := 6, ground := Go.Ground.phase }, { on := 7, ground := Go.Ground.phase }, { on := 8, ground := Go.Ground.phase }], guard := none }) (v := .pointer (some ⟨P, 0, none⟩)) rfl (by kernel_rfl) (by kernel_rfl) (by kernel_rfl) (fun _ _ _ h => h) (by rfl) ?_ SW.out ?_
    · (intro wq hSw; go_simp <;> with_reducible rfl)
    try simp only [Act.put, List.setIfInBounds_toArray, List.set_cons_zero, List.set_cons_succ]
    refine take_run (i := 10) (oi := { dst := some 25, op := Go.Op.fieldAddr 77 (Go.Operand.tmp 24) 0, type := 0, pos := "desk.go:32", after := #[{ on := 9, ground := Go.Ground.data }, { on := 0, ground := Go.Ground.phase }, { on := 1, ground := Go.Ground.phase }, { on := 2, ground := Go.Ground.phase }, { on := 3, ground := Go.Ground.phase }, { on := 4, ground := Go.Ground.phase }, { on := 5, ground := Go.Ground.phase }, { on := 6, ground := Go.Ground.phase }, { on := 7, ground := Go.Ground.phase }, { on := 8, ground := Go.Ground.phase }], guard := none }) (v := .pointer (some ⟨P, 0, none⟩)) rfl (by kernel_rfl) (by kernel_rfl) (by kernel_rfl) (fun _ _ _ h => h) (by rfl) ?_ SW.out ?_
    · (intro wq hSw; go_simp <;> with_reducible rfl)
    try simp only [Act.put, List.setIfInBounds_toArray, List.set_cons_zero, List.set_cons_succ]
    refine take_eff (i := 11) (oi := { dst := none, op := Go.Op.store 75 (Go.Operand.tmp 25) (Go.Operand.tmp 23), type := 0, pos := "desk.go:32", after := #[{ on := 10, ground := Go.Ground.data }, { on := 8, ground := Go.Ground.data }, { on := 8, ground := Go.Ground.chain }, { on := 0, ground := Go.Ground.phase }, { on := 1, ground := Go.Ground.phase }, { on := 2, ground := Go.Ground.phase }, { on := 3, ground := Go.Ground.phase }, { on := 4, ground := Go.Ground.phase }, { on := 5, ground := Go.Ground.phase }, { on := 6, ground := Go.Ground.phase }, { on := 7, ground := Go.Ground.phase }, { on := 8, ground := Go.Ground.phase }], guard := none }) (w' := w2.setCell ⟨P, 0, none⟩ (.slice a2 NL c2)) rfl (by kernel_rfl) (by rfl) (by obtain ⟨hk, hz⟩ := K3.out; go_simp <;> with_reducible rfl) ((Below.heap_setCell _ _ _ _ nP.out).trans SW.out) ?_
    try simp only [Act.put]
    refine wpAnyH_done (by kernel_rfl) ?_ _
    have cf := CF.out
    have hn : (NL : Int) - 1 = (L.length : Int) := by have := LL.out; omega
    have hnw : NL < 3000 := by have := LL.out; have := HF.out; omega
    clear hHeld
    go_wp2
    go_ret
    exact ⟨by rw [HR.out]; first | rfl | (simp only; congr 2), by rw [HR.out, ← ENL.out]; exact Z1.out, by rw [← ENL.out]; exact Z2.out, by rw [← ENL.out]; exact Z3.out⟩
end Go.Proofs.Ytaakdnbaljoehaa

namespace Go.Proofs.Ytaakdnbaljoehaa
open Go.RowKit Cod
attribute [local go_sem] Oper.semAt_some
set_option linter.unusedVariables false

theorem exec_storeMid {P : Program} {o : Oper} {a : Act} {w : World} {ty : TypeId} {x y : Operand} {b o' : Nat} {cells : Array Value} (ho : o.op = .store ty x y) (hx : a.eval x = .pointer (some ⟨b, o', none⟩)) (hy : a.eval y = .agg cells) (ht : w.there b o' cells.size) (hi : (P.info? ty).map (·.size) = some cells.size) (h1 : cells.all (·.oneCell') = true) : (execOp a.eval o).run P w = .ok .skip (w.setCells b o' cells.toList) := by
  unfold execOp
  simp only [ho, hx, hy, Instr.storeAt, Instr.sureAddr, Sem.run_bind, Sem.run_pure, Result.andThen_ok, run_storeVar_mid w b o' ty cells ht hi h1]
/-- An answer is heard. -/
def CallV.hear (c : CallV) (ry rm : Int) (rows : List (ByteArray × Int)) (ra : Option Addr) (rc : Nat) : CallV := ⟨c.op, true, ry, rm, rows, ra, rc⟩
theorem flat_hear (ry rm : Int) (rows : List (ByteArray × Int)) (ra : Option Addr) (rc : Nat) : ∀ (L : List CallV) (k : Nat) (hk : k < L.length), flat CallV.cells (L.set k (L[k].hear ry rm rows ra rc)) = ((((flat CallV.cells L).set (k * 11 + 7) (.bool true)).set (k * 11 + 8) (.int .i64 ry)).set (k * 11 + 8 + 1) (.int .i64 rm)).set (k * 11 + 8 + 1 + 1) (.slice ra rows.length rc)
  | x :: r, 0, _ => rfl
  | x :: r, k + 1, hk => by
    have ih := flat_hear ry rm rows ra rc r k (by simpa using hk)
    have e : ∀ (l : List CallV), flat CallV.cells (x :: l) = x.cells ++ flat CallV.cells l := fun l => rfl
    have st : ∀ (F : List Value) (j : Nat) (v : Value), (x.cells ++ F).set (j + 11) v = x.cells ++ F.set j v := fun F j v => by
      rw [List.set_append_right _ _ (by rw [CallV.cells11]; omega), CallV.cells11, Nat.add_sub_cancel]
    simp only [List.set_cons_succ, List.getElem_cons_succ]
    rw [e, ih, e]
    rw [show (k + 1) * 11 + 7 = k * 11 + 7 + 11 by omega, st, show (k + 1) * 11 + 8 = k * 11 + 8 + 11 by omega, st, show k * 11 + 8 + 11 + 1 = k * 11 + 8 + 1 + 11 by omega, st, show k * 11 + 8 + 1 + 11 + 1 = k * 11 + 8 + 1 + 1 + 11 by omega, st]
/-- What comes of Hear. -/
def hearOk (L : List CallV) (n : Int) : Bool := hasN L n && !(match L[n.toNat]? with | some c => c.heard | none => false)
set_option maxRecDepth 100000 in
set_option maxHeartbeats 1600000 in
theorem desk_hearNo {w : World} {base P : Nat} {L : List CallV} (h : DeskIn w base P L) (n : Int) (ry rm : Int) (qv : Value) (hn : hearOk L n = false) : Calls Try.prog 10 #[.pointer (some ⟨P, 0, none⟩), .int .i64 n, .agg #[.int .i64 ry, .int .i64 rm, qv]] w fun e w' => e = .returned (.bool false) ∧ Below w.heap.size w w' := by
  have b1 : Below w.heap.size w (w.alloc (.cells #[.int .i64 ry, .int .i64 rm, qv] 28)) := (Below.refl _ w).alloc (Nat.le_refl _) _
  have d1 := h.below b1
  have HH := desk_has d1 n
  have B1 : Hid _ := b1
  cases hh : hasN L n with
  | false =>
    rw [hh] at HH
    clear hn hh h b1 d1
    go_enter Try.func10, Try.ntmps10
    go_wp2_with fail
    refine HH.mono ?_
    rintro e w1 ⟨rfl, rfl⟩
    go_wp2
    go_ret
    exact ⟨rfl, B1.out⟩
  | true =>
    rw [hh] at HH
    obtain ⟨k, rfl, hk⟩ := hasN_true hh
    have hd : L[k].heard = true := by
      unfold hearOk at hn
      rw [hh] at hn
      simpa [hk] using hn
    obtain ⟨g, cap, hv, ho⟩ := desk_row d1 hk
    have hr := range_call ho hk
    have c0 : (w.alloc (.cells #[.int .i64 ry, .int .i64 rm, qv] 28)).cell? ⟨P, 0, none⟩ = some (.slice (some ⟨g, 0, none⟩) L.length cap) := by simp [World.cell?, hv]
    have c7 : (w.alloc (.cells #[.int .i64 ry, .int .i64 rm, qv] 28)).cell? ⟨g, k * 11 + 7, none⟩ = some (.bool true) := by
      rw [← hd]
      exact hr 7 _ rfl
    have hkl : (k : Int) < (L.length : Int) := by omega
    clear hn hh h b1 d1 hd hv ho hr hk
    go_enter Try.func10, Try.ntmps10
    go_wp2_with fail
    refine HH.mono ?_
    rintro e w1 ⟨rfl, rfl⟩
    go_wp2
    go_ret
    exact ⟨rfl, B1.out⟩
set_option maxRecDepth 100000 in
set_option maxHeartbeats 4000000 in
theorem desk_hear {w : World} {base P : Nat} {L : List CallV} (h : DeskIn w base P L) {k : Nat} (hk : k < L.length) (hh : L[k].heard = false) (ry rm : Int) (qa : Option Addr) (qc : Nat) (rows : List (ByteArray × Int)) (hq : RowsAt w qa rows.length rows) (hqn : qa = none → qc = 0) (hsz : rows.length * 24 ≤ 140737488355328) :
    Calls Try.prog 10 #[.pointer (some ⟨P, 0, none⟩), .int .i64 (k : Int), .agg #[.int .i64 ry, .int .i64 rm, .slice qa rows.length qc]] w fun e w' => ∃ a5 c5, e = .returned (.bool true) ∧ DeskIn w' base P (L.set k (L[k].hear ry rm rows a5 c5)) ∧ OnlyT [74] w w' ∧ Below base w w' ∧ ∀ x, a5 = some x → w.heap.size ≤ x.block := by
  have b1 : Below w.heap.size w (w.alloc (.cells #[.int .i64 ry, .int .i64 rm, .slice qa rows.length qc] 28)) := (Below.refl _ w).alloc (Nat.le_refl _) _
  have gb : (w.alloc (.cells #[.int .i64 ry, .int .i64 rm, .slice qa rows.length qc] 28)).heap[w.heap.size]? = some (.cells #[.int .i64 ry, .int .i64 rm, .slice qa rows.length qc] 28 (0, 0)) := heap_alloc_new w _
  obtain ⟨w1, e1⟩ : ∃ w1, w.alloc (.cells #[.int .i64 ry, .int .i64 rm, .slice qa rows.length qc] 28) = w1 := ⟨_, rfl⟩
  rw [e1] at b1 gb
  have d1 := h.below b1
  have HH := desk_has d1 (k : Int)
  have hhas : hasN L (k : Int) = true := by unfold hasN; rw [decide_eq_true (by omega), decide_eq_true (by omega)]; rfl
  rw [hhas] at HH
  obtain ⟨g, cap, hv, ho⟩ := desk_row d1 hk
  have hr := range_call ho hk
  have c0 : w1.cell? ⟨P, 0, none⟩ = some (.slice (some ⟨g, 0, none⟩) L.length cap) := by simp [World.cell?, hv]
  have c7 : w1.cell? ⟨g, k * 11 + 7, none⟩ = some (.bool false) := by rw [← hh]; exact hr 7 _ rfl
  have hkl : (k : Int) < (L.length : Int) := by omega
  have hP := h.lt
  have hbase : base ≤ w.heap.size := Nat.le_trans h.pb (Nat.le_of_lt hP)
  have CO := own_any ry rm qa qc rows w1.drew (hq.below b1.drew) hqn hsz
  have KP : Hid (∀ W : World, W.heap[P]? = w1.heap[P]? → W.cell? ⟨P, 0, none⟩ = some (.slice (some ⟨g, 0, none⟩) L.length cap)) := fun W e => by simp [World.cell?, e, hv]
  have KB : Hid (∀ W : World, W.heap[w.heap.size]? = w1.heap[w.heap.size]? → W.heap[w.heap.size]? = some (.cells #[.int .i64 ry, .int .i64 rm, .slice qa rows.length qc] 28 (0, 0))) := fun W e => e.trans gb
  have AFT : Hid (∀ (w4 : World) (a5 : Option Addr) (c5 : Nat), Below w1.heap.size w1 w4 → w4.ownsRow w1.heap.size 59 2 (.slice a5 rows.length c5) rows.length (rowCells rows) →
      w4.heap[P]? = w1.heap[P]? ∧ w4.heap[w.heap.size]? = w1.heap[w.heap.size]? ∧ (w4.cell? ⟨g, k * 11 + 7, none⟩).isSome = true ∧ w4.frozen? ⟨g, k * 11 + 7, none⟩ = false ∧ g ≠ P ∧ g ≠ w.heap.size ∧ (w4.setCell ⟨g, k * 11 + 7, none⟩ (.bool true)).there g (k * 11 + 8) 3 ∧
      DeskIn ((w4.setCell ⟨g, k * 11 + 7, none⟩ (.bool true)).setCells g (k * 11 + 8) [.int .i64 ry, .int .i64 rm, .slice a5 rows.length c5]) base P (L.set k (L[k].hear ry rm rows a5 c5)) ∧ OnlyT [74] w ((w4.setCell ⟨g, k * 11 + 7, none⟩ (.bool true)).setCells g (k * 11 + 8) [.int .i64 ry, .int .i64 rm, .slice a5 rows.length c5]) ∧ Below base w ((w4.setCell ⟨g, k * 11 + 7, none⟩ (.bool true)).setCells g (k * 11 + 8) [.int .i64 ry, .int .i64 rm, .slice a5 rows.length c5])) := fun w4 a5 c5 b4 o4 => by
    have hg1 : base ≤ g ∧ g < w1.heap.size := ho.lt g rfl
    obtain ⟨_, _, cur, hgc⟩ := row_kind ho (g := g) rfl
    have nP : g ≠ P := fun e => by rw [e, hv] at hgc; injection hgc with hgc; injection hgc with _ hgc; exact absurd hgc (by decide)
    have nB : g ≠ w.heap.size := fun e => by rw [e, gb] at hgc; injection hgc with hgc; injection hgc with _ hgc; exact absurd hgc (by decide)
    have lP : P < w1.heap.size := (Array.getElem?_eq_some_iff.1 hv).1
    have lB : w.heap.size < w1.heap.size := (Array.getElem?_eq_some_iff.1 gb).1
    have o4' := ownsB ho b4
    have r4 := range_call o4' hk
    have s1 := (o4'.stored (k * 11 + 7) (.bool true)).1
    have s2 := (s1.stored (k * 11 + 8) (.int .i64 ry)).1
    have s3 := (s2.stored (k * 11 + 8 + 1) (.int .i64 rm)).1
    have s4 := (s3.stored (k * 11 + 8 + 1 + 1) (.slice a5 rows.length c5)).1
    rw [← flat_hear ry rm rows a5 c5 L k hk] at s4
    have hP4 := b4.block P lP
    have hB4 := b4.block _ lB
    have oth : ∀ K, K ≠ g → ((w4.setCell ⟨g, k * 11 + 7, none⟩ (.bool true)).setCells g (k * 11 + 8) [.int .i64 ry, .int .i64 rm, .slice a5 rows.length c5]).heap[K]? = w4.heap[K]? := fun K hK => by
      show ((((w4.setCell ⟨g, k * 11 + 7, none⟩ (.bool true)).setCell ⟨g, k * 11 + 8, none⟩ (.int .i64 ry)).setCell ⟨g, k * 11 + 8 + 1, none⟩ (.int .i64 rm)).setCell ⟨g, k * 11 + 8 + 1 + 1, none⟩ (.slice a5 rows.length c5)).heap[K]? = _
      rw [Below.heap_setCell _ _ _ _ hK, Below.heap_setCell _ _ _ _ hK, Below.heap_setCell _ _ _ _ hK, Below.heap_setCell _ _ _ _ hK]
    have on : OnlyT [74] w ((w4.setCell ⟨g, k * 11 + 7, none⟩ (.bool true)).setCells g (k * 11 + 8) [.int .i64 ry, .int .i64 rm, .slice a5 rows.length c5]) := fun K c t fr hK ht => by
      have lt := (Array.getElem?_eq_some_iff.1 hK).1
      have hK1 := (b1.block K lt).trans hK
      rw [oth K (fun e => by
        rw [e, hgc] at hK1
        injection hK1 with hK1
        injection hK1 with _ hK1
        exact ht (by rw [← hK1]; simp)), b4.block K (Nat.lt_of_lt_of_le lt b1.size)]
      exact hK1
    have bb : Below base w w4 := (b1.mono hbase).trans (b4.mono (Nat.le_trans hbase b1.size))
    refine ⟨hP4, hB4, by rw [r4 7 _ rfl]; rfl, o4'.frozenAt _, nP, nB, fun j hj => ?_, ⟨⟨_, (oth P (Ne.symm nP)).trans (hP4.trans hv), ?_⟩, fun c hc => ?_, h.pb, by rw [List.length_set]; exact h.few⟩, on, ?_⟩
    · have q := s1.cellAt (k * 11 + 8 + j) (by omega)
      have q2 : (k * 11 + 8 + j) < ((flat CallV.cells L).set (k * 11 + 7) (.bool true)).length := by rw [List.length_set, flat_length CallV.cells11]; omega
      exact ⟨by rw [q, List.getElem?_eq_getElem q2]; rfl, s1.frozenAt _⟩
    · rw [List.length_set]
      exact s4
    · rcases List.mem_or_eq_of_mem_set hc with hc | rfl
      · exact ownsT (h.rows c hc) on (by decide)
      · exact owns_mono' (ownsK o4 fun gg hg => oth gg (by have := (o4.lt _ hg).1; omega)) (Nat.le_trans hbase b1.size)
    · show Below base w ((((w4.setCell ⟨g, k * 11 + 7, none⟩ (.bool true)).setCell ⟨g, k * 11 + 8, none⟩ (.int .i64 ry)).setCell ⟨g, k * 11 + 8 + 1, none⟩ (.int .i64 rm)).setCell ⟨g, k * 11 + 8 + 1 + 1, none⟩ (.slice a5 rows.length c5))
      exact (((bb.setCell hg1.1 _).setCell hg1.1 _).setCell hg1.1 _).setCell hg1.1 _
  have E1 : Hid (_ = w1) := e1
  have LS : Hid (w.heap.size ≤ w1.heap.size) := b1.size
  have LB : Hid (w1.drew.heap.size = w1.heap.size) := rfl
  clear h b1 gb e1 d1 hhas hv ho hr hh hP hbase hq hqn hsz
  go_enter Try.func10, Try.ntmps10
  go_wp2_with fail
  rw [E1.out]
  refine HH.mono ?_
  rintro e wq ⟨rfl, hq⟩
  subst wq
  clear HH E1
  go_wp2_with fail
  clear c0 c7
  refine wp_region_held_drew (S := fun W => W.heap[P]? = w1.heap[P]? ∧ W.heap[w.heap.size]? = w1.heap[w.heap.size]?) (by kernel_rfl) ⟨rfl, rfl⟩ (fun hHeld => ?_)
  refine take_run (i := 0) (oi := { dst := some 21, op := Go.Op.move (Go.Operand.tmp 0), type := 24, pos := "desk.go:46", after := #[], guard := none }) (v := .pointer (some ⟨P, 0, none⟩)) rfl (by kernel_rfl) (by kernel_rfl) (by kernel_rfl) (fun _ _ _ h => h) (by rfl) ?_ hHeld ?_
  · (intro wq hSw; go_simp <;> with_reducible rfl)
  try simp only [Act.put, List.setIfInBounds_toArray, List.set_cons_zero, List.set_cons_succ]
  refine take_run (i := 1) (oi := { dst := some 22, op := Go.Op.nilCheck (Go.Operand.tmp 21), type := 0, pos := "desk.go:46", after := #[{ on := 0, ground := Go.Ground.data }], guard := none }) (v := .pointer (some ⟨P, 0, none⟩)) rfl (by kernel_rfl) (by kernel_rfl) (by kernel_rfl) (fun _ _ _ h => h) (by rfl) ?_ hHeld ?_
  · (intro wq hSw; go_simp <;> with_reducible rfl)
  try simp only [Act.put, List.setIfInBounds_toArray, List.set_cons_zero, List.set_cons_succ]
  refine take_run (i := 2) (oi := { dst := some 23, op := Go.Op.fieldAddr 77 (Go.Operand.tmp 22) 0, type := 0, pos := "desk.go:46", after := #[{ on := 1, ground := Go.Ground.data }], guard := none }) (v := .pointer (some ⟨P, 0, none⟩)) rfl (by kernel_rfl) (by kernel_rfl) (by kernel_rfl) (fun _ _ _ h => h) (by rfl) ?_ hHeld ?_
  · (intro wq hSw; go_simp <;> with_reducible rfl)
  try simp only [Act.put, List.setIfInBounds_toArray, List.set_cons_zero, List.set_cons_succ]
  refine take_run (i := 3) (oi := { dst := some 24, op := Go.Op.load 75 (Go.Operand.tmp 23), type := 75, pos := "desk.go:46", after := #[{ on := 2, ground := Go.Ground.data }], guard := none }) (v := .slice (some ⟨g, 0, none⟩) L.length cap) rfl (by kernel_rfl) (by kernel_rfl) (by kernel_rfl) (fun _ _ _ h => h) (by rfl) ?_ hHeld ?_
  · (intro wq hSw; have hk := KP.out wq hSw.1; go_simp <;> with_reducible rfl)
  try simp only [Act.put, List.setIfInBounds_toArray, List.set_cons_zero, List.set_cons_succ]
  refine take_run (i := 4) (oi := { dst := some 25, op := Go.Op.move (Go.Operand.tmp 1), type := 3, pos := "desk.go:46", after := #[], guard := none }) (v := .int .i64 (k : Int)) rfl (by kernel_rfl) (by kernel_rfl) (by kernel_rfl) (fun _ _ _ h => h) (by rfl) ?_ hHeld ?_
  · (intro wq hSw; go_simp <;> with_reducible rfl)
  try simp only [Act.put, List.setIfInBounds_toArray, List.set_cons_zero, List.set_cons_succ]
  refine take_run (i := 5) (oi := { dst := some 26, op := Go.Op.move (Go.Operand.tmp 0), type := 24, pos := "desk.go:46", after := #[], guard := none }) (v := .pointer (some ⟨P, 0, none⟩)) rfl (by kernel_rfl) (by kernel_rfl) (by kernel_rfl) (fun _ _ _ h => h) (by rfl) ?_ hHeld ?_
  · (intro wq hSw; go_simp <;> with_reducible rfl)
  try simp only [Act.put, List.setIfInBounds_toArray, List.set_cons_zero, List.set_cons_succ]
  refine take_run (i := 6) (oi := { dst := some 27, op := Go.Op.nilCheck (Go.Operand.tmp 26), type := 0, pos := "desk.go:46", after := #[{ on := 5, ground := Go.Ground.data }], guard := none }) (v := .pointer (some ⟨P, 0, none⟩)) rfl (by kernel_rfl) (by kernel_rfl) (by kernel_rfl) (fun _ _ _ h => h) (by rfl) ?_ hHeld ?_
  · (intro wq hSw; go_simp <;> with_reducible rfl)
  try simp only [Act.put, List.setIfInBounds_toArray, List.set_cons_zero, List.set_cons_succ]
  refine take_run (i := 7) (oi := { dst := some 28, op := Go.Op.fieldAddr 77 (Go.Operand.tmp 27) 0, type := 0, pos := "desk.go:46", after := #[{ on := 6, ground := Go.Ground.data }], guard := none }) (v := .pointer (some ⟨P, 0, none⟩)) rfl (by kernel_rfl) (by kernel_rfl) (by kernel_rfl) (fun _ _ _ h => h) (by rfl) ?_ hHeld ?_
  · (intro wq hSw; go_simp <;> with_reducible rfl)
  try simp only [Act.put, List.setIfInBounds_toArray, List.set_cons_zero, List.set_cons_succ]
  refine take_run (i := 8) (oi := { dst := some 29, op := Go.Op.load 75 (Go.Operand.tmp 28), type := 75, pos := "desk.go:46", after := #[{ on := 7, ground := Go.Ground.data }], guard := none }) (v := .slice (some ⟨g, 0, none⟩) L.length cap) rfl (by kernel_rfl) (by kernel_rfl) (by kernel_rfl) (fun _ _ _ h => h) (by rfl) ?_ hHeld ?_
  · (intro wq hSw; have hk := KP.out wq hSw.1; go_simp <;> with_reducible rfl)
  try simp only [Act.put, List.setIfInBounds_toArray, List.set_cons_zero, List.set_cons_succ]
  refine take_run (i := 9) (oi := { dst := some 30, op := Go.Op.move (Go.Operand.tmp 1), type := 3, pos := "desk.go:46", after := #[{ on := 14, ground := Go.Ground.gcOnly Go.Departure.lateStores }], guard := none }) (v := .int .i64 (k : Int)) rfl (by kernel_rfl) (by kernel_rfl) (by kernel_rfl) (fun _ _ _ h => h) (by rfl) ?_ hHeld ?_
  · (intro wq hSw; go_simp <;> with_reducible rfl)
  try simp only [Act.put, List.setIfInBounds_toArray, List.set_cons_zero, List.set_cons_succ]
  refine take_row (i := 10) (oi := { dst := some 31, op := Go.Op.load 28 (Go.Operand.tmp 5), type := 28, pos := "desk.go:46", after := #[], guard := none }) rfl (by kernel_rfl) (by kernel_rfl) (by kernel_rfl) 28 (.tmp 5) w.heap.size 28 #[.int .i64 ry, .int .i64 rm, .slice qa rows.length qc] (0, 0) _ (fun _ _ _ h => h) (by rfl) rfl (by go_simp <;> with_reducible rfl) (fun W hW => KB.out W hW.2) Try.underlying28 rfl (by kernel_rfl) hHeld ?_
  try simp only [Act.put, List.setIfInBounds_toArray, List.set_cons_zero, List.set_cons_succ]
  refine take_call (i := 11) (oi := { dst := some 32, op := Go.Op.call { callee := Go.Callee.value (Go.Operand.func 33), args := #[Go.Operand.tmp 31], argTypes := #[28] }, type := 28, pos := "desk.go:46", after := #[{ on := 10, ground := Go.Ground.data }], guard := none }) rfl (by kernel_rfl) (by rfl) 33 _ (by go_simp <;> with_reducible rfl) ?_
  refine CO.mono ?_
  rintro e w4 ⟨a5, c5, rfl, o4, b4⟩
  have LO : Hid (∀ x, a5 = some x → w.heap.size ≤ x.block) := fun x e => Nat.le_trans LS.out (row_kind o4 (g := x.block) (by rw [e]; rfl)).1
  obtain ⟨q1, q2, q3, q4, q5, q6, q7, q8, q9, q10⟩ := AFT.out w4 a5 c5 (((Below.refl _ w1).drew).trans b4) o4
  refine ⟨_, rfl, ⟨q1, q2⟩, ?_⟩
  try simp only [Act.put, List.setIfInBounds_toArray, List.set_cons_zero, List.set_cons_succ]
  refine take_run (i := 12) (oi := { dst := some 33, op := Go.Op.indexAddr 75 (Go.Operand.tmp 24) (Go.Operand.tmp 25), type := 0, pos := "desk.go:46", after := #[{ on := 3, ground := Go.Ground.data }, { on := 4, ground := Go.Ground.data }, { on := 0, ground := Go.Ground.phase }, { on := 1, ground := Go.Ground.phase }, { on := 2, ground := Go.Ground.phase }, { on := 3, ground := Go.Ground.phase }, { on := 4, ground := Go.Ground.phase }, { on := 5, ground := Go.Ground.textOnly Go.Departure.lateStores }, { on := 6, ground := Go.Ground.textOnly Go.Departure.lateStoresUnsure }, { on := 7, ground := Go.Ground.textOnly Go.Departure.lateStoresUnsure }, { on := 8, ground := Go.Ground.phase }, { on := 9, ground := Go.Ground.textOnly Go.Departure.lateStores }, { on := 10, ground := Go.Ground.textOnly Go.Departure.lateStores }, { on := 11, ground := Go.Ground.phase }], guard := none }) (v := .pointer (some ⟨g, k * 11, none⟩)) rfl (by kernel_rfl) (by kernel_rfl) (by kernel_rfl) (fun _ _ _ h => h) (by rfl) ?_ ⟨q1, q2⟩ ?_
  · (intro wq hSw; go_simp <;> with_reducible rfl)
  try simp only [Act.put, List.setIfInBounds_toArray, List.set_cons_zero, List.set_cons_succ]
  refine take_run (i := 13) (oi := { dst := some 34, op := Go.Op.fieldAddr 74 (Go.Operand.tmp 33) 1, type := 0, pos := "desk.go:46", after := #[{ on := 12, ground := Go.Ground.data }, { on := 0, ground := Go.Ground.phase }, { on := 1, ground := Go.Ground.phase }, { on := 2, ground := Go.Ground.phase }, { on := 3, ground := Go.Ground.phase }, { on := 4, ground := Go.Ground.phase }, { on := 5, ground := Go.Ground.textOnly Go.Departure.lateStores }, { on := 6, ground := Go.Ground.textOnly Go.Departure.lateStoresUnsure }, { on := 7, ground := Go.Ground.textOnly Go.Departure.lateStoresUnsure }, { on := 8, ground := Go.Ground.phase }, { on := 9, ground := Go.Ground.textOnly Go.Departure.lateStores }, { on := 10, ground := Go.Ground.textOnly Go.Departure.lateStores }, { on := 11, ground := Go.Ground.phase }], guard := none }) (v := .pointer (some ⟨g, k * 11 + 7, none⟩)) rfl (by kernel_rfl) (by kernel_rfl) (by kernel_rfl) (fun _ _ _ h => h) (by rfl) ?_ ⟨q1, q2⟩ ?_
  · (intro wq hSw; go_simp <;> with_reducible rfl)
  try simp only [Act.put, List.setIfInBounds_toArray, List.set_cons_zero, List.set_cons_succ]
  have u1 : (w4.setCell ⟨g, k * 11 + 7, none⟩ (.bool true)).heap[P]? = w1.heap[P]? ∧ (w4.setCell ⟨g, k * 11 + 7, none⟩ (.bool true)).heap[w.heap.size]? = w1.heap[w.heap.size]? := ⟨(Below.heap_setCell _ _ _ _ (Ne.symm q5)).trans q1, (Below.heap_setCell _ _ _ _ (Ne.symm q6)).trans q2⟩
  obtain ⟨cv, hcv⟩ := Option.isSome_iff_exists.1 q3
  refine take_eff (i := 14) (oi := { dst := none, op := Go.Op.store 4 (Go.Operand.tmp 34) (Go.Operand.const (Go.Value.bool true)), type := 0, pos := "desk.go:46", after := #[{ on := 13, ground := Go.Ground.data }, { on := 11, ground := Go.Ground.chain }, { on := 0, ground := Go.Ground.phase }, { on := 1, ground := Go.Ground.phase }, { on := 2, ground := Go.Ground.phase }, { on := 3, ground := Go.Ground.phase }, { on := 4, ground := Go.Ground.phase }, { on := 5, ground := Go.Ground.textOnly Go.Departure.lateStores }, { on := 6, ground := Go.Ground.textOnly Go.Departure.lateStoresUnsure }, { on := 7, ground := Go.Ground.textOnly Go.Departure.lateStoresUnsure }, { on := 8, ground := Go.Ground.phase }, { on := 9, ground := Go.Ground.textOnly Go.Departure.lateStores }, { on := 10, ground := Go.Ground.textOnly Go.Departure.lateStores }, { on := 11, ground := Go.Ground.phase }], guard := none }) (w' := w4.setCell ⟨g, k * 11 + 7, none⟩ (.bool true)) rfl (by kernel_rfl) (by rfl) (by go_simp <;> with_reducible rfl) u1 ?_
  try simp only [Act.put]
  refine take_run (i := 15) (oi := { dst := some 35, op := Go.Op.indexAddr 75 (Go.Operand.tmp 29) (Go.Operand.tmp 30), type := 0, pos := "desk.go:46", after := #[{ on := 8, ground := Go.Ground.data }, { on := 9, ground := Go.Ground.data }, { on := 0, ground := Go.Ground.phase }, { on := 1, ground := Go.Ground.phase }, { on := 2, ground := Go.Ground.phase }, { on := 3, ground := Go.Ground.phase }, { on := 4, ground := Go.Ground.phase }, { on := 5, ground := Go.Ground.phase }, { on := 6, ground := Go.Ground.phase }, { on := 7, ground := Go.Ground.phase }, { on := 8, ground := Go.Ground.phase }, { on := 9, ground := Go.Ground.phase }, { on := 10, ground := Go.Ground.phase }, { on := 11, ground := Go.Ground.phase }, { on := 12, ground := Go.Ground.phase }, { on := 13, ground := Go.Ground.phase }, { on := 14, ground := Go.Ground.phase }], guard := none }) (v := .pointer (some ⟨g, k * 11, none⟩)) rfl (by kernel_rfl) (by kernel_rfl) (by kernel_rfl) (fun _ _ _ h => h) (by rfl) ?_ u1 ?_
  · (intro wq hSw; go_simp <;> with_reducible rfl)
  try simp only [Act.put, List.setIfInBounds_toArray, List.set_cons_zero, List.set_cons_succ]
  refine take_run (i := 16) (oi := { dst := some 36, op := Go.Op.fieldAddr 74 (Go.Operand.tmp 35) 2, type := 0, pos := "desk.go:46", after := #[{ on := 15, ground := Go.Ground.data }, { on := 0, ground := Go.Ground.phase }, { on := 1, ground := Go.Ground.phase }, { on := 2, ground := Go.Ground.phase }, { on := 3, ground := Go.Ground.phase }, { on := 4, ground := Go.Ground.phase }, { on := 5, ground := Go.Ground.phase }, { on := 6, ground := Go.Ground.phase }, { on := 7, ground := Go.Ground.phase }, { on := 8, ground := Go.Ground.phase }, { on := 9, ground := Go.Ground.phase }, { on := 10, ground := Go.Ground.phase }, { on := 11, ground := Go.Ground.phase }, { on := 12, ground := Go.Ground.phase }, { on := 13, ground := Go.Ground.phase }, { on := 14, ground := Go.Ground.phase }], guard := none }) (v := .pointer (some ⟨g, k * 11 + 8, none⟩)) rfl (by kernel_rfl) (by kernel_rfl) (by kernel_rfl) (fun _ _ _ h => h) (by rfl) ?_ u1 ?_
  · (intro wq hSw; go_simp <;> with_reducible rfl)
  try simp only [Act.put, List.setIfInBounds_toArray, List.set_cons_zero, List.set_cons_succ]
  have u2 : ((w4.setCell ⟨g, k * 11 + 7, none⟩ (.bool true)).setCells g (k * 11 + 8) [.int .i64 ry, .int .i64 rm, .slice a5 rows.length c5]).heap[P]? = w1.heap[P]? ∧ ((w4.setCell ⟨g, k * 11 + 7, none⟩ (.bool true)).setCells g (k * 11 + 8) [.int .i64 ry, .int .i64 rm, .slice a5 rows.length c5]).heap[w.heap.size]? = w1.heap[w.heap.size]? := by
    constructor
    · show ((((w4.setCell ⟨g, k * 11 + 7, none⟩ (.bool true)).setCell ⟨g, k * 11 + 8, none⟩ (.int .i64 ry)).setCell ⟨g, k * 11 + 8 + 1, none⟩ (.int .i64 rm)).setCell ⟨g, k * 11 + 8 + 1 + 1, none⟩ (.slice a5 rows.length c5)).heap[P]? = _
      rw [Below.heap_setCell _ _ _ _ (Ne.symm q5), Below.heap_setCell _ _ _ _ (Ne.symm q5), Below.heap_setCell _ _ _ _ (Ne.symm q5)]
      exact u1.1
    · show ((((w4.setCell ⟨g, k * 11 + 7, none⟩ (.bool true)).setCell ⟨g, k * 11 + 8, none⟩ (.int .i64 ry)).setCell ⟨g, k * 11 + 8 + 1, none⟩ (.int .i64 rm)).setCell ⟨g, k * 11 + 8 + 1 + 1, none⟩ (.slice a5 rows.length c5)).heap[w.heap.size]? = _
      rw [Below.heap_setCell _ _ _ _ (Ne.symm q6), Below.heap_setCell _ _ _ _ (Ne.symm q6), Below.heap_setCell _ _ _ _ (Ne.symm q6)]
      exact u1.2
  refine take_eff (i := 17) (oi := { dst := none, op := Go.Op.store 28 (Go.Operand.tmp 36) (Go.Operand.tmp 32), type := 0, pos := "desk.go:46", after := #[{ on := 16, ground := Go.Ground.data }, { on := 11, ground := Go.Ground.data }, { on := 14, ground := Go.Ground.chain }, { on := 0, ground := Go.Ground.phase }, { on := 1, ground := Go.Ground.phase }, { on := 2, ground := Go.Ground.phase }, { on := 3, ground := Go.Ground.phase }, { on := 4, ground := Go.Ground.phase }, { on := 5, ground := Go.Ground.phase }, { on := 6, ground := Go.Ground.phase }, { on := 7, ground := Go.Ground.phase }, { on := 8, ground := Go.Ground.phase }, { on := 9, ground := Go.Ground.phase }, { on := 10, ground := Go.Ground.phase }, { on := 11, ground := Go.Ground.phase }, { on := 12, ground := Go.Ground.phase }, { on := 13, ground := Go.Ground.phase }, { on := 14, ground := Go.Ground.phase }], guard := none }) (w' := (w4.setCell ⟨g, k * 11 + 7, none⟩ (.bool true)).setCells g (k * 11 + 8) [.int .i64 ry, .int .i64 rm, .slice a5 rows.length c5]) rfl (by kernel_rfl) (by rfl) (exec_storeMid (ty := 28) (x := .tmp 36) (y := .tmp 32) (b := g) (o' := k * 11 + 8) (cells := #[.int .i64 ry, .int .i64 rm, .slice a5 rows.length c5]) rfl (by go_simp <;> with_reducible rfl) (by go_simp <;> with_reducible rfl) q7 (by kernel_rfl) (by simp [Value.oneCell'])) u2 ?_
  try simp only [Act.put]
  refine wpAnyH_done (by kernel_rfl) ?_ _
  have Q8 : Hid _ := q8
  have Q9 : Hid (OnlyT _ _ _) := q9
  have Q10 : Hid (Below _ _ _) := q10
  clear q1 q2 q3 q4 q5 q6 q7 q8 q9 q10 u1 u2 hHeld hcv o4 b4 CO AFT
  go_wp2
  go_ret
  exact ⟨a5, c5, rfl, Q8.out, Q9.out, Q10.out, LO.out⟩
end Go.Proofs.Ytaakdnbaljoehaa
