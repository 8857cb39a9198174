/- Package auditor: Told in Collect. -/
import Derived.Test.YtckldjiabalgbaaARows
namespace Go.Proofs.Ytckldjiabalgbaa
open Go.RowKit
attribute [local go_sem] Oper.semAt_some
set_option linter.unusedVariables false

/-- A shard has answered. -/
def setD (D : AuD) (v : Value) : Nat → AuD
  | 0 => { D with a0 := true, v0 := v }
  | 1 => { D with a1 := true, v1 := v }
  | _ => { D with a2 := true, v2 := v }
theorem setD_sh (D : AuD) (v : Value) (i : Nat) : (setD D v i).sh = D.sh := by unfold setD; split <;> rfl
theorem AuIn.told {w : World} {G : Nat} {D : AuD} (h : AuIn w G D) (v : Value) {i : Nat} (hi : i < 3) : AuIn ((w.setCell ⟨G, 6 + i, none⟩ v).setCell ⟨G, 3 + i, none⟩ (.bool true)) G (setD D v i) ∧ (∃ u, w.cell? ⟨G, 6 + i, none⟩ = some u) ∧ w.frozen? ⟨G, 6 + i, none⟩ = false ∧ (∃ u, (w.setCell ⟨G, 6 + i, none⟩ v).cell? ⟨G, 3 + i, none⟩ = some u) ∧ (w.setCell ⟨G, 6 + i, none⟩ v).frozen? ⟨G, 3 + i, none⟩ = false := by
  simp only [AuIn] at h ⊢
  have h2 : (w.setCell ⟨G, 6 + i, none⟩ v).heap[G]? = _ := set_ofA h
  match i, hi with
  | 0, _ => exact ⟨set_ofA h2, ⟨_, by simp [World.cell?, h]; rfl⟩, by simp [World.frozen?, h], ⟨_, by simp [World.cell?, h2]; rfl⟩, by simp [World.frozen?, h2]⟩
  | 1, _ => exact ⟨set_ofA h2, ⟨_, by simp [World.cell?, h]; rfl⟩, by simp [World.frozen?, h], ⟨_, by simp [World.cell?, h2]; rfl⟩, by simp [World.frozen?, h2]⟩
  | 2, _ => exact ⟨set_ofA h2, ⟨_, by simp [World.cell?, h]; rfl⟩, by simp [World.frozen?, h], ⟨_, by simp [World.cell?, h2]; rfl⟩, by simp [World.frozen?, h2]⟩
theorem RowsX.only {w w' : World} {G : Nat} {a : Option Addr} {n : Nat} {rows : List (ByteArray × Int)} (h : RowsX w a n rows) (o : OnlyG G w w') (hn : ∀ x, a = some x → rows ≠ [] → x.block ≠ G) : RowsX w' a n rows := by
  refine ⟨h.1, h.2.1, h.2.2.imp id ?_⟩
  rintro ⟨b, off, rfl, hc⟩
  refine ⟨b, off, rfl, fun j hj => ?_⟩
  have nb : b ≠ G := hn _ rfl (fun e => by rw [e] at hj; simp at hj)
  obtain ⟨c1, c2⟩ := hc j hj
  have e := o.block b nb
  simp only [World.cell?] at c1 c2 ⊢
  rw [e]
  exact ⟨c1, c2⟩
theorem AuIn.below {w w' : World} {G : Nat} {D : AuD} (h : AuIn w G D) (b : Below w.heap.size w w') : AuIn w' G D := by
  simp only [AuIn] at h ⊢
  exact (b.block _ (Array.getElem?_eq_some_iff.1 h).1).trans h
/-- What is there behind Told. -/
structure FinA (w W : World) (G : Nat) (v : Value) (rows : List (ByteArray × Int)) (D : AuD) : Prop where
  own : W.ownsRow w.heap.size 28 2 v rows.length (rowCellsX rows)
  blk : ∀ K, K < w.heap.size → K ≠ G → W.heap[K]? = w.heap[K]?
  sz : w.heap.size ≤ W.heap.size
  au : AuIn W G D
  env : W.os = w.os ∧ W.tape = w.tape ∧ W.output = w.output
theorem FinA.row {w W : World} {G B : Nat} {v : Value} {rows : List (ByteArray × Int)} {D : AuD} {cs cs' : Array Value} (h : FinA w W G v rows D) (hG : G < w.heap.size) (hB : w.heap.size ≤ B) (q : W.heap[B]? = some (.cells cs 47 (0, 0))) : FinA w (W.setRow B cs') G v rows D ∧ (W.setRow B cs').heap[B]? = some (.cells cs' 47 (0, 0)) := by
  refine ⟨⟨owns_kept h.own fun g e => setRow_other _ _ _ _ fun e2 => ?_, fun K hK hn => (setRow_other _ _ _ _ (by omega)).trans (h.blk K hK hn), by simpa [World.setRow] using h.sz, ?_, h.env⟩, setRow_heap _ _ _ _ _ _ q⟩
  · obtain ⟨_, _, cur, hc⟩ := row_kind h.own e
    rw [e2, q] at hc
    injection hc with hc
    injection hc with _ hc
    exact absurd hc (by decide)
  · have a := h.au
    simp only [AuIn] at a ⊢
    exact (setRow_other _ _ _ _ (by omega)).trans a
theorem FinA.drewN {w W : World} {G : Nat} {v : Value} {rows : List (ByteArray × Int)} {D : AuD} (h : FinA w W G v rows D) (m : Nat) : FinA w (W.drewN m) G v rows D := ⟨h.own, h.blk, h.sz, h.au, h.env⟩
theorem FinA.whole {w W : World} {G : Nat} {v : Value} {rows : List (ByteArray × Int)} {D : AuD} (h : FinA w W G v rows D) (hG : G < w.heap.size) : FinA w (W.setCell ⟨G, 9, none⟩ (.bool true)) G v rows { D with wh := true } := by
  refine ⟨owns_kept h.own fun g e => Below.heap_setCell _ _ _ _ (by have := (row_kind h.own e).1; show g ≠ G; omega), fun K hK hn => (Below.heap_setCell _ _ _ _ hn).trans (h.blk K hK hn), by simpa using h.sz, ?_, h.env⟩
  have a := h.au
  simp only [AuIn] at a ⊢
  exact set_ofA a
theorem knowD_n (D : AuD) (n ph : Int) : (knowD D n ph).n = n ∧ (knowD D n ph).ph = ph ∧ (knowD D n ph).sh = D.sh := by
  unfold knowD
  by_cases h1 : n = D.n
  · by_cases h2 : ph = D.ph
    · simp [h1, h2]
    · simp [h1, h2]
  · simp [h1]
set_option maxRecDepth 100000 in
set_option maxHeartbeats 4000000 in
theorem toldA_collect {w : World} {G : Nat} {D : AuD} (h : AuIn w G D) {S : Nat} (hS : D.sh = S) (h1 : 1 ≤ S) (h3 : S ≤ 3) {i : Nat} (hi : i < S) (n ok : Int) (of_ ot : ByteArray) (oa : Int) (oy : ByteArray) (os oh : Int) (id nm : ByteArray) (cn why slot at_ : Int) (last : Bool) (data : Value) (wt : Bool) (r1 r2 : Int) (qa : Option Addr) (qc : Nat) (rows : List (ByteArray × Int)) (r4 : Value) (hr : RowsX w qa rows.length rows) (hq : qa = none → qc = 0) (hz : rows.length * 24 ≤ 140737488355328)
    (hqg : ∀ x, qa = some x → rows ≠ [] → x.block ≠ G) :
    Calls Try.prog 9 #[.pointer (some ⟨G, 0, none⟩), .int .i64 n, .int .i64 1, .agg #[.int .i64 ((i : Int) + 1), .int .i64 6, .int .i64 ok, .string of_, .string ot, .int .i64 oa, .string oy, .int .i64 os, .int .i64 oh, .string id, .string nm, .int .i64 cn, .int .i64 why, .int .i64 slot, .int .i64 n, .int .i64 at_, .bool last, data], .agg #[.int .i64 0, .bool wt, .int .i64 r1, .int .i64 r2, .slice qa rows.length qc, r4]] w fun e w' => ∃ v, w'.ownsRow w.heap.size 28 2 v rows.length (rowCellsX rows) ∧ (∀ K, K < w.heap.size → K ≠ G → w'.heap[K]? = w.heap[K]?) ∧ w.heap.size ≤ w'.heap.size ∧ (w'.os = w.os ∧ w'.tape = w.tape ∧ w'.output = w.output) ∧
      ((0 < leftN (setD (knowD D n 1) v i) S ∧ e = .returned (.tuple #[.agg #[.int .i64 0, .int .i64 0, .int .i64 0, .int .i64 0, .int .i64 0], .bool false]) ∧ AuIn w' G (setD (knowD D n 1) v i)) ∨ (leftN (setD (knowD D n 1) v i) S = 0 ∧ e = .returned (.tuple #[.agg #[.int .i64 4, .int .i64 0, .int .i64 0, .int .i64 n, .int .i64 0], .bool true]) ∧ AuIn w' G { setD (knowD D n 1) v i with wh := true })) := by
  have hG : G < w.heap.size := by simp only [AuIn] at h; exact (Array.getElem?_eq_some_iff.1 h).1
  have b3 : Below w.heap.size w (((w.alloc (.cells #[.int .i64 ((i : Int) + 1), .int .i64 6, .int .i64 ok, .string of_, .string ot, .int .i64 oa, .string oy, .int .i64 os, .int .i64 oh, .string id, .string nm, .int .i64 cn, .int .i64 why, .int .i64 slot, .int .i64 n, .int .i64 at_, .bool last, data] 53)).alloc (.cells #[.int .i64 0, .bool wt, .int .i64 r1, .int .i64 r2, .slice qa rows.length qc, r4] 54)).alloc (.cells #[.int .i64 0, .int .i64 0, .int .i64 0, .int .i64 0, .int .i64 0] 47)) := (((Below.refl _ w).alloc (Nat.le_refl _) _).alloc (by simp) _).alloc (by simp; omega) _
  have q8 : (((w.alloc (.cells #[.int .i64 ((i : Int) + 1), .int .i64 6, .int .i64 ok, .string of_, .string ot, .int .i64 oa, .string oy, .int .i64 os, .int .i64 oh, .string id, .string nm, .int .i64 cn, .int .i64 why, .int .i64 slot, .int .i64 n, .int .i64 at_, .bool last, data] 53)).alloc (.cells #[.int .i64 0, .bool wt, .int .i64 r1, .int .i64 r2, .slice qa rows.length qc, r4] 54)).alloc (.cells #[.int .i64 0, .int .i64 0, .int .i64 0, .int .i64 0, .int .i64 0] 47)).heap[w.heap.size]? = some (.cells #[.int .i64 ((i : Int) + 1), .int .i64 6, .int .i64 ok, .string of_, .string ot, .int .i64 oa, .string oy, .int .i64 os, .int .i64 oh, .string id, .string nm, .int .i64 cn, .int .i64 why, .int .i64 slot, .int .i64 n, .int .i64 at_, .bool last, data] 53 (0, 0)) := by rw [Below.heap_alloc _ _ _ (by simp; omega), Below.heap_alloc _ _ _ (by simp), heap_alloc_new]
  have q9 : (((w.alloc (.cells #[.int .i64 ((i : Int) + 1), .int .i64 6, .int .i64 ok, .string of_, .string ot, .int .i64 oa, .string oy, .int .i64 os, .int .i64 oh, .string id, .string nm, .int .i64 cn, .int .i64 why, .int .i64 slot, .int .i64 n, .int .i64 at_, .bool last, data] 53)).alloc (.cells #[.int .i64 0, .bool wt, .int .i64 r1, .int .i64 r2, .slice qa rows.length qc, r4] 54)).alloc (.cells #[.int .i64 0, .int .i64 0, .int .i64 0, .int .i64 0, .int .i64 0] 47)).heap[w.heap.size + 1]? = some (.cells #[.int .i64 0, .bool wt, .int .i64 r1, .int .i64 r2, .slice qa rows.length qc, r4] 54 (0, 0)) := by rw [Below.heap_alloc _ _ _ (by simp), heap_two]
  have q10 : (((w.alloc (.cells #[.int .i64 ((i : Int) + 1), .int .i64 6, .int .i64 ok, .string of_, .string ot, .int .i64 oa, .string oy, .int .i64 os, .int .i64 oh, .string id, .string nm, .int .i64 cn, .int .i64 why, .int .i64 slot, .int .i64 n, .int .i64 at_, .bool last, data] 53)).alloc (.cells #[.int .i64 0, .bool wt, .int .i64 r1, .int .i64 r2, .slice qa rows.length qc, r4] 54)).alloc (.cells #[.int .i64 0, .int .i64 0, .int .i64 0, .int .i64 0, .int .i64 0] 47)).heap[w.heap.size + 2]? = some (.cells #[.int .i64 0, .int .i64 0, .int .i64 0, .int .i64 0, .int .i64 0] 47 (0, 0)) := heap_three w _ _ _
  obtain ⟨V, eV⟩ : ∃ V, (((w.alloc (.cells #[.int .i64 ((i : Int) + 1), .int .i64 6, .int .i64 ok, .string of_, .string ot, .int .i64 oa, .string oy, .int .i64 os, .int .i64 oh, .string id, .string nm, .int .i64 cn, .int .i64 why, .int .i64 slot, .int .i64 n, .int .i64 at_, .bool last, data] 53)).alloc (.cells #[.int .i64 0, .bool wt, .int .i64 r1, .int .i64 r2, .slice qa rows.length qc, r4] 54)).alloc (.cells #[.int .i64 0, .int .i64 0, .int .i64 0, .int .i64 0, .int .i64 0] 47)) = V := ⟨_, rfl⟩
  rw [eV] at b3 q8 q9 q10
  have hV : AuIn V G D := by
    simp only [AuIn] at h ⊢
    exact (b3.block _ hG).trans h
  have HK := know_any hV n 1
  obtain ⟨e1n, e1p, e1s⟩ := knowD_n D n 1
  rw [hS] at e1s
  generalize knowD D n 1 = D1 at *
  have E1 : Hid (D1.n = n ∧ D1.ph = 1 ∧ D1.sh = S) := ⟨e1n, e1p, e1s⟩
  have HG : Hid (G < w.heap.size) := hG
  have B3 : Hid (Below w.heap.size w V) := b3
  have Q8 : Hid (V.heap[w.heap.size]? = some (.cells #[.int .i64 ((i : Int) + 1), .int .i64 6, .int .i64 ok, .string of_, .string ot, .int .i64 oa, .string oy, .int .i64 os, .int .i64 oh, .string id, .string nm, .int .i64 cn, .int .i64 why, .int .i64 slot, .int .i64 n, .int .i64 at_, .bool last, data] 53 (0, 0))) := q8
  have Q9 : Hid (V.heap[w.heap.size + 1]? = some (.cells #[.int .i64 0, .bool wt, .int .i64 r1, .int .i64 r2, .slice qa rows.length qc, r4] 54 (0, 0))) := q9
  have Q10 : Hid (V.heap[w.heap.size + 2]? = some (.cells #[.int .i64 0, .int .i64 0, .int .i64 0, .int .i64 0, .int .i64 0] 47 (0, 0))) := q10
  have HR : Hid (RowsX V qa rows.length rows) := hr.below b3
  have HQ : Hid (qa = none → qc = 0) := hq
  have HZ : Hid (rows.length * 24 ≤ 140737488355328) := hz
  have HQG : Hid (∀ x, qa = some x → rows ≠ [] → x.block ≠ G) := hqg
  have EV : Hid (_ = V) := eV
  have HS : Hid (1 ≤ S ∧ S ≤ 3 ∧ i < S) := ⟨h1, h3, hi⟩
  clear h hV hS h1 h3 hi hr hq hz hqg hG b3 q8 q9 q10 eV e1n e1p e1s
  go_enter Try.func9, Try.ntmps9
  repeat
    (fail_if_success (guard_target =~ (Code.region 1 _ _).wp _ _ _ _)
     first | go_values | go_skip | go_guarded | go_step | go_upon | go_back)
  rw [show _ = V from EV.out]
  simp only [show w.heap.size + 1 + 1 = w.heap.size + 2 from rfl]
  clear EV
  go_wp2_with fail
  refine HK.mono ?_
  rintro e w1 ⟨rfl, hA1, og⟩
  clear HK
  have sV := B3.out.size
  have n8 := (og.block w.heap.size (by have := HG.out; omega)).trans Q8.out
  have n9 := (og.block (w.heap.size + 1) (by have := HG.out; omega)).trans Q9.out
  have n10 := (og.block (w.heap.size + 2) (by have := HG.out; omega)).trans Q10.out
  have HAk := asked_true hA1 E1.out.2.2 HS.out.1 HS.out.2.1 (kd := 6) (.inl ⟨E1.out.2.1, rfl⟩) ((i : Int) + 1) ok of_ ot oa oy os oh id nm cn why slot at_ last data (by omega) (by have := HS.out.2.2; omega)
  rw [E1.out.1] at HAk
  have N8 : Hid (w1.heap[w.heap.size]? = some (.cells #[.int .i64 ((i : Int) + 1), .int .i64 6, .int .i64 ok, .string of_, .string ot, .int .i64 oa, .string oy, .int .i64 os, .int .i64 oh, .string id, .string nm, .int .i64 cn, .int .i64 why, .int .i64 slot, .int .i64 n, .int .i64 at_, .bool last, data] 53 (0, 0))) := n8
  have N9 : Hid (w1.heap[w.heap.size + 1]? = some (.cells #[.int .i64 0, .bool wt, .int .i64 r1, .int .i64 r2, .slice qa rows.length qc, r4] 54 (0, 0))) := n9
  have N10 : Hid (w1.heap[w.heap.size + 2]? = some (.cells #[.int .i64 0, .int .i64 0, .int .i64 0, .int .i64 0, .int .i64 0] 47 (0, 0))) := n10
  have A1 : Hid (AuIn w1 G D1) := hA1
  have OG : Hid (OnlyG G V w1) := og
  clear n8 n9 n10 hA1 og Q8 Q9 Q10
  go_wp2_with (refine wpList_load_row rfl 53 (.tmp 8) rfl w.heap.size rfl 53 #[.int .i64 ((i : Int) + 1), .int .i64 6, .int .i64 ok, .string of_, .string ot, .int .i64 oa, .string oy, .int .i64 os, .int .i64 oh, .string id, .string nm, .int .i64 cn, .int .i64 why, .int .i64 slot, .int .i64 n, .int .i64 at_, .bool last, data] (0, 0) _ N8.out Try.underlying53 rfl (by kernel_rfl) ?_)
  refine HAk.mono ?_
  rintro e w2 ⟨rfl, b2⟩
  clear HAk
  have m8 := (b2.block _ (Array.getElem?_eq_some_iff.1 N8.out).1).trans N8.out
  have m9 := (b2.block _ (Array.getElem?_eq_some_iff.1 N9.out).1).trans N9.out
  have c90 : w2.cell? ⟨w.heap.size + 1, 0, none⟩ = some (.int .i64 0) := by simp [World.cell?, m9]
  have c80 : w2.cell? ⟨w.heap.size, 0, none⟩ = some (.int .i64 ((i : Int) + 1)) := by simp [World.cell?, m8]
  have hi3 : i < 3 := by have := HS.out; omega
  have M9 : Hid (w2.heap[w.heap.size + 1]? = some (.cells #[.int .i64 0, .bool wt, .int .i64 r1, .int .i64 r2, .slice qa rows.length qc, r4] 54 (0, 0))) := m9
  have B2 : Hid (Below w1.heap.size w1 w2) := b2
  clear m8 m9 b2
  go_wp2_with fail
  clear c90 c80
  have hA2 := A1.out.below B2.out
  have hR2 : RowsX w2 qa rows.length rows := (HR.out.only OG.out HQG.out).below B2.out
  refine wp_region_calmX (S := fun W => W.heap[w.heap.size + 1]? = some (.cells #[.int .i64 0, .bool wt, .int .i64 r1, .int .i64 r2, .slice qa rows.length qc, r4] 54 (0, 0))) (by kernel_rfl) M9.out (fun hHeld => ?_)
  refine take_run (i := 0) (oi := { dst := some 39, op := Go.Op.move (Go.Operand.tmp 0), type := 45, pos := "auditor.go:105", after := #[], guard := none }) (v := .pointer (some ⟨G, 0, none⟩)) rfl (by kernel_rfl) (by kernel_rfl) (by kernel_rfl) (fun _ _ _ h => h) (by rfl) ?_ hHeld ?_
  · (intro wq hSw; go_simp <;> with_reducible rfl)
  try simp only [Act.put, List.setIfInBounds_toArray, List.set_cons_zero, List.set_cons_succ]
  refine take_run (i := 1) (oi := { dst := some 40, op := Go.Op.move (Go.Operand.tmp 13), type := 3, pos := "auditor.go:105", after := #[], guard := none }) (v := .int .i64 (i : Int)) rfl (by kernel_rfl) (by kernel_rfl) (by kernel_rfl) (fun _ _ _ h => h) (by rfl) ?_ hHeld ?_
  · (intro wq hSw; go_simp <;> with_reducible rfl)
  try simp only [Act.put, List.setIfInBounds_toArray, List.set_cons_zero, List.set_cons_succ]
  refine take_run (i := 2) (oi := { dst := some 41, op := Go.Op.fieldAddr 54 (Go.Operand.tmp 9) 2, type := 0, pos := "auditor.go:105", after := #[], guard := none }) (v := .pointer (some ⟨w.heap.size + 1, 2, none⟩)) rfl (by kernel_rfl) (by kernel_rfl) (by kernel_rfl) (fun _ _ _ h => h) (by rfl) ?_ hHeld ?_
  · (intro wq hSw; go_simp <;> with_reducible rfl)
  try simp only [Act.put, List.setIfInBounds_toArray, List.set_cons_zero, List.set_cons_succ]
  refine take_run (i := 3) (oi := { dst := some 42, op := Go.Op.fieldAddr 40 (Go.Operand.tmp 41) 2, type := 0, pos := "auditor.go:105", after := #[{ on := 2, ground := Go.Ground.data }], guard := none }) (v := .pointer (some ⟨w.heap.size + 1, 4, none⟩)) rfl (by kernel_rfl) (by kernel_rfl) (by kernel_rfl) (fun _ _ _ h => h) (by rfl) ?_ hHeld ?_
  · (intro wq hSw; go_simp <;> with_reducible rfl)
  try simp only [Act.put, List.setIfInBounds_toArray, List.set_cons_zero, List.set_cons_succ]
  refine take_run (i := 4) (oi := { dst := some 43, op := Go.Op.load 22 (Go.Operand.tmp 42), type := 22, pos := "auditor.go:105", after := #[{ on := 3, ground := Go.Ground.data }], guard := none }) (v := .slice qa rows.length qc) rfl (by kernel_rfl) (by kernel_rfl) (by kernel_rfl) (fun _ _ _ h => h) (by rfl) ?_ hHeld ?_
  · (intro wq hSw; have c4 : wq.cell? ⟨w.heap.size + 1, 4, none⟩ = some (.slice qa rows.length qc) := (by simp [World.cell?, hSw]); go_simp <;> with_reducible rfl)
  try simp only [Act.put, List.setIfInBounds_toArray, List.set_cons_zero, List.set_cons_succ]
  refine take_run (i := 6) (oi := { dst := some 45, op := Go.Op.nilCheck (Go.Operand.tmp 39), type := 0, pos := "auditor.go:105", after := #[{ on := 0, ground := Go.Ground.data }], guard := none }) (v := .pointer (some ⟨G, 0, none⟩)) rfl (by kernel_rfl) (by kernel_rfl) (by kernel_rfl) (fun _ _ _ h => h) (by rfl) ?_ hHeld ?_
  · (intro wq hSw; go_simp <;> with_reducible rfl)
  try simp only [Act.put, List.setIfInBounds_toArray, List.set_cons_zero, List.set_cons_succ]
  refine take_run (i := 7) (oi := { dst := some 46, op := Go.Op.fieldAddr 71 (Go.Operand.tmp 45) 4, type := 0, pos := "auditor.go:105", after := #[{ on := 6, ground := Go.Ground.data }], guard := none }) (v := .pointer (some ⟨G, 6, none⟩)) rfl (by kernel_rfl) (by kernel_rfl) (by kernel_rfl) (fun _ _ _ h => h) (by rfl) ?_ hHeld ?_
  · (intro wq hSw; go_simp <;> with_reducible rfl)
  try simp only [Act.put, List.setIfInBounds_toArray, List.set_cons_zero, List.set_cons_succ]
  refine take_call (i := 5) (oi := { dst := some 44, op := Go.Op.call { callee := Go.Callee.value (Go.Operand.func 21), args := #[Go.Operand.tmp 43], argTypes := #[22] }, type := 22, pos := "auditor.go:105", after := #[{ on := 4, ground := Go.Ground.data }], guard := none }) rfl (by kernel_rfl) (by rfl) 21 _ (by go_simp <;> with_reducible rfl) ?_
  refine (cloneR_any qa rows.length qc rows _ (hR2.below (Below.refl _ w2).drew) HQ.out HZ.out).mono ?_
  rintro e w3 ⟨v, rfl, hown, y3⟩
  obtain ⟨va, vc, rfl, _⟩ := row_form hown
  have z3 : Below w2.heap.size w2 w3 := ((Below.refl _ w2).drew).trans y3
  have s3 := (z3.block _ (Array.getElem?_eq_some_iff.1 M9.out).1).trans M9.out
  refine ⟨_, rfl, s3, ?_⟩
  try simp only [Act.put, List.setIfInBounds_toArray, List.set_cons_zero, List.set_cons_succ]
  have hA3 := hA2.below z3
  obtain ⟨k1, ⟨ku, k2⟩, k3, ⟨kv, k4⟩, k5⟩ := hA3.told (.slice va rows.length vc) hi3
  refine take_run (i := 8) (oi := { dst := some 47, op := Go.Op.indexAddr 69 (Go.Operand.tmp 46) (Go.Operand.tmp 40), type := 0, pos := "auditor.go:105", after := #[{ on := 7, ground := Go.Ground.data }, { on := 1, ground := Go.Ground.data }, { on := 0, ground := Go.Ground.phase }, { on := 1, ground := Go.Ground.phase }, { on := 2, ground := Go.Ground.phase }, { on := 3, ground := Go.Ground.phase }, { on := 4, ground := Go.Ground.phase }, { on := 5, ground := Go.Ground.phase }], guard := none }) (v := .pointer (some ⟨G, 6 + i, none⟩)) rfl (by kernel_rfl) (by kernel_rfl) (by kernel_rfl) (fun _ _ _ h => h) (by rfl) ?_ s3 ?_
  · (intro wq hSw; have hi4 := hi3; have hi5 : (i : Int) < 3 := (by omega); go_simp <;> with_reducible rfl)
  try simp only [Act.put, List.setIfInBounds_toArray, List.set_cons_zero, List.set_cons_succ]
  refine takeX_eff (i := 9) (oi := { dst := none, op := Go.Op.store 22 (Go.Operand.tmp 47) (Go.Operand.tmp 44), type := 0, pos := "auditor.go:105", after := #[{ on := 8, ground := Go.Ground.data }, { on := 5, ground := Go.Ground.data }, { on := 5, ground := Go.Ground.chain }, { on := 0, ground := Go.Ground.phase }, { on := 1, ground := Go.Ground.phase }, { on := 2, ground := Go.Ground.phase }, { on := 3, ground := Go.Ground.phase }, { on := 4, ground := Go.Ground.phase }, { on := 5, ground := Go.Ground.phase }], guard := none }) (w' := w3.setCell ⟨G, 6 + i, none⟩ (.slice va rows.length vc)) rfl (by kernel_rfl) (by rfl) (by go_simp <;> with_reducible rfl) ?_ ?_
  · exact (Below.heap_setCell _ _ _ _ (by show w.heap.size + 1 ≠ G; have := HG.out; omega)).trans s3
  try simp only [Act.put]
  refine wpAnyH_done (by kernel_rfl) ?_ _
  obtain ⟨W5, eW5⟩ : ∃ W5, (w3.setCell ⟨G, 6 + i, none⟩ (.slice va rows.length vc)).setCell ⟨G, 3 + i, none⟩ (.bool true) = W5 := ⟨_, rfl⟩
  have O5 : Hid (OnlyG G w3 W5) := by rw [← eW5]; exact ((OnlyG.refl G w3).set _ _).set _ _
  have BF : Hid (∀ K, K < w.heap.size → K ≠ G → W5.heap[K]? = w.heap[K]?) := fun K hK hn => (O5.out.block K hn).trans ((z3.block K (by have := B3.out.size; have := OG.out.size; have := B2.out.size; omega)).trans ((B2.out.block K (by have := B3.out.size; have := OG.out.size; omega)).trans ((OG.out.block K hn).trans (B3.out.block K hK))))
  rw [eW5] at k1
  have K1 : Hid (AuIn W5 G (setD D1 (.slice va rows.length vc) i)) := k1
  have HLf := left_any k1 (S := S) ((setD_sh _ _ _).trans E1.out.2.2) HS.out.1 HS.out.2.1
  have OWN : Hid (W5.ownsRow w.heap.size 28 2 (.slice va rows.length vc) rows.length (rowCellsX rows)) := by
    have hs : w.heap.size ≤ w2.drew.heap.size := by
      show w.heap.size ≤ w2.heap.size
      have := B3.out.size; have := OG.out.size; have := B2.out.size
      omega
    have hk : ∀ g, (Value.slice va rows.length vc).ownBlock = some g → W5.heap[g]? = w3.heap[g]? := fun g e => O5.out.block g (by
      have := (row_kind hown e).1
      have := HG.out
      show g ≠ G
      omega)
    have o := owns_kept hown hk
    exact ⟨o.1, o.2.imp (fun x => x) (fun ⟨g, cp, cur, e1, e2, e3⟩ => ⟨g, cp, cur, e1, Nat.le_trans hs e2, e3⟩)⟩
  have Q10' : Hid (W5.heap[w.heap.size + 2]? = some (.cells #[.int .i64 0, .int .i64 0, .int .i64 0, .int .i64 0, .int .i64 0] 47 (0, 0))) := by
    have e1 := (B2.out.block _ (Array.getElem?_eq_some_iff.1 N10.out).1).trans N10.out
    have e2 := (z3.block _ (Array.getElem?_eq_some_iff.1 e1).1).trans e1
    exact (O5.out.block _ (by have := HG.out; show w.heap.size + 2 ≠ G; omega)).trans e2
  have SZ : Hid (w.heap.size ≤ W5.heap.size) := by
    have := B3.out.size; have := OG.out.size; have := B2.out.size; have := z3.size; have := O5.out.size
    show _ ≤ _
    omega
  have ENV : Hid (W5.os = w.os ∧ W5.tape = w.tape ∧ W5.output = w.output) := ⟨O5.out.os.trans (z3.os.trans (B2.out.os.trans (OG.out.os.trans B3.out.os))), O5.out.tape.trans (z3.tape.trans (B2.out.tape.trans (OG.out.tape.trans B3.out.tape))), O5.out.output.trans (z3.output.trans (B2.out.output.trans (OG.out.output.trans B3.out.output)))⟩
  have EW5 : Hid (_ = W5) := eW5
  clear hA2 hR2 hHeld y3 s3 hA3 k1 k2 k3 z3 hown eW5 O5 N8 N9 N10 M9 A1 OG B2 HR HQ HZ HQG sV
  obtain ⟨D2, eD2⟩ : ∃ D2, setD D1 (.slice va rows.length vc) i = D2 := ⟨_, rfl⟩
  rw [eD2] at K1 HLf
  have ED2 : Hid (setD D1 (.slice va rows.length vc) i = D2) := eD2
  have FA : Hid (FinA w W5 G (.slice va rows.length vc) rows D2) := ⟨OWN.out, BF.out, SZ.out, K1.out, ENV.out⟩
  clear eD2 OWN BF SZ ENV
  go_wp2_with fail
  rw [show _ = W5 from EW5.out]
  clear EW5 k4 k5
  refine HLf.mono ?_
  rintro e w6 ⟨rfl, m, rfl⟩
  clear HLf
  obtain ⟨L, eL⟩ : ∃ L, leftN D2 S = L := ⟨_, rfl⟩
  have hL3 : L ≤ 3 := by rw [← eL]; exact Nat.le_trans (leftN_le D2 S) HS.out.2.1
  have EL : Hid (leftN D2 S = L) := eL
  simp only [eL]
  clear eL
  by_cases hl : 0 < L
  · have hli : (0 : Int) < (L : Int) := by omega
    have HL : Hid (0 < L) := hl
    have q10 : (W5.drewN m).heap[w.heap.size + 2]? = some (.cells #[.int .i64 0, .int .i64 0, .int .i64 0, .int .i64 0, .int .i64 0] 47 (0, 0)) := Q10'.out
    have QQ : Hid _ := q10
    clear hl q10
    go_wp2_with (refine wpList_store_row rfl 47 (.tmp 10) (.tmp 56) rfl (w.heap.size + 2) #[.int .i64 0, .int .i64 0, .int .i64 0, .int .i64 0, .int .i64 0] rfl rfl 47 _ QQ.out (by kernel_rfl) rfl (by simp [Value.oneCell']) ?_)
    obtain ⟨f1, f2⟩ := (FA.out.drewN m).row (cs' := #[.int .i64 0, .int .i64 0, .int .i64 0, .int .i64 0, .int .i64 0]) HG.out (by omega) QQ.out
    exact bodyPost_ret (results_ct rfl _ _ (w.heap.size + 2) 47 #[.int .i64 0, .int .i64 0, .int .i64 0, .int .i64 0, .int .i64 0] _ _ rfl f2 Try.underlying47 rfl (by kernel_rfl)) rfl ⟨_, f1.own, f1.blk, f1.sz, f1.env, .inl ⟨by rw [ED2.out, EL.out]; exact HL.out, rfl, by rw [ED2.out]; exact f1.au⟩⟩
  · obtain rfl : L = 0 := by omega
    have fw := (FA.out.drewN m).whole HG.out
    have q10 : ((W5.drewN m).setCell ⟨G, 9, none⟩ (.bool true)).heap[w.heap.size + 2]? = some (.cells #[.int .i64 0, .int .i64 0, .int .i64 0, .int .i64 0, .int .i64 0] 47 (0, 0)) := (Below.heap_setCell _ _ _ _ (by have := HG.out; show w.heap.size + 2 ≠ G; omega)).trans Q10'.out
    have QQ : Hid _ := q10
    have FW : Hid (FinA w ((W5.drewN m).setCell ⟨G, 9, none⟩ (.bool true)) G (.slice va rows.length vc) rows { D2 with wh := true }) := fw
    have hwh : W5.cell? ⟨G, 9, none⟩ = some (.bool D2.wh) := by have a := K1.out; simp only [AuIn] at a; simp [World.cell?, a]
    have hzh : W5.frozen? ⟨G, 9, none⟩ = false := by have a := K1.out; simp only [AuIn] at a; simp [World.frozen?, a]
    clear hl fw q10
    cases hd : D2.wh with
    | false =>
      rw [hd] at hwh
      clear hd
      go_wp2_with (refine wpList_store_row rfl 47 (.tmp 10) (.tmp 70) rfl (w.heap.size + 2) #[.int .i64 4, .int .i64 0, .int .i64 0, .int .i64 n, .int .i64 0] rfl rfl 47 _ QQ.out (by kernel_rfl) rfl (by simp [Value.oneCell']) ?_)
      obtain ⟨f1, f2⟩ := FW.out.row (cs' := #[.int .i64 4, .int .i64 0, .int .i64 0, .int .i64 n, .int .i64 0]) HG.out (by omega) QQ.out
      exact bodyPost_ret (results_ct rfl _ _ (w.heap.size + 2) 47 #[.int .i64 4, .int .i64 0, .int .i64 0, .int .i64 n, .int .i64 0] _ _ rfl f2 Try.underlying47 rfl (by kernel_rfl)) rfl ⟨_, f1.own, f1.blk, f1.sz, f1.env, .inr ⟨by rw [ED2.out]; exact EL.out, rfl, by rw [ED2.out]; exact f1.au⟩⟩
    | true =>
      rw [hd] at hwh
      clear hd
      go_wp2_with (refine wpList_store_row rfl 47 (.tmp 10) (.tmp 70) rfl (w.heap.size + 2) #[.int .i64 4, .int .i64 0, .int .i64 0, .int .i64 n, .int .i64 0] rfl rfl 47 _ QQ.out (by kernel_rfl) rfl (by simp [Value.oneCell']) ?_)
      obtain ⟨f1, f2⟩ := FW.out.row (cs' := #[.int .i64 4, .int .i64 0, .int .i64 0, .int .i64 n, .int .i64 0]) HG.out (by omega) QQ.out
      exact bodyPost_ret (results_ct rfl _ _ (w.heap.size + 2) 47 #[.int .i64 4, .int .i64 0, .int .i64 0, .int .i64 n, .int .i64 0] _ _ rfl f2 Try.underlying47 rfl (by kernel_rfl)) rfl ⟨_, f1.own, f1.blk, f1.sz, f1.env, .inr ⟨by rw [ED2.out]; exact EL.out, rfl, by rw [ED2.out]; exact f1.au⟩⟩
end Go.Proofs.Ytckldjiabalgbaa
