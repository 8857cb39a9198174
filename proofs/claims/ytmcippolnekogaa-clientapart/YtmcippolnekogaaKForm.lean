/- Package client: form. -/
import Derived.Test.YtmcippolnekogaaKFits
import Derived.Test.YtmcippolnekogaaKTake
namespace Go.Proofs.Ytmcippolnekogaa
open Go.RowKit Cod
attribute [local go_sem] Oper.semAt_some
set_option linter.unusedVariables false

theorem ints_new (W : World) (ns : List Int) (hl : ns.length < 1000) (hi : ∀ n ∈ ns, i64ok n) : Calls Try.prog 59 #[.slice (some ⟨W.heap.size, 0, none⟩) ns.length ns.length] (W.alloc (.cells (ns.map (Value.int .i64)).toArray 2)) fun e w' => ∃ v, e = .returned v ∧ w'.ownsRow W.heap.size 5 1 v (intsB ns).length (cellsOf (intsB ns)) ∧ Below W.heap.size W w' := by
  refine (ints_any (some ⟨W.heap.size, 0, none⟩) ns.length ns (W.alloc (.cells (ns.map (Value.int .i64)).toArray 2)) hl hi (fun j hj => ⟨_, _, rfl, ?_⟩)).mono ?_
  · rw [World.cell?_alloc_mark]
    simp [hj]
  · rintro e w' ⟨v, rfl, o, b⟩
    have bA : Below W.heap.size W (W.alloc (.cells (ns.map (Value.int .i64)).toArray 2)) := (Below.refl _ W).alloc (Nat.le_refl _) _
    exact ⟨v, rfl, owns_mono' o (by simp), bA.trans (b.mono bA.size)⟩
theorem ints_ok {ns : List Int} (h : ∀ n ∈ ns, i64ok n) : (intsB ns).length ≤ 10 * ns.length := intsB_le ns h
theorem ok2 (k : Int) (hk : i64ok k) {n : Int} (hn : i64ok n) : ∀ m ∈ [k, n], i64ok m := by
  intro m hm; simp at hm; rcases hm with rfl | rfl <;> assumption
theorem ok3 (k : Int) (hk : i64ok k) {n g : Int} (hn : i64ok n) (hg : i64ok g) : ∀ m ∈ [k, n, g], i64ok m := by
  intro m hm; simp at hm; rcases hm with rfl | rfl | rfl <;> assumption
theorem ok1 (k : Int) (hk : i64ok k) : ∀ m ∈ [k], i64ok m := by
  intro m hm; simp at hm; subst hm; exact hk
set_option maxRecDepth 100000 in
set_option maxHeartbeats 1600000 in
theorem form_call (n group : Int) (o : OpD) (why amount : Int) (ra : Option Addr) (rn rc : Nat) (ba : Option Addr) (bn bc : Nat) (w : World) (hn : i64ok n) (hg : i64ok group) (ho : o.ok) (hz : o.size ≤ 196608) : Calls Try.prog 34 #[.agg (LetV.cells ⟨2, n, group, o, why, amount, ra, rn, rc, ba, bn, bc⟩)] w fun e w' => ∃ v, e = .returned v ∧ w'.ownsRow w.heap.size 5 1 v (intsB [2, n] ++ o.bytes).length (cellsOf (intsB [2, n] ++ o.bytes)) ∧ Below w.heap.size w w' := by
  obtain ⟨ok, os, od, oa, oy, ol, oh⟩ := o
  show Calls Try.prog 34 #[.agg #[.int .i64 2, .int .i64 n, .int .i64 group, .int .i64 ok, .string os, .string od, .int .i64 oa, .string oy, .int .i64 ol, .int .i64 oh, .int .i64 why, .int .i64 amount, .slice ra rn rc, .slice ba bn bc]] w _
  generalize hw1 : w.alloc (.cells #[.int .i64 2, .int .i64 n, .int .i64 group, .int .i64 ok, .string os, .string od, .int .i64 oa, .string oy, .int .i64 ol, .int .i64 oh, .int .i64 why, .int .i64 amount, .slice ra rn rc, .slice ba bn bc] 31) = w1
  have b1 : Below w.heap.size w w1 := by rw [← hw1]; exact (Below.refl _ w).alloc (Nat.le_refl _) _
  have hh : w1.heap[w.heap.size]? = some (.cells #[.int .i64 2, .int .i64 n, .int .i64 group, .int .i64 ok, .string os, .string od, .int .i64 oa, .string oy, .int .i64 ol, .int .i64 oh, .int .i64 why, .int .i64 amount, .slice ra rn rc, .slice ba bn bc] 31 (0, 0)) := by rw [← hw1]; exact heap_alloc_new w _
  have hlt : w.heap.size < w1.heap.size := by rw [← hw1]; simp
  have cc : ∀ w', Below w1.heap.size w1 w' → w'.heap[w.heap.size]? = some (.cells #[.int .i64 2, .int .i64 n, .int .i64 group, .int .i64 ok, .string os, .string od, .int .i64 oa, .string oy, .int .i64 ol, .int .i64 oh, .int .i64 why, .int .i64 amount, .slice ra rn rc, .slice ba bn bc] 31 (0, 0)) := fun w' h => (h.block _ hlt).trans hh
  have k0 : w1.cell? ⟨w.heap.size, 0, none⟩ = some (.int .i64 2) := by simp [World.cell?, hh]
  have k1 : Hid (∀ w', Below w1.heap.size w1 w' → w'.cell? ⟨w.heap.size, 1, none⟩ = some (.int .i64 n)) := fun w' h => by simp [World.cell?, cc w' h]
  have k2 : Hid (∀ w', Below w1.heap.size w1 w' → w'.cell? ⟨w.heap.size, 2, none⟩ = some (.int .i64 group)) := fun w' h => by simp [World.cell?, cc w' h]
  have k13 : Hid (∀ w', Below w1.heap.size w1 w' → w'.cell? ⟨w.heap.size, 13, none⟩ = some (.slice ba bn bc)) := fun w' h => by simp [World.cell?, cc w' h]
  have kop : Hid (∀ w', Below w1.heap.size w1 w' → w'.rangeAt w.heap.size 3 [.int .i64 ok, .string os, .string od, .int .i64 oa, .string oy, .int .i64 ol, .int .i64 oh]) := fun w' h j v hv => by
    have hj : j < 7 := (List.getElem?_eq_some_iff.1 hv).1
    simp only [World.cell?, cc w' h]
    match j, hj with
    | 0, _ => simpa using hv
    | 1, _ => simpa using hv
    | 2, _ => simpa using hv
    | 3, _ => simpa using hv
    | 4, _ => simpa using hv
    | 5, _ => simpa using hv
    | 6, _ => simpa using hv
  have kre : Hid (∀ w', Below w1.heap.size w1 w' → w'.rangeAt w.heap.size 10 [.int .i64 why, .int .i64 amount, .slice ra rn rc]) := fun w' h j v hv => by
    have hj : j < 3 := (List.getElem?_eq_some_iff.1 hv).1
    simp only [World.cell?, cc w' h]
    match j, hj with
    | 0, _ => simpa using hv
    | 1, _ => simpa using hv
    | 2, _ => simpa using hv
  have hle := ints_ok (ok2 2 ⟨by decide, by decide⟩ hn)
  simp only [List.length_cons, List.length_nil] at hle
  have C60 : Hid (∀ w', Below w1.heap.size w1 w' → Calls Try.prog 59 #[.slice (some ⟨w'.heap.size, 0, none⟩) 2 2] (w'.alloc (.cells #[.int .i64 2, .int .i64 n] 2)) fun e w'' => ∃ v, e = .returned v ∧ w''.ownsRow w1.heap.size 5 1 v (intsB [2, n]).length (cellsOf (intsB [2, n])) ∧ Below w1.heap.size w1 w'') := fun w' h => by
    refine (ints_new w' [2, n] (by simp) (ok2 2 ⟨by decide, by decide⟩ hn)).mono ?_
    rintro e w'' ⟨v, rfl, o, b⟩
    exact ⟨v, rfl, owns_mono' o h.size, h.trans (b.mono h.size)⟩
  have C59 : Hid (∀ w' v, Below w1.heap.size w1 w' → w'.ownsRow w1.heap.size 5 1 v (intsB [2, n]).length (cellsOf (intsB [2, n])) → Calls Try.prog 58 #[v, .agg #[.int .i64 ok, .string os, .string od, .int .i64 oa, .string oy, .int .i64 ol, .int .i64 oh]] w' fun e w'' => ∃ v', e = .returned v' ∧ w''.ownsRow w1.heap.size 5 1 v' (intsB [2, n] ++ OpD.bytes ⟨ok, os, od, oa, oy, ol, oh⟩).length (cellsOf (intsB [2, n] ++ OpD.bytes ⟨ok, os, od, oa, oy, ol, oh⟩)) ∧ Below w1.heap.size w1 w'') := fun w' v h hv => by
    obtain ⟨va, vc, rfl, hS, hni, _⟩ := owned_seen hv (by unfold maxLen; omega)
    refine (putOp_any va _ vc _ ⟨ok, os, od, oa, oy, ol, oh⟩ ho w' hS hni (by omega)).mono ?_
    rintro e w'' ⟨v', rfl, o, b⟩
    exact ⟨v', rfl, by rw [List.length_append]; exact owns_mono' o h.size, h.trans (b.mono h.size)⟩
  have HW : Hid (_ = w1) := hw1
  have HB1 : Hid (Below w.heap.size w w1) := b1
  clear hw1 b1 hh hlt cc hn hg hz hle ho
  go_enter Try.func34, Try.ntmps34
  go_wp2_with fail
  rw [HW.out]
  clear k0
  refine wp_region_held_drew (S := fun W => Below w1.heap.size w1 W) (by kernel_rfl) (Below.refl _ w1).drew (fun hHeld => ?_)
  refine take_run (i := 0) (oi := { dst := some 16, op := Go.Op.move (Go.Operand.tmp 3), type := 2, pos := "letter.go:94", after := #[], guard := none }) (v := .int .i64 2) rfl (by kernel_rfl) (by kernel_rfl) (by kernel_rfl) (fun _ _ _ h => h) (by rfl) ?_ hHeld ?_
  · (intro wq hSw; go_simp <;> with_reducible rfl)
  try simp only [Act.put, List.setIfInBounds_toArray, List.set_cons_zero, List.set_cons_succ]
  refine take_run (i := 1) (oi := { dst := some 17, op := Go.Op.fieldAddr 31 (Go.Operand.tmp 1) 1, type := 0, pos := "letter.go:94", after := #[], guard := none }) (v := .pointer (some ⟨w.heap.size, 1, none⟩)) rfl (by kernel_rfl) (by kernel_rfl) (by kernel_rfl) (fun _ _ _ h => h) (by rfl) ?_ hHeld ?_
  · (intro wq hSw; go_simp <;> with_reducible rfl)
  try simp only [Act.put, List.setIfInBounds_toArray, List.set_cons_zero, List.set_cons_succ]
  refine take_run (i := 2) (oi := { dst := some 18, op := Go.Op.load 2 (Go.Operand.tmp 17), type := 2, pos := "letter.go:94", after := #[{ on := 1, ground := Go.Ground.data }], guard := none }) (v := .int .i64 n) rfl (by kernel_rfl) (by kernel_rfl) (by kernel_rfl) (fun _ _ _ h => h) (by rfl) ?_ hHeld ?_
  · (intro wq hSw; have hk := k1.out wq hSw; go_simp <;> with_reducible rfl)
  try simp only [Act.put, List.setIfInBounds_toArray, List.set_cons_zero, List.set_cons_succ]
  refine take_run (i := 5) (oi := { dst := some 21, op := Go.Op.fieldAddr 31 (Go.Operand.tmp 1) 3, type := 0, pos := "letter.go:94", after := #[], guard := none }) (v := .pointer (some ⟨w.heap.size, 3, none⟩)) rfl (by kernel_rfl) (by kernel_rfl) (by kernel_rfl) (fun _ _ _ h => h) (by rfl) ?_ hHeld ?_
  · (intro wq hSw; go_simp <;> with_reducible rfl)
  try simp only [Act.put, List.setIfInBounds_toArray, List.set_cons_zero, List.set_cons_succ]
  refine take_mid (i := 6) (oi := { dst := some 22, op := Go.Op.load 23 (Go.Operand.tmp 21), type := 23, pos := "letter.go:94", after := #[{ on := 5, ground := Go.Ground.data }], guard := none }) rfl (by kernel_rfl) (by kernel_rfl) (by kernel_rfl) 23 (.tmp 21) w.heap.size 3 [.int .i64 ok, .string os, .string od, .int .i64 oa, .string oy, .int .i64 ol, .int .i64 oh] _ (fun _ _ _ h => h) (by rfl) rfl (by go_simp <;> with_reducible rfl) (fun W hW => kop.out W hW) Try.underlying23 rfl (by kernel_rfl) hHeld ?_
  try simp only [Act.put, List.setIfInBounds_toArray, List.set_cons_zero, List.set_cons_succ]
  refine take_val (i := 3) (oi := { dst := some 19, op := Go.Op.buildSlice 118 2 #[(0, Go.Operand.tmp 16), (1, Go.Operand.tmp 18)], type := 118, pos := "letter.go:94", after := #[{ on := 0, ground := Go.Ground.data }, { on := 2, ground := Go.Ground.data }], guard := none }) (w' := w1.drew.alloc (.cells #[.int .i64 2, .int .i64 n] 2)) (.slice (some ⟨w1.drew.heap.size, 0, none⟩) 2 2) rfl (by kernel_rfl) (by rfl) (by go_simp <;> with_reducible rfl) (hHeld.alloc hHeld.size _) ?_
  try simp only [Act.put, List.setIfInBounds_toArray, List.set_cons_zero, List.set_cons_succ]
  refine take_call (i := 4) (oi := { dst := some 20, op := Go.Op.call { callee := Go.Callee.value (Go.Operand.func 59), args := #[Go.Operand.tmp 19], argTypes := #[118] }, type := 28, pos := "letter.go:94", after := #[{ on := 3, ground := Go.Ground.data }], guard := none }) rfl (by kernel_rfl) (by rfl) 59 _ (by go_simp <;> with_reducible rfl) ?_
  refine (C60.out _ hHeld).mono ?_
  rintro e w2 ⟨v2, rfl, o2, hb2⟩
  refine ⟨v2, rfl, hb2, ?_⟩
  try simp only [Act.put, List.setIfInBounds_toArray, List.set_cons_zero, List.set_cons_succ]
  refine take_call (i := 7) (oi := { dst := some 23, op := Go.Op.call { callee := Go.Callee.value (Go.Operand.func 58), args := #[Go.Operand.tmp 20, Go.Operand.tmp 22], argTypes := #[28, 23] }, type := 28, pos := "letter.go:94", after := #[{ on := 4, ground := Go.Ground.data }, { on := 6, ground := Go.Ground.data }, { on := 4, ground := Go.Ground.chain }], guard := none }) rfl (by kernel_rfl) (by rfl) 58 _ (by go_simp <;> with_reducible rfl) ?_
  refine (C59.out _ _ hb2 o2).mono ?_
  rintro e w3 ⟨v3, rfl, o3, hb3⟩
  refine ⟨v3, rfl, hb3, ?_⟩
  try simp only [Act.put, List.setIfInBounds_toArray, List.set_cons_zero, List.set_cons_succ]
  refine take_run (i := 8) (oi := { dst := some 2, op := Go.Op.assign (Go.Operand.tmp 23), type := 28, pos := "letter.go:94", after := #[{ on := 7, ground := Go.Ground.data }, { on := 7, ground := Go.Ground.chain }, { on := 0, ground := Go.Ground.phase }, { on := 1, ground := Go.Ground.phase }, { on := 2, ground := Go.Ground.phase }, { on := 3, ground := Go.Ground.phase }, { on := 4, ground := Go.Ground.phase }, { on := 5, ground := Go.Ground.phase }, { on := 6, ground := Go.Ground.phase }, { on := 7, ground := Go.Ground.phase }], guard := none }) (v := v3) rfl (by kernel_rfl) (by kernel_rfl) (by kernel_rfl) (fun _ _ _ h => h) (by rfl) ?_ hb3 ?_
  · (intro wq hSw; go_simp <;> with_reducible rfl)
  try simp only [Act.put, List.setIfInBounds_toArray, List.set_cons_zero, List.set_cons_succ]
  refine wpAnyH_done (by kernel_rfl) ?_ _
  have O3 : Hid _ := o3
  have B3 : Hid (Below w1.heap.size w1 w3) := hb3
  clear o3 hb3 o2 hb2 hHeld k1 k2 k13 kop kre C60 C59
  go_wp2
  go_ret
  exact ⟨_, rfl, owns_mono' O3.out HB1.out.size, HB1.out.trans (B3.out.mono HB1.out.size)⟩
set_option maxRecDepth 100000 in
set_option maxHeartbeats 1600000 in
theorem form_told (n group : Int) (o : OpD) (why amount : Int) (ra : Option Addr) (rn rc : Nat) (ba : Option Addr) (bn bc : Nat) (w : World) (hn : i64ok n) (hg : i64ok group) (rows : List (ByteArray × Int)) (h1 : i64ok why) (h2 : i64ok amount) (hr : ∀ r ∈ rows, i64ok r.2) (hR : RowsAt w ra rn rows) (hz : rowsSize rows ≤ 100000000000) : Calls Try.prog 34 #[.agg (LetV.cells ⟨3, n, group, o, why, amount, ra, rn, rc, ba, bn, bc⟩)] w fun e w' => ∃ v, e = .returned v ∧ w'.ownsRow w.heap.size 5 1 v (intsB [3, n] ++ (enc (zig why) ++ enc (zig amount) ++ enc rows.length ++ rowsB rows)).length (cellsOf (intsB [3, n] ++ (enc (zig why) ++ enc (zig amount) ++ enc rows.length ++ rowsB rows))) ∧ Below w.heap.size w w' := by
  obtain ⟨ok, os, od, oa, oy, ol, oh⟩ := o
  show Calls Try.prog 34 #[.agg #[.int .i64 3, .int .i64 n, .int .i64 group, .int .i64 ok, .string os, .string od, .int .i64 oa, .string oy, .int .i64 ol, .int .i64 oh, .int .i64 why, .int .i64 amount, .slice ra rn rc, .slice ba bn bc]] w _
  generalize hw1 : w.alloc (.cells #[.int .i64 3, .int .i64 n, .int .i64 group, .int .i64 ok, .string os, .string od, .int .i64 oa, .string oy, .int .i64 ol, .int .i64 oh, .int .i64 why, .int .i64 amount, .slice ra rn rc, .slice ba bn bc] 31) = w1
  have b1 : Below w.heap.size w w1 := by rw [← hw1]; exact (Below.refl _ w).alloc (Nat.le_refl _) _
  have hh : w1.heap[w.heap.size]? = some (.cells #[.int .i64 3, .int .i64 n, .int .i64 group, .int .i64 ok, .string os, .string od, .int .i64 oa, .string oy, .int .i64 ol, .int .i64 oh, .int .i64 why, .int .i64 amount, .slice ra rn rc, .slice ba bn bc] 31 (0, 0)) := by rw [← hw1]; exact heap_alloc_new w _
  have hlt : w.heap.size < w1.heap.size := by rw [← hw1]; simp
  have cc : ∀ w', Below w1.heap.size w1 w' → w'.heap[w.heap.size]? = some (.cells #[.int .i64 3, .int .i64 n, .int .i64 group, .int .i64 ok, .string os, .string od, .int .i64 oa, .string oy, .int .i64 ol, .int .i64 oh, .int .i64 why, .int .i64 amount, .slice ra rn rc, .slice ba bn bc] 31 (0, 0)) := fun w' h => (h.block _ hlt).trans hh
  have k0 : w1.cell? ⟨w.heap.size, 0, none⟩ = some (.int .i64 3) := by simp [World.cell?, hh]
  have k1 : Hid (∀ w', Below w1.heap.size w1 w' → w'.cell? ⟨w.heap.size, 1, none⟩ = some (.int .i64 n)) := fun w' h => by simp [World.cell?, cc w' h]
  have k2 : Hid (∀ w', Below w1.heap.size w1 w' → w'.cell? ⟨w.heap.size, 2, none⟩ = some (.int .i64 group)) := fun w' h => by simp [World.cell?, cc w' h]
  have k13 : Hid (∀ w', Below w1.heap.size w1 w' → w'.cell? ⟨w.heap.size, 13, none⟩ = some (.slice ba bn bc)) := fun w' h => by simp [World.cell?, cc w' h]
  have kop : Hid (∀ w', Below w1.heap.size w1 w' → w'.rangeAt w.heap.size 3 [.int .i64 ok, .string os, .string od, .int .i64 oa, .string oy, .int .i64 ol, .int .i64 oh]) := fun w' h j v hv => by
    have hj : j < 7 := (List.getElem?_eq_some_iff.1 hv).1
    simp only [World.cell?, cc w' h]
    match j, hj with
    | 0, _ => simpa using hv
    | 1, _ => simpa using hv
    | 2, _ => simpa using hv
    | 3, _ => simpa using hv
    | 4, _ => simpa using hv
    | 5, _ => simpa using hv
    | 6, _ => simpa using hv
  have kre : Hid (∀ w', Below w1.heap.size w1 w' → w'.rangeAt w.heap.size 10 [.int .i64 why, .int .i64 amount, .slice ra rn rc]) := fun w' h j v hv => by
    have hj : j < 3 := (List.getElem?_eq_some_iff.1 hv).1
    simp only [World.cell?, cc w' h]
    match j, hj with
    | 0, _ => simpa using hv
    | 1, _ => simpa using hv
    | 2, _ => simpa using hv
  have hle := ints_ok (ok2 3 ⟨by decide, by decide⟩ hn)
  simp only [List.length_cons, List.length_nil] at hle
  have C60 : Hid (∀ w', Below w1.heap.size w1 w' → Calls Try.prog 59 #[.slice (some ⟨w'.heap.size, 0, none⟩) 2 2] (w'.alloc (.cells #[.int .i64 3, .int .i64 n] 2)) fun e w'' => ∃ v, e = .returned v ∧ w''.ownsRow w1.heap.size 5 1 v (intsB [3, n]).length (cellsOf (intsB [3, n])) ∧ Below w1.heap.size w1 w'') := fun w' h => by
    refine (ints_new w' [3, n] (by simp) (ok2 3 ⟨by decide, by decide⟩ hn)).mono ?_
    rintro e w'' ⟨v, rfl, o, b⟩
    exact ⟨v, rfl, owns_mono' o h.size, h.trans (b.mono h.size)⟩
  have C59 : Hid (∀ w' v, Below w1.heap.size w1 w' → w'.ownsRow w1.heap.size 5 1 v (intsB [3, n]).length (cellsOf (intsB [3, n])) → Calls Try.prog 60 #[v, .agg #[.int .i64 why, .int .i64 amount, .slice ra rn rc]] w' fun e w'' => ∃ v', e = .returned v' ∧ w''.ownsRow w1.heap.size 5 1 v' (intsB [3, n] ++ (enc (zig why) ++ enc (zig amount) ++ enc rows.length ++ rowsB rows)).length (cellsOf (intsB [3, n] ++ (enc (zig why) ++ enc (zig amount) ++ enc rows.length ++ rowsB rows))) ∧ Below w1.heap.size w1 w'') := fun w' v h hv => by
    obtain ⟨va, vc, rfl, hS, hni, _⟩ := owned_seen hv (by unfold maxLen; omega)
    refine (putReply_any va _ vc _ why amount ra rn rc rows h1 h2 hr w' hS hni (hR.below (b1.trans (h.mono b1.size))) (by omega)).mono ?_
    rintro e w'' ⟨v', rfl, o, b⟩
    exact ⟨v', rfl, by rw [List.length_append]; exact owns_mono' o h.size, h.trans (b.mono h.size)⟩
  have HW : Hid (_ = w1) := hw1
  have HB1 : Hid (Below w.heap.size w w1) := b1
  clear hw1 b1 hh hlt cc hn hg hz hle hr hR h1 h2
  go_enter Try.func34, Try.ntmps34
  go_wp2_with fail
  rw [HW.out]
  clear k0
  refine wp_region_held_drew (S := fun W => Below w1.heap.size w1 W) (by kernel_rfl) (Below.refl _ w1).drew (fun hHeld => ?_)
  refine take_run (i := 0) (oi := { dst := some 26, op := Go.Op.move (Go.Operand.tmp 3), type := 2, pos := "letter.go:96", after := #[], guard := none }) (v := .int .i64 3) rfl (by kernel_rfl) (by kernel_rfl) (by kernel_rfl) (fun _ _ _ h => h) (by rfl) ?_ hHeld ?_
  · (intro wq hSw; go_simp <;> with_reducible rfl)
  try simp only [Act.put, List.setIfInBounds_toArray, List.set_cons_zero, List.set_cons_succ]
  refine take_run (i := 1) (oi := { dst := some 27, op := Go.Op.fieldAddr 31 (Go.Operand.tmp 1) 1, type := 0, pos := "letter.go:96", after := #[], guard := none }) (v := .pointer (some ⟨w.heap.size, 1, none⟩)) rfl (by kernel_rfl) (by kernel_rfl) (by kernel_rfl) (fun _ _ _ h => h) (by rfl) ?_ hHeld ?_
  · (intro wq hSw; go_simp <;> with_reducible rfl)
  try simp only [Act.put, List.setIfInBounds_toArray, List.set_cons_zero, List.set_cons_succ]
  refine take_run (i := 2) (oi := { dst := some 28, op := Go.Op.load 2 (Go.Operand.tmp 27), type := 2, pos := "letter.go:96", after := #[{ on := 1, ground := Go.Ground.data }], guard := none }) (v := .int .i64 n) rfl (by kernel_rfl) (by kernel_rfl) (by kernel_rfl) (fun _ _ _ h => h) (by rfl) ?_ hHeld ?_
  · (intro wq hSw; have hk := k1.out wq hSw; go_simp <;> with_reducible rfl)
  try simp only [Act.put, List.setIfInBounds_toArray, List.set_cons_zero, List.set_cons_succ]
  refine take_run (i := 5) (oi := { dst := some 31, op := Go.Op.fieldAddr 31 (Go.Operand.tmp 1) 4, type := 0, pos := "letter.go:96", after := #[], guard := none }) (v := .pointer (some ⟨w.heap.size, 10, none⟩)) rfl (by kernel_rfl) (by kernel_rfl) (by kernel_rfl) (fun _ _ _ h => h) (by rfl) ?_ hHeld ?_
  · (intro wq hSw; go_simp <;> with_reducible rfl)
  try simp only [Act.put, List.setIfInBounds_toArray, List.set_cons_zero, List.set_cons_succ]
  refine take_mid (i := 6) (oi := { dst := some 32, op := Go.Op.load 27 (Go.Operand.tmp 31), type := 27, pos := "letter.go:96", after := #[{ on := 5, ground := Go.Ground.data }], guard := none }) rfl (by kernel_rfl) (by kernel_rfl) (by kernel_rfl) 27 (.tmp 31) w.heap.size 10 [.int .i64 why, .int .i64 amount, .slice ra rn rc] _ (fun _ _ _ h => h) (by rfl) rfl (by go_simp <;> with_reducible rfl) (fun W hW => kre.out W hW) Try.underlying27 rfl (by kernel_rfl) hHeld ?_
  try simp only [Act.put, List.setIfInBounds_toArray, List.set_cons_zero, List.set_cons_succ]
  refine take_val (i := 3) (oi := { dst := some 29, op := Go.Op.buildSlice 118 2 #[(0, Go.Operand.tmp 26), (1, Go.Operand.tmp 28)], type := 118, pos := "letter.go:96", after := #[{ on := 0, ground := Go.Ground.data }, { on := 2, ground := Go.Ground.data }], guard := none }) (w' := w1.drew.alloc (.cells #[.int .i64 3, .int .i64 n] 2)) (.slice (some ⟨w1.drew.heap.size, 0, none⟩) 2 2) rfl (by kernel_rfl) (by rfl) (by go_simp <;> with_reducible rfl) (hHeld.alloc hHeld.size _) ?_
  try simp only [Act.put, List.setIfInBounds_toArray, List.set_cons_zero, List.set_cons_succ]
  refine take_call (i := 4) (oi := { dst := some 30, op := Go.Op.call { callee := Go.Callee.value (Go.Operand.func 59), args := #[Go.Operand.tmp 29], argTypes := #[118] }, type := 28, pos := "letter.go:96", after := #[{ on := 3, ground := Go.Ground.data }], guard := none }) rfl (by kernel_rfl) (by rfl) 59 _ (by go_simp <;> with_reducible rfl) ?_
  refine (C60.out _ hHeld).mono ?_
  rintro e w2 ⟨v2, rfl, o2, hb2⟩
  refine ⟨v2, rfl, hb2, ?_⟩
  try simp only [Act.put, List.setIfInBounds_toArray, List.set_cons_zero, List.set_cons_succ]
  refine take_call (i := 7) (oi := { dst := some 33, op := Go.Op.call { callee := Go.Callee.value (Go.Operand.func 60), args := #[Go.Operand.tmp 30, Go.Operand.tmp 32], argTypes := #[28, 27] }, type := 28, pos := "letter.go:96", after := #[{ on := 4, ground := Go.Ground.data }, { on := 6, ground := Go.Ground.data }, { on := 4, ground := Go.Ground.chain }], guard := none }) rfl (by kernel_rfl) (by rfl) 60 _ (by go_simp <;> with_reducible rfl) ?_
  refine (C59.out _ _ hb2 o2).mono ?_
  rintro e w3 ⟨v3, rfl, o3, hb3⟩
  refine ⟨v3, rfl, hb3, ?_⟩
  try simp only [Act.put, List.setIfInBounds_toArray, List.set_cons_zero, List.set_cons_succ]
  refine take_run (i := 8) (oi := { dst := some 2, op := Go.Op.assign (Go.Operand.tmp 33), type := 28, pos := "letter.go:96", after := #[{ on := 7, ground := Go.Ground.data }, { on := 7, ground := Go.Ground.chain }, { on := 0, ground := Go.Ground.phase }, { on := 1, ground := Go.Ground.phase }, { on := 2, ground := Go.Ground.phase }, { on := 3, ground := Go.Ground.phase }, { on := 4, ground := Go.Ground.phase }, { on := 5, ground := Go.Ground.phase }, { on := 6, ground := Go.Ground.phase }, { on := 7, ground := Go.Ground.phase }], guard := none }) (v := v3) rfl (by kernel_rfl) (by kernel_rfl) (by kernel_rfl) (fun _ _ _ h => h) (by rfl) ?_ hb3 ?_
  · (intro wq hSw; go_simp <;> with_reducible rfl)
  try simp only [Act.put, List.setIfInBounds_toArray, List.set_cons_zero, List.set_cons_succ]
  refine wpAnyH_done (by kernel_rfl) ?_ _
  have O3 : Hid _ := o3
  have B3 : Hid (Below w1.heap.size w1 w3) := hb3
  clear o3 hb3 o2 hb2 hHeld k1 k2 k13 kop kre C60 C59
  go_wp2
  go_ret
  exact ⟨_, rfl, owns_mono' O3.out HB1.out.size, HB1.out.trans (B3.out.mono HB1.out.size)⟩
set_option maxRecDepth 100000 in
set_option maxHeartbeats 1600000 in
theorem form_ask (n group : Int) (o : OpD) (why amount : Int) (ra : Option Addr) (rn rc : Nat) (ba : Option Addr) (bn bc : Nat) (w : World) (hn : i64ok n) (hg : i64ok group) (body : List (BitVec 8)) (hB : Seen w ba bn body) (hnil : ba = none → bc = 0) (hz : bn ≤ 65536) : Calls Try.prog 34 #[.agg (LetV.cells ⟨4, n, group, o, why, amount, ra, rn, rc, ba, bn, bc⟩)] w fun e w' => ∃ v, e = .returned v ∧ w'.ownsRow w.heap.size 5 1 v (intsB [4, n] ++ sz body).length (cellsOf (intsB [4, n] ++ sz body)) ∧ Below w.heap.size w w' := by
  obtain ⟨ok, os, od, oa, oy, ol, oh⟩ := o
  show Calls Try.prog 34 #[.agg #[.int .i64 4, .int .i64 n, .int .i64 group, .int .i64 ok, .string os, .string od, .int .i64 oa, .string oy, .int .i64 ol, .int .i64 oh, .int .i64 why, .int .i64 amount, .slice ra rn rc, .slice ba bn bc]] w _
  generalize hw1 : w.alloc (.cells #[.int .i64 4, .int .i64 n, .int .i64 group, .int .i64 ok, .string os, .string od, .int .i64 oa, .string oy, .int .i64 ol, .int .i64 oh, .int .i64 why, .int .i64 amount, .slice ra rn rc, .slice ba bn bc] 31) = w1
  have b1 : Below w.heap.size w w1 := by rw [← hw1]; exact (Below.refl _ w).alloc (Nat.le_refl _) _
  have hh : w1.heap[w.heap.size]? = some (.cells #[.int .i64 4, .int .i64 n, .int .i64 group, .int .i64 ok, .string os, .string od, .int .i64 oa, .string oy, .int .i64 ol, .int .i64 oh, .int .i64 why, .int .i64 amount, .slice ra rn rc, .slice ba bn bc] 31 (0, 0)) := by rw [← hw1]; exact heap_alloc_new w _
  have hlt : w.heap.size < w1.heap.size := by rw [← hw1]; simp
  have cc : ∀ w', Below w1.heap.size w1 w' → w'.heap[w.heap.size]? = some (.cells #[.int .i64 4, .int .i64 n, .int .i64 group, .int .i64 ok, .string os, .string od, .int .i64 oa, .string oy, .int .i64 ol, .int .i64 oh, .int .i64 why, .int .i64 amount, .slice ra rn rc, .slice ba bn bc] 31 (0, 0)) := fun w' h => (h.block _ hlt).trans hh
  have k0 : w1.cell? ⟨w.heap.size, 0, none⟩ = some (.int .i64 4) := by simp [World.cell?, hh]
  have k1 : Hid (∀ w', Below w1.heap.size w1 w' → w'.cell? ⟨w.heap.size, 1, none⟩ = some (.int .i64 n)) := fun w' h => by simp [World.cell?, cc w' h]
  have k2 : Hid (∀ w', Below w1.heap.size w1 w' → w'.cell? ⟨w.heap.size, 2, none⟩ = some (.int .i64 group)) := fun w' h => by simp [World.cell?, cc w' h]
  have k13 : Hid (∀ w', Below w1.heap.size w1 w' → w'.cell? ⟨w.heap.size, 13, none⟩ = some (.slice ba bn bc)) := fun w' h => by simp [World.cell?, cc w' h]
  have kop : Hid (∀ w', Below w1.heap.size w1 w' → w'.rangeAt w.heap.size 3 [.int .i64 ok, .string os, .string od, .int .i64 oa, .string oy, .int .i64 ol, .int .i64 oh]) := fun w' h j v hv => by
    have hj : j < 7 := (List.getElem?_eq_some_iff.1 hv).1
    simp only [World.cell?, cc w' h]
    match j, hj with
    | 0, _ => simpa using hv
    | 1, _ => simpa using hv
    | 2, _ => simpa using hv
    | 3, _ => simpa using hv
    | 4, _ => simpa using hv
    | 5, _ => simpa using hv
    | 6, _ => simpa using hv
  have kre : Hid (∀ w', Below w1.heap.size w1 w' → w'.rangeAt w.heap.size 10 [.int .i64 why, .int .i64 amount, .slice ra rn rc]) := fun w' h j v hv => by
    have hj : j < 3 := (List.getElem?_eq_some_iff.1 hv).1
    simp only [World.cell?, cc w' h]
    match j, hj with
    | 0, _ => simpa using hv
    | 1, _ => simpa using hv
    | 2, _ => simpa using hv
  have hle := ints_ok (ok2 4 ⟨by decide, by decide⟩ hn)
  simp only [List.length_cons, List.length_nil] at hle
  have C60 : Hid (∀ w', Below w1.heap.size w1 w' → Calls Try.prog 59 #[.slice (some ⟨w'.heap.size, 0, none⟩) 2 2] (w'.alloc (.cells #[.int .i64 4, .int .i64 n] 2)) fun e w'' => ∃ v, e = .returned v ∧ w''.ownsRow w1.heap.size 5 1 v (intsB [4, n]).length (cellsOf (intsB [4, n])) ∧ Below w1.heap.size w1 w'') := fun w' h => by
    refine (ints_new w' [4, n] (by simp) (ok2 4 ⟨by decide, by decide⟩ hn)).mono ?_
    rintro e w'' ⟨v, rfl, o, b⟩
    exact ⟨v, rfl, owns_mono' o h.size, h.trans (b.mono h.size)⟩
  have C59 : Hid (∀ w' v, Below w1.heap.size w1 w' → w'.ownsRow w1.heap.size 5 1 v (intsB [4, n]).length (cellsOf (intsB [4, n])) → Calls Try.prog 61 #[v, .slice ba bn bc] w' fun e w'' => ∃ v', e = .returned v' ∧ w''.ownsRow w1.heap.size 5 1 v' (intsB [4, n] ++ sz body).length (cellsOf (intsB [4, n] ++ sz body)) ∧ Below w1.heap.size w1 w'') := fun w' v h hv => by
    obtain ⟨va, vc, rfl, hS, hni, _⟩ := owned_seen hv (by unfold maxLen; omega)
    refine (bytes_any va _ vc _ ba bn bc body w' hS hni (hB.below (b1.trans (h.mono b1.size))) hnil (by omega)).mono ?_
    rintro e w'' ⟨v', rfl, o, b⟩
    exact ⟨v', rfl, by rw [List.length_append]; exact owns_mono' o h.size, h.trans (b.mono h.size)⟩
  have HW : Hid (_ = w1) := hw1
  have HB1 : Hid (Below w.heap.size w w1) := b1
  clear hw1 b1 hh hlt cc hn hg hz hle hB hnil
  go_enter Try.func34, Try.ntmps34
  go_wp2_with fail
  rw [HW.out]
  clear k0
  refine wp_region_held_drew (S := fun W => Below w1.heap.size w1 W) (by kernel_rfl) (Below.refl _ w1).drew (fun hHeld => ?_)
  refine take_run (i := 0) (oi := { dst := some 36, op := Go.Op.move (Go.Operand.tmp 3), type := 2, pos := "letter.go:98", after := #[], guard := none }) (v := .int .i64 4) rfl (by kernel_rfl) (by kernel_rfl) (by kernel_rfl) (fun _ _ _ h => h) (by rfl) ?_ hHeld ?_
  · (intro wq hSw; go_simp <;> with_reducible rfl)
  try simp only [Act.put, List.setIfInBounds_toArray, List.set_cons_zero, List.set_cons_succ]
  refine take_run (i := 1) (oi := { dst := some 37, op := Go.Op.fieldAddr 31 (Go.Operand.tmp 1) 1, type := 0, pos := "letter.go:98", after := #[], guard := none }) (v := .pointer (some ⟨w.heap.size, 1, none⟩)) rfl (by kernel_rfl) (by kernel_rfl) (by kernel_rfl) (fun _ _ _ h => h) (by rfl) ?_ hHeld ?_
  · (intro wq hSw; go_simp <;> with_reducible rfl)
  try simp only [Act.put, List.setIfInBounds_toArray, List.set_cons_zero, List.set_cons_succ]
  refine take_run (i := 2) (oi := { dst := some 38, op := Go.Op.load 2 (Go.Operand.tmp 37), type := 2, pos := "letter.go:98", after := #[{ on := 1, ground := Go.Ground.data }], guard := none }) (v := .int .i64 n) rfl (by kernel_rfl) (by kernel_rfl) (by kernel_rfl) (fun _ _ _ h => h) (by rfl) ?_ hHeld ?_
  · (intro wq hSw; have hk := k1.out wq hSw; go_simp <;> with_reducible rfl)
  try simp only [Act.put, List.setIfInBounds_toArray, List.set_cons_zero, List.set_cons_succ]
  refine take_run (i := 5) (oi := { dst := some 41, op := Go.Op.fieldAddr 31 (Go.Operand.tmp 1) 5, type := 0, pos := "letter.go:98", after := #[], guard := none }) (v := .pointer (some ⟨w.heap.size, 13, none⟩)) rfl (by kernel_rfl) (by kernel_rfl) (by kernel_rfl) (fun _ _ _ h => h) (by rfl) ?_ hHeld ?_
  · (intro wq hSw; go_simp <;> with_reducible rfl)
  try simp only [Act.put, List.setIfInBounds_toArray, List.set_cons_zero, List.set_cons_succ]
  refine take_run (i := 6) (oi := { dst := some 42, op := Go.Op.load 28 (Go.Operand.tmp 41), type := 28, pos := "letter.go:98", after := #[{ on := 5, ground := Go.Ground.data }], guard := none }) (v := .slice ba bn bc) rfl (by kernel_rfl) (by kernel_rfl) (by kernel_rfl) (fun _ _ _ h => h) (by rfl) ?_ hHeld ?_
  · (intro wq hSw; have hk := k13.out wq hSw; go_simp <;> with_reducible rfl)
  try simp only [Act.put, List.setIfInBounds_toArray, List.set_cons_zero, List.set_cons_succ]
  refine take_val (i := 3) (oi := { dst := some 39, op := Go.Op.buildSlice 118 2 #[(0, Go.Operand.tmp 36), (1, Go.Operand.tmp 38)], type := 118, pos := "letter.go:98", after := #[{ on := 0, ground := Go.Ground.data }, { on := 2, ground := Go.Ground.data }], guard := none }) (w' := w1.drew.alloc (.cells #[.int .i64 4, .int .i64 n] 2)) (.slice (some ⟨w1.drew.heap.size, 0, none⟩) 2 2) rfl (by kernel_rfl) (by rfl) (by go_simp <;> with_reducible rfl) (hHeld.alloc hHeld.size _) ?_
  try simp only [Act.put, List.setIfInBounds_toArray, List.set_cons_zero, List.set_cons_succ]
  refine take_call (i := 4) (oi := { dst := some 40, op := Go.Op.call { callee := Go.Callee.value (Go.Operand.func 59), args := #[Go.Operand.tmp 39], argTypes := #[118] }, type := 28, pos := "letter.go:98", after := #[{ on := 3, ground := Go.Ground.data }], guard := none }) rfl (by kernel_rfl) (by rfl) 59 _ (by go_simp <;> with_reducible rfl) ?_
  refine (C60.out _ hHeld).mono ?_
  rintro e w2 ⟨v2, rfl, o2, hb2⟩
  refine ⟨v2, rfl, hb2, ?_⟩
  try simp only [Act.put, List.setIfInBounds_toArray, List.set_cons_zero, List.set_cons_succ]
  refine take_call (i := 7) (oi := { dst := some 43, op := Go.Op.call { callee := Go.Callee.value (Go.Operand.func 61), args := #[Go.Operand.tmp 40, Go.Operand.tmp 42], argTypes := #[28, 28] }, type := 28, pos := "letter.go:98", after := #[{ on := 4, ground := Go.Ground.data }, { on := 6, ground := Go.Ground.data }, { on := 4, ground := Go.Ground.chain }], guard := none }) rfl (by kernel_rfl) (by rfl) 61 _ (by go_simp <;> with_reducible rfl) ?_
  refine (C59.out _ _ hb2 o2).mono ?_
  rintro e w3 ⟨v3, rfl, o3, hb3⟩
  refine ⟨v3, rfl, hb3, ?_⟩
  try simp only [Act.put, List.setIfInBounds_toArray, List.set_cons_zero, List.set_cons_succ]
  refine take_run (i := 8) (oi := { dst := some 2, op := Go.Op.assign (Go.Operand.tmp 43), type := 28, pos := "letter.go:98", after := #[{ on := 7, ground := Go.Ground.data }, { on := 7, ground := Go.Ground.chain }, { on := 0, ground := Go.Ground.phase }, { on := 1, ground := Go.Ground.phase }, { on := 2, ground := Go.Ground.phase }, { on := 3, ground := Go.Ground.phase }, { on := 4, ground := Go.Ground.phase }, { on := 5, ground := Go.Ground.phase }, { on := 6, ground := Go.Ground.phase }, { on := 7, ground := Go.Ground.phase }], guard := none }) (v := v3) rfl (by kernel_rfl) (by kernel_rfl) (by kernel_rfl) (fun _ _ _ h => h) (by rfl) ?_ hb3 ?_
  · (intro wq hSw; go_simp <;> with_reducible rfl)
  try simp only [Act.put, List.setIfInBounds_toArray, List.set_cons_zero, List.set_cons_succ]
  refine wpAnyH_done (by kernel_rfl) ?_ _
  have O3 : Hid _ := o3
  have B3 : Hid (Below w1.heap.size w1 w3) := hb3
  clear o3 hb3 o2 hb2 hHeld k1 k2 k13 kop kre C60 C59
  go_wp2
  go_ret
  exact ⟨_, rfl, owns_mono' O3.out HB1.out.size, HB1.out.trans (B3.out.mono HB1.out.size)⟩
set_option maxRecDepth 100000 in
set_option maxHeartbeats 1600000 in
theorem form_answer (n group : Int) (o : OpD) (why amount : Int) (ra : Option Addr) (rn rc : Nat) (ba : Option Addr) (bn bc : Nat) (w : World) (hn : i64ok n) (hg : i64ok group) (body : List (BitVec 8)) (hB : Seen w ba bn body) (hnil : ba = none → bc = 0) (hz : bn ≤ 65536) : Calls Try.prog 34 #[.agg (LetV.cells ⟨5, n, group, o, why, amount, ra, rn, rc, ba, bn, bc⟩)] w fun e w' => ∃ v, e = .returned v ∧ w'.ownsRow w.heap.size 5 1 v (intsB [5, n, group] ++ sz body).length (cellsOf (intsB [5, n, group] ++ sz body)) ∧ Below w.heap.size w w' := by
  obtain ⟨ok, os, od, oa, oy, ol, oh⟩ := o
  show Calls Try.prog 34 #[.agg #[.int .i64 5, .int .i64 n, .int .i64 group, .int .i64 ok, .string os, .string od, .int .i64 oa, .string oy, .int .i64 ol, .int .i64 oh, .int .i64 why, .int .i64 amount, .slice ra rn rc, .slice ba bn bc]] w _
  generalize hw1 : w.alloc (.cells #[.int .i64 5, .int .i64 n, .int .i64 group, .int .i64 ok, .string os, .string od, .int .i64 oa, .string oy, .int .i64 ol, .int .i64 oh, .int .i64 why, .int .i64 amount, .slice ra rn rc, .slice ba bn bc] 31) = w1
  have b1 : Below w.heap.size w w1 := by rw [← hw1]; exact (Below.refl _ w).alloc (Nat.le_refl _) _
  have hh : w1.heap[w.heap.size]? = some (.cells #[.int .i64 5, .int .i64 n, .int .i64 group, .int .i64 ok, .string os, .string od, .int .i64 oa, .string oy, .int .i64 ol, .int .i64 oh, .int .i64 why, .int .i64 amount, .slice ra rn rc, .slice ba bn bc] 31 (0, 0)) := by rw [← hw1]; exact heap_alloc_new w _
  have hlt : w.heap.size < w1.heap.size := by rw [← hw1]; simp
  have cc : ∀ w', Below w1.heap.size w1 w' → w'.heap[w.heap.size]? = some (.cells #[.int .i64 5, .int .i64 n, .int .i64 group, .int .i64 ok, .string os, .string od, .int .i64 oa, .string oy, .int .i64 ol, .int .i64 oh, .int .i64 why, .int .i64 amount, .slice ra rn rc, .slice ba bn bc] 31 (0, 0)) := fun w' h => (h.block _ hlt).trans hh
  have k0 : w1.cell? ⟨w.heap.size, 0, none⟩ = some (.int .i64 5) := by simp [World.cell?, hh]
  have k1 : Hid (∀ w', Below w1.heap.size w1 w' → w'.cell? ⟨w.heap.size, 1, none⟩ = some (.int .i64 n)) := fun w' h => by simp [World.cell?, cc w' h]
  have k2 : Hid (∀ w', Below w1.heap.size w1 w' → w'.cell? ⟨w.heap.size, 2, none⟩ = some (.int .i64 group)) := fun w' h => by simp [World.cell?, cc w' h]
  have k13 : Hid (∀ w', Below w1.heap.size w1 w' → w'.cell? ⟨w.heap.size, 13, none⟩ = some (.slice ba bn bc)) := fun w' h => by simp [World.cell?, cc w' h]
  have kop : Hid (∀ w', Below w1.heap.size w1 w' → w'.rangeAt w.heap.size 3 [.int .i64 ok, .string os, .string od, .int .i64 oa, .string oy, .int .i64 ol, .int .i64 oh]) := fun w' h j v hv => by
    have hj : j < 7 := (List.getElem?_eq_some_iff.1 hv).1
    simp only [World.cell?, cc w' h]
    match j, hj with
    | 0, _ => simpa using hv
    | 1, _ => simpa using hv
    | 2, _ => simpa using hv
    | 3, _ => simpa using hv
    | 4, _ => simpa using hv
    | 5, _ => simpa using hv
    | 6, _ => simpa using hv
  have kre : Hid (∀ w', Below w1.heap.size w1 w' → w'.rangeAt w.heap.size 10 [.int .i64 why, .int .i64 amount, .slice ra rn rc]) := fun w' h j v hv => by
    have hj : j < 3 := (List.getElem?_eq_some_iff.1 hv).1
    simp only [World.cell?, cc w' h]
    match j, hj with
    | 0, _ => simpa using hv
    | 1, _ => simpa using hv
    | 2, _ => simpa using hv
  have hle := ints_ok (ok3 5 ⟨by decide, by decide⟩ hn hg)
  simp only [List.length_cons, List.length_nil] at hle
  have C60 : Hid (∀ w', Below w1.heap.size w1 w' → Calls Try.prog 59 #[.slice (some ⟨w'.heap.size, 0, none⟩) 3 3] (w'.alloc (.cells #[.int .i64 5, .int .i64 n, .int .i64 group] 2)) fun e w'' => ∃ v, e = .returned v ∧ w''.ownsRow w1.heap.size 5 1 v (intsB [5, n, group]).length (cellsOf (intsB [5, n, group])) ∧ Below w1.heap.size w1 w'') := fun w' h => by
    refine (ints_new w' [5, n, group] (by simp) (ok3 5 ⟨by decide, by decide⟩ hn hg)).mono ?_
    rintro e w'' ⟨v, rfl, o, b⟩
    exact ⟨v, rfl, owns_mono' o h.size, h.trans (b.mono h.size)⟩
  have C59 : Hid (∀ w' v, Below w1.heap.size w1 w' → w'.ownsRow w1.heap.size 5 1 v (intsB [5, n, group]).length (cellsOf (intsB [5, n, group])) → Calls Try.prog 61 #[v, .slice ba bn bc] w' fun e w'' => ∃ v', e = .returned v' ∧ w''.ownsRow w1.heap.size 5 1 v' (intsB [5, n, group] ++ sz body).length (cellsOf (intsB [5, n, group] ++ sz body)) ∧ Below w1.heap.size w1 w'') := fun w' v h hv => by
    obtain ⟨va, vc, rfl, hS, hni, _⟩ := owned_seen hv (by unfold maxLen; omega)
    refine (bytes_any va _ vc _ ba bn bc body w' hS hni (hB.below (b1.trans (h.mono b1.size))) hnil (by omega)).mono ?_
    rintro e w'' ⟨v', rfl, o, b⟩
    exact ⟨v', rfl, by rw [List.length_append]; exact owns_mono' o h.size, h.trans (b.mono h.size)⟩
  have HW : Hid (_ = w1) := hw1
  have HB1 : Hid (Below w.heap.size w w1) := b1
  clear hw1 b1 hh hlt cc hn hg hz hle hB hnil
  go_enter Try.func34, Try.ntmps34
  go_wp2_with fail
  rw [HW.out]
  clear k0
  refine wp_region_held_drew (S := fun W => Below w1.heap.size w1 W) (by kernel_rfl) (Below.refl _ w1).drew (fun hHeld => ?_)
  refine take_run (i := 0) (oi := { dst := some 46, op := Go.Op.move (Go.Operand.tmp 3), type := 2, pos := "letter.go:100", after := #[], guard := none }) (v := .int .i64 5) rfl (by kernel_rfl) (by kernel_rfl) (by kernel_rfl) (fun _ _ _ h => h) (by rfl) ?_ hHeld ?_
  · (intro wq hSw; go_simp <;> with_reducible rfl)
  try simp only [Act.put, List.setIfInBounds_toArray, List.set_cons_zero, List.set_cons_succ]
  refine take_run (i := 1) (oi := { dst := some 47, op := Go.Op.fieldAddr 31 (Go.Operand.tmp 1) 1, type := 0, pos := "letter.go:100", after := #[], guard := none }) (v := .pointer (some ⟨w.heap.size, 1, none⟩)) rfl (by kernel_rfl) (by kernel_rfl) (by kernel_rfl) (fun _ _ _ h => h) (by rfl) ?_ hHeld ?_
  · (intro wq hSw; go_simp <;> with_reducible rfl)
  try simp only [Act.put, List.setIfInBounds_toArray, List.set_cons_zero, List.set_cons_succ]
  refine take_run (i := 2) (oi := { dst := some 48, op := Go.Op.load 2 (Go.Operand.tmp 47), type := 2, pos := "letter.go:100", after := #[{ on := 1, ground := Go.Ground.data }], guard := none }) (v := .int .i64 n) rfl (by kernel_rfl) (by kernel_rfl) (by kernel_rfl) (fun _ _ _ h => h) (by rfl) ?_ hHeld ?_
  · (intro wq hSw; have hk := k1.out wq hSw; go_simp <;> with_reducible rfl)
  try simp only [Act.put, List.setIfInBounds_toArray, List.set_cons_zero, List.set_cons_succ]
  refine take_run (i := 3) (oi := { dst := some 49, op := Go.Op.fieldAddr 31 (Go.Operand.tmp 1) 2, type := 0, pos := "letter.go:100", after := #[], guard := none }) (v := .pointer (some ⟨w.heap.size, 2, none⟩)) rfl (by kernel_rfl) (by kernel_rfl) (by kernel_rfl) (fun _ _ _ h => h) (by rfl) ?_ hHeld ?_
  · (intro wq hSw; go_simp <;> with_reducible rfl)
  try simp only [Act.put, List.setIfInBounds_toArray, List.set_cons_zero, List.set_cons_succ]
  refine take_run (i := 4) (oi := { dst := some 50, op := Go.Op.load 3 (Go.Operand.tmp 49), type := 3, pos := "letter.go:100", after := #[{ on := 3, ground := Go.Ground.data }], guard := none }) (v := .int .i64 group) rfl (by kernel_rfl) (by kernel_rfl) (by kernel_rfl) (fun _ _ _ h => h) (by rfl) ?_ hHeld ?_
  · (intro wq hSw; have hk := k2.out wq hSw; go_simp <;> with_reducible rfl)
  try simp only [Act.put, List.setIfInBounds_toArray, List.set_cons_zero, List.set_cons_succ]
  refine take_run (i := 7) (oi := { dst := some 53, op := Go.Op.fieldAddr 31 (Go.Operand.tmp 1) 5, type := 0, pos := "letter.go:100", after := #[], guard := none }) (v := .pointer (some ⟨w.heap.size, 13, none⟩)) rfl (by kernel_rfl) (by kernel_rfl) (by kernel_rfl) (fun _ _ _ h => h) (by rfl) ?_ hHeld ?_
  · (intro wq hSw; go_simp <;> with_reducible rfl)
  try simp only [Act.put, List.setIfInBounds_toArray, List.set_cons_zero, List.set_cons_succ]
  refine take_run (i := 8) (oi := { dst := some 54, op := Go.Op.load 28 (Go.Operand.tmp 53), type := 28, pos := "letter.go:100", after := #[{ on := 7, ground := Go.Ground.data }], guard := none }) (v := .slice ba bn bc) rfl (by kernel_rfl) (by kernel_rfl) (by kernel_rfl) (fun _ _ _ h => h) (by rfl) ?_ hHeld ?_
  · (intro wq hSw; have hk := k13.out wq hSw; go_simp <;> with_reducible rfl)
  try simp only [Act.put, List.setIfInBounds_toArray, List.set_cons_zero, List.set_cons_succ]
  refine take_val (i := 5) (oi := { dst := some 51, op := Go.Op.buildSlice 118 3 #[(0, Go.Operand.tmp 46), (1, Go.Operand.tmp 48), (2, Go.Operand.tmp 50)], type := 118, pos := "letter.go:100", after := #[{ on := 0, ground := Go.Ground.data }, { on := 2, ground := Go.Ground.data }, { on := 4, ground := Go.Ground.data }], guard := none }) (w' := w1.drew.alloc (.cells #[.int .i64 5, .int .i64 n, .int .i64 group] 2)) (.slice (some ⟨w1.drew.heap.size, 0, none⟩) 3 3) rfl (by kernel_rfl) (by rfl) (by go_simp <;> with_reducible rfl) (hHeld.alloc hHeld.size _) ?_
  try simp only [Act.put, List.setIfInBounds_toArray, List.set_cons_zero, List.set_cons_succ]
  refine take_call (i := 6) (oi := { dst := some 52, op := Go.Op.call { callee := Go.Callee.value (Go.Operand.func 59), args := #[Go.Operand.tmp 51], argTypes := #[118] }, type := 28, pos := "letter.go:100", after := #[{ on := 5, ground := Go.Ground.data }], guard := none }) rfl (by kernel_rfl) (by rfl) 59 _ (by go_simp <;> with_reducible rfl) ?_
  refine (C60.out _ hHeld).mono ?_
  rintro e w2 ⟨v2, rfl, o2, hb2⟩
  refine ⟨v2, rfl, hb2, ?_⟩
  try simp only [Act.put, List.setIfInBounds_toArray, List.set_cons_zero, List.set_cons_succ]
  refine take_call (i := 9) (oi := { dst := some 55, op := Go.Op.call { callee := Go.Callee.value (Go.Operand.func 61), args := #[Go.Operand.tmp 52, Go.Operand.tmp 54], argTypes := #[28, 28] }, type := 28, pos := "letter.go:100", after := #[{ on := 6, ground := Go.Ground.data }, { on := 8, ground := Go.Ground.data }, { on := 6, ground := Go.Ground.chain }], guard := none }) rfl (by kernel_rfl) (by rfl) 61 _ (by go_simp <;> with_reducible rfl) ?_
  refine (C59.out _ _ hb2 o2).mono ?_
  rintro e w3 ⟨v3, rfl, o3, hb3⟩
  refine ⟨v3, rfl, hb3, ?_⟩
  try simp only [Act.put, List.setIfInBounds_toArray, List.set_cons_zero, List.set_cons_succ]
  refine take_run (i := 10) (oi := { dst := some 2, op := Go.Op.assign (Go.Operand.tmp 55), type := 28, pos := "letter.go:100", after := #[{ on := 9, ground := Go.Ground.data }, { on := 9, ground := Go.Ground.chain }, { on := 0, ground := Go.Ground.phase }, { on := 1, ground := Go.Ground.phase }, { on := 2, ground := Go.Ground.phase }, { on := 3, ground := Go.Ground.phase }, { on := 4, ground := Go.Ground.phase }, { on := 5, ground := Go.Ground.phase }, { on := 6, ground := Go.Ground.phase }, { on := 7, ground := Go.Ground.phase }, { on := 8, ground := Go.Ground.phase }, { on := 9, ground := Go.Ground.phase }], guard := none }) (v := v3) rfl (by kernel_rfl) (by kernel_rfl) (by kernel_rfl) (fun _ _ _ h => h) (by rfl) ?_ hb3 ?_
  · (intro wq hSw; go_simp <;> with_reducible rfl)
  try simp only [Act.put, List.setIfInBounds_toArray, List.set_cons_zero, List.set_cons_succ]
  refine wpAnyH_done (by kernel_rfl) ?_ _
  have O3 : Hid _ := o3
  have B3 : Hid (Below w1.heap.size w1 w3) := hb3
  clear o3 hb3 o2 hb2 hHeld k1 k2 k13 kop kre C60 C59
  go_wp2
  go_ret
  exact ⟨_, rfl, owns_mono' O3.out HB1.out.size, HB1.out.trans (B3.out.mono HB1.out.size)⟩
set_option maxRecDepth 100000 in
set_option maxHeartbeats 1600000 in
theorem form_raft (n group : Int) (o : OpD) (why amount : Int) (ra : Option Addr) (rn rc : Nat) (ba : Option Addr) (bn bc : Nat) (w : World) (hn : i64ok n) (hg : i64ok group) (body : List (BitVec 8)) (hB : Seen w ba bn body) (hnil : ba = none → bc = 0) (hz : bn ≤ 65536) : Calls Try.prog 34 #[.agg (LetV.cells ⟨1, n, group, o, why, amount, ra, rn, rc, ba, bn, bc⟩)] w fun e w' => ∃ v, e = .returned v ∧ w'.ownsRow w.heap.size 5 1 v (intsB [1] ++ sz body).length (cellsOf (intsB [1] ++ sz body)) ∧ Below w.heap.size w w' := by
  obtain ⟨ok, os, od, oa, oy, ol, oh⟩ := o
  show Calls Try.prog 34 #[.agg #[.int .i64 1, .int .i64 n, .int .i64 group, .int .i64 ok, .string os, .string od, .int .i64 oa, .string oy, .int .i64 ol, .int .i64 oh, .int .i64 why, .int .i64 amount, .slice ra rn rc, .slice ba bn bc]] w _
  generalize hw1 : w.alloc (.cells #[.int .i64 1, .int .i64 n, .int .i64 group, .int .i64 ok, .string os, .string od, .int .i64 oa, .string oy, .int .i64 ol, .int .i64 oh, .int .i64 why, .int .i64 amount, .slice ra rn rc, .slice ba bn bc] 31) = w1
  have b1 : Below w.heap.size w w1 := by rw [← hw1]; exact (Below.refl _ w).alloc (Nat.le_refl _) _
  have hh : w1.heap[w.heap.size]? = some (.cells #[.int .i64 1, .int .i64 n, .int .i64 group, .int .i64 ok, .string os, .string od, .int .i64 oa, .string oy, .int .i64 ol, .int .i64 oh, .int .i64 why, .int .i64 amount, .slice ra rn rc, .slice ba bn bc] 31 (0, 0)) := by rw [← hw1]; exact heap_alloc_new w _
  have hlt : w.heap.size < w1.heap.size := by rw [← hw1]; simp
  have cc : ∀ w', Below w1.heap.size w1 w' → w'.heap[w.heap.size]? = some (.cells #[.int .i64 1, .int .i64 n, .int .i64 group, .int .i64 ok, .string os, .string od, .int .i64 oa, .string oy, .int .i64 ol, .int .i64 oh, .int .i64 why, .int .i64 amount, .slice ra rn rc, .slice ba bn bc] 31 (0, 0)) := fun w' h => (h.block _ hlt).trans hh
  have k0 : w1.cell? ⟨w.heap.size, 0, none⟩ = some (.int .i64 1) := by simp [World.cell?, hh]
  have k1 : Hid (∀ w', Below w1.heap.size w1 w' → w'.cell? ⟨w.heap.size, 1, none⟩ = some (.int .i64 n)) := fun w' h => by simp [World.cell?, cc w' h]
  have k2 : Hid (∀ w', Below w1.heap.size w1 w' → w'.cell? ⟨w.heap.size, 2, none⟩ = some (.int .i64 group)) := fun w' h => by simp [World.cell?, cc w' h]
  have k13 : Hid (∀ w', Below w1.heap.size w1 w' → w'.cell? ⟨w.heap.size, 13, none⟩ = some (.slice ba bn bc)) := fun w' h => by simp [World.cell?, cc w' h]
  have kop : Hid (∀ w', Below w1.heap.size w1 w' → w'.rangeAt w.heap.size 3 [.int .i64 ok, .string os, .string od, .int .i64 oa, .string oy, .int .i64 ol, .int .i64 oh]) := fun w' h j v hv => by
    have hj : j < 7 := (List.getElem?_eq_some_iff.1 hv).1
    simp only [World.cell?, cc w' h]
    match j, hj with
    | 0, _ => simpa using hv
    | 1, _ => simpa using hv
    | 2, _ => simpa using hv
    | 3, _ => simpa using hv
    | 4, _ => simpa using hv
    | 5, _ => simpa using hv
    | 6, _ => simpa using hv
  have kre : Hid (∀ w', Below w1.heap.size w1 w' → w'.rangeAt w.heap.size 10 [.int .i64 why, .int .i64 amount, .slice ra rn rc]) := fun w' h j v hv => by
    have hj : j < 3 := (List.getElem?_eq_some_iff.1 hv).1
    simp only [World.cell?, cc w' h]
    match j, hj with
    | 0, _ => simpa using hv
    | 1, _ => simpa using hv
    | 2, _ => simpa using hv
  have hle := ints_ok (ok1 1 ⟨by decide, by decide⟩)
  simp only [List.length_cons, List.length_nil] at hle
  have C60 : Hid (∀ w', Below w1.heap.size w1 w' → Calls Try.prog 59 #[.slice (some ⟨w'.heap.size, 0, none⟩) 1 1] (w'.alloc (.cells #[.int .i64 1] 2)) fun e w'' => ∃ v, e = .returned v ∧ w''.ownsRow w1.heap.size 5 1 v (intsB [1]).length (cellsOf (intsB [1])) ∧ Below w1.heap.size w1 w'') := fun w' h => by
    refine (ints_new w' [1] (by simp) (ok1 1 ⟨by decide, by decide⟩)).mono ?_
    rintro e w'' ⟨v, rfl, o, b⟩
    exact ⟨v, rfl, owns_mono' o h.size, h.trans (b.mono h.size)⟩
  have C59 : Hid (∀ w' v, Below w1.heap.size w1 w' → w'.ownsRow w1.heap.size 5 1 v (intsB [1]).length (cellsOf (intsB [1])) → Calls Try.prog 61 #[v, .slice ba bn bc] w' fun e w'' => ∃ v', e = .returned v' ∧ w''.ownsRow w1.heap.size 5 1 v' (intsB [1] ++ sz body).length (cellsOf (intsB [1] ++ sz body)) ∧ Below w1.heap.size w1 w'') := fun w' v h hv => by
    obtain ⟨va, vc, rfl, hS, hni, _⟩ := owned_seen hv (by unfold maxLen; omega)
    refine (bytes_any va _ vc _ ba bn bc body w' hS hni (hB.below (b1.trans (h.mono b1.size))) hnil (by omega)).mono ?_
    rintro e w'' ⟨v', rfl, o, b⟩
    exact ⟨v', rfl, by rw [List.length_append]; exact owns_mono' o h.size, h.trans (b.mono h.size)⟩
  have HW : Hid (_ = w1) := hw1
  have HB1 : Hid (Below w.heap.size w w1) := b1
  clear hw1 b1 hh hlt cc hn hg hz hle hB hnil
  go_enter Try.func34, Try.ntmps34
  go_wp2_with fail
  rw [HW.out]
  clear k0
  refine wp_region_held_drew (S := fun W => Below w1.heap.size w1 W) (by kernel_rfl) (Below.refl _ w1).drew (fun hHeld => ?_)
  refine take_run (i := 0) (oi := { dst := some 8, op := Go.Op.move (Go.Operand.tmp 3), type := 2, pos := "letter.go:102", after := #[], guard := none }) (v := .int .i64 1) rfl (by kernel_rfl) (by kernel_rfl) (by kernel_rfl) (fun _ _ _ h => h) (by rfl) ?_ hHeld ?_
  · (intro wq hSw; go_simp <;> with_reducible rfl)
  try simp only [Act.put, List.setIfInBounds_toArray, List.set_cons_zero, List.set_cons_succ]
  refine take_run (i := 3) (oi := { dst := some 11, op := Go.Op.fieldAddr 31 (Go.Operand.tmp 1) 5, type := 0, pos := "letter.go:102", after := #[], guard := none }) (v := .pointer (some ⟨w.heap.size, 13, none⟩)) rfl (by kernel_rfl) (by kernel_rfl) (by kernel_rfl) (fun _ _ _ h => h) (by rfl) ?_ hHeld ?_
  · (intro wq hSw; go_simp <;> with_reducible rfl)
  try simp only [Act.put, List.setIfInBounds_toArray, List.set_cons_zero, List.set_cons_succ]
  refine take_run (i := 4) (oi := { dst := some 12, op := Go.Op.load 28 (Go.Operand.tmp 11), type := 28, pos := "letter.go:102", after := #[{ on := 3, ground := Go.Ground.data }], guard := none }) (v := .slice ba bn bc) rfl (by kernel_rfl) (by kernel_rfl) (by kernel_rfl) (fun _ _ _ h => h) (by rfl) ?_ hHeld ?_
  · (intro wq hSw; have hk := k13.out wq hSw; go_simp <;> with_reducible rfl)
  try simp only [Act.put, List.setIfInBounds_toArray, List.set_cons_zero, List.set_cons_succ]
  refine take_val (i := 1) (oi := { dst := some 9, op := Go.Op.buildSlice 118 1 #[(0, Go.Operand.tmp 8)], type := 118, pos := "letter.go:102", after := #[{ on := 0, ground := Go.Ground.data }], guard := none }) (w' := w1.drew.alloc (.cells #[.int .i64 1] 2)) (.slice (some ⟨w1.drew.heap.size, 0, none⟩) 1 1) rfl (by kernel_rfl) (by rfl) (by go_simp <;> with_reducible rfl) (hHeld.alloc hHeld.size _) ?_
  try simp only [Act.put, List.setIfInBounds_toArray, List.set_cons_zero, List.set_cons_succ]
  refine take_call (i := 2) (oi := { dst := some 10, op := Go.Op.call { callee := Go.Callee.value (Go.Operand.func 59), args := #[Go.Operand.tmp 9], argTypes := #[118] }, type := 28, pos := "letter.go:102", after := #[{ on := 1, ground := Go.Ground.data }], guard := none }) rfl (by kernel_rfl) (by rfl) 59 _ (by go_simp <;> with_reducible rfl) ?_
  refine (C60.out _ hHeld).mono ?_
  rintro e w2 ⟨v2, rfl, o2, hb2⟩
  refine ⟨v2, rfl, hb2, ?_⟩
  try simp only [Act.put, List.setIfInBounds_toArray, List.set_cons_zero, List.set_cons_succ]
  refine take_call (i := 5) (oi := { dst := some 13, op := Go.Op.call { callee := Go.Callee.value (Go.Operand.func 61), args := #[Go.Operand.tmp 10, Go.Operand.tmp 12], argTypes := #[28, 28] }, type := 28, pos := "letter.go:102", after := #[{ on := 2, ground := Go.Ground.data }, { on := 4, ground := Go.Ground.data }, { on := 2, ground := Go.Ground.chain }], guard := none }) rfl (by kernel_rfl) (by rfl) 61 _ (by go_simp <;> with_reducible rfl) ?_
  refine (C59.out _ _ hb2 o2).mono ?_
  rintro e w3 ⟨v3, rfl, o3, hb3⟩
  refine ⟨v3, rfl, hb3, ?_⟩
  try simp only [Act.put, List.setIfInBounds_toArray, List.set_cons_zero, List.set_cons_succ]
  refine take_run (i := 6) (oi := { dst := some 2, op := Go.Op.assign (Go.Operand.tmp 13), type := 28, pos := "letter.go:102", after := #[{ on := 5, ground := Go.Ground.data }, { on := 5, ground := Go.Ground.chain }, { on := 0, ground := Go.Ground.phase }, { on := 1, ground := Go.Ground.phase }, { on := 2, ground := Go.Ground.phase }, { on := 3, ground := Go.Ground.phase }, { on := 4, ground := Go.Ground.phase }, { on := 5, ground := Go.Ground.phase }], guard := none }) (v := v3) rfl (by kernel_rfl) (by kernel_rfl) (by kernel_rfl) (fun _ _ _ h => h) (by rfl) ?_ hb3 ?_
  · (intro wq hSw; go_simp <;> with_reducible rfl)
  try simp only [Act.put, List.setIfInBounds_toArray, List.set_cons_zero, List.set_cons_succ]
  refine wpAnyH_done (by kernel_rfl) ?_ _
  have O3 : Hid _ := o3
  have B3 : Hid (Below w1.heap.size w1 w3) := hb3
  clear o3 hb3 o2 hb2 hHeld k1 k2 k13 kop kre C60 C59
  go_wp2
  go_ret
  exact ⟨_, rfl, owns_mono' O3.out HB1.out.size, HB1.out.trans (B3.out.mono HB1.out.size)⟩
end Go.Proofs.Ytmcippolnekogaa
