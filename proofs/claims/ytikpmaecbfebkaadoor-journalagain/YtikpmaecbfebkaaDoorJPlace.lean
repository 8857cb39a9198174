/- Package journal: a sector's parts. -/
import Derived.Test.YtikpmaecbfebkaaDoorJSmall
import Derived.Test.YtikpmaecbfebkaaDoorDRead
import Derived.Test.YtikpmaecbfebkaaDoorDPureA
import Derived.Deep.RegionHeld
import Derived.Laws.Tables
namespace Go.Proofs.YtikpmaecbfebkaaDoor
open Go.RowKit
set_option linter.unusedVariables false

theorem row_below {B g : Nat} {a w : World} {cs : Array Value} (h : Below B a w) (hg : B ≤ g) : Below B a (w.setRow g cs) :=
  ⟨h.os, h.tape, h.output, by simpa using h.size, fun k hk => by rw [setRow_other w g k cs (by omega)]; exact h.block k hk⟩
theorem results_row {P : Program} {fn : Func} {p u : Tmp} {ty : TypeId} (h : fn.results = #[.cell p ty, .tmp u]) (tmps : Array Value) (w : World) (g : Nat) (t : TypeId) (cs : Array Value) (fr : Nat × Nat) (d : TypeDesc)
    (hp : tmps.getD p undef = .pointer (some ⟨g, 0, none⟩)) (hg : w.heap[g]? = some (.cells cs t fr))
    (hu : P.underlying ty = some d) (hd : (match d with | .struct _ | .array _ _ => true | _ => false) = true) (hi : (P.info? ty).map (·.size) = some cs.size) :
    (results fn tmps).run P w = .ok (.tuple #[.agg cs, tmps.getD u undef]) w := by
  rw [results_cell_tmp h, hp]
  simp [asAddr, run_loadVar_row w g t ty cs fr d hg hu hd hi]
theorem below_drewN (w : World) : ∀ n, Below w.heap.size w (w.drewN n)
  | n => ⟨rfl, rfl, rfl, Nat.le_refl _, fun _ _ => rfl⟩
/-- A journal's own cells. -/
def JAt (w : World) (J D fr sz st nx : Nat) (dead : Bool) : Prop := w.heap[J]? = some (.cells #[.pointer (some ⟨D, 0, none⟩), .int .i64 (fr : Int), .int .i64 (sz : Int), .int .i64 (st : Int), .int .i64 (nx : Int), .bool dead] 80 (0, 0))
theorem JAt.cells {w : World} {J D fr sz st nx : Nat} {dead : Bool} (h : JAt w J D fr sz st nx dead) : w.cell? ⟨J, 0, none⟩ = some (.pointer (some ⟨D, 0, none⟩)) ∧ w.cell? ⟨J, 1, none⟩ = some (.int .i64 (fr : Int)) ∧ w.cell? ⟨J, 2, none⟩ = some (.int .i64 (sz : Int)) ∧ w.cell? ⟨J, 3, none⟩ = some (.int .i64 (st : Int)) ∧ w.cell? ⟨J, 4, none⟩ = some (.int .i64 (nx : Int)) ∧ w.cell? ⟨J, 5, none⟩ = some (.bool dead) ∧ ∀ i, w.frozen? ⟨J, i, none⟩ = false := by
  unfold JAt at h
  simp [World.cell?, World.frozen?, h]
theorem JAt.lt {w : World} {J D fr sz st nx : Nat} {dead : Bool} (h : JAt w J D fr sz st nx dead) : J < w.heap.size := (Array.getElem?_eq_some_iff.1 h).1
theorem JAt.below {w w' : World} {J D fr sz st nx : Nat} {dead : Bool} (h : JAt w J D fr sz st nx dead) (b : Below w.heap.size w w') : JAt w' J D fr sz st nx dead := by unfold JAt; rw [b.block J h.lt]; exact h
def plc (fr sz s : Nat) : Nat := fr + (s - 1) % sz
set_option maxRecDepth 100000 in
set_option maxHeartbeats 800000 in
theorem place_any (J D fr sz st nx : Nat) (dead : Bool) (s : Nat) (w : World) (h : JAt w J D fr sz st nx dead) (h1 : 1 ≤ s) (h2 : s ≤ 4611686018427387904) (hz : 1 ≤ sz) (hs : fr + sz ≤ 4096) :
    Calls Tryd.prog 53 #[.pointer (some ⟨J, 0, none⟩), .int .i64 (s : Int)] w fun e w' => e = .returned (.int .i64 (plc fr sz s : Nat)) ∧ w' = w.drew := by
  obtain ⟨_, c1, c2, _⟩ := h.cells
  have c1d : w.drew.cell? ⟨J, 1, none⟩ = some (.int .i64 (fr : Int)) := c1
  have c2d : w.drew.cell? ⟨J, 2, none⟩ = some (.int .i64 (sz : Int)) := c2
  have hq : (s - 1) % sz < sz := Nat.mod_lt _ (by omega)
  have ht : Int.tmod ((s : Int) - 1) (sz : Int) = (((s - 1) % sz : Nat) : Int) := by
    rw [Int.tmod_eq_emod_of_nonneg (by omega), show (s : Int) - 1 = ((s - 1 : Nat) : Int) by omega, Int.natCast_emod]
  obtain ⟨q, eq⟩ : ∃ q, (s - 1) % sz = q := ⟨_, rfl⟩
  rw [eq] at ht hq
  have E : Hid (plc fr sz s = fr + q) := by show plc fr sz s = fr + q; unfold plc; rw [eq]
  have hz0 : ¬ (sz : Int) = 0 := by omega
  have hz2 : ¬ sz = 0 := by omega
  have hz1 : ((sz : Int) == 0) = false := by rw [beq_eq_false_iff_ne]; omega
  have wr1 : IntKind.i64.wrap ((s : Int) - 1) = (s : Int) - 1 := by rw [IntKind.wrap_i64]; omega
  have wr2 : IntKind.i64.wrap ((fr : Int) + (q : Int)) = (fr : Int) + (q : Int) := by rw [IntKind.wrap_i64]; omega
  have wr3 : IntKind.i64.wrap (q : Int) = (q : Int) := by rw [IntKind.wrap_i64]; omega
  have wq1 : wrap64 (q : Int) = (q : Int) := by unfold wrap64; omega
  have EN : Hid (((fr + q : Nat) : Int) = (fr : Int) + (q : Int)) := by show ((fr + q : Nat) : Int) = (fr : Int) + (q : Int); omega
  rw [E.out, EN.out]
  clear h eq E EN h1 h2 hz hs hq c1 c2
  have c1 := c1d
  have c2 := c2d
  clear c1d c2d
  go_enter Tryd.func53, Tryd.ntmps53
  go_wp2_with fail
  refine wp_region_held_drew (S := fun X => X.cell? ⟨J, 1, none⟩ = some (.int .i64 (fr : Int)) ∧ X.cell? ⟨J, 2, none⟩ = some (.int .i64 (sz : Int))) (by kernel_rfl) ⟨c1, c2⟩ (fun hHeld => ?_)
  refine take_run (i := 0) (oi := { dst := some 5, op := Go.Op.move (Go.Operand.tmp 0), type := 37, pos := "journal.go:189", after := #[], guard := none }) (v := .pointer (some ⟨J, 0, none⟩)) rfl (by kernel_rfl) (by kernel_rfl) (by kernel_rfl) (fun _ _ _ h => h) (by rfl) ?_ hHeld ?_
  · (intro wq hSw; go_simp <;> with_reducible rfl)
  try simp only [Act.put, List.setIfInBounds_toArray, List.set_cons_zero, List.set_cons_succ]
  refine take_run (i := 1) (oi := { dst := some 6, op := Go.Op.nilCheck (Go.Operand.tmp 5), type := 0, pos := "journal.go:189", after := #[{ on := 0, ground := Go.Ground.data }], guard := none }) (v := .pointer (some ⟨J, 0, none⟩)) rfl (by kernel_rfl) (by kernel_rfl) (by kernel_rfl) (fun _ _ _ h => h) (by rfl) ?_ hHeld ?_
  · (intro wq hSw; go_simp <;> with_reducible rfl)
  try simp only [Act.put, List.setIfInBounds_toArray, List.set_cons_zero, List.set_cons_succ]
  refine take_run (i := 2) (oi := { dst := some 7, op := Go.Op.fieldAddr 80 (Go.Operand.tmp 6) 1, type := 0, pos := "journal.go:189", after := #[{ on := 1, ground := Go.Ground.data }], guard := none }) (v := .pointer (some ⟨J, 1, none⟩)) rfl (by kernel_rfl) (by kernel_rfl) (by kernel_rfl) (fun _ _ _ h => h) (by rfl) ?_ hHeld ?_
  · (intro wq hSw; go_simp <;> with_reducible rfl)
  try simp only [Act.put, List.setIfInBounds_toArray, List.set_cons_zero, List.set_cons_succ]
  refine take_run (i := 3) (oi := { dst := some 8, op := Go.Op.load 3 (Go.Operand.tmp 7), type := 3, pos := "journal.go:189", after := #[{ on := 2, ground := Go.Ground.data }], guard := none }) (v := .int .i64 (fr : Int)) rfl (by kernel_rfl) (by kernel_rfl) (by kernel_rfl) (fun _ _ _ h => h) (by rfl) ?_ hHeld ?_
  · (intro wq hSw; obtain ⟨s1, s2⟩ := hSw; go_simp <;> with_reducible rfl)
  try simp only [Act.put, List.setIfInBounds_toArray, List.set_cons_zero, List.set_cons_succ]
  refine take_run (i := 4) (oi := { dst := some 9, op := Go.Op.move (Go.Operand.tmp 1), type := 2, pos := "journal.go:189", after := #[], guard := none }) (v := .int .i64 (s : Int)) rfl (by kernel_rfl) (by kernel_rfl) (by kernel_rfl) (fun _ _ _ h => h) (by rfl) ?_ hHeld ?_
  · (intro wq hSw; go_simp <;> with_reducible rfl)
  try simp only [Act.put, List.setIfInBounds_toArray, List.set_cons_zero, List.set_cons_succ]
  refine take_run (i := 5) (oi := { dst := some 10, op := Go.Op.binOp Go.BinOp.sub 2 (Go.Operand.tmp 9) (Go.Operand.const (Go.Value.int Go.IntKind.i64 1)) 2, type := 2, pos := "journal.go:189", after := #[{ on := 4, ground := Go.Ground.data }], guard := none }) (v := .int .i64 ((s : Int) - 1)) rfl (by kernel_rfl) (by kernel_rfl) (by kernel_rfl) (fun _ _ _ h => h) (by rfl) ?_ hHeld ?_
  · (intro wq hSw; go_simp <;> with_reducible rfl)
  try simp only [Act.put, List.setIfInBounds_toArray, List.set_cons_zero, List.set_cons_succ]
  refine take_run (i := 6) (oi := { dst := some 11, op := Go.Op.move (Go.Operand.tmp 0), type := 37, pos := "journal.go:189", after := #[], guard := none }) (v := .pointer (some ⟨J, 0, none⟩)) rfl (by kernel_rfl) (by kernel_rfl) (by kernel_rfl) (fun _ _ _ h => h) (by rfl) ?_ hHeld ?_
  · (intro wq hSw; go_simp <;> with_reducible rfl)
  try simp only [Act.put, List.setIfInBounds_toArray, List.set_cons_zero, List.set_cons_succ]
  refine take_run (i := 7) (oi := { dst := some 12, op := Go.Op.nilCheck (Go.Operand.tmp 11), type := 0, pos := "journal.go:189", after := #[{ on := 6, ground := Go.Ground.data }], guard := none }) (v := .pointer (some ⟨J, 0, none⟩)) rfl (by kernel_rfl) (by kernel_rfl) (by kernel_rfl) (fun _ _ _ h => h) (by rfl) ?_ hHeld ?_
  · (intro wq hSw; go_simp <;> with_reducible rfl)
  try simp only [Act.put, List.setIfInBounds_toArray, List.set_cons_zero, List.set_cons_succ]
  refine take_run (i := 8) (oi := { dst := some 13, op := Go.Op.fieldAddr 80 (Go.Operand.tmp 12) 2, type := 0, pos := "journal.go:189", after := #[{ on := 7, ground := Go.Ground.data }], guard := none }) (v := .pointer (some ⟨J, 2, none⟩)) rfl (by kernel_rfl) (by kernel_rfl) (by kernel_rfl) (fun _ _ _ h => h) (by rfl) ?_ hHeld ?_
  · (intro wq hSw; go_simp <;> with_reducible rfl)
  try simp only [Act.put, List.setIfInBounds_toArray, List.set_cons_zero, List.set_cons_succ]
  refine take_run (i := 9) (oi := { dst := some 14, op := Go.Op.load 3 (Go.Operand.tmp 13), type := 3, pos := "journal.go:189", after := #[{ on := 8, ground := Go.Ground.data }], guard := none }) (v := .int .i64 (sz : Int)) rfl (by kernel_rfl) (by kernel_rfl) (by kernel_rfl) (fun _ _ _ h => h) (by rfl) ?_ hHeld ?_
  · (intro wq hSw; obtain ⟨s1, s2⟩ := hSw; go_simp <;> with_reducible rfl)
  try simp only [Act.put, List.setIfInBounds_toArray, List.set_cons_zero, List.set_cons_succ]
  refine take_run (i := 10) (oi := { dst := some 15, op := Go.Op.binOp Go.BinOp.rem 2 (Go.Operand.tmp 10) (Go.Operand.tmp 14) 2, type := 2, pos := "journal.go:189", after := #[{ on := 5, ground := Go.Ground.data }, { on := 9, ground := Go.Ground.data }], guard := none }) (v := .int .i64 (q : Int)) rfl (by kernel_rfl) (by kernel_rfl) (by kernel_rfl) (fun _ _ _ h => h) (by rfl) ?_ hHeld ?_
  · (intro wq hSw; go_simp <;> with_reducible rfl)
  try simp only [Act.put, List.setIfInBounds_toArray, List.set_cons_zero, List.set_cons_succ]
  refine take_run (i := 11) (oi := { dst := some 16, op := Go.Op.binOp Go.BinOp.add 3 (Go.Operand.tmp 8) (Go.Operand.tmp 15) 3, type := 3, pos := "journal.go:189", after := #[{ on := 3, ground := Go.Ground.data }, { on := 10, ground := Go.Ground.data }], guard := none }) (v := .int .i64 ((fr : Int) + (q : Int))) rfl (by kernel_rfl) (by kernel_rfl) (by kernel_rfl) (fun _ _ _ h => h) (by rfl) ?_ hHeld ?_
  · (intro wq hSw; go_simp <;> with_reducible rfl)
  try simp only [Act.put, List.setIfInBounds_toArray, List.set_cons_zero, List.set_cons_succ]
  refine take_run (i := 12) (oi := { dst := some 4, op := Go.Op.assign (Go.Operand.tmp 16), type := 3, pos := "journal.go:189", after := #[{ on := 11, ground := Go.Ground.data }, { on := 0, ground := Go.Ground.phase }, { on := 1, ground := Go.Ground.phase }, { on := 2, ground := Go.Ground.phase }, { on := 3, ground := Go.Ground.phase }, { on := 4, ground := Go.Ground.phase }, { on := 5, ground := Go.Ground.phase }, { on := 6, ground := Go.Ground.phase }, { on := 7, ground := Go.Ground.phase }, { on := 8, ground := Go.Ground.phase }, { on := 9, ground := Go.Ground.phase }, { on := 10, ground := Go.Ground.phase }, { on := 11, ground := Go.Ground.phase }], guard := none }) (v := .int .i64 ((fr : Int) + (q : Int))) rfl (by kernel_rfl) (by kernel_rfl) (by kernel_rfl) (fun _ _ _ h => h) (by rfl) ?_ hHeld ?_
  · (intro wq hSw; go_simp <;> with_reducible rfl)
  try simp only [Act.put, List.setIfInBounds_toArray, List.set_cons_zero, List.set_cons_succ]
  refine wpAnyH_done (by kernel_rfl) ?_ _
  go_wp2
  go_ret
  exact ⟨rfl, rfl⟩
set_option maxRecDepth 100000 in
set_option maxHeartbeats 800000 in
theorem free_any (J D fr sz st nx : Nat) (dead : Bool) (w : World) (h : JAt w J D fr sz st nx dead) (hz : sz ≤ 4096) (h1 : st ≤ nx) (h2 : nx ≤ 4611686018427387904) :
    Calls Tryd.prog 50 #[.pointer (some ⟨J, 0, none⟩)] w fun e w' => e = .returned (.int .i64 ((sz : Int) - ((nx : Int) - (st : Int)))) ∧ w' = w.drew := by
  obtain ⟨_, _, k2, k3, k4, _⟩ := h.cells
  have c2 : w.drew.cell? ⟨J, 2, none⟩ = some (.int .i64 (sz : Int)) := k2
  have c3 : w.drew.cell? ⟨J, 3, none⟩ = some (.int .i64 (st : Int)) := k3
  have c4 : w.drew.cell? ⟨J, 4, none⟩ = some (.int .i64 (nx : Int)) := k4
  have wr1 : IntKind.i64.wrap ((nx : Int) - (st : Int)) = (nx : Int) - (st : Int) := by rw [IntKind.wrap_i64]; omega
  have wr2 : IntKind.i64.wrap ((sz : Int) - ((nx : Int) - (st : Int))) = (sz : Int) - ((nx : Int) - (st : Int)) := by rw [IntKind.wrap_i64]; omega
  clear h k2 k3 k4
  go_enter Tryd.func50, Tryd.ntmps50
  go_wp2_with fail
  refine wp_region_held_drew (S := fun X => X.cell? ⟨J, 2, none⟩ = some (.int .i64 (sz : Int)) ∧ X.cell? ⟨J, 3, none⟩ = some (.int .i64 (st : Int)) ∧ X.cell? ⟨J, 4, none⟩ = some (.int .i64 (nx : Int))) (by kernel_rfl) ⟨c2, c3, c4⟩ (fun hHeld => ?_)
  refine take_run (i := 0) (oi := { dst := some 3, op := Go.Op.move (Go.Operand.tmp 0), type := 37, pos := "journal.go:184", after := #[], guard := none }) (v := .pointer (some ⟨J, 0, none⟩)) rfl (by kernel_rfl) (by kernel_rfl) (by kernel_rfl) (fun _ _ _ h => h) (by rfl) ?_ hHeld ?_
  · (intro wq hSw; go_simp <;> with_reducible rfl)
  try simp only [Act.put, List.setIfInBounds_toArray, List.set_cons_zero, List.set_cons_succ]
  refine take_run (i := 1) (oi := { dst := some 4, op := Go.Op.nilCheck (Go.Operand.tmp 3), type := 0, pos := "journal.go:184", after := #[{ on := 0, ground := Go.Ground.data }], guard := none }) (v := .pointer (some ⟨J, 0, none⟩)) rfl (by kernel_rfl) (by kernel_rfl) (by kernel_rfl) (fun _ _ _ h => h) (by rfl) ?_ hHeld ?_
  · (intro wq hSw; go_simp <;> with_reducible rfl)
  try simp only [Act.put, List.setIfInBounds_toArray, List.set_cons_zero, List.set_cons_succ]
  refine take_run (i := 2) (oi := { dst := some 5, op := Go.Op.fieldAddr 80 (Go.Operand.tmp 4) 2, type := 0, pos := "journal.go:184", after := #[{ on := 1, ground := Go.Ground.data }], guard := none }) (v := .pointer (some ⟨J, 2, none⟩)) rfl (by kernel_rfl) (by kernel_rfl) (by kernel_rfl) (fun _ _ _ h => h) (by rfl) ?_ hHeld ?_
  · (intro wq hSw; go_simp <;> with_reducible rfl)
  try simp only [Act.put, List.setIfInBounds_toArray, List.set_cons_zero, List.set_cons_succ]
  refine take_run (i := 3) (oi := { dst := some 6, op := Go.Op.load 3 (Go.Operand.tmp 5), type := 3, pos := "journal.go:184", after := #[{ on := 2, ground := Go.Ground.data }], guard := none }) (v := .int .i64 (sz : Int)) rfl (by kernel_rfl) (by kernel_rfl) (by kernel_rfl) (fun _ _ _ h => h) (by rfl) ?_ hHeld ?_
  · (intro wq hSw; obtain ⟨s2, s3, s4⟩ := hSw; go_simp <;> with_reducible rfl)
  try simp only [Act.put, List.setIfInBounds_toArray, List.set_cons_zero, List.set_cons_succ]
  refine take_run (i := 4) (oi := { dst := some 7, op := Go.Op.move (Go.Operand.tmp 0), type := 37, pos := "journal.go:184", after := #[], guard := none }) (v := .pointer (some ⟨J, 0, none⟩)) rfl (by kernel_rfl) (by kernel_rfl) (by kernel_rfl) (fun _ _ _ h => h) (by rfl) ?_ hHeld ?_
  · (intro wq hSw; go_simp <;> with_reducible rfl)
  try simp only [Act.put, List.setIfInBounds_toArray, List.set_cons_zero, List.set_cons_succ]
  refine take_run (i := 5) (oi := { dst := some 8, op := Go.Op.nilCheck (Go.Operand.tmp 7), type := 0, pos := "journal.go:184", after := #[{ on := 4, ground := Go.Ground.data }], guard := none }) (v := .pointer (some ⟨J, 0, none⟩)) rfl (by kernel_rfl) (by kernel_rfl) (by kernel_rfl) (fun _ _ _ h => h) (by rfl) ?_ hHeld ?_
  · (intro wq hSw; go_simp <;> with_reducible rfl)
  try simp only [Act.put, List.setIfInBounds_toArray, List.set_cons_zero, List.set_cons_succ]
  refine take_run (i := 6) (oi := { dst := some 9, op := Go.Op.fieldAddr 80 (Go.Operand.tmp 8) 4, type := 0, pos := "journal.go:184", after := #[{ on := 5, ground := Go.Ground.data }], guard := none }) (v := .pointer (some ⟨J, 4, none⟩)) rfl (by kernel_rfl) (by kernel_rfl) (by kernel_rfl) (fun _ _ _ h => h) (by rfl) ?_ hHeld ?_
  · (intro wq hSw; go_simp <;> with_reducible rfl)
  try simp only [Act.put, List.setIfInBounds_toArray, List.set_cons_zero, List.set_cons_succ]
  refine take_run (i := 7) (oi := { dst := some 10, op := Go.Op.load 2 (Go.Operand.tmp 9), type := 2, pos := "journal.go:184", after := #[{ on := 6, ground := Go.Ground.data }], guard := none }) (v := .int .i64 (nx : Int)) rfl (by kernel_rfl) (by kernel_rfl) (by kernel_rfl) (fun _ _ _ h => h) (by rfl) ?_ hHeld ?_
  · (intro wq hSw; obtain ⟨s2, s3, s4⟩ := hSw; go_simp <;> with_reducible rfl)
  try simp only [Act.put, List.setIfInBounds_toArray, List.set_cons_zero, List.set_cons_succ]
  refine take_run (i := 8) (oi := { dst := some 11, op := Go.Op.move (Go.Operand.tmp 0), type := 37, pos := "journal.go:184", after := #[], guard := none }) (v := .pointer (some ⟨J, 0, none⟩)) rfl (by kernel_rfl) (by kernel_rfl) (by kernel_rfl) (fun _ _ _ h => h) (by rfl) ?_ hHeld ?_
  · (intro wq hSw; go_simp <;> with_reducible rfl)
  try simp only [Act.put, List.setIfInBounds_toArray, List.set_cons_zero, List.set_cons_succ]
  refine take_run (i := 9) (oi := { dst := some 12, op := Go.Op.nilCheck (Go.Operand.tmp 11), type := 0, pos := "journal.go:184", after := #[{ on := 8, ground := Go.Ground.data }], guard := none }) (v := .pointer (some ⟨J, 0, none⟩)) rfl (by kernel_rfl) (by kernel_rfl) (by kernel_rfl) (fun _ _ _ h => h) (by rfl) ?_ hHeld ?_
  · (intro wq hSw; go_simp <;> with_reducible rfl)
  try simp only [Act.put, List.setIfInBounds_toArray, List.set_cons_zero, List.set_cons_succ]
  refine take_run (i := 10) (oi := { dst := some 13, op := Go.Op.fieldAddr 80 (Go.Operand.tmp 12) 3, type := 0, pos := "journal.go:184", after := #[{ on := 9, ground := Go.Ground.data }], guard := none }) (v := .pointer (some ⟨J, 3, none⟩)) rfl (by kernel_rfl) (by kernel_rfl) (by kernel_rfl) (fun _ _ _ h => h) (by rfl) ?_ hHeld ?_
  · (intro wq hSw; go_simp <;> with_reducible rfl)
  try simp only [Act.put, List.setIfInBounds_toArray, List.set_cons_zero, List.set_cons_succ]
  refine take_run (i := 11) (oi := { dst := some 14, op := Go.Op.load 2 (Go.Operand.tmp 13), type := 2, pos := "journal.go:184", after := #[{ on := 10, ground := Go.Ground.data }], guard := none }) (v := .int .i64 (st : Int)) rfl (by kernel_rfl) (by kernel_rfl) (by kernel_rfl) (fun _ _ _ h => h) (by rfl) ?_ hHeld ?_
  · (intro wq hSw; obtain ⟨s2, s3, s4⟩ := hSw; go_simp <;> with_reducible rfl)
  try simp only [Act.put, List.setIfInBounds_toArray, List.set_cons_zero, List.set_cons_succ]
  refine take_run (i := 12) (oi := { dst := some 15, op := Go.Op.binOp Go.BinOp.sub 2 (Go.Operand.tmp 10) (Go.Operand.tmp 14) 2, type := 2, pos := "journal.go:184", after := #[{ on := 7, ground := Go.Ground.data }, { on := 11, ground := Go.Ground.data }], guard := none }) (v := .int .i64 ((nx : Int) - (st : Int))) rfl (by kernel_rfl) (by kernel_rfl) (by kernel_rfl) (fun _ _ _ h => h) (by rfl) ?_ hHeld ?_
  · (intro wq hSw; go_simp <;> with_reducible rfl)
  try simp only [Act.put, List.setIfInBounds_toArray, List.set_cons_zero, List.set_cons_succ]
  refine take_run (i := 13) (oi := { dst := some 16, op := Go.Op.binOp Go.BinOp.sub 3 (Go.Operand.tmp 6) (Go.Operand.tmp 15) 3, type := 3, pos := "journal.go:184", after := #[{ on := 3, ground := Go.Ground.data }, { on := 12, ground := Go.Ground.data }], guard := none }) (v := .int .i64 ((sz : Int) - ((nx : Int) - (st : Int)))) rfl (by kernel_rfl) (by kernel_rfl) (by kernel_rfl) (fun _ _ _ h => h) (by rfl) ?_ hHeld ?_
  · (intro wq hSw; go_simp <;> with_reducible rfl)
  try simp only [Act.put, List.setIfInBounds_toArray, List.set_cons_zero, List.set_cons_succ]
  refine take_run (i := 14) (oi := { dst := some 2, op := Go.Op.assign (Go.Operand.tmp 16), type := 3, pos := "journal.go:184", after := #[{ on := 13, ground := Go.Ground.data }, { on := 0, ground := Go.Ground.phase }, { on := 1, ground := Go.Ground.phase }, { on := 2, ground := Go.Ground.phase }, { on := 3, ground := Go.Ground.phase }, { on := 4, ground := Go.Ground.phase }, { on := 5, ground := Go.Ground.phase }, { on := 6, ground := Go.Ground.phase }, { on := 7, ground := Go.Ground.phase }, { on := 8, ground := Go.Ground.phase }, { on := 9, ground := Go.Ground.phase }, { on := 10, ground := Go.Ground.phase }, { on := 11, ground := Go.Ground.phase }, { on := 12, ground := Go.Ground.phase }, { on := 13, ground := Go.Ground.phase }], guard := none }) (v := .int .i64 ((sz : Int) - ((nx : Int) - (st : Int)))) rfl (by kernel_rfl) (by kernel_rfl) (by kernel_rfl) (fun _ _ _ h => h) (by rfl) ?_ hHeld ?_
  · (intro wq hSw; go_simp <;> with_reducible rfl)
  try simp only [Act.put, List.setIfInBounds_toArray, List.set_cons_zero, List.set_cons_succ]
  refine wpAnyH_done (by kernel_rfl) ?_ _
  go_wp2
  go_ret
  exact ⟨rfl, rfl⟩
/-- How many sectors a record of so many bytes has. -/
def secs (n : Nat) : Nat := (n + 245) / 242
set_option maxRecDepth 100000 in
theorem sectorsOf_any (n : Nat) (w : World) (h : n ≤ 1000000) : Calls Tryd.prog 49 #[.int .i64 (n : Int)] w fun e w' => e = .returned (.int .i64 (secs n : Nat)) ∧ w' = w := by
  have hd : Int.tdiv (4 + (n : Int) + 242 - 1) 242 = ((secs n : Nat) : Int) := by
    rw [Int.tdiv_eq_ediv_of_nonneg (by omega)]
    unfold secs
    omega
  have hb : secs n ≤ 1000000 := by unfold secs; omega
  obtain ⟨q, eq⟩ : ∃ q, secs n = q := ⟨_, rfl⟩
  rw [eq] at hd hb
  rw [eq]
  clear eq
  go_enter Tryd.func49, Tryd.ntmps49
  go_wp2
  go_ret
  first | exact ⟨rfl, rfl⟩ | exact ⟨by rw [hd], rfl⟩
set_option maxRecDepth 100000 in
theorem has_mark (m k : Nat) (a : Option Addr) (len cap : Nat) (w : World) (hm : m < 256) (hk : k < 256) : Calls Tryd.prog 77 #[.agg #[.int .u8 (m : Int), .slice a len cap], .int .u8 (k : Int)] w fun e w' => e = .returned (.bool (decide (m &&& k ≠ 0))) ∧ Below w.heap.size w w' := by
  have hb : bits BinOp.and IntKind.u8 (m : Int) (k : Int) = ((m &&& k : Nat) : Int) := u8_and_nat _ _ hm hk
  have BB : Hid (Below w.heap.size w (w.alloc (.cells #[.int .u8 (m : Int), .slice a len cap] 88))) := (Below.refl _ w).alloc (Nat.le_refl _) _
  obtain ⟨q, eq⟩ : ∃ q, m &&& k = q := ⟨_, rfl⟩
  rw [eq] at hb
  rw [eq]
  clear eq
  by_cases h0 : q = 0
  · subst h0
    go_enter Tryd.func77, Tryd.ntmps77
    go_wp2
    go_ret
    exact ⟨by simp, BB.out⟩
  · have h1 : ((q : Int) == 0) = false := by rw [beq_eq_false_iff_ne]; omega
    rw [decide_eq_true h0]
    have H0 : Hid (¬ q = 0) := h0
    clear h0
    go_enter Tryd.func77, Tryd.ntmps77
    go_wp2
    go_ret
    exact ⟨by have := H0.out; simp [this], BB.out⟩
end Go.Proofs.YtikpmaecbfebkaaDoor
