/- NetPlays: alike, as many as all. Written by gen_na.py. -/
import Derived.Test.YtccmehbdnnelhaaNAny
import Derived.Test.YtccmehbdnnelhaaNGi
namespace Go.Proofs.Ytccmehbdnnelhaa
open Go.RowKit Go.Maps Go.Shelf
attribute [local go_sem] Oper.semAt_some
set_option linter.unusedVariables false

set_option maxRecDepth 100000 in
set_option maxHeartbeats 8000000 in
theorem na_r18 (w0 X : World) (N R T B C Ib : Nat) (L : List Post) (ms : List OpN) (s0 s1 s2 s3 s5 s7 s8 s9 s10 s11 s13 s14 s15 s16 s17 s18 s19 s20 s21 s22 s23 s24 s25 s26 s27 s28 s29 s30 s31 s32 s33 s34 s35 s36 s37 s38 s39 s40 s41 s42 s43 s44 s45 s46 s47 s48 s49 s50 s51 s52 s53 s54 s55 s56 s57 s58 s59 s60 s61 s62 s63 s64 s65 s66 s67 s68 s69 s70 s71 s72 s73 s74 s75 s76 s77 s78 s79 s80 s81 s82 s83 s84 s85 s86 s87 s88 s89 s90 s91 s92 s93 s94 s95 s96 s97 s98 s99 s100 s101 s102 s103 s104 s105 s106 s107 s108 : Value)
    (hD : Du w0 X N R T L ms) (hB : X.heap[B]? = some (.cells #[.pointer (some ⟨R, 0, none⟩)] 25 (0, 0))) (hI : X.heap[Ib]? = some (.cells #[.int .i64 (ms.length : Nat)] 3 (0, 0))) (hC : X.heap[C]? = some (.cells #[.bool false] 4 (0, 0)))
    (df : List Deferred) (K : Act → World → Prop) (Q : Exit → Act → World → Prop)
    (hK : ∀ (u102 u103 u104 u105 u106 u107 u108 : Value), K { tmps := #[s0, s1, s2, s3, .pointer (some ⟨B, 0, none⟩), s5, .pointer (some ⟨C, 0, none⟩), s7, s8, s9, s10, s11, .pointer (some ⟨Ib, 0, none⟩), s13, s14, s15, s16, s17, s18, s19, s20, s21, s22, s23, s24, s25, s26, s27, s28, s29, s30, s31, s32, s33, s34, s35, s36, s37, s38, s39, s40, s41, s42, s43, s44, s45, s46, s47, s48, s49, s50, s51, s52, s53, s54, s55, s56, s57, s58, s59, s60, s61, s62, s63, s64, s65, s66, s67, s68, s69, s70, s71, s72, s73, s74, s75, s76, s77, s78, s79, s80, s81, s82, s83, s84, s85, s86, s87, s88, s89, s90, s91, s92, s93, s94, s95, s96, s97, s98, s99, s100, s101, u102, u103, u104, u105, u106, u107, u108], defers := df } (X.drew.setCell ⟨C, 0, none⟩ (.bool true))) :
    (Code.region 18 #[{ dst := some 102, op := Go.Op.load 3 (Go.Operand.tmp 12), type := 3, pos := "law.go:90", after := #[], guard := none }, { dst := some 103, op := Go.Op.load 25 (Go.Operand.tmp 4), type := 25, pos := "law.go:90", after := #[], guard := none }, { dst := some 104, op := Go.Op.nilCheck (Go.Operand.tmp 103), type := 0, pos := "law.go:90", after := #[{ on := 1, ground := Go.Ground.data }], guard := none }, { dst := some 105, op := Go.Op.fieldAddr 28 (Go.Operand.tmp 104) 0, type := 0, pos := "law.go:90", after := #[{ on := 2, ground := Go.Ground.data }], guard := none }, { dst := some 106, op := Go.Op.load 26 (Go.Operand.tmp 105), type := 26, pos := "law.go:90", after := #[{ on := 3, ground := Go.Ground.data }], guard := none }, { dst := some 107, op := Go.Op.call { callee := Go.Callee.builtin Go.Builtin.len, args := #[Go.Operand.tmp 106], argTypes := #[26] }, type := 3, pos := "law.go:90", after := #[{ on := 4, ground := Go.Ground.data }], guard := none }, { dst := some 108, op := Go.Op.binOp Go.BinOp.eql 3 (Go.Operand.tmp 102) (Go.Operand.tmp 107) 3, type := 4, pos := "law.go:90", after := #[{ on := 0, ground := Go.Ground.data }, { on := 5, ground := Go.Ground.data }], guard := none }, { dst := none, op := Go.Op.store 4 (Go.Operand.tmp 6) (Go.Operand.tmp 108), type := 0, pos := "law.go:90", after := #[{ on := 6, ground := Go.Ground.data }, { on := 0, ground := Go.Ground.phase }, { on := 1, ground := Go.Ground.phase }, { on := 2, ground := Go.Ground.phase }, { on := 3, ground := Go.Ground.phase }, { on := 4, ground := Go.Ground.phase }, { on := 5, ground := Go.Ground.phase }, { on := 6, ground := Go.Ground.phase }], guard := none }] true).wp Try.prog (Exit.then K Q) { tmps := #[s0, s1, s2, s3, .pointer (some ⟨B, 0, none⟩), s5, .pointer (some ⟨C, 0, none⟩), s7, s8, s9, s10, s11, .pointer (some ⟨Ib, 0, none⟩), s13, s14, s15, s16, s17, s18, s19, s20, s21, s22, s23, s24, s25, s26, s27, s28, s29, s30, s31, s32, s33, s34, s35, s36, s37, s38, s39, s40, s41, s42, s43, s44, s45, s46, s47, s48, s49, s50, s51, s52, s53, s54, s55, s56, s57, s58, s59, s60, s61, s62, s63, s64, s65, s66, s67, s68, s69, s70, s71, s72, s73, s74, s75, s76, s77, s78, s79, s80, s81, s82, s83, s84, s85, s86, s87, s88, s89, s90, s91, s92, s93, s94, s95, s96, s97, s98, s99, s100, s101, s102, s103, s104, s105, s106, s107, s108], defers := df } X := by
  obtain ⟨v, hv⟩ := hD.ref
  obtain ⟨ga, gc, rfl⟩ := hv.form
  have n1 : Ib ≠ C := fun e => by rw [e, hC] at hI; cases hI
  have n2 : B ≠ C := fun e => by rw [e, hC] at hB; cases hB
  have n3 : R ≠ C := fun e => by have := hv.hR; rw [e, hC] at this; cases this
  have cI : X.drew.cell? ⟨Ib, 0, none⟩ = some (.int .i64 (ms.length : Nat)) := by show X.cell? _ = _; simp only [World.cell?, hI]; rfl
  have cB : X.drew.cell? ⟨B, 0, none⟩ = some (.pointer (some ⟨R, 0, none⟩)) := by show X.cell? _ = _; simp only [World.cell?, hB]; rfl
  have cR : X.drew.cell? ⟨R, 0, none⟩ = some (.slice ga ms.length gc) := hv.c0
  have cC : X.drew.cell? ⟨C, 0, none⟩ = some (.bool false) := by show X.cell? _ = _; simp only [World.cell?, hC]; rfl
  have fC : X.drew.frozen? ⟨C, 0, none⟩ = false := by show X.frozen? _ = _; simp only [World.frozen?, hC]; rfl
  clear hD hB hI hC hv
  generalize ms.length = m at *
  have km : ((m : Int) == (m : Int)) = true := by simp
  have kk : (m == m) = true := by simp
  have SD : Hid ((X.drew.setCell ⟨C, 0, none⟩ (.bool true)).cell? ⟨Ib, 0, none⟩ = some (.int .i64 (m : Nat)) ∧ (X.drew.setCell ⟨C, 0, none⟩ (.bool true)).cell? ⟨B, 0, none⟩ = some (.pointer (some ⟨R, 0, none⟩)) ∧ (X.drew.setCell ⟨C, 0, none⟩ (.bool true)).cell? ⟨R, 0, none⟩ = some (.slice ga m gc)) :=
    ⟨(World.cell?_setCell_far _ _ _ _ (Ne.symm n1)).trans cI, (World.cell?_setCell_far _ _ _ _ (Ne.symm n2)).trans cB, (World.cell?_setCell_far _ _ _ _ (Ne.symm n3)).trans cR⟩
  refine wp_region_calmN (S := fun W => W.cell? ⟨Ib, 0, none⟩ = some (.int .i64 (m : Nat)) ∧ W.cell? ⟨B, 0, none⟩ = some (.pointer (some ⟨R, 0, none⟩)) ∧ W.cell? ⟨R, 0, none⟩ = some (.slice ga m gc)) (by kernel_rfl) ⟨cI, cB, cR⟩ (fun hHeld => ?_)
  clear cI cB cR n1 n2 n3
  refine take_run (i := 0) (oi := { dst := some 102, op := Go.Op.load 3 (Go.Operand.tmp 12), type := 3, pos := "law.go:90", after := #[], guard := none }) (v := .int .i64 ((m : Nat) : Int)) rfl (by kernel_rfl) (by kernel_rfl) (by kernel_rfl) (fun _ _ _ h => h) (by rfl) ?_ hHeld ?_
  · (intro wq hSw; obtain ⟨c0, c1, c2⟩ := hSw; go_simp <;> with_reducible rfl)
  try simp only [Act.put, List.setIfInBounds_toArray, List.set_cons_zero, List.set_cons_succ]
  refine take_run (i := 1) (oi := { dst := some 103, op := Go.Op.load 25 (Go.Operand.tmp 4), type := 25, pos := "law.go:90", after := #[], guard := none }) (v := .pointer (some ⟨R, 0, none⟩)) rfl (by kernel_rfl) (by kernel_rfl) (by kernel_rfl) (fun _ _ _ h => h) (by rfl) ?_ hHeld ?_
  · (intro wq hSw; obtain ⟨c0, c1, c2⟩ := hSw; go_simp <;> with_reducible rfl)
  try simp only [Act.put, List.setIfInBounds_toArray, List.set_cons_zero, List.set_cons_succ]
  refine take_run (i := 2) (oi := { dst := some 104, op := Go.Op.nilCheck (Go.Operand.tmp 103), type := 0, pos := "law.go:90", after := #[{ on := 1, ground := Go.Ground.data }], guard := none }) (v := .pointer (some ⟨R, 0, none⟩)) rfl (by kernel_rfl) (by kernel_rfl) (by kernel_rfl) (fun _ _ _ h => h) (by rfl) ?_ hHeld ?_
  · (intro wq hSw; go_simp <;> with_reducible rfl)
  try simp only [Act.put, List.setIfInBounds_toArray, List.set_cons_zero, List.set_cons_succ]
  refine take_run (i := 3) (oi := { dst := some 105, op := Go.Op.fieldAddr 28 (Go.Operand.tmp 104) 0, type := 0, pos := "law.go:90", after := #[{ on := 2, ground := Go.Ground.data }], guard := none }) (v := .pointer (some ⟨R, 0, none⟩)) rfl (by kernel_rfl) (by kernel_rfl) (by kernel_rfl) (fun _ _ _ h => h) (by rfl) ?_ hHeld ?_
  · (intro wq hSw; go_simp <;> with_reducible rfl)
  try simp only [Act.put, List.setIfInBounds_toArray, List.set_cons_zero, List.set_cons_succ]
  refine take_run (i := 4) (oi := { dst := some 106, op := Go.Op.load 26 (Go.Operand.tmp 105), type := 26, pos := "law.go:90", after := #[{ on := 3, ground := Go.Ground.data }], guard := none }) (v := .slice ga m gc) rfl (by kernel_rfl) (by kernel_rfl) (by kernel_rfl) (fun _ _ _ h => h) (by rfl) ?_ hHeld ?_
  · (intro wq hSw; obtain ⟨c0, c1, c2⟩ := hSw; go_simp <;> with_reducible rfl)
  try simp only [Act.put, List.setIfInBounds_toArray, List.set_cons_zero, List.set_cons_succ]
  refine take_run (i := 5) (oi := { dst := some 107, op := Go.Op.call { callee := Go.Callee.builtin Go.Builtin.len, args := #[Go.Operand.tmp 106], argTypes := #[26] }, type := 3, pos := "law.go:90", after := #[{ on := 4, ground := Go.Ground.data }], guard := none }) (v := .int .i64 ((m : Nat) : Int)) rfl (by kernel_rfl) (by kernel_rfl) (by kernel_rfl) (fun _ _ _ h => h) (by rfl) ?_ hHeld ?_
  · (intro wq hSw; go_simp <;> with_reducible rfl)
  try simp only [Act.put, List.setIfInBounds_toArray, List.set_cons_zero, List.set_cons_succ]
  refine take_run (i := 6) (oi := { dst := some 108, op := Go.Op.binOp Go.BinOp.eql 3 (Go.Operand.tmp 102) (Go.Operand.tmp 107) 3, type := 4, pos := "law.go:90", after := #[{ on := 0, ground := Go.Ground.data }, { on := 5, ground := Go.Ground.data }], guard := none }) (v := .bool true) rfl (by kernel_rfl) (by kernel_rfl) (by kernel_rfl) (fun _ _ _ h => h) (by rfl) ?_ hHeld ?_
  · (intro wq hSw; go_simp <;> with_reducible rfl)
  try simp only [Act.put, List.setIfInBounds_toArray, List.set_cons_zero, List.set_cons_succ]
  refine take_eff (i := 7) (oi := { dst := none, op := Go.Op.store 4 (Go.Operand.tmp 6) (Go.Operand.tmp 108), type := 0, pos := "law.go:90", after := #[{ on := 6, ground := Go.Ground.data }, { on := 0, ground := Go.Ground.phase }, { on := 1, ground := Go.Ground.phase }, { on := 2, ground := Go.Ground.phase }, { on := 3, ground := Go.Ground.phase }, { on := 4, ground := Go.Ground.phase }, { on := 5, ground := Go.Ground.phase }, { on := 6, ground := Go.Ground.phase }], guard := none }) (w' := X.drew.setCell ⟨C, 0, none⟩ (.bool true)) rfl (by kernel_rfl) (by rfl) (by go_simp <;> with_reducible rfl) SD.out ?_
  try simp only [Act.put]
  refine wpAnyH_done (by kernel_rfl) ?_ _
  exact hK _ _ _ _ _ _ _ 
end Go.Proofs.Ytccmehbdnnelhaa
