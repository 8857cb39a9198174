/- NetPlays: alike, a letter by its number. Written by gen_na.py. -/
import Derived.Test.YtccmehbdnnelhaaNAny
import Derived.Test.YtccmehbdnnelhaaNGi
namespace Go.Proofs.Ytccmehbdnnelhaa
open Go.RowKit Go.Maps Go.Shelf
attribute [local go_sem] Oper.semAt_some
set_option linter.unusedVariables false

set_option maxRecDepth 100000 in
set_option maxHeartbeats 8000000 in
theorem na_r3 (w0 X : World) (N R T B A1 A2 : Nat) (L : List Post) (ms : List OpN) (k x f n : Int) (a1 a2 : Option Addr) (c1 c2 : Nat) (b : List (BitVec 8)) (s1 s3 s5 s6 s11 s12 s13 s14 s15 s16 s17 s18 s19 s20 s21 s22 s23 s24 s25 s26 s27 s28 s29 s30 s31 s32 s33 s34 s35 s36 s37 s38 s39 s40 s41 s42 s43 s44 s45 s46 s47 s48 s49 s50 s51 s52 s53 s54 s55 s56 s57 s58 s59 s60 s61 s62 s63 s64 s65 s66 s67 s68 s69 s70 s71 s72 s73 s74 s75 s76 s77 s78 s79 s80 s81 s82 s83 s84 s85 s86 s87 s88 s89 s90 s91 s92 s93 s94 s95 s96 s97 s98 s99 s100 s101 s102 s103 s104 s105 s106 s107 s108 : Value)
    (hD : Du w0 X N R T L ms) (hk : kwf k) (hB : X.heap[B]? = some (.cells #[.pointer (some ⟨R, 0, none⟩)] 25 (0, 0)))
    (hA1 : X.heap[A1]? = some (.cells #[.int .i64 f, .int .i64 n, .slice a1 b.length c1] 45 (0, 0))) (hA2 : X.heap[A2]? = some (.cells #[.int .i64 f, .int .i64 n, .slice a2 b.length c2] 48 (0, 0))) (h1 : Seen X a1 b.length b) (h2 : Seen X a2 b.length b)
    (K : Act → World → Prop) (Q : Exit → Act → World → Prop)
    (hK : ∀ (u26 u27 u28 u29 u30 u31 u32 u33 u34 u35 u36 u37 u38 u39 u40 u41 u42 u43 u44 u45 u46 u47 u48 u49 u50 u51 u52 u53 u54 u55 u56 u57 u58 u59 u60 : Value) (Y : World), Below X.heap.size X Y → K { tmps := #[.pointer (some ⟨N, 0, none⟩), s1, .int .i64 k, s3, .pointer (some ⟨B, 0, none⟩), s5, s6, .pointer (some ⟨A1, 0, none⟩), .int .i64 x, .pointer (some ⟨A2, 0, none⟩), .int .i64 x, s11, s12, s13, s14, s15, s16, s17, s18, s19, s20, s21, s22, s23, s24, s25, u26, u27, u28, u29, u30, u31, u32, u33, u34, u35, u36, u37, u38, u39, u40, u41, u42, u43, u44, u45, u46, u47, u48, u49, u50, u51, u52, u53, u54, u55, u56, u57, u58, u59, u60, .bool false, s62, s63, s64, s65, s66, s67, s68, s69, s70, s71, s72, s73, s74, s75, s76, s77, s78, s79, s80, s81, s82, s83, s84, s85, s86, s87, s88, s89, s90, s91, s92, s93, s94, s95, s96, s97, s98, s99, s100, s101, s102, s103, s104, s105, s106, s107, s108], defers := [] } Y) :
    (Code.region 3 #[{ dst := some 26, op := Go.Op.move (Go.Operand.tmp 0), type := 23, pos := "law.go:71", after := #[], guard := none }, { dst := some 27, op := Go.Op.call { callee := Go.Callee.value (Go.Operand.func 23), args := #[Go.Operand.tmp 26], argTypes := #[23] }, type := 3, pos := "law.go:71", after := #[{ on := 0, ground := Go.Ground.data }], guard := none }, { dst := some 28, op := Go.Op.load 25 (Go.Operand.tmp 4), type := 25, pos := "law.go:71", after := #[], guard := none }, { dst := some 29, op := Go.Op.nilCheck (Go.Operand.tmp 28), type := 0, pos := "law.go:71", after := #[{ on := 2, ground := Go.Ground.data }], guard := none }, { dst := some 30, op := Go.Op.fieldAddr 28 (Go.Operand.tmp 29) 0, type := 0, pos := "law.go:71", after := #[{ on := 3, ground := Go.Ground.data }], guard := none }, { dst := some 31, op := Go.Op.load 26 (Go.Operand.tmp 30), type := 26, pos := "law.go:71", after := #[{ on := 4, ground := Go.Ground.data }], guard := none }, { dst := some 32, op := Go.Op.call { callee := Go.Callee.builtin Go.Builtin.len, args := #[Go.Operand.tmp 31], argTypes := #[26] }, type := 3, pos := "law.go:71", after := #[{ on := 5, ground := Go.Ground.data }], guard := none }, { dst := some 33, op := Go.Op.binOp Go.BinOp.neq 3 (Go.Operand.tmp 27) (Go.Operand.tmp 32) 3, type := 4, pos := "law.go:71", after := #[{ on := 1, ground := Go.Ground.data }, { on := 6, ground := Go.Ground.data }], guard := none }, { dst := some 34, op := Go.Op.move (Go.Operand.tmp 33), type := 4, pos := "law.go:71", after := #[{ on := 7, ground := Go.Ground.data }, { on := 1, ground := Go.Ground.chain }], guard := none }, { dst := some 35, op := Go.Op.load 45 (Go.Operand.tmp 7), type := 45, pos := "law.go:71", after := #[{ on := 8, ground := Go.Ground.guard }], guard := some (8, false) }, { dst := some 36, op := Go.Op.call { callee := Go.Callee.value (Go.Operand.func 16), args := #[Go.Operand.tmp 35], argTypes := #[45] }, type := 48, pos := "law.go:71", after := #[{ on := 9, ground := Go.Ground.data }, { on := 8, ground := Go.Ground.chain }, { on := 8, ground := Go.Ground.guard }], guard := some (8, false) }, { dst := some 37, op := Go.Op.load 48 (Go.Operand.tmp 9), type := 48, pos := "law.go:71", after := #[{ on := 8, ground := Go.Ground.guard }], guard := some (8, false) }, { dst := some 38, op := Go.Op.call { callee := Go.Callee.value (Go.Operand.func 15), args := #[Go.Operand.tmp 36, Go.Operand.tmp 37], argTypes := #[48, 48] }, type := 4, pos := "law.go:71", after := #[{ on := 10, ground := Go.Ground.data }, { on := 11, ground := Go.Ground.data }, { on := 10, ground := Go.Ground.chain }, { on := 8, ground := Go.Ground.guard }], guard := some (8, false) }, { dst := some 39, op := Go.Op.unOp Go.UnOp.not 4 (Go.Operand.tmp 38), type := 4, pos := "law.go:71", after := #[{ on := 12, ground := Go.Ground.data }, { on := 8, ground := Go.Ground.guard }], guard := some (8, false) }, { dst := some 40, op := Go.Op.pick (Go.Operand.tmp 34) (Go.Operand.const (Go.Value.bool true)) (Go.Operand.tmp 39), type := 4, pos := "law.go:71", after := #[{ on := 8, ground := Go.Ground.data }, { on := 13, ground := Go.Ground.data }], guard := none }, { dst := some 41, op := Go.Op.move (Go.Operand.tmp 40), type := 4, pos := "law.go:71", after := #[{ on := 14, ground := Go.Ground.data }, { on := 12, ground := Go.Ground.chain }], guard := none }, { dst := some 42, op := Go.Op.move (Go.Operand.tmp 8), type := 40, pos := "law.go:71", after := #[{ on := 15, ground := Go.Ground.guard }], guard := some (15, false) }, { dst := some 43, op := Go.Op.move (Go.Operand.tmp 10), type := 40, pos := "law.go:71", after := #[{ on := 15, ground := Go.Ground.guard }], guard := some (15, false) }, { dst := some 44, op := Go.Op.binOp Go.BinOp.neq 40 (Go.Operand.tmp 42) (Go.Operand.tmp 43) 40, type := 4, pos := "law.go:71", after := #[{ on := 16, ground := Go.Ground.data }, { on := 17, ground := Go.Ground.data }, { on := 15, ground := Go.Ground.guard }], guard := some (15, false) }, { dst := some 45, op := Go.Op.pick (Go.Operand.tmp 41) (Go.Operand.const (Go.Value.bool true)) (Go.Operand.tmp 44), type := 4, pos := "law.go:71", after := #[{ on := 15, ground := Go.Ground.data }, { on := 18, ground := Go.Ground.data }], guard := none }, { dst := some 46, op := Go.Op.move (Go.Operand.tmp 45), type := 4, pos := "law.go:71", after := #[{ on := 19, ground := Go.Ground.data }, { on := 15, ground := Go.Ground.chain }], guard := none }, { dst := some 47, op := Go.Op.move (Go.Operand.tmp 0), type := 23, pos := "law.go:71", after := #[{ on := 20, ground := Go.Ground.guard }], guard := some (20, false) }, { dst := some 48, op := Go.Op.move (Go.Operand.tmp 2), type := 3, pos := "law.go:71", after := #[{ on := 20, ground := Go.Ground.guard }], guard := some (20, false) }, { dst := some 49, op := Go.Op.call { callee := Go.Callee.value (Go.Operand.func 24), args := #[Go.Operand.tmp 47, Go.Operand.tmp 48], argTypes := #[23, 3] }, type := 3, pos := "law.go:71", after := #[{ on := 21, ground := Go.Ground.data }, { on := 22, ground := Go.Ground.data }, { on := 20, ground := Go.Ground.chain }, { on := 20, ground := Go.Ground.guard }], guard := some (20, false) }, { dst := some 50, op := Go.Op.load 25 (Go.Operand.tmp 4), type := 25, pos := "law.go:71", after := #[{ on := 20, ground := Go.Ground.guard }], guard := some (20, false) }, { dst := some 51, op := Go.Op.move (Go.Operand.tmp 2), type := 3, pos := "law.go:71", after := #[{ on := 20, ground := Go.Ground.guard }], guard := some (20, false) }, { dst := some 52, op := Go.Op.call { callee := Go.Callee.value (Go.Operand.func 25), args := #[Go.Operand.tmp 50, Go.Operand.tmp 51], argTypes := #[25, 3] }, type := 3, pos := "law.go:71", after := #[{ on := 24, ground := Go.Ground.data }, { on := 25, ground := Go.Ground.data }, { on := 23, ground := Go.Ground.chain }, { on := 20, ground := Go.Ground.guard }], guard := some (20, false) }, { dst := some 53, op := Go.Op.binOp Go.BinOp.neq 3 (Go.Operand.tmp 49) (Go.Operand.tmp 52) 3, type := 4, pos := "law.go:71", after := #[{ on := 23, ground := Go.Ground.data }, { on := 26, ground := Go.Ground.data }, { on := 20, ground := Go.Ground.guard }], guard := some (20, false) }, { dst := some 54, op := Go.Op.pick (Go.Operand.tmp 46) (Go.Operand.const (Go.Value.bool true)) (Go.Operand.tmp 53), type := 4, pos := "law.go:71", after := #[{ on := 20, ground := Go.Ground.data }, { on := 27, ground := Go.Ground.data }], guard := none }, { dst := some 55, op := Go.Op.move (Go.Operand.tmp 54), type := 4, pos := "law.go:71", after := #[{ on := 28, ground := Go.Ground.data }, { on := 26, ground := Go.Ground.chain }], guard := none }, { dst := some 56, op := Go.Op.move (Go.Operand.tmp 0), type := 23, pos := "law.go:71", after := #[{ on := 29, ground := Go.Ground.guard }], guard := some (29, false) }, { dst := some 57, op := Go.Op.call { callee := Go.Callee.value (Go.Operand.func 24), args := #[Go.Operand.tmp 56, Go.Operand.const (Go.Value.int Go.IntKind.i64 (-1))], argTypes := #[23, 3] }, type := 3, pos := "law.go:71", after := #[{ on := 30, ground := Go.Ground.data }, { on := 29, ground := Go.Ground.chain }, { on := 29, ground := Go.Ground.guard }], guard := some (29, false) }, { dst := some 58, op := Go.Op.load 25 (Go.Operand.tmp 4), type := 25, pos := "law.go:71", after := #[{ on := 29, ground := Go.Ground.guard }], guard := some (29, false) }, { dst := some 59, op := Go.Op.call { callee := Go.Callee.value (Go.Operand.func 25), args := #[Go.Operand.tmp 58, Go.Operand.const (Go.Value.int Go.IntKind.i64 (-1))], argTypes := #[25, 3] }, type := 3, pos := "law.go:71", after := #[{ on := 32, ground := Go.Ground.data }, { on := 31, ground := Go.Ground.chain }, { on := 29, ground := Go.Ground.guard }], guard := some (29, false) }, { dst := some 60, op := Go.Op.binOp Go.BinOp.neq 3 (Go.Operand.tmp 57) (Go.Operand.tmp 59) 3, type := 4, pos := "law.go:71", after := #[{ on := 31, ground := Go.Ground.data }, { on := 33, ground := Go.Ground.data }, { on := 29, ground := Go.Ground.guard }], guard := some (29, false) }, { dst := some 61, op := Go.Op.pick (Go.Operand.tmp 55) (Go.Operand.const (Go.Value.bool true)) (Go.Operand.tmp 60), type := 4, pos := "law.go:71", after := #[{ on := 29, ground := Go.Ground.data }, { on := 34, ground := Go.Ground.data }], guard := none }] true).wp Try.prog (Exit.then K Q) { tmps := #[.pointer (some ⟨N, 0, none⟩), s1, .int .i64 k, s3, .pointer (some ⟨B, 0, none⟩), s5, s6, .pointer (some ⟨A1, 0, none⟩), .int .i64 x, .pointer (some ⟨A2, 0, none⟩), .int .i64 x, s11, s12, s13, s14, s15, s16, s17, s18, s19, s20, s21, s22, s23, s24, s25, s26, s27, s28, s29, s30, s31, s32, s33, s34, s35, s36, s37, s38, s39, s40, s41, s42, s43, s44, s45, s46, s47, s48, s49, s50, s51, s52, s53, s54, s55, s56, s57, s58, s59, s60, s61, s62, s63, s64, s65, s66, s67, s68, s69, s70, s71, s72, s73, s74, s75, s76, s77, s78, s79, s80, s81, s82, s83, s84, s85, s86, s87, s88, s89, s90, s91, s92, s93, s94, s95, s96, s97, s98, s99, s100, s101, s102, s103, s104, s105, s106, s107, s108], defers := [] } X := by
  have HA : Hid (∀ W, Below X.heap.size X W → W.heap[A1]? = some (.cells #[.int .i64 f, .int .i64 n, .slice a1 b.length c1] 45 (0, 0))) := fun W q => (q.block _ (Array.getElem?_eq_some_iff.1 hA1).1).trans hA1
  have HA2 : Hid (∀ W, Below X.heap.size X W → W.heap[A2]? = some (.cells #[.int .i64 f, .int .i64 n, .slice a2 b.length c2] 48 (0, 0))) := fun W q => (q.block _ (Array.getElem?_eq_some_iff.1 hA2).1).trans hA2
  have H1 : Hid (Seen X a1 b.length b ∧ Seen X a2 b.length b) := ⟨h1, h2⟩
  have HB : Hid (∀ W, Below X.heap.size X W → W.cell? ⟨B, 0, none⟩ = some (.pointer (some ⟨R, 0, none⟩))) := fun W q => by simp only [World.cell?, (q.block _ (Array.getElem?_eq_some_iff.1 hB).1).trans hB]; rfl
  obtain ⟨v, hv⟩ := hD.ref
  obtain ⟨ga, gc, rfl⟩ := hv.form
  obtain ⟨m, em⟩ : ∃ m, ms.length = m := ⟨_, rfl⟩
  have HC : Hid (∀ W, Below X.heap.size X W → W.cell? ⟨R, 0, none⟩ = some (.slice ga m gc)) := fun W q => by have := (hv.below q).c0; rw [em] at this; exact this
  have HL : Hid (∀ W, Below X.heap.size X W → Calls Try.prog 23 #[.pointer (some ⟨N, 0, none⟩)] W fun e W' => e = .returned (.int .i64 ((m : Nat) : Int)) ∧ Below X.heap.size X W') := fun W q => (netS_len (hD.below q).net).mono fun e W' z => by
    rw [hD.tw.1, em] at z
    exact ⟨z.1, q.trans (z.2.mono q.size)⟩
  have HT : Hid (∀ (j : Int), kwf j → ∀ W, Below X.heap.size X W → Calls Try.prog 24 #[.pointer (some ⟨N, 0, none⟩), .int .i64 j] W fun e W' => e = .returned (.int .i64 (ms.countP (fun o => decide (o.n = j)) : Nat)) ∧ Below X.heap.size X W') := fun j hj W q => (toN (hD.below q).net hj).mono fun e W' z => by
    rw [hD.tw.box j] at z
    exact ⟨z.1, by rw [z.2]; exact q⟩
  have HR : Hid (∀ (j : Int), ∀ W, Below X.heap.size X W → Calls Try.prog 25 #[.pointer (some ⟨R, 0, none⟩), .int .i64 j] W fun e W' => e = .returned (.int .i64 (ms.countP (fun o => decide (o.n = j)) : Nat)) ∧ Below X.heap.size X W') := fun j W q => by
    obtain ⟨v', hv'⟩ := (hD.below q).ref
    exact (rto_any hv' j).mono fun e W' z => ⟨z.1, by rw [z.2]; exact q⟩
  have H3 : Hid (∀ W, Below X.heap.size X W → Calls Try.prog 16 #[.agg #[.int .i64 f, .int .i64 n, .slice a1 b.length c1]] W fun e W' => e = .returned (.agg #[.int .i64 f, .int .i64 n, .slice a1 b.length c1]) ∧ Below X.heap.size X W') := fun W q => (asN_any f n a1 b.length c1 W).mono fun e W' z => ⟨z.1, q.trans (z.2.mono q.size)⟩
  have H4 : Hid (∀ W, Below X.heap.size X W → Calls Try.prog 15 #[.agg #[.int .i64 f, .int .i64 n, .slice a1 b.length c1], .agg #[.int .i64 f, .int .i64 n, .slice a2 b.length c2]] W fun e W' => e = .returned (.bool true) ∧ Below X.heap.size X W') := fun W q => (sameN_any f n a1 a2 c1 c2 b W (H1.out.1.below q) (H1.out.2.below q)).mono fun e W' z => ⟨z.1, q.trans (z.2.mono q.size)⟩
  have HKK : Hid (kwf k) := hk
  generalize hc1 : ms.countP (fun o => decide (o.n = k)) = p1 at *
  generalize hc2 : ms.countP (fun o => decide (o.n = (-1))) = p2 at *
  have kx : (x == x) = true := by simp
  clear hD hk hB hA1 hA2 h1 h2 hv em H1
  have HT1 : Hid (∀ W, Below X.heap.size X W → Calls Try.prog 24 #[.pointer (some ⟨N, 0, none⟩), .int .i64 k] W fun e W' => e = .returned (.int .i64 ((p1 : Nat) : Int)) ∧ Below X.heap.size X W') := by
    have := HT.out k HKK.out
    rw [hc1] at this
    exact this
  have HT2 : Hid (∀ W, Below X.heap.size X W → Calls Try.prog 24 #[.pointer (some ⟨N, 0, none⟩), .int .i64 (-1)] W fun e W' => e = .returned (.int .i64 ((p2 : Nat) : Int)) ∧ Below X.heap.size X W') := by
    have := HT.out (-1) (kwf_of (by decide) (by decide))
    rw [hc2] at this
    exact this
  have HR1 : Hid (∀ W, Below X.heap.size X W → Calls Try.prog 25 #[.pointer (some ⟨R, 0, none⟩), .int .i64 k] W fun e W' => e = .returned (.int .i64 ((p1 : Nat) : Int)) ∧ Below X.heap.size X W') := by
    have := HR.out k
    rw [hc1] at this
    exact this
  have HR2 : Hid (∀ W, Below X.heap.size X W → Calls Try.prog 25 #[.pointer (some ⟨R, 0, none⟩), .int .i64 (-1)] W fun e W' => e = .returned (.int .i64 ((p2 : Nat) : Int)) ∧ Below X.heap.size X W') := by
    have := HR.out (-1)
    rw [hc2] at this
    exact this
  clear HT HR hc1 hc2 HKK
  refine wp_region_calmN (S := fun W => Below X.heap.size X W) (by kernel_rfl) (Below.refl _ X).drew (fun hHeld => ?_)
  refine take_run (i := 0) (oi := { dst := some 26, op := Go.Op.move (Go.Operand.tmp 0), type := 23, pos := "law.go:71", after := #[], guard := none }) (v := .pointer (some ⟨N, 0, none⟩)) rfl (by kernel_rfl) (by kernel_rfl) (by kernel_rfl) (fun _ _ _ h => h) (by rfl) ?_ hHeld ?_
  · (intro wq hSw; go_simp <;> with_reducible rfl)
  try simp only [Act.put, List.setIfInBounds_toArray, List.set_cons_zero, List.set_cons_succ]
  refine take_run (i := 2) (oi := { dst := some 28, op := Go.Op.load 25 (Go.Operand.tmp 4), type := 25, pos := "law.go:71", after := #[], guard := none }) (v := .pointer (some ⟨R, 0, none⟩)) rfl (by kernel_rfl) (by kernel_rfl) (by kernel_rfl) (fun _ _ _ h => h) (by rfl) ?_ hHeld ?_
  · (intro wq hSw; have c0 := HB.out wq hSw; go_simp <;> with_reducible rfl)
  try simp only [Act.put, List.setIfInBounds_toArray, List.set_cons_zero, List.set_cons_succ]
  refine take_run (i := 3) (oi := { dst := some 29, op := Go.Op.nilCheck (Go.Operand.tmp 28), type := 0, pos := "law.go:71", after := #[{ on := 2, ground := Go.Ground.data }], guard := none }) (v := .pointer (some ⟨R, 0, none⟩)) rfl (by kernel_rfl) (by kernel_rfl) (by kernel_rfl) (fun _ _ _ h => h) (by rfl) ?_ hHeld ?_
  · (intro wq hSw; go_simp <;> with_reducible rfl)
  try simp only [Act.put, List.setIfInBounds_toArray, List.set_cons_zero, List.set_cons_succ]
  refine take_run (i := 4) (oi := { dst := some 30, op := Go.Op.fieldAddr 28 (Go.Operand.tmp 29) 0, type := 0, pos := "law.go:71", after := #[{ on := 3, ground := Go.Ground.data }], guard := none }) (v := .pointer (some ⟨R, 0, none⟩)) rfl (by kernel_rfl) (by kernel_rfl) (by kernel_rfl) (fun _ _ _ h => h) (by rfl) ?_ hHeld ?_
  · (intro wq hSw; go_simp <;> with_reducible rfl)
  try simp only [Act.put, List.setIfInBounds_toArray, List.set_cons_zero, List.set_cons_succ]
  refine take_run (i := 5) (oi := { dst := some 31, op := Go.Op.load 26 (Go.Operand.tmp 30), type := 26, pos := "law.go:71", after := #[{ on := 4, ground := Go.Ground.data }], guard := none }) (v := .slice ga m gc) rfl (by kernel_rfl) (by kernel_rfl) (by kernel_rfl) (fun _ _ _ h => h) (by rfl) ?_ hHeld ?_
  · (intro wq hSw; have c0 := HC.out wq hSw; go_simp <;> with_reducible rfl)
  try simp only [Act.put, List.setIfInBounds_toArray, List.set_cons_zero, List.set_cons_succ]
  refine take_run (i := 6) (oi := { dst := some 32, op := Go.Op.call { callee := Go.Callee.builtin Go.Builtin.len, args := #[Go.Operand.tmp 31], argTypes := #[26] }, type := 3, pos := "law.go:71", after := #[{ on := 5, ground := Go.Ground.data }], guard := none }) (v := .int .i64 ((m : Nat) : Int)) rfl (by kernel_rfl) (by kernel_rfl) (by kernel_rfl) (fun _ _ _ h => h) (by rfl) ?_ hHeld ?_
  · (intro wq hSw; go_simp <;> with_reducible rfl)
  try simp only [Act.put, List.setIfInBounds_toArray, List.set_cons_zero, List.set_cons_succ]
  refine take_call (i := 1) (oi := { dst := some 27, op := Go.Op.call { callee := Go.Callee.value (Go.Operand.func 23), args := #[Go.Operand.tmp 26], argTypes := #[23] }, type := 3, pos := "law.go:71", after := #[{ on := 0, ground := Go.Ground.data }], guard := none }) rfl (by kernel_rfl) (by rfl) 23 _ (by go_simp <;> with_reducible rfl) ?_
  refine (HL.out _ hHeld).mono ?_
  rintro e x1 ⟨rfl, z1⟩
  refine ⟨_, rfl, z1, ?_⟩
  try simp only [Act.put, List.setIfInBounds_toArray, List.set_cons_zero, List.set_cons_succ]
  refine take_run (i := 7) (oi := { dst := some 33, op := Go.Op.binOp Go.BinOp.neq 3 (Go.Operand.tmp 27) (Go.Operand.tmp 32) 3, type := 4, pos := "law.go:71", after := #[{ on := 1, ground := Go.Ground.data }, { on := 6, ground := Go.Ground.data }], guard := none }) (v := .bool false) rfl (by kernel_rfl) (by kernel_rfl) (by kernel_rfl) (fun _ _ _ h => h) (by rfl) ?_ z1 ?_
  · (intro wq hSw; go_simp <;> with_reducible rfl)
  try simp only [Act.put, List.setIfInBounds_toArray, List.set_cons_zero, List.set_cons_succ]
  refine take_run (i := 8) (oi := { dst := some 34, op := Go.Op.move (Go.Operand.tmp 33), type := 4, pos := "law.go:71", after := #[{ on := 7, ground := Go.Ground.data }, { on := 1, ground := Go.Ground.chain }], guard := none }) (v := .bool false) rfl (by kernel_rfl) (by kernel_rfl) (by kernel_rfl) (fun _ _ _ h => h) (by rfl) ?_ z1 ?_
  · (intro wq hSw; go_simp <;> with_reducible rfl)
  try simp only [Act.put, List.setIfInBounds_toArray, List.set_cons_zero, List.set_cons_succ]
  refine take_row (i := 9) (oi := { dst := some 35, op := Go.Op.load 45 (Go.Operand.tmp 7), type := 45, pos := "law.go:71", after := #[{ on := 8, ground := Go.Ground.guard }], guard := some (8, false) }) rfl (by kernel_rfl) (by kernel_rfl) (by kernel_rfl) 45 (.tmp 7) A1 45 #[.int .i64 f, .int .i64 n, .slice a1 b.length c1] (0, 0) _ (fun _ _ _ h => h) (by rfl) rfl (by go_simp <;> with_reducible rfl) (fun W hW => HA.out W hW) Try.underlying45 rfl (by kernel_rfl) z1 ?_
  try simp only [Act.put, List.setIfInBounds_toArray, List.set_cons_zero, List.set_cons_succ]
  refine take_row (i := 11) (oi := { dst := some 37, op := Go.Op.load 48 (Go.Operand.tmp 9), type := 48, pos := "law.go:71", after := #[{ on := 8, ground := Go.Ground.guard }], guard := some (8, false) }) rfl (by kernel_rfl) (by kernel_rfl) (by kernel_rfl) 48 (.tmp 9) A2 48 #[.int .i64 f, .int .i64 n, .slice a2 b.length c2] (0, 0) _ (fun _ _ _ h => h) (by rfl) rfl (by go_simp <;> with_reducible rfl) (fun W hW => HA2.out W hW) Try.underlying48 rfl (by kernel_rfl) z1 ?_
  try simp only [Act.put, List.setIfInBounds_toArray, List.set_cons_zero, List.set_cons_succ]
  refine take_call (i := 10) (oi := { dst := some 36, op := Go.Op.call { callee := Go.Callee.value (Go.Operand.func 16), args := #[Go.Operand.tmp 35], argTypes := #[45] }, type := 48, pos := "law.go:71", after := #[{ on := 9, ground := Go.Ground.data }, { on := 8, ground := Go.Ground.chain }, { on := 8, ground := Go.Ground.guard }], guard := some (8, false) }) rfl (by kernel_rfl) (by rfl) 16 _ (by go_simp <;> with_reducible rfl) ?_
  refine (H3.out _ z1).mono ?_
  rintro e x10 ⟨rfl, z2⟩
  refine ⟨_, rfl, z2, ?_⟩
  try simp only [Act.put, List.setIfInBounds_toArray, List.set_cons_zero, List.set_cons_succ]
  refine take_call (i := 12) (oi := { dst := some 38, op := Go.Op.call { callee := Go.Callee.value (Go.Operand.func 15), args := #[Go.Operand.tmp 36, Go.Operand.tmp 37], argTypes := #[48, 48] }, type := 4, pos := "law.go:71", after := #[{ on := 10, ground := Go.Ground.data }, { on := 11, ground := Go.Ground.data }, { on := 10, ground := Go.Ground.chain }, { on := 8, ground := Go.Ground.guard }], guard := some (8, false) }) rfl (by kernel_rfl) (by rfl) 15 _ (by go_simp <;> with_reducible rfl) ?_
  refine (H4.out _ z2).mono ?_
  rintro e x12 ⟨rfl, z3⟩
  refine ⟨_, rfl, z3, ?_⟩
  try simp only [Act.put, List.setIfInBounds_toArray, List.set_cons_zero, List.set_cons_succ]
  refine take_run (i := 13) (oi := { dst := some 39, op := Go.Op.unOp Go.UnOp.not 4 (Go.Operand.tmp 38), type := 4, pos := "law.go:71", after := #[{ on := 12, ground := Go.Ground.data }, { on := 8, ground := Go.Ground.guard }], guard := some (8, false) }) (v := .bool false) rfl (by kernel_rfl) (by kernel_rfl) (by kernel_rfl) (fun _ _ _ h => h) (by rfl) ?_ z3 ?_
  · (intro wq hSw; go_simp <;> with_reducible rfl)
  try simp only [Act.put, List.setIfInBounds_toArray, List.set_cons_zero, List.set_cons_succ]
  refine take_run (i := 14) (oi := { dst := some 40, op := Go.Op.pick (Go.Operand.tmp 34) (Go.Operand.const (Go.Value.bool true)) (Go.Operand.tmp 39), type := 4, pos := "law.go:71", after := #[{ on := 8, ground := Go.Ground.data }, { on := 13, ground := Go.Ground.data }], guard := none }) (v := .bool false) rfl (by kernel_rfl) (by kernel_rfl) (by kernel_rfl) (fun _ _ _ h => h) (by rfl) ?_ z3 ?_
  · (intro wq hSw; go_simp <;> with_reducible rfl)
  try simp only [Act.put, List.setIfInBounds_toArray, List.set_cons_zero, List.set_cons_succ]
  refine take_run (i := 15) (oi := { dst := some 41, op := Go.Op.move (Go.Operand.tmp 40), type := 4, pos := "law.go:71", after := #[{ on := 14, ground := Go.Ground.data }, { on := 12, ground := Go.Ground.chain }], guard := none }) (v := .bool false) rfl (by kernel_rfl) (by kernel_rfl) (by kernel_rfl) (fun _ _ _ h => h) (by rfl) ?_ z3 ?_
  · (intro wq hSw; go_simp <;> with_reducible rfl)
  try simp only [Act.put, List.setIfInBounds_toArray, List.set_cons_zero, List.set_cons_succ]
  refine take_run (i := 16) (oi := { dst := some 42, op := Go.Op.move (Go.Operand.tmp 8), type := 40, pos := "law.go:71", after := #[{ on := 15, ground := Go.Ground.guard }], guard := some (15, false) }) (v := .int .i64 x) rfl (by kernel_rfl) (by kernel_rfl) (by kernel_rfl) (fun _ _ _ h => h) (by rfl) ?_ z3 ?_
  · (intro wq hSw; go_simp <;> with_reducible rfl)
  try simp only [Act.put, List.setIfInBounds_toArray, List.set_cons_zero, List.set_cons_succ]
  refine take_run (i := 17) (oi := { dst := some 43, op := Go.Op.move (Go.Operand.tmp 10), type := 40, pos := "law.go:71", after := #[{ on := 15, ground := Go.Ground.guard }], guard := some (15, false) }) (v := .int .i64 x) rfl (by kernel_rfl) (by kernel_rfl) (by kernel_rfl) (fun _ _ _ h => h) (by rfl) ?_ z3 ?_
  · (intro wq hSw; go_simp <;> with_reducible rfl)
  try simp only [Act.put, List.setIfInBounds_toArray, List.set_cons_zero, List.set_cons_succ]
  refine take_run (i := 18) (oi := { dst := some 44, op := Go.Op.binOp Go.BinOp.neq 40 (Go.Operand.tmp 42) (Go.Operand.tmp 43) 40, type := 4, pos := "law.go:71", after := #[{ on := 16, ground := Go.Ground.data }, { on := 17, ground := Go.Ground.data }, { on := 15, ground := Go.Ground.guard }], guard := some (15, false) }) (v := .bool false) rfl (by kernel_rfl) (by kernel_rfl) (by kernel_rfl) (fun _ _ _ h => h) (by rfl) ?_ z3 ?_
  · (intro wq hSw; go_simp <;> with_reducible rfl)
  try simp only [Act.put, List.setIfInBounds_toArray, List.set_cons_zero, List.set_cons_succ]
  refine take_run (i := 19) (oi := { dst := some 45, op := Go.Op.pick (Go.Operand.tmp 41) (Go.Operand.const (Go.Value.bool true)) (Go.Operand.tmp 44), type := 4, pos := "law.go:71", after := #[{ on := 15, ground := Go.Ground.data }, { on := 18, ground := Go.Ground.data }], guard := none }) (v := .bool false) rfl (by kernel_rfl) (by kernel_rfl) (by kernel_rfl) (fun _ _ _ h => h) (by rfl) ?_ z3 ?_
  · (intro wq hSw; go_simp <;> with_reducible rfl)
  try simp only [Act.put, List.setIfInBounds_toArray, List.set_cons_zero, List.set_cons_succ]
  refine take_run (i := 20) (oi := { dst := some 46, op := Go.Op.move (Go.Operand.tmp 45), type := 4, pos := "law.go:71", after := #[{ on := 19, ground := Go.Ground.data }, { on := 15, ground := Go.Ground.chain }], guard := none }) (v := .bool false) rfl (by kernel_rfl) (by kernel_rfl) (by kernel_rfl) (fun _ _ _ h => h) (by rfl) ?_ z3 ?_
  · (intro wq hSw; go_simp <;> with_reducible rfl)
  try simp only [Act.put, List.setIfInBounds_toArray, List.set_cons_zero, List.set_cons_succ]
  refine take_run (i := 21) (oi := { dst := some 47, op := Go.Op.move (Go.Operand.tmp 0), type := 23, pos := "law.go:71", after := #[{ on := 20, ground := Go.Ground.guard }], guard := some (20, false) }) (v := .pointer (some ⟨N, 0, none⟩)) rfl (by kernel_rfl) (by kernel_rfl) (by kernel_rfl) (fun _ _ _ h => h) (by rfl) ?_ z3 ?_
  · (intro wq hSw; go_simp <;> with_reducible rfl)
  try simp only [Act.put, List.setIfInBounds_toArray, List.set_cons_zero, List.set_cons_succ]
  refine take_run (i := 22) (oi := { dst := some 48, op := Go.Op.move (Go.Operand.tmp 2), type := 3, pos := "law.go:71", after := #[{ on := 20, ground := Go.Ground.guard }], guard := some (20, false) }) (v := .int .i64 k) rfl (by kernel_rfl) (by kernel_rfl) (by kernel_rfl) (fun _ _ _ h => h) (by rfl) ?_ z3 ?_
  · (intro wq hSw; go_simp <;> with_reducible rfl)
  try simp only [Act.put, List.setIfInBounds_toArray, List.set_cons_zero, List.set_cons_succ]
  refine take_run (i := 24) (oi := { dst := some 50, op := Go.Op.load 25 (Go.Operand.tmp 4), type := 25, pos := "law.go:71", after := #[{ on := 20, ground := Go.Ground.guard }], guard := some (20, false) }) (v := .pointer (some ⟨R, 0, none⟩)) rfl (by kernel_rfl) (by kernel_rfl) (by kernel_rfl) (fun _ _ _ h => h) (by rfl) ?_ z3 ?_
  · (intro wq hSw; have c0 := HB.out wq hSw; go_simp <;> with_reducible rfl)
  try simp only [Act.put, List.setIfInBounds_toArray, List.set_cons_zero, List.set_cons_succ]
  refine take_run (i := 25) (oi := { dst := some 51, op := Go.Op.move (Go.Operand.tmp 2), type := 3, pos := "law.go:71", after := #[{ on := 20, ground := Go.Ground.guard }], guard := some (20, false) }) (v := .int .i64 k) rfl (by kernel_rfl) (by kernel_rfl) (by kernel_rfl) (fun _ _ _ h => h) (by rfl) ?_ z3 ?_
  · (intro wq hSw; go_simp <;> with_reducible rfl)
  try simp only [Act.put, List.setIfInBounds_toArray, List.set_cons_zero, List.set_cons_succ]
  refine take_call (i := 23) (oi := { dst := some 49, op := Go.Op.call { callee := Go.Callee.value (Go.Operand.func 24), args := #[Go.Operand.tmp 47, Go.Operand.tmp 48], argTypes := #[23, 3] }, type := 3, pos := "law.go:71", after := #[{ on := 21, ground := Go.Ground.data }, { on := 22, ground := Go.Ground.data }, { on := 20, ground := Go.Ground.chain }, { on := 20, ground := Go.Ground.guard }], guard := some (20, false) }) rfl (by kernel_rfl) (by rfl) 24 _ (by go_simp <;> with_reducible rfl) ?_
  refine (HT1.out _ z3).mono ?_
  rintro e x23 ⟨rfl, z4⟩
  refine ⟨_, rfl, z4, ?_⟩
  try simp only [Act.put, List.setIfInBounds_toArray, List.set_cons_zero, List.set_cons_succ]
  refine take_call (i := 26) (oi := { dst := some 52, op := Go.Op.call { callee := Go.Callee.value (Go.Operand.func 25), args := #[Go.Operand.tmp 50, Go.Operand.tmp 51], argTypes := #[25, 3] }, type := 3, pos := "law.go:71", after := #[{ on := 24, ground := Go.Ground.data }, { on := 25, ground := Go.Ground.data }, { on := 23, ground := Go.Ground.chain }, { on := 20, ground := Go.Ground.guard }], guard := some (20, false) }) rfl (by kernel_rfl) (by rfl) 25 _ (by go_simp <;> with_reducible rfl) ?_
  refine (HR1.out _ z4).mono ?_
  rintro e x26 ⟨rfl, z5⟩
  refine ⟨_, rfl, z5, ?_⟩
  try simp only [Act.put, List.setIfInBounds_toArray, List.set_cons_zero, List.set_cons_succ]
  refine take_run (i := 27) (oi := { dst := some 53, op := Go.Op.binOp Go.BinOp.neq 3 (Go.Operand.tmp 49) (Go.Operand.tmp 52) 3, type := 4, pos := "law.go:71", after := #[{ on := 23, ground := Go.Ground.data }, { on := 26, ground := Go.Ground.data }, { on := 20, ground := Go.Ground.guard }], guard := some (20, false) }) (v := .bool false) rfl (by kernel_rfl) (by kernel_rfl) (by kernel_rfl) (fun _ _ _ h => h) (by rfl) ?_ z5 ?_
  · (intro wq hSw; go_simp <;> with_reducible rfl)
  try simp only [Act.put, List.setIfInBounds_toArray, List.set_cons_zero, List.set_cons_succ]
  refine take_run (i := 28) (oi := { dst := some 54, op := Go.Op.pick (Go.Operand.tmp 46) (Go.Operand.const (Go.Value.bool true)) (Go.Operand.tmp 53), type := 4, pos := "law.go:71", after := #[{ on := 20, ground := Go.Ground.data }, { on := 27, ground := Go.Ground.data }], guard := none }) (v := .bool false) rfl (by kernel_rfl) (by kernel_rfl) (by kernel_rfl) (fun _ _ _ h => h) (by rfl) ?_ z5 ?_
  · (intro wq hSw; go_simp <;> with_reducible rfl)
  try simp only [Act.put, List.setIfInBounds_toArray, List.set_cons_zero, List.set_cons_succ]
  refine take_run (i := 29) (oi := { dst := some 55, op := Go.Op.move (Go.Operand.tmp 54), type := 4, pos := "law.go:71", after := #[{ on := 28, ground := Go.Ground.data }, { on := 26, ground := Go.Ground.chain }], guard := none }) (v := .bool false) rfl (by kernel_rfl) (by kernel_rfl) (by kernel_rfl) (fun _ _ _ h => h) (by rfl) ?_ z5 ?_
  · (intro wq hSw; go_simp <;> with_reducible rfl)
  try simp only [Act.put, List.setIfInBounds_toArray, List.set_cons_zero, List.set_cons_succ]
  refine take_run (i := 30) (oi := { dst := some 56, op := Go.Op.move (Go.Operand.tmp 0), type := 23, pos := "law.go:71", after := #[{ on := 29, ground := Go.Ground.guard }], guard := some (29, false) }) (v := .pointer (some ⟨N, 0, none⟩)) rfl (by kernel_rfl) (by kernel_rfl) (by kernel_rfl) (fun _ _ _ h => h) (by rfl) ?_ z5 ?_
  · (intro wq hSw; go_simp <;> with_reducible rfl)
  try simp only [Act.put, List.setIfInBounds_toArray, List.set_cons_zero, List.set_cons_succ]
  refine take_run (i := 32) (oi := { dst := some 58, op := Go.Op.load 25 (Go.Operand.tmp 4), type := 25, pos := "law.go:71", after := #[{ on := 29, ground := Go.Ground.guard }], guard := some (29, false) }) (v := .pointer (some ⟨R, 0, none⟩)) rfl (by kernel_rfl) (by kernel_rfl) (by kernel_rfl) (fun _ _ _ h => h) (by rfl) ?_ z5 ?_
  · (intro wq hSw; have c0 := HB.out wq hSw; go_simp <;> with_reducible rfl)
  try simp only [Act.put, List.setIfInBounds_toArray, List.set_cons_zero, List.set_cons_succ]
  refine take_call (i := 31) (oi := { dst := some 57, op := Go.Op.call { callee := Go.Callee.value (Go.Operand.func 24), args := #[Go.Operand.tmp 56, Go.Operand.const (Go.Value.int Go.IntKind.i64 (-1))], argTypes := #[23, 3] }, type := 3, pos := "law.go:71", after := #[{ on := 30, ground := Go.Ground.data }, { on := 29, ground := Go.Ground.chain }, { on := 29, ground := Go.Ground.guard }], guard := some (29, false) }) rfl (by kernel_rfl) (by rfl) 24 _ (by go_simp <;> with_reducible rfl) ?_
  refine (HT2.out _ z5).mono ?_
  rintro e x31 ⟨rfl, z6⟩
  refine ⟨_, rfl, z6, ?_⟩
  try simp only [Act.put, List.setIfInBounds_toArray, List.set_cons_zero, List.set_cons_succ]
  refine take_call (i := 33) (oi := { dst := some 59, op := Go.Op.call { callee := Go.Callee.value (Go.Operand.func 25), args := #[Go.Operand.tmp 58, Go.Operand.const (Go.Value.int Go.IntKind.i64 (-1))], argTypes := #[25, 3] }, type := 3, pos := "law.go:71", after := #[{ on := 32, ground := Go.Ground.data }, { on := 31, ground := Go.Ground.chain }, { on := 29, ground := Go.Ground.guard }], guard := some (29, false) }) rfl (by kernel_rfl) (by rfl) 25 _ (by go_simp <;> with_reducible rfl) ?_
  refine (HR2.out _ z6).mono ?_
  rintro e x33 ⟨rfl, z7⟩
  refine ⟨_, rfl, z7, ?_⟩
  try simp only [Act.put, List.setIfInBounds_toArray, List.set_cons_zero, List.set_cons_succ]
  refine take_run (i := 34) (oi := { dst := some 60, op := Go.Op.binOp Go.BinOp.neq 3 (Go.Operand.tmp 57) (Go.Operand.tmp 59) 3, type := 4, pos := "law.go:71", after := #[{ on := 31, ground := Go.Ground.data }, { on := 33, ground := Go.Ground.data }, { on := 29, ground := Go.Ground.guard }], guard := some (29, false) }) (v := .bool false) rfl (by kernel_rfl) (by kernel_rfl) (by kernel_rfl) (fun _ _ _ h => h) (by rfl) ?_ z7 ?_
  · (intro wq hSw; go_simp <;> with_reducible rfl)
  try simp only [Act.put, List.setIfInBounds_toArray, List.set_cons_zero, List.set_cons_succ]
  refine take_run (i := 35) (oi := { dst := some 61, op := Go.Op.pick (Go.Operand.tmp 55) (Go.Operand.const (Go.Value.bool true)) (Go.Operand.tmp 60), type := 4, pos := "law.go:71", after := #[{ on := 29, ground := Go.Ground.data }, { on := 34, ground := Go.Ground.data }], guard := none }) (v := .bool false) rfl (by kernel_rfl) (by kernel_rfl) (by kernel_rfl) (fun _ _ _ h => h) (by rfl) ?_ z7 ?_
  · (intro wq hSw; go_simp <;> with_reducible rfl)
  try simp only [Act.put, List.setIfInBounds_toArray, List.set_cons_zero, List.set_cons_succ]
  refine wpAnyH_done (by kernel_rfl) ?_ _
  exact hK _ _ _ _ _ _ _ _ _ _ _ _ _ _ _ _ _ _ _ _ _ _ _ _ _ _ _ _ _ _ _ _ _ _ _ _ z7
end Go.Proofs.Ytccmehbdnnelhaa
