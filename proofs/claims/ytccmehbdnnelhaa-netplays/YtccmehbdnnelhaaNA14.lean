/- NetPlays: alike, one letter of all. Written by gen_na.py. -/
import Derived.Test.YtccmehbdnnelhaaNAny
import Derived.Test.YtccmehbdnnelhaaNGi
namespace Go.Proofs.Ytccmehbdnnelhaa
open Go.RowKit Go.Maps Go.Shelf
attribute [local go_sem] Oper.semAt_some
set_option linter.unusedVariables false

/-- A struct within a row is read. -/
theorem take_midN {P : Program} {ops : Array Oper} {Q : Exit → Act → World → Prop} {md : Region.Mode} {S : World → Prop} {i : Nat} {oi : Oper} {fuel : Nat} {listed : Array Bool} {a : Act} {w : World} (hi : ops[i]? = some oi)
    (hs : Region.noSelect ops = true) (hf : Region.free md ops listed i = true) (hr : (Region.ready md ops listed).contains i = true) (ty : TypeId) (x : Operand) (b o : Nat) (cs : List Value) (d : TypeDesc)
    (hQ : ∀ c a w, Q (.panic c) (a.put oi.dst (.agg cs.toArray)) w → Q (.panic c) a w) (hw : Region.wanted oi (yielded ops a.tmps) = true) (ho : oi.op = .load ty x)
    (hx : a.eval x = .pointer (some ⟨b, o, none⟩)) (hg : ∀ w, S w → w.rangeAt b o cs)
    (hu : P.underlying ty = some d) (hd : d.isRow = true) (hz : (P.info? ty).map (·.size) = some cs.length) (hS : S w)
    (h : wpAnyH P md ops Q S fuel (listed.setIfInBounds i true) (a.put oi.dst (.agg cs.toArray)) w) : wpAnyH P md ops Q S (fuel + 1) listed a w :=
  take_run hi hs hf hr hQ hw (fun w' hS' => by
    unfold execOp
    simp only [ho, hx, Instr.loadAt, Instr.sureAddr, Sem.run_bind, Sem.run_pure, Result.andThen_ok, run_loadVar_mid w' b o ty cs d (hg w' hS') hu hd hz]) hS h
set_option maxRecDepth 100000 in
set_option maxHeartbeats 8000000 in
theorem na_r14 (w0 X : World) (N R T B A Ib j l' nn : Nat) (L : List Post) (ms : List OpN) (hj : j < ms.length) (f n : Int) (a1 : Option Addr) (c1 : Nat) (b : List (BitVec 8)) (s0 s1 s2 s3 s5 s6 s7 s8 s9 s10 s11 s14 s15 s16 s17 s18 s19 s20 s21 s22 s23 s24 s25 s26 s27 s28 s29 s30 s31 s32 s33 s34 s35 s36 s37 s38 s39 s40 s41 s42 s43 s44 s45 s46 s47 s48 s49 s50 s51 s52 s53 s54 s55 s56 s57 s58 s59 s60 s61 s62 s63 s64 s65 s66 s67 s68 s69 s70 s71 s72 s73 s74 s75 s76 s77 s78 s79 s80 s81 s82 s83 s84 s85 s86 s87 s88 s89 s90 s91 s92 s93 s94 s95 s96 s97 s98 s99 s100 s101 s102 s103 s104 s105 s106 s107 s108 : Value)
    (hD : Du w0 X N R T L ms) (hB : X.heap[B]? = some (.cells #[.pointer (some ⟨R, 0, none⟩)] 25 (0, 0))) (hI : X.heap[Ib]? = some (.cells #[.int .i64 (j : Nat)] 3 (0, 0)))
    (hA : X.heap[A]? = some (.cells #[.int .i64 f, .int .i64 n, .slice a1 b.length c1] 45 (0, 0))) (h1 : Seen X a1 b.length b) (ef : f = ms[j].f) (en : n = ms[j].n) (eb : b = ms[j].b)
    (K : Act → World → Prop) (Q : Exit → Act → World → Prop)
    (hK : ∀ (u77 u78 u79 u80 u81 u82 u83 u84 u85 u86 u87 u88 u89 u90 u91 u92 u93 u94 u95 : Value) (Y : World), Below X.heap.size X Y → K { tmps := #[s0, s1, s2, s3, .pointer (some ⟨B, 0, none⟩), s5, s6, s7, s8, s9, s10, s11, .pointer (some ⟨Ib, 0, none⟩), .pointer (some ⟨A, 0, none⟩), s14, s15, s16, s17, s18, s19, s20, s21, s22, s23, s24, s25, s26, s27, s28, s29, s30, s31, s32, s33, s34, s35, s36, s37, s38, s39, s40, s41, s42, s43, s44, s45, s46, s47, s48, s49, s50, s51, s52, s53, s54, s55, s56, s57, s58, s59, s60, s61, s62, s63, s64, s65, s66, s67, s68, s69, s70, s71, s72, s73, s74, s75, s76, u77, u78, u79, u80, u81, u82, u83, u84, u85, u86, u87, u88, u89, u90, u91, u92, u93, u94, u95, .bool false, s97, s98, s99, s100, s101, s102, s103, s104, s105, s106, s107, s108], defers := [] } Y) :
    (Code.region 14 #[{ dst := some 77, op := Go.Op.load 3 (Go.Operand.tmp 12), type := 3, pos := "law.go:84", after := #[], guard := none }, { dst := some 78, op := Go.Op.load 25 (Go.Operand.tmp 4), type := 25, pos := "law.go:84", after := #[], guard := none }, { dst := some 79, op := Go.Op.nilCheck (Go.Operand.tmp 78), type := 0, pos := "law.go:84", after := #[{ on := 1, ground := Go.Ground.data }], guard := none }, { dst := some 80, op := Go.Op.fieldAddr 28 (Go.Operand.tmp 79) 0, type := 0, pos := "law.go:84", after := #[{ on := 2, ground := Go.Ground.data }], guard := none }, { dst := some 81, op := Go.Op.load 26 (Go.Operand.tmp 80), type := 26, pos := "law.go:84", after := #[{ on := 3, ground := Go.Ground.data }], guard := none }, { dst := some 82, op := Go.Op.call { callee := Go.Callee.builtin Go.Builtin.len, args := #[Go.Operand.tmp 81], argTypes := #[26] }, type := 3, pos := "law.go:84", after := #[{ on := 4, ground := Go.Ground.data }], guard := none }, { dst := some 83, op := Go.Op.binOp Go.BinOp.geq 3 (Go.Operand.tmp 77) (Go.Operand.tmp 82) 3, type := 4, pos := "law.go:84", after := #[{ on := 0, ground := Go.Ground.data }, { on := 5, ground := Go.Ground.data }], guard := none }, { dst := some 84, op := Go.Op.move (Go.Operand.tmp 83), type := 4, pos := "law.go:84", after := #[{ on := 6, ground := Go.Ground.data }], guard := none }, { dst := some 85, op := Go.Op.load 45 (Go.Operand.tmp 13), type := 45, pos := "law.go:84", after := #[{ on := 7, ground := Go.Ground.guard }], guard := some (7, false) }, { dst := some 86, op := Go.Op.call { callee := Go.Callee.value (Go.Operand.func 16), args := #[Go.Operand.tmp 85], argTypes := #[45] }, type := 48, pos := "law.go:84", after := #[{ on := 8, ground := Go.Ground.data }, { on := 7, ground := Go.Ground.chain }, { on := 7, ground := Go.Ground.guard }], guard := some (7, false) }, { dst := some 87, op := Go.Op.load 25 (Go.Operand.tmp 4), type := 25, pos := "law.go:84", after := #[{ on := 7, ground := Go.Ground.guard }], guard := some (7, false) }, { dst := some 88, op := Go.Op.nilCheck (Go.Operand.tmp 87), type := 0, pos := "law.go:84", after := #[{ on := 10, ground := Go.Ground.data }, { on := 7, ground := Go.Ground.guard }], guard := some (7, false) }, { dst := some 89, op := Go.Op.fieldAddr 28 (Go.Operand.tmp 88) 0, type := 0, pos := "law.go:84", after := #[{ on := 11, ground := Go.Ground.data }, { on := 7, ground := Go.Ground.guard }], guard := some (7, false) }, { dst := some 90, op := Go.Op.load 26 (Go.Operand.tmp 89), type := 26, pos := "law.go:84", after := #[{ on := 12, ground := Go.Ground.data }, { on := 7, ground := Go.Ground.guard }], guard := some (7, false) }, { dst := some 91, op := Go.Op.load 3 (Go.Operand.tmp 12), type := 3, pos := "law.go:84", after := #[{ on := 7, ground := Go.Ground.guard }], guard := some (7, false) }, { dst := some 92, op := Go.Op.indexAddr 26 (Go.Operand.tmp 90) (Go.Operand.tmp 91), type := 0, pos := "law.go:84", after := #[{ on := 13, ground := Go.Ground.data }, { on := 14, ground := Go.Ground.data }, { on := 7, ground := Go.Ground.guard }], guard := some (7, false) }, { dst := some 93, op := Go.Op.load 48 (Go.Operand.tmp 92), type := 48, pos := "law.go:84", after := #[{ on := 15, ground := Go.Ground.data }, { on := 7, ground := Go.Ground.guard }], guard := some (7, false) }, { dst := some 94, op := Go.Op.call { callee := Go.Callee.value (Go.Operand.func 15), args := #[Go.Operand.tmp 86, Go.Operand.tmp 93], argTypes := #[48, 48] }, type := 4, pos := "law.go:84", after := #[{ on := 9, ground := Go.Ground.data }, { on := 16, ground := Go.Ground.data }, { on := 9, ground := Go.Ground.chain }, { on := 7, ground := Go.Ground.guard }], guard := some (7, false) }, { dst := some 95, op := Go.Op.unOp Go.UnOp.not 4 (Go.Operand.tmp 94), type := 4, pos := "law.go:84", after := #[{ on := 17, ground := Go.Ground.data }, { on := 7, ground := Go.Ground.guard }], guard := some (7, false) }, { dst := some 96, op := Go.Op.pick (Go.Operand.tmp 84) (Go.Operand.const (Go.Value.bool true)) (Go.Operand.tmp 95), type := 4, pos := "law.go:84", after := #[{ on := 7, ground := Go.Ground.data }, { on := 18, ground := Go.Ground.data }], guard := none }] true).wpIn (Fence.wide.inRound l') nn Try.prog (Exit.then K Q) { tmps := #[s0, s1, s2, s3, .pointer (some ⟨B, 0, none⟩), s5, s6, s7, s8, s9, s10, s11, .pointer (some ⟨Ib, 0, none⟩), .pointer (some ⟨A, 0, none⟩), s14, s15, s16, s17, s18, s19, s20, s21, s22, s23, s24, s25, s26, s27, s28, s29, s30, s31, s32, s33, s34, s35, s36, s37, s38, s39, s40, s41, s42, s43, s44, s45, s46, s47, s48, s49, s50, s51, s52, s53, s54, s55, s56, s57, s58, s59, s60, s61, s62, s63, s64, s65, s66, s67, s68, s69, s70, s71, s72, s73, s74, s75, s76, s77, s78, s79, s80, s81, s82, s83, s84, s85, s86, s87, s88, s89, s90, s91, s92, s93, s94, s95, s96, s97, s98, s99, s100, s101, s102, s103, s104, s105, s106, s107, s108], defers := [] } X := by
  have HA : Hid (∀ W, Below X.heap.size X W → W.heap[A]? = some (.cells #[.int .i64 f, .int .i64 n, .slice a1 b.length c1] 45 (0, 0))) := fun W q => (q.block _ (Array.getElem?_eq_some_iff.1 hA).1).trans hA
  have HI : Hid (∀ W, Below X.heap.size X W → W.cell? ⟨Ib, 0, none⟩ = some (.int .i64 (j : Nat))) := fun W q => by simp only [World.cell?, (q.block _ (Array.getElem?_eq_some_iff.1 hI).1).trans hI]; rfl
  have HB : Hid (∀ W, Below X.heap.size X W → W.cell? ⟨B, 0, none⟩ = some (.pointer (some ⟨R, 0, none⟩))) := fun W q => by simp only [World.cell?, (q.block _ (Array.getElem?_eq_some_iff.1 hB).1).trans hB]; rfl
  obtain ⟨v, hv⟩ := hD.ref
  obtain ⟨ga, gc, rfl⟩ := hv.form
  have hq := hv.at hj
  obtain ⟨g, rfl, _⟩ := id hq
  have hd := hv.dat _ (List.getElem_mem hj)
  obtain ⟨a2, c2, e2, s2, _⟩ := hd
  have ea : ms[j].a = a2 ∧ ms[j].c = c2 := by cases e2; exact ⟨rfl, rfl⟩
  rw [ea.1, ea.2, ← ef, ← en, ← eb] at hq
  rw [← eb] at s2
  obtain ⟨m, em⟩ : ∃ m, ms.length = m := ⟨_, rfl⟩
  rw [em] at hj
  have HG : Hid (∀ W, Below X.heap.size X W → W.rangeAt g (j * 3) [.int .i64 f, .int .i64 n, .slice a2 b.length c2]) := fun W q i v hi => by
    obtain ⟨g', e, q0, q1, q2⟩ := hq
    cases e
    have k0 := fun (o : Nat) v (h : X.cell? ⟨g, o, none⟩ = some v) => (q.cell (p := ⟨g, o, none⟩) (World.block_lt_of_cell? X _ h)).trans h
    match i, hi with
    | 0, hi => rw [Nat.add_zero, k0 _ _ q0]; exact hi
    | 1, hi => rw [k0 _ _ q1]; exact hi
    | 2, hi => rw [k0 _ _ q2]; exact hi
  have H1 : Hid (Seen X a1 b.length b ∧ Seen X a2 b.length b) := ⟨h1, s2⟩
  have HC : Hid (∀ W, Below X.heap.size X W → W.cell? ⟨R, 0, none⟩ = some (.slice (some ⟨g, 0, none⟩) m gc)) := fun W q => by have := (hv.below q).c0; rw [em] at this; exact this
  have H3 : Hid (∀ W, Below X.heap.size X W → Calls Try.prog 16 #[.agg #[.int .i64 f, .int .i64 n, .slice a1 b.length c1]] W fun e W' => e = .returned (.agg #[.int .i64 f, .int .i64 n, .slice a1 b.length c1]) ∧ Below X.heap.size X W') := fun W q => (asN_any f n a1 b.length c1 W).mono fun e W' z => ⟨z.1, q.trans (z.2.mono q.size)⟩
  have H4 : Hid (∀ W, Below X.heap.size X W → Calls Try.prog 15 #[.agg #[.int .i64 f, .int .i64 n, .slice a1 b.length c1], .agg #[.int .i64 f, .int .i64 n, .slice a2 b.length c2]] W fun e W' => e = .returned (.bool true) ∧ Below X.heap.size X W') := fun W q => (sameN_any f n a1 a2 c1 c2 b W (H1.out.1.below q) (H1.out.2.below q)).mono fun e W' z => ⟨z.1, q.trans (z.2.mono q.size)⟩
  have j1 : (j : Int) < (m : Int) := by omega
  have j2 : ¬ (m : Int) ≤ (j : Int) := by omega
  have j3 : ¬ m ≤ j := by omega
  have j4 : decide (m ≤ j) = false := decide_eq_false j3
  clear hD hB hI hA h1 hv hq e2 s2 ea em ef en eb H1
  refine round_calm (S := fun W => Below X.heap.size X W) l' (by kernel_rfl) (by kernel_rfl) (Below.refl _ X).drew (fun hHeld => ?_)
  refine take_run (i := 0) (oi := { dst := some 77, op := Go.Op.load 3 (Go.Operand.tmp 12), type := 3, pos := "law.go:84", after := #[], guard := none }) (v := .int .i64 ((j : Nat) : Int)) rfl (by kernel_rfl) (by kernel_rfl) (by kernel_rfl) (fun _ _ _ h => h) (by rfl) ?_ hHeld ?_
  · (intro wq hSw; have c0 := HI.out wq hSw; go_simp <;> with_reducible rfl)
  try simp only [Act.put, List.setIfInBounds_toArray, List.set_cons_zero, List.set_cons_succ]
  refine take_run (i := 1) (oi := { dst := some 78, op := Go.Op.load 25 (Go.Operand.tmp 4), type := 25, pos := "law.go:84", after := #[], guard := none }) (v := .pointer (some ⟨R, 0, none⟩)) rfl (by kernel_rfl) (by kernel_rfl) (by kernel_rfl) (fun _ _ _ h => h) (by rfl) ?_ hHeld ?_
  · (intro wq hSw; have c0 := HB.out wq hSw; go_simp <;> with_reducible rfl)
  try simp only [Act.put, List.setIfInBounds_toArray, List.set_cons_zero, List.set_cons_succ]
  refine take_run (i := 2) (oi := { dst := some 79, op := Go.Op.nilCheck (Go.Operand.tmp 78), type := 0, pos := "law.go:84", after := #[{ on := 1, ground := Go.Ground.data }], guard := none }) (v := .pointer (some ⟨R, 0, none⟩)) rfl (by kernel_rfl) (by kernel_rfl) (by kernel_rfl) (fun _ _ _ h => h) (by rfl) ?_ hHeld ?_
  · (intro wq hSw; go_simp <;> with_reducible rfl)
  try simp only [Act.put, List.setIfInBounds_toArray, List.set_cons_zero, List.set_cons_succ]
  refine take_run (i := 3) (oi := { dst := some 80, op := Go.Op.fieldAddr 28 (Go.Operand.tmp 79) 0, type := 0, pos := "law.go:84", after := #[{ on := 2, ground := Go.Ground.data }], guard := none }) (v := .pointer (some ⟨R, 0, none⟩)) rfl (by kernel_rfl) (by kernel_rfl) (by kernel_rfl) (fun _ _ _ h => h) (by rfl) ?_ hHeld ?_
  · (intro wq hSw; go_simp <;> with_reducible rfl)
  try simp only [Act.put, List.setIfInBounds_toArray, List.set_cons_zero, List.set_cons_succ]
  refine take_run (i := 4) (oi := { dst := some 81, op := Go.Op.load 26 (Go.Operand.tmp 80), type := 26, pos := "law.go:84", after := #[{ on := 3, ground := Go.Ground.data }], guard := none }) (v := .slice (some ⟨g, 0, none⟩) m gc) rfl (by kernel_rfl) (by kernel_rfl) (by kernel_rfl) (fun _ _ _ h => h) (by rfl) ?_ hHeld ?_
  · (intro wq hSw; have c0 := HC.out wq hSw; go_simp <;> with_reducible rfl)
  try simp only [Act.put, List.setIfInBounds_toArray, List.set_cons_zero, List.set_cons_succ]
  refine take_run (i := 5) (oi := { dst := some 82, op := Go.Op.call { callee := Go.Callee.builtin Go.Builtin.len, args := #[Go.Operand.tmp 81], argTypes := #[26] }, type := 3, pos := "law.go:84", after := #[{ on := 4, ground := Go.Ground.data }], guard := none }) (v := .int .i64 ((m : Nat) : Int)) rfl (by kernel_rfl) (by kernel_rfl) (by kernel_rfl) (fun _ _ _ h => h) (by rfl) ?_ hHeld ?_
  · (intro wq hSw; go_simp <;> with_reducible rfl)
  try simp only [Act.put, List.setIfInBounds_toArray, List.set_cons_zero, List.set_cons_succ]
  refine take_run (i := 6) (oi := { dst := some 83, op := Go.Op.binOp Go.BinOp.geq 3 (Go.Operand.tmp 77) (Go.Operand.tmp 82) 3, type := 4, pos := "law.go:84", after := #[{ on := 0, ground := Go.Ground.data }, { on := 5, ground := Go.Ground.data }], guard := none }) (v := .bool false) rfl (by kernel_rfl) (by kernel_rfl) (by kernel_rfl) (fun _ _ _ h => h) (by rfl) ?_ hHeld ?_
  · (intro wq hSw; go_simp <;> with_reducible rfl)
  try simp only [Act.put, List.setIfInBounds_toArray, List.set_cons_zero, List.set_cons_succ]
  refine take_run (i := 7) (oi := { dst := some 84, op := Go.Op.move (Go.Operand.tmp 83), type := 4, pos := "law.go:84", after := #[{ on := 6, ground := Go.Ground.data }], guard := none }) (v := .bool false) rfl (by kernel_rfl) (by kernel_rfl) (by kernel_rfl) (fun _ _ _ h => h) (by rfl) ?_ hHeld ?_
  · (intro wq hSw; go_simp <;> with_reducible rfl)
  try simp only [Act.put, List.setIfInBounds_toArray, List.set_cons_zero, List.set_cons_succ]
  refine take_row (i := 8) (oi := { dst := some 85, op := Go.Op.load 45 (Go.Operand.tmp 13), type := 45, pos := "law.go:84", after := #[{ on := 7, ground := Go.Ground.guard }], guard := some (7, false) }) rfl (by kernel_rfl) (by kernel_rfl) (by kernel_rfl) 45 (.tmp 13) A 45 #[.int .i64 f, .int .i64 n, .slice a1 b.length c1] (0, 0) _ (fun _ _ _ h => h) (by rfl) rfl (by go_simp <;> with_reducible rfl) (fun W hW => HA.out W hW) Try.underlying45 rfl (by kernel_rfl) hHeld ?_
  try simp only [Act.put, List.setIfInBounds_toArray, List.set_cons_zero, List.set_cons_succ]
  refine take_run (i := 10) (oi := { dst := some 87, op := Go.Op.load 25 (Go.Operand.tmp 4), type := 25, pos := "law.go:84", after := #[{ on := 7, ground := Go.Ground.guard }], guard := some (7, false) }) (v := .pointer (some ⟨R, 0, none⟩)) rfl (by kernel_rfl) (by kernel_rfl) (by kernel_rfl) (fun _ _ _ h => h) (by rfl) ?_ hHeld ?_
  · (intro wq hSw; have c0 := HB.out wq hSw; go_simp <;> with_reducible rfl)
  try simp only [Act.put, List.setIfInBounds_toArray, List.set_cons_zero, List.set_cons_succ]
  refine take_run (i := 11) (oi := { dst := some 88, op := Go.Op.nilCheck (Go.Operand.tmp 87), type := 0, pos := "law.go:84", after := #[{ on := 10, ground := Go.Ground.data }, { on := 7, ground := Go.Ground.guard }], guard := some (7, false) }) (v := .pointer (some ⟨R, 0, none⟩)) rfl (by kernel_rfl) (by kernel_rfl) (by kernel_rfl) (fun _ _ _ h => h) (by rfl) ?_ hHeld ?_
  · (intro wq hSw; go_simp <;> with_reducible rfl)
  try simp only [Act.put, List.setIfInBounds_toArray, List.set_cons_zero, List.set_cons_succ]
  refine take_run (i := 12) (oi := { dst := some 89, op := Go.Op.fieldAddr 28 (Go.Operand.tmp 88) 0, type := 0, pos := "law.go:84", after := #[{ on := 11, ground := Go.Ground.data }, { on := 7, ground := Go.Ground.guard }], guard := some (7, false) }) (v := .pointer (some ⟨R, 0, none⟩)) rfl (by kernel_rfl) (by kernel_rfl) (by kernel_rfl) (fun _ _ _ h => h) (by rfl) ?_ hHeld ?_
  · (intro wq hSw; go_simp <;> with_reducible rfl)
  try simp only [Act.put, List.setIfInBounds_toArray, List.set_cons_zero, List.set_cons_succ]
  refine take_run (i := 13) (oi := { dst := some 90, op := Go.Op.load 26 (Go.Operand.tmp 89), type := 26, pos := "law.go:84", after := #[{ on := 12, ground := Go.Ground.data }, { on := 7, ground := Go.Ground.guard }], guard := some (7, false) }) (v := .slice (some ⟨g, 0, none⟩) m gc) rfl (by kernel_rfl) (by kernel_rfl) (by kernel_rfl) (fun _ _ _ h => h) (by rfl) ?_ hHeld ?_
  · (intro wq hSw; have c0 := HC.out wq hSw; go_simp <;> with_reducible rfl)
  try simp only [Act.put, List.setIfInBounds_toArray, List.set_cons_zero, List.set_cons_succ]
  refine take_run (i := 14) (oi := { dst := some 91, op := Go.Op.load 3 (Go.Operand.tmp 12), type := 3, pos := "law.go:84", after := #[{ on := 7, ground := Go.Ground.guard }], guard := some (7, false) }) (v := .int .i64 ((j : Nat) : Int)) rfl (by kernel_rfl) (by kernel_rfl) (by kernel_rfl) (fun _ _ _ h => h) (by rfl) ?_ hHeld ?_
  · (intro wq hSw; have c0 := HI.out wq hSw; go_simp <;> with_reducible rfl)
  try simp only [Act.put, List.setIfInBounds_toArray, List.set_cons_zero, List.set_cons_succ]
  refine take_run (i := 15) (oi := { dst := some 92, op := Go.Op.indexAddr 26 (Go.Operand.tmp 90) (Go.Operand.tmp 91), type := 0, pos := "law.go:84", after := #[{ on := 13, ground := Go.Ground.data }, { on := 14, ground := Go.Ground.data }, { on := 7, ground := Go.Ground.guard }], guard := some (7, false) }) (v := .pointer (some ⟨g, j * 3, none⟩)) rfl (by kernel_rfl) (by kernel_rfl) (by kernel_rfl) (fun _ _ _ h => h) (by rfl) ?_ hHeld ?_
  · (intro wq hSw; go_simp <;> with_reducible rfl)
  try simp only [Act.put, List.setIfInBounds_toArray, List.set_cons_zero, List.set_cons_succ]
  refine take_midN (i := 16) (oi := { dst := some 93, op := Go.Op.load 48 (Go.Operand.tmp 92), type := 48, pos := "law.go:84", after := #[{ on := 15, ground := Go.Ground.data }, { on := 7, ground := Go.Ground.guard }], guard := some (7, false) }) rfl (by kernel_rfl) (by kernel_rfl) (by kernel_rfl) 48 (.tmp 92) g (j * 3) [.int .i64 f, .int .i64 n, .slice a2 b.length c2] _ (fun _ _ _ h => h) (by rfl) rfl (by go_simp <;> with_reducible rfl) (fun W hW => HG.out W hW) Try.underlying48 rfl (by kernel_rfl) hHeld ?_
  try simp only [Act.put, List.setIfInBounds_toArray, List.set_cons_zero, List.set_cons_succ]
  refine take_call (i := 9) (oi := { dst := some 86, op := Go.Op.call { callee := Go.Callee.value (Go.Operand.func 16), args := #[Go.Operand.tmp 85], argTypes := #[45] }, type := 48, pos := "law.go:84", after := #[{ on := 8, ground := Go.Ground.data }, { on := 7, ground := Go.Ground.chain }, { on := 7, ground := Go.Ground.guard }], guard := some (7, false) }) rfl (by kernel_rfl) (by rfl) 16 _ (by go_simp <;> with_reducible rfl) ?_
  refine (H3.out _ hHeld).mono ?_
  rintro e x9 ⟨rfl, z1⟩
  refine ⟨_, rfl, z1, ?_⟩
  try simp only [Act.put, List.setIfInBounds_toArray, List.set_cons_zero, List.set_cons_succ]
  refine take_call (i := 17) (oi := { dst := some 94, op := Go.Op.call { callee := Go.Callee.value (Go.Operand.func 15), args := #[Go.Operand.tmp 86, Go.Operand.tmp 93], argTypes := #[48, 48] }, type := 4, pos := "law.go:84", after := #[{ on := 9, ground := Go.Ground.data }, { on := 16, ground := Go.Ground.data }, { on := 9, ground := Go.Ground.chain }, { on := 7, ground := Go.Ground.guard }], guard := some (7, false) }) rfl (by kernel_rfl) (by rfl) 15 _ (by go_simp <;> with_reducible rfl) ?_
  refine (H4.out _ z1).mono ?_
  rintro e x17 ⟨rfl, z2⟩
  refine ⟨_, rfl, z2, ?_⟩
  try simp only [Act.put, List.setIfInBounds_toArray, List.set_cons_zero, List.set_cons_succ]
  refine take_run (i := 18) (oi := { dst := some 95, op := Go.Op.unOp Go.UnOp.not 4 (Go.Operand.tmp 94), type := 4, pos := "law.go:84", after := #[{ on := 17, ground := Go.Ground.data }, { on := 7, ground := Go.Ground.guard }], guard := some (7, false) }) (v := .bool false) rfl (by kernel_rfl) (by kernel_rfl) (by kernel_rfl) (fun _ _ _ h => h) (by rfl) ?_ z2 ?_
  · (intro wq hSw; go_simp <;> with_reducible rfl)
  try simp only [Act.put, List.setIfInBounds_toArray, List.set_cons_zero, List.set_cons_succ]
  refine take_run (i := 19) (oi := { dst := some 96, op := Go.Op.pick (Go.Operand.tmp 84) (Go.Operand.const (Go.Value.bool true)) (Go.Operand.tmp 95), type := 4, pos := "law.go:84", after := #[{ on := 7, ground := Go.Ground.data }, { on := 18, ground := Go.Ground.data }], guard := none }) (v := .bool false) rfl (by kernel_rfl) (by kernel_rfl) (by kernel_rfl) (fun _ _ _ h => h) (by rfl) ?_ z2 ?_
  · (intro wq hSw; go_simp <;> with_reducible rfl)
  try simp only [Act.put, List.setIfInBounds_toArray, List.set_cons_zero, List.set_cons_succ]
  refine wpAnyH_done (by kernel_rfl) ?_ _
  exact hK _ _ _ _ _ _ _ _ _ _ _ _ _ _ _ _ _ _ _ _ z2
end Go.Proofs.Ytccmehbdnnelhaa
