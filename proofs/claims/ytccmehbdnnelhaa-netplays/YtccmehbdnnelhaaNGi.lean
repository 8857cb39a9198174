/- NetPlays: step, what was taken. Written by gen_nst.py. -/
import Derived.Test.YtccmehbdnnelhaaNGh
import Derived.Test.YtccmehbdnnelhaaText
namespace Go.Proofs.Ytccmehbdnnelhaa
open Go.RowKit Go.Maps Go.Shelf
attribute [local go_sem] Oper.semAt_some
set_option linter.unusedVariables false

/-- A region that draws its order, of which no operation panics. -/
theorem wp_region_calmN {P : Program} {ops : Array Oper} {Q : Exit → Act → World → Prop} {S : World → Prop} {id : Nat} {K : Act → World → Prop} {a : Act} {w : World} (hm : P.follows .mixedOrders = true) (hS : S w.drew)
    (h : S w.drew → wpAnyH P .any ops (Exit.then K (fun _ _ _ => False)) S ops.size (Array.replicate ops.size false) a w.drew) : (Code.region id ops true).wp P (Exit.then K Q) a w :=
  Code.wp_mono (fun e a w h => by cases e <;> first | exact h | exact h.elim) (wp_region_held_drew hm hS h)
set_option maxRecDepth 100000 in
set_option maxHeartbeats 4000000 in
theorem ns_r13 (X : World) (A B : Nat) (x f n : Int) (a1 a2 : Option Addr) (c1 c2 : Nat) (b : List (BitVec 8)) (s0 s1 s2 s3 s4 s5 s6 s7 s8 s9 s14 s15 s16 s17 s18 s19 s20 s21 s22 s23 s24 s25 s26 s27 s28 s29 s30 s31 s32 s33 s34 s35 s36 s37 s38 s39 s40 s41 s42 s43 s44 s45 s46 s47 s48 s49 s50 s51 s52 s53 s54 s55 s56 s57 s58 s59 s60 s61 s62 s63 s64 s65 s66 s67 s68 s69 s70 s71 s72 s73 s74 s75 s76 s77 s78 s79 s80 s81 s82 s83 s84 s85 s86 s87 s88 s89 s90 s91 s92 s93 s94 s95 s96 s97 s98 s99 s100 s101 s102 s103 s104 s105 s106 s107 s108 s109 s110 s111 s112 s113 s114 s115 s116 s117 s118 s119 s120 s121 s122 s123 s124 s125 : Value)
    (hA : X.heap[A]? = some (.cells #[.int .i64 f, .int .i64 n, .slice a1 b.length c1] 45 (0, 0))) (hB : X.heap[B]? = some (.cells #[.int .i64 f, .int .i64 n, .slice a2 b.length c2] 48 (0, 0))) (h1 : Seen X a1 b.length b) (h2 : Seen X a2 b.length b)
    (K : Act → World → Prop) (Q : Exit → Act → World → Prop)
    (hK : ∀ (u69 u70 u71 u72 u73 u74 u75 u76 u77 : Value) (Y : World), Below X.heap.size X Y → K { tmps := #[s0, s1, s2, s3, s4, s5, s6, s7, s8, s9, .pointer (some ⟨A, 0, none⟩), .int .i64 x, .pointer (some ⟨B, 0, none⟩), .int .i64 x, .bool true, s15, s16, s17, s18, s19, s20, s21, s22, s23, s24, s25, s26, s27, s28, s29, s30, s31, s32, s33, s34, s35, s36, s37, s38, s39, s40, s41, s42, s43, s44, s45, s46, s47, s48, s49, s50, s51, s52, s53, s54, s55, s56, s57, s58, s59, s60, s61, s62, s63, s64, s65, s66, s67, s68, u69, u70, u71, u72, u73, u74, u75, u76, u77, s78, s79, s80, s81, s82, s83, s84, s85, s86, s87, s88, s89, s90, s91, s92, s93, s94, s95, s96, s97, s98, s99, s100, s101, s102, s103, s104, s105, s106, s107, s108, s109, s110, s111, s112, s113, s114, s115, s116, s117, s118, s119, s120, s121, s122, s123, s124, s125], defers := [] } Y) :
    (Code.region 13 #[{ dst := some 69, op := Go.Op.load 45 (Go.Operand.tmp 10), type := 45, pos := "law.go:48", after := #[], guard := none }, { dst := some 70, op := Go.Op.call { callee := Go.Callee.value (Go.Operand.func 16), args := #[Go.Operand.tmp 69], argTypes := #[45] }, type := 48, pos := "law.go:48", after := #[{ on := 0, ground := Go.Ground.data }], guard := none }, { dst := some 71, op := Go.Op.load 48 (Go.Operand.tmp 12), type := 48, pos := "law.go:48", after := #[], guard := none }, { dst := some 72, op := Go.Op.call { callee := Go.Callee.value (Go.Operand.func 15), args := #[Go.Operand.tmp 70, Go.Operand.tmp 71], argTypes := #[48, 48] }, type := 4, pos := "law.go:48", after := #[{ on := 1, ground := Go.Ground.data }, { on := 2, ground := Go.Ground.data }, { on := 1, ground := Go.Ground.chain }], guard := none }, { dst := some 73, op := Go.Op.move (Go.Operand.tmp 72), type := 4, pos := "law.go:48", after := #[{ on := 3, ground := Go.Ground.data }, { on := 3, ground := Go.Ground.chain }], guard := none }, { dst := some 74, op := Go.Op.move (Go.Operand.tmp 11), type := 40, pos := "law.go:48", after := #[{ on := 4, ground := Go.Ground.guard }], guard := some (4, true) }, { dst := some 75, op := Go.Op.move (Go.Operand.tmp 13), type := 40, pos := "law.go:48", after := #[{ on := 4, ground := Go.Ground.guard }], guard := some (4, true) }, { dst := some 76, op := Go.Op.binOp Go.BinOp.eql 40 (Go.Operand.tmp 74) (Go.Operand.tmp 75) 40, type := 4, pos := "law.go:48", after := #[{ on := 5, ground := Go.Ground.data }, { on := 6, ground := Go.Ground.data }, { on := 4, ground := Go.Ground.guard }], guard := some (4, true) }, { dst := some 77, op := Go.Op.pick (Go.Operand.tmp 73) (Go.Operand.tmp 76) (Go.Operand.const (Go.Value.bool false)), type := 4, pos := "law.go:48", after := #[{ on := 4, ground := Go.Ground.data }, { on := 7, ground := Go.Ground.data }], guard := none }, { dst := some 14, op := Go.Op.assign (Go.Operand.tmp 77), type := 4, pos := "law.go:48", after := #[{ on := 8, ground := Go.Ground.data }, { on := 4, ground := Go.Ground.chain }, { on := 0, ground := Go.Ground.phase }, { on := 1, ground := Go.Ground.phase }, { on := 2, ground := Go.Ground.phase }, { on := 3, ground := Go.Ground.phase }, { on := 4, ground := Go.Ground.phase }, { on := 5, ground := Go.Ground.phase }, { on := 6, ground := Go.Ground.phase }, { on := 7, ground := Go.Ground.phase }, { on := 8, ground := Go.Ground.phase }], guard := none }] true).wp Try.prog (Exit.then K Q) { tmps := #[s0, s1, s2, s3, s4, s5, s6, s7, s8, s9, .pointer (some ⟨A, 0, none⟩), .int .i64 x, .pointer (some ⟨B, 0, none⟩), .int .i64 x, s14, s15, s16, s17, s18, s19, s20, s21, s22, s23, s24, s25, s26, s27, s28, s29, s30, s31, s32, s33, s34, s35, s36, s37, s38, s39, s40, s41, s42, s43, s44, s45, s46, s47, s48, s49, s50, s51, s52, s53, s54, s55, s56, s57, s58, s59, s60, s61, s62, s63, s64, s65, s66, s67, s68, s69, s70, s71, s72, s73, s74, s75, s76, s77, s78, s79, s80, s81, s82, s83, s84, s85, s86, s87, s88, s89, s90, s91, s92, s93, s94, s95, s96, s97, s98, s99, s100, s101, s102, s103, s104, s105, s106, s107, s108, s109, s110, s111, s112, s113, s114, s115, s116, s117, s118, s119, s120, s121, s122, s123, s124, s125], defers := [] } X := by
  have HA : Hid (∀ W, Below X.heap.size X W → W.heap[A]? = some (.cells #[.int .i64 f, .int .i64 n, .slice a1 b.length c1] 45 (0, 0))) := fun W q => (q.block _ (Array.getElem?_eq_some_iff.1 hA).1).trans hA
  have HB : Hid (∀ W, Below X.heap.size X W → W.heap[B]? = some (.cells #[.int .i64 f, .int .i64 n, .slice a2 b.length c2] 48 (0, 0))) := fun W q => (q.block _ (Array.getElem?_eq_some_iff.1 hB).1).trans hB
  have H1 : Hid (Seen X a1 b.length b ∧ Seen X a2 b.length b) := ⟨h1, h2⟩
  have k1 : (x == x) = true := by simp
  clear hA hB h1 h2
  refine wp_region_calmN (S := fun W => Below X.heap.size X W) (by kernel_rfl) (Below.refl _ X).drew (fun hHeld => ?_)
  refine take_row (i := 0) (oi := { dst := some 69, op := Go.Op.load 45 (Go.Operand.tmp 10), type := 45, pos := "law.go:48", after := #[], guard := none }) rfl (by kernel_rfl) (by kernel_rfl) (by kernel_rfl) 45 (.tmp 10) A 45 #[.int .i64 f, .int .i64 n, .slice a1 b.length c1] (0, 0) _ (fun _ _ _ h => h) (by rfl) rfl (by go_simp <;> with_reducible rfl) (fun W hW => HA.out W hW) Try.underlying45 rfl (by kernel_rfl) hHeld ?_
  try simp only [Act.put, List.setIfInBounds_toArray, List.set_cons_zero, List.set_cons_succ]
  refine take_row (i := 2) (oi := { dst := some 71, op := Go.Op.load 48 (Go.Operand.tmp 12), type := 48, pos := "law.go:48", after := #[], guard := none }) rfl (by kernel_rfl) (by kernel_rfl) (by kernel_rfl) 48 (.tmp 12) B 48 #[.int .i64 f, .int .i64 n, .slice a2 b.length c2] (0, 0) _ (fun _ _ _ h => h) (by rfl) rfl (by go_simp <;> with_reducible rfl) (fun W hW => HB.out W hW) Try.underlying48 rfl (by kernel_rfl) hHeld ?_
  try simp only [Act.put, List.setIfInBounds_toArray, List.set_cons_zero, List.set_cons_succ]
  refine take_call (i := 1) (oi := { dst := some 70, op := Go.Op.call { callee := Go.Callee.value (Go.Operand.func 16), args := #[Go.Operand.tmp 69], argTypes := #[45] }, type := 48, pos := "law.go:48", after := #[{ on := 0, ground := Go.Ground.data }], guard := none }) rfl (by kernel_rfl) (by rfl) 16 _ (by go_simp <;> with_reducible rfl) ?_
  refine (asN_any f n a1 b.length c1 _).mono ?_
  rintro e x1 ⟨rfl, y1⟩
  have z1 : Below X.heap.size X x1 := Below.trans hHeld (y1.mono (Below.size hHeld))
  refine ⟨_, rfl, z1, ?_⟩
  try simp only [Act.put, List.setIfInBounds_toArray, List.set_cons_zero, List.set_cons_succ]
  refine take_call (i := 3) (oi := { dst := some 72, op := Go.Op.call { callee := Go.Callee.value (Go.Operand.func 15), args := #[Go.Operand.tmp 70, Go.Operand.tmp 71], argTypes := #[48, 48] }, type := 4, pos := "law.go:48", after := #[{ on := 1, ground := Go.Ground.data }, { on := 2, ground := Go.Ground.data }, { on := 1, ground := Go.Ground.chain }], guard := none }) rfl (by kernel_rfl) (by rfl) 15 _ (by go_simp <;> with_reducible rfl) ?_
  refine (sameN_any f n a1 a2 c1 c2 b _ (H1.out.1.below z1) (H1.out.2.below z1)).mono ?_
  rintro e x2 ⟨rfl, y2⟩
  have z2 : Below X.heap.size X x2 := Below.trans z1 (y2.mono z1.size)
  refine ⟨_, rfl, z2, ?_⟩
  try simp only [Act.put, List.setIfInBounds_toArray, List.set_cons_zero, List.set_cons_succ]
  refine take_run (i := 4) (oi := { dst := some 73, op := Go.Op.move (Go.Operand.tmp 72), type := 4, pos := "law.go:48", after := #[{ on := 3, ground := Go.Ground.data }, { on := 3, ground := Go.Ground.chain }], guard := none }) (v := .bool true) rfl (by kernel_rfl) (by kernel_rfl) (by kernel_rfl) (fun _ _ _ h => h) (by rfl) ?_ z2 ?_
  · (intro wq hSw; go_simp <;> with_reducible rfl)
  try simp only [Act.put, List.setIfInBounds_toArray, List.set_cons_zero, List.set_cons_succ]
  refine take_run (i := 5) (oi := { dst := some 74, op := Go.Op.move (Go.Operand.tmp 11), type := 40, pos := "law.go:48", after := #[{ on := 4, ground := Go.Ground.guard }], guard := some (4, true) }) (v := .int .i64 x) rfl (by kernel_rfl) (by kernel_rfl) (by kernel_rfl) (fun _ _ _ h => h) (by rfl) ?_ z2 ?_
  · (intro wq hSw; go_simp <;> with_reducible rfl)
  try simp only [Act.put, List.setIfInBounds_toArray, List.set_cons_zero, List.set_cons_succ]
  refine take_run (i := 6) (oi := { dst := some 75, op := Go.Op.move (Go.Operand.tmp 13), type := 40, pos := "law.go:48", after := #[{ on := 4, ground := Go.Ground.guard }], guard := some (4, true) }) (v := .int .i64 x) rfl (by kernel_rfl) (by kernel_rfl) (by kernel_rfl) (fun _ _ _ h => h) (by rfl) ?_ z2 ?_
  · (intro wq hSw; go_simp <;> with_reducible rfl)
  try simp only [Act.put, List.setIfInBounds_toArray, List.set_cons_zero, List.set_cons_succ]
  refine take_run (i := 7) (oi := { dst := some 76, op := Go.Op.binOp Go.BinOp.eql 40 (Go.Operand.tmp 74) (Go.Operand.tmp 75) 40, type := 4, pos := "law.go:48", after := #[{ on := 5, ground := Go.Ground.data }, { on := 6, ground := Go.Ground.data }, { on := 4, ground := Go.Ground.guard }], guard := some (4, true) }) (v := .bool true) rfl (by kernel_rfl) (by kernel_rfl) (by kernel_rfl) (fun _ _ _ h => h) (by rfl) ?_ z2 ?_
  · (intro wq hSw; go_simp <;> with_reducible rfl)
  try simp only [Act.put, List.setIfInBounds_toArray, List.set_cons_zero, List.set_cons_succ]
  refine take_run (i := 8) (oi := { dst := some 77, op := Go.Op.pick (Go.Operand.tmp 73) (Go.Operand.tmp 76) (Go.Operand.const (Go.Value.bool false)), type := 4, pos := "law.go:48", after := #[{ on := 4, ground := Go.Ground.data }, { on := 7, ground := Go.Ground.data }], guard := none }) (v := .bool true) rfl (by kernel_rfl) (by kernel_rfl) (by kernel_rfl) (fun _ _ _ h => h) (by rfl) ?_ z2 ?_
  · (intro wq hSw; go_simp <;> with_reducible rfl)
  try simp only [Act.put, List.setIfInBounds_toArray, List.set_cons_zero, List.set_cons_succ]
  refine take_run (i := 9) (oi := { dst := some 14, op := Go.Op.assign (Go.Operand.tmp 77), type := 4, pos := "law.go:48", after := #[{ on := 8, ground := Go.Ground.data }, { on := 4, ground := Go.Ground.chain }, { on := 0, ground := Go.Ground.phase }, { on := 1, ground := Go.Ground.phase }, { on := 2, ground := Go.Ground.phase }, { on := 3, ground := Go.Ground.phase }, { on := 4, ground := Go.Ground.phase }, { on := 5, ground := Go.Ground.phase }, { on := 6, ground := Go.Ground.phase }, { on := 7, ground := Go.Ground.phase }, { on := 8, ground := Go.Ground.phase }], guard := none }) (v := .bool true) rfl (by kernel_rfl) (by kernel_rfl) (by kernel_rfl) (fun _ _ _ h => h) (by rfl) ?_ z2 ?_
  · (intro wq hSw; go_simp <;> with_reducible rfl)
  try simp only [Act.put, List.setIfInBounds_toArray, List.set_cons_zero, List.set_cons_succ]
  refine wpAnyH_done (by kernel_rfl) ?_ _
  exact hK _ _ _ _ _ _ _ _ _ _ z2
end Go.Proofs.Ytccmehbdnnelhaa

namespace Go.Proofs.Ytccmehbdnnelhaa
open Go.RowKit Go.Maps Go.Shelf
attribute [local go_sem] Oper.semAt_some
set_option linter.unusedVariables false

theorem tOp1 : (32 : TypeId) ≠ 69 := by decide
theorem tOp2 : (32 : TypeId) ≠ 38 := by decide
theorem tOp3 : (32 : TypeId) ≠ 48 := by decide
theorem tOp4 : (32 : TypeId) ≠ 28 := by decide
/-- A block of cells of another type stays under a net's calls, and under the reference's. -/
theorem NKeep.cells {base : Nat} {w w' : World} (k : NKeep base w w') {B : Nat} {cs : Array Value} {t : TypeId} (h : w.heap[B]? = some (.cells cs t (0, 0))) (h1 : t ≠ 69) (h2 : t ≠ 38) : w'.heap[B]? = some (.cells cs t (0, 0)) := (k.2.2 _ _ _ _ h h1 h2).trans h
theorem RKeep.cells {base : Nat} {w w' : World} (k : RKeep base w w') {B : Nat} {cs : Array Value} {t : TypeId} (h : w.heap[B]? = some (.cells cs t (0, 0))) (h1 : t ≠ 48) (h2 : t ≠ 28) : w'.heap[B]? = some (.cells cs t (0, 0)) :=
  (k.2.2 _ _ h (fun cs z e => by injection e with _ e _; exact h1 e) (fun cs z e => by injection e with _ e _; exact h2 e)).trans h
set_option maxRecDepth 100000 in
set_option maxHeartbeats 4000000 in
theorem ns_r20 (w0 X : World) (N R T B : Nat) (L : List Post) (ms : List OpN) (n : Int) (hD : Du w0 X N R T L ms) (hT : T ≤ 100000000000) (cs : Array Value) (s2 s3 s4 s6 s7 s8 s9 s10 s11 s12 s13 s14 s15 s16 s17 s18 s19 s20 s21 s22 s23 s24 s25 s26 s27 s28 s29 s30 s31 s32 s33 s34 s35 s36 s37 s38 s39 s40 s41 s42 s43 s44 s45 s46 s47 s48 s49 s50 s51 s52 s53 s54 s55 s56 s57 s58 s59 s60 s61 s62 s63 s64 s65 s66 s67 s68 s69 s70 s71 s72 s73 s74 s75 s76 s77 s78 s79 s80 s81 s82 s83 s84 s85 s86 s87 s88 s89 s90 s91 s92 s93 s94 s95 s96 s97 s98 s99 s100 s101 s102 s103 s104 s105 s106 s107 s108 s109 s110 s111 s112 s113 s114 s115 s116 s117 s118 s119 s120 s121 s122 s123 s124 s125 : Value) (hB : X.heap[B]? = some (.cells cs 32 (0, 0))) (h2 : cs[2]? = some (.int .i64 n))
    (K : Act → World → Prop) (Q : Exit → Act → World → Prop)
    (hK : ∀ (u99 u100 u101 u102 u103 u104 u105 u106 u107 : Value) (L' : List Post) (ms' : List OpN) (T' : Nat) (Y : World), T' ≤ T + 1 → Du w0 Y N R T' L' ms' → K { tmps := #[.pointer (some ⟨N, 0, none⟩), .pointer (some ⟨R, 0, none⟩), s2, s3, s4, .pointer (some ⟨B, 0, none⟩), .bool true, s7, s8, s9, s10, s11, s12, s13, s14, s15, s16, s17, s18, s19, s20, s21, s22, s23, s24, s25, s26, s27, s28, s29, s30, s31, s32, s33, s34, s35, s36, s37, s38, s39, s40, s41, s42, s43, s44, s45, s46, s47, s48, s49, s50, s51, s52, s53, s54, s55, s56, s57, s58, s59, s60, s61, s62, s63, s64, s65, s66, s67, s68, s69, s70, s71, s72, s73, s74, s75, s76, s77, s78, s79, s80, s81, s82, s83, s84, s85, s86, s87, s88, s89, s90, s91, s92, s93, s94, s95, s96, s97, s98, u99, u100, u101, u102, u103, u104, u105, u106, u107, s108, s109, s110, s111, s112, s113, s114, s115, s116, s117, s118, s119, s120, s121, s122, s123, s124, s125], defers := [] } Y) :
    (Code.region 20 #[{ dst := some 99, op := Go.Op.move (Go.Operand.tmp 0), type := 23, pos := "law.go:55", after := #[], guard := none }, { dst := some 100, op := Go.Op.fieldAddr 32 (Go.Operand.tmp 5) 2, type := 0, pos := "law.go:55", after := #[], guard := none }, { dst := some 101, op := Go.Op.load 3 (Go.Operand.tmp 100), type := 3, pos := "law.go:55", after := #[{ on := 1, ground := Go.Ground.data }], guard := none }, { dst := some 102, op := Go.Op.call { callee := Go.Callee.value (Go.Operand.func 18), args := #[Go.Operand.tmp 99, Go.Operand.tmp 101], argTypes := #[23, 3] }, type := 40, pos := "law.go:55", after := #[{ on := 0, ground := Go.Ground.data }, { on := 2, ground := Go.Ground.data }], guard := none }, { dst := some 103, op := Go.Op.move (Go.Operand.tmp 1), type := 25, pos := "law.go:55", after := #[], guard := none }, { dst := some 104, op := Go.Op.fieldAddr 32 (Go.Operand.tmp 5) 2, type := 0, pos := "law.go:55", after := #[], guard := none }, { dst := some 105, op := Go.Op.load 3 (Go.Operand.tmp 104), type := 3, pos := "law.go:55", after := #[{ on := 5, ground := Go.Ground.data }], guard := none }, { dst := some 106, op := Go.Op.call { callee := Go.Callee.value (Go.Operand.func 19), args := #[Go.Operand.tmp 103, Go.Operand.tmp 105], argTypes := #[25, 3] }, type := 40, pos := "law.go:55", after := #[{ on := 4, ground := Go.Ground.data }, { on := 6, ground := Go.Ground.data }, { on := 3, ground := Go.Ground.chain }], guard := none }, { dst := some 107, op := Go.Op.binOp Go.BinOp.eql 40 (Go.Operand.tmp 102) (Go.Operand.tmp 106) 40, type := 4, pos := "law.go:55", after := #[{ on := 3, ground := Go.Ground.data }, { on := 7, ground := Go.Ground.data }], guard := none }, { dst := some 6, op := Go.Op.assign (Go.Operand.tmp 107), type := 4, pos := "law.go:55", after := #[{ on := 8, ground := Go.Ground.data }, { on := 7, ground := Go.Ground.chain }, { on := 0, ground := Go.Ground.phase }, { on := 1, ground := Go.Ground.phase }, { on := 2, ground := Go.Ground.phase }, { on := 3, ground := Go.Ground.phase }, { on := 4, ground := Go.Ground.phase }, { on := 5, ground := Go.Ground.phase }, { on := 6, ground := Go.Ground.phase }, { on := 7, ground := Go.Ground.phase }, { on := 8, ground := Go.Ground.phase }], guard := none }] true).wp Try.prog (Exit.then K Q) { tmps := #[.pointer (some ⟨N, 0, none⟩), .pointer (some ⟨R, 0, none⟩), s2, s3, s4, .pointer (some ⟨B, 0, none⟩), s6, s7, s8, s9, s10, s11, s12, s13, s14, s15, s16, s17, s18, s19, s20, s21, s22, s23, s24, s25, s26, s27, s28, s29, s30, s31, s32, s33, s34, s35, s36, s37, s38, s39, s40, s41, s42, s43, s44, s45, s46, s47, s48, s49, s50, s51, s52, s53, s54, s55, s56, s57, s58, s59, s60, s61, s62, s63, s64, s65, s66, s67, s68, s69, s70, s71, s72, s73, s74, s75, s76, s77, s78, s79, s80, s81, s82, s83, s84, s85, s86, s87, s88, s89, s90, s91, s92, s93, s94, s95, s96, s97, s98, s99, s100, s101, s102, s103, s104, s105, s106, s107, s108, s109, s110, s111, s112, s113, s114, s115, s116, s117, s118, s119, s120, s121, s122, s123, s124, s125], defers := [] } X := by
  have hD' := hD.below (Below.refl _ X).drew
  have HN := doubleD hD'.net n hT
  have HD : Hid (Du w0 X.drew N R T L ms) := hD'
  have hB' : X.drew.heap[B]? = some (.cells cs 32 (0, 0)) := hB
  have HB : Hid (X.drew.heap[B]? = some (.cells cs 32 (0, 0))) := hB'
  have HC : Hid (∀ W : World, W.heap[B]? = some (.cells cs 32 (0, 0)) → W.cell? ⟨B, 2, none⟩ = some (.int .i64 n)) := fun W hW => by simp only [World.cell?, hW]; exact h2
  clear hD hD' hB hB' h2
  refine wp_region_calmN (S := fun W => W.heap[B]? = some (.cells cs 32 (0, 0))) (by kernel_rfl) HB.out (fun hHeld => ?_)
  refine take_run (i := 0) (oi := { dst := some 99, op := Go.Op.move (Go.Operand.tmp 0), type := 23, pos := "law.go:55", after := #[], guard := none }) (v := .pointer (some ⟨N, 0, none⟩)) rfl (by kernel_rfl) (by kernel_rfl) (by kernel_rfl) (fun _ _ _ h => h) (by rfl) ?_ hHeld ?_
  · (intro wq hSw; go_simp <;> with_reducible rfl)
  try simp only [Act.put, List.setIfInBounds_toArray, List.set_cons_zero, List.set_cons_succ]
  refine take_run (i := 1) (oi := { dst := some 100, op := Go.Op.fieldAddr 32 (Go.Operand.tmp 5) 2, type := 0, pos := "law.go:55", after := #[], guard := none }) (v := .pointer (some ⟨B, 2, none⟩)) rfl (by kernel_rfl) (by kernel_rfl) (by kernel_rfl) (fun _ _ _ h => h) (by rfl) ?_ hHeld ?_
  · (intro wq hSw; go_simp <;> with_reducible rfl)
  try simp only [Act.put, List.setIfInBounds_toArray, List.set_cons_zero, List.set_cons_succ]
  refine take_run (i := 2) (oi := { dst := some 101, op := Go.Op.load 3 (Go.Operand.tmp 100), type := 3, pos := "law.go:55", after := #[{ on := 1, ground := Go.Ground.data }], guard := none }) (v := .int .i64 n) rfl (by kernel_rfl) (by kernel_rfl) (by kernel_rfl) (fun _ _ _ h => h) (by rfl) ?_ hHeld ?_
  · (intro wq hSw; have c0 := HC.out wq hSw; go_simp <;> with_reducible rfl)
  try simp only [Act.put, List.setIfInBounds_toArray, List.set_cons_zero, List.set_cons_succ]
  refine take_run (i := 4) (oi := { dst := some 103, op := Go.Op.move (Go.Operand.tmp 1), type := 25, pos := "law.go:55", after := #[], guard := none }) (v := .pointer (some ⟨R, 0, none⟩)) rfl (by kernel_rfl) (by kernel_rfl) (by kernel_rfl) (fun _ _ _ h => h) (by rfl) ?_ hHeld ?_
  · (intro wq hSw; go_simp <;> with_reducible rfl)
  try simp only [Act.put, List.setIfInBounds_toArray, List.set_cons_zero, List.set_cons_succ]
  refine take_run (i := 5) (oi := { dst := some 104, op := Go.Op.fieldAddr 32 (Go.Operand.tmp 5) 2, type := 0, pos := "law.go:55", after := #[], guard := none }) (v := .pointer (some ⟨B, 2, none⟩)) rfl (by kernel_rfl) (by kernel_rfl) (by kernel_rfl) (fun _ _ _ h => h) (by rfl) ?_ hHeld ?_
  · (intro wq hSw; go_simp <;> with_reducible rfl)
  try simp only [Act.put, List.setIfInBounds_toArray, List.set_cons_zero, List.set_cons_succ]
  refine take_run (i := 6) (oi := { dst := some 105, op := Go.Op.load 3 (Go.Operand.tmp 104), type := 3, pos := "law.go:55", after := #[{ on := 5, ground := Go.Ground.data }], guard := none }) (v := .int .i64 n) rfl (by kernel_rfl) (by kernel_rfl) (by kernel_rfl) (fun _ _ _ h => h) (by rfl) ?_ hHeld ?_
  · (intro wq hSw; have c0 := HC.out wq hSw; go_simp <;> with_reducible rfl)
  try simp only [Act.put, List.setIfInBounds_toArray, List.set_cons_zero, List.set_cons_succ]
  refine take_call (i := 3) (oi := { dst := some 102, op := Go.Op.call { callee := Go.Callee.value (Go.Operand.func 18), args := #[Go.Operand.tmp 99, Go.Operand.tmp 101], argTypes := #[23, 3] }, type := 40, pos := "law.go:55", after := #[{ on := 0, ground := Go.Ground.data }, { on := 2, ground := Go.Ground.data }], guard := none }) rfl (by kernel_rfl) (by rfl) 18 _ (by go_simp <;> with_reducible rfl) ?_
  refine HN.mono ?_
  clear HN
  rintro e x1 ⟨rfl, d1⟩
  have k1 := d1.keep.cells HB.out tOp1 tOp2
  obtain ⟨v, hr⟩ := HD.out.ref
  have HM := rdoubleD (hr.nk d1.keep) n
  have D1 : Hid (DblL w0.heap.size N T L n X.drew x1) := d1
  rw [HD.out.tw.1]
  generalize errD n ms.length = er at *
  have kk : (er == er) = true := by simp
  clear d1 hr
  refine ⟨_, rfl, k1, ?_⟩
  try simp only [Act.put, List.setIfInBounds_toArray, List.set_cons_zero, List.set_cons_succ]
  refine take_call (i := 7) (oi := { dst := some 106, op := Go.Op.call { callee := Go.Callee.value (Go.Operand.func 19), args := #[Go.Operand.tmp 103, Go.Operand.tmp 105], argTypes := #[25, 3] }, type := 40, pos := "law.go:55", after := #[{ on := 4, ground := Go.Ground.data }, { on := 6, ground := Go.Ground.data }, { on := 3, ground := Go.Ground.chain }], guard := none }) rfl (by kernel_rfl) (by rfl) 19 _ (by go_simp <;> with_reducible rfl) ?_
  refine HM.mono ?_
  clear HM
  rintro e x2 ⟨rfl, d2⟩
  have k2 := d2.keep.cells k1 tOp3 tOp4
  have D2 : Hid (DblM w0.heap.size R ms n x1 x2) := d2
  clear d2
  refine ⟨_, rfl, k2, ?_⟩
  try simp only [Act.put, List.setIfInBounds_toArray, List.set_cons_zero, List.set_cons_succ]
  refine take_run (i := 8) (oi := { dst := some 107, op := Go.Op.binOp Go.BinOp.eql 40 (Go.Operand.tmp 102) (Go.Operand.tmp 106) 40, type := 4, pos := "law.go:55", after := #[{ on := 3, ground := Go.Ground.data }, { on := 7, ground := Go.Ground.data }], guard := none }) (v := .bool true) rfl (by kernel_rfl) (by kernel_rfl) (by kernel_rfl) (fun _ _ _ h => h) (by rfl) ?_ k2 ?_
  · (intro wq hSw; go_simp <;> with_reducible rfl)
  try simp only [Act.put, List.setIfInBounds_toArray, List.set_cons_zero, List.set_cons_succ]
  refine take_run (i := 9) (oi := { dst := some 6, op := Go.Op.assign (Go.Operand.tmp 107), type := 4, pos := "law.go:55", after := #[{ on := 8, ground := Go.Ground.data }, { on := 7, ground := Go.Ground.chain }, { on := 0, ground := Go.Ground.phase }, { on := 1, ground := Go.Ground.phase }, { on := 2, ground := Go.Ground.phase }, { on := 3, ground := Go.Ground.phase }, { on := 4, ground := Go.Ground.phase }, { on := 5, ground := Go.Ground.phase }, { on := 6, ground := Go.Ground.phase }, { on := 7, ground := Go.Ground.phase }, { on := 8, ground := Go.Ground.phase }], guard := none }) (v := .bool true) rfl (by kernel_rfl) (by kernel_rfl) (by kernel_rfl) (fun _ _ _ h => h) (by rfl) ?_ k2 ?_
  · (intro wq hSw; go_simp <;> with_reducible rfl)
  try simp only [Act.put, List.setIfInBounds_toArray, List.set_cons_zero, List.set_cons_succ]
  refine wpAnyH_done (by kernel_rfl) ?_ _
  obtain ⟨L', ms', T', hT', hD'⟩ := du_dbl HD.out D1.out D2.out
  exact hK _ _ _ _ _ _ _ _ _ _ _ _ _ hT' hD'
end Go.Proofs.Ytccmehbdnnelhaa

namespace Go.Proofs.Ytccmehbdnnelhaa
open Go.RowKit
set_option linter.unusedVariables false
/-- Count: a number from 0 to one less than m. -/
theorem count_any (n m : Int) (w : World) (h0 : -9223372036854775808 ≤ n) (h1 : n ≤ 9223372036854775807) (hm : 0 < m) (hm2 : m ≤ 4611686018427387904) :
    Calls Try.prog 20 #[.int .i64 n, .int .i64 m] w fun e w' => e = .returned (.int .i64 (n % m)) ∧ w' = w := by
  have hq := Int.tmod_add_mul_tdiv n m
  have hb1 : (n.tmod m).natAbs < m.natAbs := by rw [Int.natAbs_tmod]; exact Nat.mod_lt _ (by omega)
  have hb2 : -m < n.tmod m := by omega
  have hb3 : n.tmod m < m := by omega
  generalize n.tdiv m = q at *
  obtain ⟨t, ht⟩ : ∃ t, n.tmod m = t := ⟨_, rfl⟩
  rw [ht] at hq hb2 hb3
  clear hb1
  rcases Int.lt_or_le t 0 with h | h
  · have he : Hid (n % m = t + m) := by
      show n % m = t + m
      rw [← hq, Int.add_mul_emod_self_left, ← Int.add_emod_right]
      exact Int.emod_eq_of_lt (by omega) (by omega)
    clear hq
    go_enter Try.func20, Try.ntmps20
    go_wp2
    go_ret
    rw [he.out]
    exact ⟨rfl, rfl⟩
  · have he : Hid (n % m = t) := by
      show n % m = t
      rw [← hq, Int.add_mul_emod_self_left]
      exact Int.emod_eq_of_lt (by omega) (by omega)
    clear hq
    go_enter Try.func20, Try.ntmps20
    go_wp2
    go_ret
    rw [he.out]
    exact ⟨rfl, rfl⟩
end Go.Proofs.Ytccmehbdnnelhaa

namespace Go.Proofs.Ytccmehbdnnelhaa
open Go.RowKit Go.Maps Go.Shelf
attribute [local go_sem] Oper.semAt_some
set_option linter.unusedVariables false

theorem owns_lessN {w : World} {base g n c : Nat} {l : List (BitVec 8)} {x : BitVec 8} (h : w.ownsRow base 5 1 (.slice (some ⟨g, 0, none⟩) (n + 1) c) (n + 1) (cellsOf (l ++ [x]))) (hl : l.length = n) : w.ownsRow base 5 1 (.slice (some ⟨g, 0, none⟩) n c) n (cellsOf l) := by
  rcases h.2 with ⟨e, _⟩ | ⟨g', c', cur, e, hb, hg, hnc, hcm, hcs, htake⟩
  · cases e
  · cases e
    refine ⟨by rw [cellsOf_length]; omega, .inr ⟨g, c, cur, rfl, hb, hg, by omega, hcm, hcs, ?_⟩⟩
    have := congrArg (List.take n) htake
    rw [List.take_take, cellsOf_append, List.take_left' (by rw [cellsOf_length]; exact hl)] at this
    simpa [Nat.min_eq_left (Nat.le_succ n)] using this
section
variable {w w' w1 : World} {base N R T : Nat} {L : List Post} {ms : List OpN} {v : Value}
theorem SentN.keep {fr to : Int} {b : List (BitVec 8)} (h : SentN base N T L fr to b w w') : NKeep base w w' := by
  rcases h with ⟨_, _, h⟩ | ⟨_, _, _, h, _⟩ <;> exact h
theorem SentR.keep {fr to : Int} {b : List (BitVec 8)} (h : SentR base R ms fr to b w w') : RKeep base w w' := by
  rcases h with ⟨_, _, h⟩ | ⟨_, _, _, _, _, h, _⟩ <;> exact h
theorem own8_nk {B n : Nat} {xs : List Value} (o : w.ownsRow B 5 1 v n xs) (k : NKeep base w w') : w'.ownsRow B 5 1 v n xs := owns_kept o (fun g e => by obtain ⟨cur, hc⟩ := row_kind o e; exact k.2.2 g _ _ _ hc t5P t5N)
theorem own8_rk {B n : Nat} {xs : List Value} (o : w.ownsRow B 5 1 v n xs) (k : RKeep base w w') : w'.ownsRow B 5 1 v n xs := owns_kept o (fun g e => by obtain ⟨cur, hc⟩ := row_kind o e; exact k.2.2 g _ hc (fun cs z eq => by injection eq with _ eq _; exact absurd eq (by decide)) (fun cs z eq => by injection eq with _ eq _; exact absurd eq (by decide)))
theorem CutL.below {k : Int} (h : CutL base N T L k w w1) (b : Below w1.heap.size w1 w') : CutL base N T L k w w' := by
  rcases h with ⟨g, n, k1⟩ | ⟨i, hi, e, n, k1⟩
  · exact .inl ⟨g, n.below b, k1.trans (NKeep.of_below b n.size)⟩
  · exact .inr ⟨i, hi, e, n.below b, k1.trans (NKeep.of_below b n.size)⟩
theorem RefIn.size (h : RefIn w base R v ms) : base ≤ w.heap.size := Nat.le_of_lt (Nat.lt_of_le_of_lt h.bR h.lt)
theorem CutM.below {k : Int} (h : CutM base R ms k w w1) (b : Below w1.heap.size w1 w') : CutM base R ms k w w' := by
  rcases h with ⟨g, ⟨v, n⟩, k1⟩ | ⟨i, hi, e, ⟨v, n⟩, k1⟩
  · exact .inl ⟨g, ⟨v, n.below b⟩, k1.trans (RKeep.of_below b n.size)⟩
  · exact .inr ⟨i, hi, e, ⟨v, n.below b⟩, k1.trans (RKeep.of_below b n.size)⟩
end
theorem tNL1 : (45 : TypeId) ≠ 48 := by decide
theorem tNL2 : (45 : TypeId) ≠ 28 := by decide
/-- How much room there is, by the reference. -/
def roomR (R : Nat) (w : World) : Nat := match w.cell? ⟨R, 0, none⟩ with | some (.slice _ n _) => 10000 - n | _ => 0
theorem roomR_is {w : World} {base R : Nat} {v : Value} {ms : List OpN} (h : RefIn w base R v ms) : roomR R w = 10000 - ms.length := by
  obtain ⟨a, c, rfl⟩ := h.form
  unfold roomR
  rw [h.c0]
end Go.Proofs.Ytccmehbdnnelhaa
