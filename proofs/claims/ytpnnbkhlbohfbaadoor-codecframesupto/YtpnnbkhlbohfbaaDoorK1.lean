/- The reference's four; how first slices. -/
import Derived.Test.YtpnnbkhlbohfbaaDoorK2
import Derived.Test.YtpnnbkhlbohfbaaDoorK8
import Derived.Test.YtpnnbkhlbohfbaaDoorUnframe
import Derived.Test.YtpnnbkhlbohfbaaDoorRfS
import Derived.Test.YtpnnbkhlbohfbaaDoorSteps
import Derived.Test.YtpnnbkhlbohfbaaDoorRefS
namespace Go.Proofs.YtpnnbkhlbohfbaaDoor
open Go.RowKit Cod
set_option linter.unusedVariables false

theorem rfour_any (r : Crc.W) (w : World) : Calls Tryd.prog 46 #[.int .u32 (U r)] w fun e w' => e = .returned (.slice (some ⟨w.heap.size, 0, none⟩) 4 4) ∧ Seen w' (some ⟨w.heap.size, 0, none⟩) 4 (four r) ∧ Below w.heap.size w w' := by
  have e1 : (cellsOf (four r)).toArray = #[.int .u8 (U r % 256), .int .u8 (U r / 256 % 256), .int .u8 (U r / 65536 % 256), .int .u8 (U r / 16777216 % 256)] := by
    simp only [cellsOf, four, List.map_cons, List.map_nil, V_of, U]
    simp
  have hs := seen_new w (four r) 5 (0, 0) (by simp [maxLen, four])
  have e2 : w.alloc (.cells (cellsOf (four r)).toArray 5) = w.alloc (.cells #[.int .u8 (U r % 256), .int .u8 (U r / 256 % 256), .int .u8 (U r / 65536 % 256), .int .u8 (U r / 16777216 % 256)] 5) := by rw [e1]
  have b1 : Below w.heap.size w (w.alloc (.cells #[.int .u8 (U r % 256), .int .u8 (U r / 256 % 256), .int .u8 (U r / 65536 % 256), .int .u8 (U r / 16777216 % 256)] 5)) := (Below.refl _ w).alloc (Nat.le_refl _) _
  have HS : Hid (Seen (w.alloc (.cells #[.int .u8 (U r % 256), .int .u8 (U r / 256 % 256), .int .u8 (U r / 65536 % 256), .int .u8 (U r / 16777216 % 256)] 5)) (some ⟨w.heap.size, 0, none⟩) 4 (four r)) := by rw [← e2]; exact hs
  clear hs e1 e2
  go_enter Tryd.func46, Tryd.ntmps46
  go_wp2
  go_ret
  exact ⟨rfl, HS.out, b1⟩
/-- What first answers. -/
def FirstTold (w w' : World) (a : Option Addr) (l : List (BitVec 8)) (e : Ending) : Prop :=
  (cutWhy l ≠ 0 ∧ e = .returned (.tuple #[.slice none 0 0, .slice none 0 0, .int .i64 (cutWhy l)])) ∨
  (cutWhy l = 0 ∧ ∃ a3 n3 c3 a4 n4 c4, e = .returned (.tuple #[.slice a3 n3 c3, .slice a4 n4 c4, .int .i64 (if cutSum l = four (Crc.more 0#32 (cutBody l)) then 0 else 12)]) ∧ (Seen w a3 n3 (cutBody l) ∧ (a3 = none → c3 = 0) ∧ n3 ≤ c3 ∧ n3 ≤ 65536) ∧ (Seen w a4 n4 (cutRest l) ∧ (a4 = none → c4 = 0) ∧ n4 ≤ c4 ∧ n4 ≤ 140737488355328 ∧ ∀ y, a4 = some y → ∃ x, a = some x ∧ y.block = x.block))
set_option maxHeartbeats 800000 in
theorem first_bad (a : Option Addr) (len cap : Nat) (l : List (BitVec 8)) (w : World) (h : Seen w a len l) (hnil : a = none → cap = 0) (hm : len ≤ 140737488355328) (he : (num 0 0 l).2.2 ≠ 0) :
    Calls Tryd.prog 19 #[.slice a len cap] w fun e w' => e = .returned (.tuple #[.slice none 0 0, .slice none 0 0, .int .i64 ((num 0 0 l).2.2 : Nat)]) ∧ Below w.heap.size w w' := by
  have HO := refOf_any a len cap l w h hnil hm
  obtain ⟨n, wd, y, ht⟩ : ∃ n wd y, num 0 0 l = (n, wd, y) := ⟨_, _, _, rfl⟩
  rw [ht] at he ⊢
  simp only at he ⊢
  have hy' : ((y : Int) == 0) = false := by simpa using he
  have hy2 : ((y : Int) != 0) = true := by simpa using he
  have HT : Hid (rU l 0 0 = (n, wd, y)) := by show rU l 0 0 = _; simp [rU, ht]
  clear h hnil hm he ht
  go_enter Tryd.func19, Tryd.ntmps19
  go_wp2_with fail
  refine HO.mono ?_
  rintro e w1 ⟨R, rfl, hR, r1, b1⟩
  have HC := refRUint_any R w.heap.size w1.heap.size l 0 0 w1 r1
  rw [HT.out] at HC
  have B1 : Hid (Below w.heap.size w w1) := b1
  have HR : Hid (w.heap.size ≤ R) := hR
  clear HO r1 b1 hR
  go_wp2_with fail
  refine HC.mono ?_
  rintro e w2 ⟨rfl, r2, g2⟩
  obtain ⟨a2, cap2, c0, c1, c2, f1, _⟩ := r2.cells
  have B2 : Hid (Below w.heap.size w w2) := B1.out.grown g2 B1.out.size (fun k e => by cases e; exact HR.out)
  clear HC r2 g2
  go_wp2
  go_region
  go_wp2
  go_ret3
  exact ⟨rfl, Below.drew B2.out⟩
set_option maxHeartbeats 800000 in
theorem first_big (a : Option Addr) (len cap : Nat) (l : List (BitVec 8)) (n wd : Nat) (w : World) (h : Seen w a len l) (hnil : a = none → cap = 0) (hm : len ≤ 140737488355328) (ht : num 0 0 l = (n, wd, 0)) (hn : 65536 < n) :
    Calls Tryd.prog 19 #[.slice a len cap] w fun e w' => e = .returned (.tuple #[.slice none 0 0, .slice none 0 0, .int .i64 3]) ∧ Below w.heap.size w w' := by
  have HO := refOf_any a len cap l w h hnil hm
  have HT : Hid (rU l 0 0 = (n, wd, 0)) := by show rU l 0 0 = _; simp [rU, ht]
  have hn' : (65536 : Int) < n := by omega
  clear h hnil hm hn ht
  go_enter Tryd.func19, Tryd.ntmps19
  go_wp2_with fail
  refine HO.mono ?_
  rintro e w1 ⟨R, rfl, hR, r1, b1⟩
  have HC := refRUint_any R w.heap.size w1.heap.size l 0 0 w1 r1
  rw [HT.out] at HC
  have B1 : Hid (Below w.heap.size w w1) := b1
  have HR : Hid (w.heap.size ≤ R) := hR
  clear HO r1 b1 hR
  go_wp2_with fail
  refine HC.mono ?_
  rintro e w2 ⟨rfl, r2, g2⟩
  obtain ⟨a2, cap2, c0, c1, c2, f1, _⟩ := r2.cells
  have B2 : Hid (Below w.heap.size w w2) := B1.out.grown g2 B1.out.size (fun k e => by cases e; exact HR.out)
  clear HC r2 g2
  go_wp2
  go_ret3
  exact ⟨rfl, B2.out⟩
set_option maxHeartbeats 800000 in
theorem first_short (a : Option Addr) (len cap : Nat) (l : List (BitVec 8)) (n wd : Nat) (w : World) (h : Seen w a len l) (hnil : a = none → cap = 0) (hm : len ≤ 140737488355328) (ht : num 0 0 l = (n, wd, 0)) (hn : n ≤ 65536) (hsh : l.length < wd + 4 + n) :
    Calls Tryd.prog 19 #[.slice a len cap] w fun e w' => e = .returned (.tuple #[.slice none 0 0, .slice none 0 0, .int .i64 10]) ∧ Below w.heap.size w w' := by
  have HO := refOf_any a len cap l w h hnil hm
  have HT : Hid (rU l 0 0 = (n, wd, 0)) := by show rU l 0 0 = _; simp [rU, ht]
  have hwd : wd ≤ l.length := by have := num_width l 0 0; rw [ht] at this; simpa using this
  obtain rfl : len = l.length := h.1
  generalize l.length = len at *
  have hn' : ¬ (65536 : Int) < n := by omega
  have e1 : wrap64 ((len : Int) - (wd : Int)) = ((len - wd : Nat) : Int) := by unfold wrap64; omega
  clear h hnil hn ht
  go_enter Tryd.func19, Tryd.ntmps19
  go_wp2_with fail
  refine HO.mono ?_
  rintro e w1 ⟨R, rfl, hR, r1, b1⟩
  have HC := refRUint_any R w.heap.size w1.heap.size l 0 0 w1 r1
  rw [HT.out] at HC
  have B1 : Hid (Below w.heap.size w w1) := b1
  have HR : Hid (w.heap.size ≤ R) := hR
  clear HO r1 b1 hR
  go_wp2_with fail
  refine HC.mono ?_
  rintro e w2 ⟨rfl, r2, g2⟩
  obtain ⟨a2, cap2, c0, c1, c2, f1, _⟩ := r2.cells
  have B2 : Hid (Below w.heap.size w w2) := B1.out.grown g2 B1.out.size (fun k e => by cases e; exact HR.out)
  clear HC r2 g2
  by_cases h4 : len - wd < 4
  · have h4' : ((len - wd : Nat) : Int) < 4 := by omega
    clear hsh h4 hwd hm
    go_wp2
    go_ret3
    exact ⟨rfl, B2.out⟩
  · have h4' : ¬ ((len - wd : Nat) : Int) < 4 := by omega
    have e2 : wrap64 (((len - wd : Nat) : Int) - 4) = ((len - wd - 4 : Nat) : Int) := by unfold wrap64; omega
    have e3 : IntKind.u64.wrap ((len - wd - 4 : Nat) : Int) = ((len - wd - 4 : Nat) : Int) := by rw [IntKind.wrap_u64]; omega
    have h5 : ((len - wd - 4 : Nat) : Int) < (n : Int) := by omega
    have h6 : (len : Int) - (wd : Int) - 4 < (n : Int) := by omega
    have h7 : ¬ ((len : Int) - (wd : Int) < 4) := by omega
    have e4 : IntKind.u64.wrap ((len : Int) - (wd : Int) - 4) = (len : Int) - (wd : Int) - 4 := by rw [IntKind.wrap_u64]; omega
    clear hsh h4 hwd hm
    go_wp2
    go_ret3
    exact ⟨rfl, B2.out⟩
end Go.Proofs.YtpnnbkhlbohfbaaDoor

namespace Go.Proofs.YtpnnbkhlbohfbaaDoor
open Go.RowKit Cod
attribute [local go_sem] Oper.semAt_some
set_option linter.unusedVariables false

theorem wp_region_calmF {P : Program} {ops : Array Oper} {Q : Exit → Act → World → Prop} {S : World → Prop} {id : Nat} {K : Act → World → Prop} {a : Act} {w : World} (hm : P.follows .mixedOrders = true) (hS : S w.drew)
    (h : S w.drew → wpAnyH P .any ops (Exit.then K (fun _ _ _ => False)) S ops.size (Array.replicate ops.size false) a w.drew) : (Code.region id ops true).wp P (Exit.then K Q) a w :=
  Code.wp_mono (fun e a w h => by cases e <;> first | exact h | exact h.elim) (wp_region_held_drew hm hS h)
theorem exec_convF {P : Program} {a : Act} {o : Oper} {w : World} (t1 t2 : TypeId) (x : Operand) (u v : Value) (ho : o.op = .convert t1 t2 x) (hx : a.eval x = u) (hc : (convert t1 t2 u).run P w = .ok v w) : (execOp a.eval o).run P w = .ok (.value v) w := by
  unfold execOp
  simp only [ho, hx, Sem.run_bind, Sem.run_pure, Result.andThen_ok, hc]
set_option maxRecDepth 100000 in
set_option maxHeartbeats 4000000 in
theorem first_r12 (X : World) (a2 a3 : Option Addr) (n2 c2 n3 c3 : Nat) (S P : List (BitVec 8)) (bb : Bool) (s0 s1 s2 s3 s4 s5 s6 s9 s10 s11 s12 s13 s14 s15 s16 s17 s18 s19 s20 s21 s22 s23 s24 s25 s26 s27 s28 s29 s30 s31 s32 s33 s34 s35 s36 s37 s38 s39 s40 s41 s42 s43 s44 s45 s46 s47 s48 s49 s50 s51 s52 s53 s54 s55 s56 s57 s58 s59 s60 s61 s62 s63 s64 s65 s66 s67 s68 s69 s70 s71 s72 s73 s74 s75 s76 s77 s78 s79 s80 s81 s82 s83 s84 s85 s86 s87 s88 s89 s90 s91 s92 : Value) (h2 : Seen X a2 n2 S) (h3 : Seen X a3 n3 P) (hb : ((textOf S).toList == (textOf (four (Crc.more 0#32 P))).toList) = !bb)
    (K : Act → World → Prop) (Q : Exit → Act → World → Prop)
    (hK : ∀ (u82 u83 u84 u85 u86 u87 : Value) (Y : World), Below X.heap.size X Y → K { tmps := #[s0, s1, s2, s3, s4, s5, s6, .slice a2 n2 c2, .slice a3 n3 c3, s9, s10, s11, s12, s13, s14, s15, s16, s17, s18, s19, s20, s21, s22, s23, s24, s25, s26, s27, s28, s29, s30, s31, s32, s33, s34, s35, s36, s37, s38, s39, s40, s41, s42, s43, s44, s45, s46, s47, s48, s49, s50, s51, s52, s53, s54, s55, s56, s57, s58, s59, s60, s61, s62, s63, s64, s65, s66, s67, s68, s69, s70, s71, s72, s73, s74, s75, s76, s77, s78, s79, s80, s81, u82, u83, u84, u85, u86, u87, .bool bb, s89, s90, s91, s92], defers := [] } Y) :
    (Code.region 12 #[{ dst := some 82, op := Go.Op.move (Go.Operand.tmp 7), type := 22, pos := "ref.go:192", after := #[], guard := none }, { dst := some 83, op := Go.Op.convert 22 9 (Go.Operand.tmp 82), type := 9, pos := "ref.go:192", after := #[{ on := 0, ground := Go.Ground.data }], guard := none }, { dst := some 84, op := Go.Op.move (Go.Operand.tmp 8), type := 22, pos := "ref.go:192", after := #[], guard := none }, { dst := some 85, op := Go.Op.call { callee := Go.Callee.value (Go.Operand.func 47), args := #[Go.Operand.tmp 84], argTypes := #[22] }, type := 77, pos := "ref.go:192", after := #[{ on := 2, ground := Go.Ground.data }], guard := none }, { dst := some 86, op := Go.Op.call { callee := Go.Callee.value (Go.Operand.func 46), args := #[Go.Operand.tmp 85], argTypes := #[77] }, type := 22, pos := "ref.go:192", after := #[{ on := 3, ground := Go.Ground.data }, { on := 3, ground := Go.Ground.chain }], guard := none }, { dst := some 87, op := Go.Op.convert 22 9 (Go.Operand.tmp 86), type := 9, pos := "ref.go:192", after := #[{ on := 4, ground := Go.Ground.data }], guard := none }, { dst := some 88, op := Go.Op.binOp Go.BinOp.neq 9 (Go.Operand.tmp 83) (Go.Operand.tmp 87) 9, type := 4, pos := "ref.go:192", after := #[{ on := 1, ground := Go.Ground.data }, { on := 5, ground := Go.Ground.data }], guard := none }] true).wp Tryd.prog (Exit.then K Q) { tmps := #[s0, s1, s2, s3, s4, s5, s6, .slice a2 n2 c2, .slice a3 n3 c3, s9, s10, s11, s12, s13, s14, s15, s16, s17, s18, s19, s20, s21, s22, s23, s24, s25, s26, s27, s28, s29, s30, s31, s32, s33, s34, s35, s36, s37, s38, s39, s40, s41, s42, s43, s44, s45, s46, s47, s48, s49, s50, s51, s52, s53, s54, s55, s56, s57, s58, s59, s60, s61, s62, s63, s64, s65, s66, s67, s68, s69, s70, s71, s72, s73, s74, s75, s76, s77, s78, s79, s80, s81, s82, s83, s84, s85, s86, s87, s88, s89, s90, s91, s92], defers := [] } X := by
  have H2 : Hid (Seen X a2 n2 S) := h2
  have H3 : Hid (Seen X a3 n3 P) := h3
  obtain ⟨F, hF⟩ : ∃ F, four (Crc.more 0#32 P) = F := ⟨_, rfl⟩
  rw [hF] at hb
  have HF : Hid (four (Crc.more 0#32 P) = F) := hF
  generalize hr : Crc.more 0#32 P = r at *
  have HR : Hid (Crc.more 0#32 P = r) := hr
  clear h2 h3 hF hr
  refine wp_region_calmF (S := fun W => Below X.heap.size X W) (by kernel_rfl) (Below.refl _ X).drew (fun hHeld => ?_)
  refine take_run (i := 0) (oi := { dst := some 82, op := Go.Op.move (Go.Operand.tmp 7), type := 22, pos := "ref.go:192", after := #[], guard := none }) (v := .slice a2 n2 c2) rfl (by kernel_rfl) (by kernel_rfl) (by kernel_rfl) (fun _ _ _ h => h) (by rfl) ?_ hHeld ?_
  · (intro wq hSw; go_simp <;> with_reducible rfl)
  try simp only [Act.put, List.setIfInBounds_toArray, List.set_cons_zero, List.set_cons_succ]
  refine take_text (i := 1) (oi := { dst := some 83, op := Go.Op.convert 22 9 (Go.Operand.tmp 82), type := 9, pos := "ref.go:192", after := #[{ on := 0, ground := Go.Ground.data }], guard := none }) rfl (by kernel_rfl) (by kernel_rfl) (by kernel_rfl) 22 9 (.tmp 82) (.slice a2 n2 c2) (.string (textOf S)) (fun _ _ _ h => h) (by rfl) rfl (by go_simp <;> with_reducible rfl) (fun W hW => run_to_text W a2 n2 c2 S (H2.out.below hW)) hHeld ?_
  try simp only [Act.put, List.setIfInBounds_toArray, List.set_cons_zero, List.set_cons_succ]
  refine take_run (i := 2) (oi := { dst := some 84, op := Go.Op.move (Go.Operand.tmp 8), type := 22, pos := "ref.go:192", after := #[], guard := none }) (v := .slice a3 n3 c3) rfl (by kernel_rfl) (by kernel_rfl) (by kernel_rfl) (fun _ _ _ h => h) (by rfl) ?_ hHeld ?_
  · (intro wq hSw; go_simp <;> with_reducible rfl)
  try simp only [Act.put, List.setIfInBounds_toArray, List.set_cons_zero, List.set_cons_succ]
  refine take_call (i := 3) (oi := { dst := some 85, op := Go.Op.call { callee := Go.Callee.value (Go.Operand.func 47), args := #[Go.Operand.tmp 84], argTypes := #[22] }, type := 77, pos := "ref.go:192", after := #[{ on := 2, ground := Go.Ground.data }], guard := none }) rfl (by kernel_rfl) (by rfl) 47 _ (by go_simp <;> with_reducible rfl) ?_
  refine (rsum_any a3 n3 c3 P _ (H3.out.below hHeld)).mono ?_
  rw [HR.out]
  rintro e x1 ⟨rfl, rfl⟩
  refine ⟨_, rfl, hHeld, ?_⟩
  try simp only [Act.put, List.setIfInBounds_toArray, List.set_cons_zero, List.set_cons_succ]
  refine take_call (i := 4) (oi := { dst := some 86, op := Go.Op.call { callee := Go.Callee.value (Go.Operand.func 46), args := #[Go.Operand.tmp 85], argTypes := #[77] }, type := 22, pos := "ref.go:192", after := #[{ on := 3, ground := Go.Ground.data }, { on := 3, ground := Go.Ground.chain }], guard := none }) rfl (by kernel_rfl) (by rfl) 46 _ (by go_simp <;> with_reducible rfl) ?_
  refine (rfour_any r _).mono ?_
  rw [HF.out]
  rintro e x2 ⟨rfl, sF, y2⟩
  have z2 : Below X.heap.size X x2 := Below.trans hHeld (y2.mono (Below.size hHeld))
  refine ⟨_, rfl, z2, ?_⟩
  try simp only [Act.put, List.setIfInBounds_toArray, List.set_cons_zero, List.set_cons_succ]
  refine take_make (i := 5) (oi := { dst := some 87, op := Go.Op.convert 22 9 (Go.Operand.tmp 86), type := 9, pos := "ref.go:192", after := #[{ on := 4, ground := Go.Ground.data }], guard := none }) (v := .string (textOf F)) rfl (by kernel_rfl) (by rfl) (exec_convF 22 9 (.tmp 86) _ _ rfl (by go_simp <;> with_reducible rfl) (run_to_text x2 _ 4 4 F sF)) z2 ?_
  try simp only [Act.put, List.setIfInBounds_toArray, List.set_cons_zero, List.set_cons_succ]
  refine take_run (i := 6) (oi := { dst := some 88, op := Go.Op.binOp Go.BinOp.neq 9 (Go.Operand.tmp 83) (Go.Operand.tmp 87) 9, type := 4, pos := "ref.go:192", after := #[{ on := 1, ground := Go.Ground.data }, { on := 5, ground := Go.Ground.data }], guard := none }) (v := .bool bb) rfl (by kernel_rfl) (by kernel_rfl) (by kernel_rfl) (fun _ _ _ h => h) (by rfl) ?_ z2 ?_
  · (intro wq hSw; go_simp <;> first | with_reducible rfl | exact hb)
  try simp only [Act.put, List.setIfInBounds_toArray, List.set_cons_zero, List.set_cons_succ]
  refine wpAnyH_done (by kernel_rfl) ?_ _
  exact hK _ _ _ _ _ _ _ z2
end Go.Proofs.YtpnnbkhlbohfbaaDoor

namespace Go.Proofs.YtpnnbkhlbohfbaaDoor
open Go.RowKit Cod
attribute [local go_sem] Oper.semAt_some
set_option linter.unusedVariables false

theorem textOf_ne {A B : List (BitVec 8)} (h : A ≠ B) : textOf A ≠ textOf B := fun e => h (by
  have e1 : (A.map UInt8.ofBitVec).toArray = (B.map UInt8.ofBitVec).toArray := congrArg ByteArray.data e
  have e2 : A.map UInt8.ofBitVec = B.map UInt8.ofBitVec := by simpa using e1
  have e3 := congrArg (List.map UInt8.toBitVec) e2
  have e4 : (UInt8.toBitVec ∘ UInt8.ofBitVec) = id := rfl
  simpa [e4] using e3)
theorem sum_bb (S P : List (BitVec 8)) : ∃ bb, ((textOf S).toList == (textOf (four (Crc.more 0#32 P))).toList) = !bb ∧ (if S = four (Crc.more 0#32 P) then (0 : Int) else 12) = (if bb = true then 12 else 0) := by
  by_cases h : S = four (Crc.more 0#32 P)
  · exact ⟨false, by rw [h]; exact text_self _, by rw [if_pos h, if_neg (by simp)]⟩
  · exact ⟨true, text_ne (textOf_ne h), by rw [if_neg h, if_pos rfl]⟩
set_option maxRecDepth 100000 in
set_option maxHeartbeats 1600000 in
theorem first_okA (x : Addr) (len cap : Nat) (l : List (BitVec 8)) (n wd : Nat) (w : World) (h : Seen w (some x) len l) (hk : len ≤ cap) (hm : len ≤ 140737488355328) (ht : num 0 0 l = (n, wd, 0)) (hn : n ≤ 65536) (hsh : wd + 4 + n ≤ l.length) (hca : cap ≠ wd + 4) (hcb : cap ≠ wd + 4 + n) :
    Calls Tryd.prog 19 #[.slice (some x) len cap] w fun e w' => ∃ a3 a4, e = .returned (.tuple #[.slice a3 n (cap - (wd + 4)), .slice a4 (l.length - (wd + 4 + n)) (cap - (wd + 4 + n)), .int .i64 (if (l.drop wd).take 4 = four (Crc.more 0#32 ((l.drop (wd + 4)).take n)) then 0 else 12)]) ∧ (Seen w a3 n ((l.drop (wd + 4)).take n) ∧ a3 ≠ none) ∧ (Seen w a4 (l.length - (wd + 4 + n)) (l.drop (wd + 4 + n)) ∧ a4 ≠ none ∧ ∀ y, a4 = some y → y.block = x.block) ∧ Below w.heap.size w w' := by
  have HO := refOf_any (some x) len cap l w h (fun e => by cases e) hm
  have HT : Hid (rU l 0 0 = (n, wd, 0)) := by show rU l 0 0 = _; simp [rU, ht]
  obtain rfl : len = l.length := h.1
  obtain ⟨b, off, rfl, _⟩ : ∃ b off, x = ⟨b, off, none⟩ ∧ True := by
    rcases h.2.2 with h3 | ⟨b, off, ha, _⟩
    · omega
    · exact ⟨b, off, Option.some.inj ha, trivial⟩
  have hcw : cap ≠ wd := by omega
  have S2 : Hid (Seen w (some ⟨b, off + wd, none⟩) 4 ((l.drop wd).take 4)) := by
    have := h.drop wd cap (by omega) hk
    rw [if_neg hcw, Addr.add_lit] at this
    exact this.take 4 (by omega)
  have S3 : Hid (Seen w (some ⟨b, off + (wd + 4), none⟩) n ((l.drop (wd + 4)).take n)) := by
    have := (h.drop (wd + 4) cap (by omega) hk).take n (by omega)
    rw [if_neg hca, Addr.add_lit] at this
    exact this
  have S4 : Hid (Seen w (some ⟨b, off + (wd + 4 + n), none⟩) (l.length - (wd + 4 + n)) (l.drop (wd + 4 + n))) := by
    have := h.drop (wd + 4 + n) cap (by omega) hk
    rw [if_neg hcb, Addr.add_lit] at this
    exact this
  generalize (l.drop wd).take 4 = S at *
  generalize (l.drop (wd + 4)).take n = P at *
  generalize l.drop (wd + 4 + n) = Z at *
  obtain ⟨bb, hb1, hb2⟩ := sum_bb S P
  rw [hb2]
  have HB1 : Hid (((textOf S).toList == (textOf (four (Crc.more 0#32 P))).toList) = !bb) := hb1
  clear hb1 hb2
  obtain ⟨ln, hln⟩ : ∃ ln, l.length = ln := ⟨_, rfl⟩
  rw [hln] at hsh hk hm S4 HO ⊢
  have hn' : ¬ (65536 : Int) < n := by omega
  have h5 : ¬ ((ln : Int) - (wd : Int) - 4 < (n : Int)) := by omega
  have h7 : ¬ ((ln : Int) - (wd : Int) < 4) := by omega
  have e4 : IntKind.u64.wrap ((ln : Int) - (wd : Int) - 4) = (ln : Int) - (wd : Int) - 4 := by rw [IntKind.wrap_u64]; omega
  clear h ht hln
  go_enter Tryd.func19, Tryd.ntmps19
  go_wp2_with fail
  refine HO.mono ?_
  rintro e w1 ⟨R, rfl, hR, r1, b1⟩
  have HC := refRUint_any R w.heap.size w1.heap.size l 0 0 w1 r1
  rw [HT.out] at HC
  have B1 : Hid (Below w.heap.size w w1) := b1
  have HR : Hid (w.heap.size ≤ R) := hR
  clear HO r1 b1 hR
  go_wp2_with fail
  refine HC.mono ?_
  rintro e w2 ⟨rfl, r2, g2⟩
  obtain ⟨a2, cap2, c0, c1, c2, f1, _⟩ := r2.cells
  have B2 : Hid (Below w.heap.size w w2) := B1.out.grown g2 B1.out.size (fun k e => by cases e; exact HR.out)
  clear HC r2 g2
  go_wp2_with fail
  go_region
  go_wp2_with fail
  go_region
  go_wp2_with fail
  have B3 : Hid (Below w.heap.size w w2.drew.drew) := B2.out.drew.drew
  generalize w2.drew.drew = w3 at *
  try rw [show wd + 4 - wd = 4 from by omega]
  try rw [show wd + 4 + n - (wd + 4) = n from by omega]
  refine first_r12 w3 (some ⟨b, off + wd, none⟩) (some ⟨b, off + (wd + 4), none⟩) 4 _ n _ S P bb _ _ _ _ _ _ _ _ _ _ _ _ _ _ _ _ _ _ _ _ _ _ _ _ _ _ _ _ _ _ _ _ _ _ _ _ _ _ _ _ _ _ _ _ _ _ _ _ _ _ _ _ _ _ _ _ _ _ _ _ _ _ _ _ _ _ _ _ _ _ _ _ _ _ _ _ _ _ _ _ _ _ _ _ _ _ _ _ _ _ _ (S2.out.below (B3.out.mono (Nat.le_refl _))) (S3.out.below (B3.out.mono (Nat.le_refl _))) HB1.out _ _ ?_
  intro u82 u83 u84 u85 u86 u87 Y bY
  have BY : Hid (Below w.heap.size w Y) := B3.out.trans (bY.mono B3.out.size)
  clear HB1 bY
  cases bb with
  | false =>
    go_wp2
    go_ret3
    exact ⟨_, _, rfl, ⟨S3.out, by simp⟩, ⟨S4.out, by simp, fun y hy => by cases hy; rfl⟩, BY.out⟩
  | true =>
    go_wp2
    go_ret3
    exact ⟨_, _, rfl, ⟨S3.out, by simp⟩, ⟨S4.out, by simp, fun y hy => by cases hy; rfl⟩, BY.out⟩
set_option maxRecDepth 100000 in
set_option maxHeartbeats 1600000 in
theorem first_okB (x : Addr) (len : Nat) (l : List (BitVec 8)) (n wd : Nat) (w : World) (h : Seen w (some x) len l) (hm : len ≤ 140737488355328) (ht : num 0 0 l = (n, wd, 0)) (hn : n ≤ 65536) (hsh : wd + 4 + n ≤ l.length) (hn0 : ¬ n = 0) (hkB : len ≤ wd + 4 + n) :
    Calls Tryd.prog 19 #[.slice (some x) len (wd + 4 + n)] w fun e w' => ∃ a3 a4, e = .returned (.tuple #[.slice a3 n n, .slice a4 (l.length - (wd + 4 + n)) 0, .int .i64 (if (l.drop wd).take 4 = four (Crc.more 0#32 ((l.drop (wd + 4)).take n)) then 0 else 12)]) ∧ (Seen w a3 n ((l.drop (wd + 4)).take n) ∧ a3 ≠ none) ∧ (Seen w a4 (l.length - (wd + 4 + n)) (l.drop (wd + 4 + n)) ∧ a4 ≠ none ∧ ∀ y, a4 = some y → y.block = x.block) ∧ Below w.heap.size w w' := by
  have HO := refOf_any (some x) len (wd + 4 + n) l w h (fun e => by cases e) hm
  have HT : Hid (rU l 0 0 = (n, wd, 0)) := by show rU l 0 0 = _; simp [rU, ht]
  obtain rfl : len = l.length := h.1
  obtain ⟨b, off, rfl, _⟩ : ∃ b off, x = ⟨b, off, none⟩ ∧ True := by
    rcases h.2.2 with h3 | ⟨b, off, ha, _⟩
    · omega
    · exact ⟨b, off, Option.some.inj ha, trivial⟩
  have hcw : wd + 4 + n ≠ wd := by omega
  have S2 : Hid (Seen w (some ⟨b, off + wd, none⟩) 4 ((l.drop wd).take 4)) := by
    have := h.drop wd (wd + 4 + n) (by omega) hkB
    rw [if_neg hcw, Addr.add_lit] at this
    exact this.take 4 (by omega)
  have S3 : Hid (Seen w (some ⟨b, off + (wd + 4), none⟩) n ((l.drop (wd + 4)).take n)) := by
    have := (h.drop (wd + 4) (wd + 4 + n) (by omega) hkB).take n (by omega)
    rw [if_neg (by omega), Addr.add_lit] at this
    exact this
  have S4 : Hid (Seen w (some ⟨b, off, none⟩) (l.length - (wd + 4 + n)) (l.drop (wd + 4 + n))) := by
    have := h.drop (wd + 4 + n) (wd + 4 + n) (by omega) hkB
    rw [if_pos rfl] at this
    exact this
  generalize (l.drop wd).take 4 = S at *
  generalize (l.drop (wd + 4)).take n = P at *
  generalize l.drop (wd + 4 + n) = Z at *
  obtain ⟨bb, hb1, hb2⟩ := sum_bb S P
  rw [hb2]
  have HB1 : Hid (((textOf S).toList == (textOf (four (Crc.more 0#32 P))).toList) = !bb) := hb1
  clear hb1 hb2
  obtain ⟨ln, hln⟩ : ∃ ln, l.length = ln := ⟨_, rfl⟩
  rw [hln] at hsh hkB hm S4 HO ⊢
  have hn' : ¬ (65536 : Int) < n := by omega
  have h5 : ¬ ((ln : Int) - (wd : Int) - 4 < (n : Int)) := by omega
  have h7 : ¬ ((ln : Int) - (wd : Int) < 4) := by omega
  have e4 : IntKind.u64.wrap ((ln : Int) - (wd : Int) - 4) = (ln : Int) - (wd : Int) - 4 := by rw [IntKind.wrap_u64]; omega
  clear h ht hln
  go_enter Tryd.func19, Tryd.ntmps19
  go_wp2_with fail
  refine HO.mono ?_
  rintro e w1 ⟨R, rfl, hR, r1, b1⟩
  have HC := refRUint_any R w.heap.size w1.heap.size l 0 0 w1 r1
  rw [HT.out] at HC
  have B1 : Hid (Below w.heap.size w w1) := b1
  have HR : Hid (w.heap.size ≤ R) := hR
  clear HO r1 b1 hR
  go_wp2_with fail
  refine HC.mono ?_
  rintro e w2 ⟨rfl, r2, g2⟩
  obtain ⟨a2, cap2, c0, c1, c2, f1, _⟩ := r2.cells
  have B2 : Hid (Below w.heap.size w w2) := B1.out.grown g2 B1.out.size (fun k e => by cases e; exact HR.out)
  clear HC r2 g2
  go_wp2_with fail
  go_region
  go_wp2_with fail
  go_region
  go_wp2_with fail
  have B3 : Hid (Below w.heap.size w w2.drew.drew) := B2.out.drew.drew
  generalize w2.drew.drew = w3 at *
  try rw [show wd + 4 - wd = 4 from by omega]
  try rw [show wd + 4 + n - (wd + 4) = n from by omega]
  refine first_r12 w3 (some ⟨b, off + wd, none⟩) (some ⟨b, off + (wd + 4), none⟩) 4 _ n _ S P bb _ _ _ _ _ _ _ _ _ _ _ _ _ _ _ _ _ _ _ _ _ _ _ _ _ _ _ _ _ _ _ _ _ _ _ _ _ _ _ _ _ _ _ _ _ _ _ _ _ _ _ _ _ _ _ _ _ _ _ _ _ _ _ _ _ _ _ _ _ _ _ _ _ _ _ _ _ _ _ _ _ _ _ _ _ _ _ _ _ _ _ (S2.out.below (B3.out.mono (Nat.le_refl _))) (S3.out.below (B3.out.mono (Nat.le_refl _))) HB1.out _ _ ?_
  intro u82 u83 u84 u85 u86 u87 Y bY
  have BY : Hid (Below w.heap.size w Y) := B3.out.trans (bY.mono B3.out.size)
  clear HB1 bY
  cases bb with
  | false =>
    go_wp2
    go_ret3
    exact ⟨_, _, rfl, ⟨S3.out, by simp⟩, ⟨(by have := S4.out; rwa [show ln - (wd + 4 + n) = 0 from by omega] at this), by simp, fun y hy => by cases hy; rfl⟩, BY.out⟩
  | true =>
    go_wp2
    go_ret3
    exact ⟨_, _, rfl, ⟨S3.out, by simp⟩, ⟨(by have := S4.out; rwa [show ln - (wd + 4 + n) = 0 from by omega] at this), by simp, fun y hy => by cases hy; rfl⟩, BY.out⟩
set_option maxRecDepth 100000 in
set_option maxHeartbeats 1600000 in
theorem first_okC (x : Addr) (len : Nat) (l : List (BitVec 8)) (wd : Nat) (w : World) (h : Seen w (some x) len l) (hm : len ≤ 140737488355328) (ht : num 0 0 l = (0, wd, 0)) (hsh : wd + 4 ≤ l.length) (hkB : len ≤ wd + 4) :
    Calls Tryd.prog 19 #[.slice (some x) len (wd + 4)] w fun e w' => ∃ a3 a4, e = .returned (.tuple #[.slice a3 0 0, .slice a4 (l.length - (wd + 4)) 0, .int .i64 (if (l.drop wd).take 4 = four (Crc.more 0#32 ((l.drop (wd + 4)).take 0)) then 0 else 12)]) ∧ (Seen w a3 0 ((l.drop (wd + 4)).take 0) ∧ a3 ≠ none) ∧ (Seen w a4 (l.length - (wd + 4)) (l.drop (wd + 4)) ∧ a4 ≠ none ∧ ∀ y, a4 = some y → y.block = x.block) ∧ Below w.heap.size w w' := by
  have HO := refOf_any (some x) len (wd + 4) l w h (fun e => by cases e) hm
  have HT : Hid (rU l 0 0 = (0, wd, 0)) := by show rU l 0 0 = _; simp [rU, ht]
  obtain rfl : len = l.length := h.1
  obtain ⟨b, off, rfl, _⟩ : ∃ b off, x = ⟨b, off, none⟩ ∧ True := by
    rcases h.2.2 with h3 | ⟨b, off, ha, _⟩
    · omega
    · exact ⟨b, off, Option.some.inj ha, trivial⟩
  have hcw : wd + 4 ≠ wd := by omega
  have S2 : Hid (Seen w (some ⟨b, off + wd, none⟩) 4 ((l.drop wd).take 4)) := by
    have := h.drop wd (wd + 4) (by omega) hkB
    rw [if_neg hcw, Addr.add_lit] at this
    exact this.take 4 (by omega)
  have S3 : Hid (Seen w (some ⟨b, off, none⟩) 0 ((l.drop (wd + 4)).take 0)) := by
    have := (h.drop (wd + 4) (wd + 4) (by omega) hkB).take 0 (by omega)
    rw [if_pos rfl] at this
    exact this
  have S4 : Hid (Seen w (some ⟨b, off, none⟩) (l.length - (wd + 4)) (l.drop (wd + 4))) := by
    have := h.drop (wd + 4) (wd + 4) (by omega) hkB
    rw [if_pos rfl] at this
    exact this
  generalize (l.drop wd).take 4 = S at *
  generalize (l.drop (wd + 4)).take 0 = P at *
  generalize l.drop (wd + 4) = Z at *
  obtain ⟨bb, hb1, hb2⟩ := sum_bb S P
  rw [hb2]
  have HB1 : Hid (((textOf S).toList == (textOf (four (Crc.more 0#32 P))).toList) = !bb) := hb1
  clear hb1 hb2
  obtain ⟨ln, hln⟩ : ∃ ln, l.length = ln := ⟨_, rfl⟩
  rw [hln] at hsh hkB hm S4 HO ⊢
  have h5 : ¬ ((ln : Int) - (wd : Int) - 4 < 0) := by omega
  have h7 : ¬ ((ln : Int) - (wd : Int) < 4) := by omega
  have e4 : IntKind.u64.wrap ((ln : Int) - (wd : Int) - 4) = (ln : Int) - (wd : Int) - 4 := by rw [IntKind.wrap_u64]; omega
  clear h ht hln
  go_enter Tryd.func19, Tryd.ntmps19
  go_wp2_with fail
  refine HO.mono ?_
  rintro e w1 ⟨R, rfl, hR, r1, b1⟩
  have HC := refRUint_any R w.heap.size w1.heap.size l 0 0 w1 r1
  rw [HT.out] at HC
  have B1 : Hid (Below w.heap.size w w1) := b1
  have HR : Hid (w.heap.size ≤ R) := hR
  clear HO r1 b1 hR
  go_wp2_with fail
  refine HC.mono ?_
  rintro e w2 ⟨rfl, r2, g2⟩
  obtain ⟨a2, cap2, c0, c1, c2, f1, _⟩ := r2.cells
  have B2 : Hid (Below w.heap.size w w2) := B1.out.grown g2 B1.out.size (fun k e => by cases e; exact HR.out)
  clear HC r2 g2
  go_wp2_with fail
  go_region
  go_wp2_with fail
  go_region
  go_wp2_with fail
  have B3 : Hid (Below w.heap.size w w2.drew.drew) := B2.out.drew.drew
  generalize w2.drew.drew = w3 at *
  try rw [show wd + 4 - wd = 4 from by omega]
  try rw [show wd + 4 - (wd + 4) = 0 from by omega]
  refine first_r12 w3 (some ⟨b, off + wd, none⟩) (some ⟨b, off, none⟩) 4 _ 0 _ S P bb _ _ _ _ _ _ _ _ _ _ _ _ _ _ _ _ _ _ _ _ _ _ _ _ _ _ _ _ _ _ _ _ _ _ _ _ _ _ _ _ _ _ _ _ _ _ _ _ _ _ _ _ _ _ _ _ _ _ _ _ _ _ _ _ _ _ _ _ _ _ _ _ _ _ _ _ _ _ _ _ _ _ _ _ _ _ _ _ _ _ _ (S2.out.below (B3.out.mono (Nat.le_refl _))) (S3.out.below (B3.out.mono (Nat.le_refl _))) HB1.out _ _ ?_
  intro u82 u83 u84 u85 u86 u87 Y bY
  have BY : Hid (Below w.heap.size w Y) := B3.out.trans (bY.mono B3.out.size)
  clear HB1 bY
  cases bb with
  | false =>
    go_wp2
    go_ret3
    exact ⟨_, _, rfl, ⟨S3.out, by simp⟩, ⟨(by have := S4.out; rwa [show ln - (wd + 4) = 0 from by omega] at this), by simp, fun y hy => by cases hy; rfl⟩, BY.out⟩
  | true =>
    go_wp2
    go_ret3
    exact ⟨_, _, rfl, ⟨S3.out, by simp⟩, ⟨(by have := S4.out; rwa [show ln - (wd + 4) = 0 from by omega] at this), by simp, fun y hy => by cases hy; rfl⟩, BY.out⟩
theorem first_any (a : Option Addr) (len cap : Nat) (l : List (BitVec 8)) (w : World) (h : Seen w a len l) (hnil : a = none → cap = 0) (hk : len ≤ cap) (hm : len ≤ 140737488355328) :
    Calls Tryd.prog 19 #[.slice a len cap] w fun e w' => FirstTold w w' a l e ∧ Below w.heap.size w w' := by
  obtain ⟨n, wd, y, ht⟩ : ∃ n wd y, num 0 0 l = (n, wd, y) := ⟨_, _, _, rfl⟩
  have hlen : len = l.length := h.1
  by_cases hy : y = 0
  · subst hy
    by_cases hn : 65536 < n
    · refine (first_big a len cap l n wd w h hnil hm ht hn).mono ?_
      rintro e w' ⟨rfl, b⟩
      have hc : cutWhy l = 3 := by simp [cutWhy, ht, hn]
      exact ⟨.inl ⟨by rw [hc]; decide, by rw [hc]; rfl⟩, b⟩
    · by_cases hs : l.length < wd + 4 + n
      · refine (first_short a len cap l n wd w h hnil hm ht (by omega) hs).mono ?_
        rintro e w' ⟨rfl, b⟩
        have hc : cutWhy l = 10 := by simp [cutWhy, ht, hn, hs]
        exact ⟨.inl ⟨by rw [hc]; decide, by rw [hc]; rfl⟩, b⟩
      · have ha : ∃ x, a = some x := by
          cases a with
          | none =>
            exfalso
            obtain ⟨q1, q2, q3⟩ := h
            rcases q3 with q3 | ⟨b, off, q, _⟩
            · omega
            · cases q
          | some x => exact ⟨x, rfl⟩
        obtain ⟨x, rfl⟩ := ha
        have hc : cutWhy l = 0 := by simp [cutWhy, ht, hn, hs]
        have e2 : cutSum l = (l.drop wd).take 4 := by simp [cutSum, ht]
        have e3 : cutBody l = (l.drop (wd + 4)).take n := by simp [cutBody, ht]
        have e4 : cutRest l = l.drop (wd + 4 + n) := by simp [cutRest, ht]
        unfold FirstTold
        rw [hc, e2, e3, e4]
        by_cases c1 : cap = wd + 4
        · subst c1
          obtain rfl : n = 0 := by omega
          refine (first_okC x len l wd w h hm ht (by omega) hk).mono ?_
          rintro e w' ⟨a3, a4, rfl, ⟨s3, m3⟩, ⟨s4, m4, q4⟩, b⟩
          exact ⟨.inr ⟨rfl, a3, _, _, a4, _, _, rfl, ⟨s3, fun e => absurd e m3, by omega, by omega⟩, ⟨s4, fun e => absurd e m4, by omega, by omega, fun y hy => ⟨x, rfl, q4 y hy⟩⟩⟩, b⟩
        · by_cases c2 : cap = wd + 4 + n
          · subst c2
            refine (first_okB x len l n wd w h hm ht (by omega) (by omega) (by omega) hk).mono ?_
            rintro e w' ⟨a3, a4, rfl, ⟨s3, m3⟩, ⟨s4, m4, q4⟩, b⟩
            exact ⟨.inr ⟨rfl, a3, _, _, a4, _, _, rfl, ⟨s3, fun e => absurd e m3, by omega, by omega⟩, ⟨s4, fun e => absurd e m4, by omega, by omega, fun y hy => ⟨x, rfl, q4 y hy⟩⟩⟩, b⟩
          · refine (first_okA x len cap l n wd w h hk hm ht (by omega) (by omega) c1 c2).mono ?_
            rintro e w' ⟨a3, a4, rfl, ⟨s3, m3⟩, ⟨s4, m4, q4⟩, b⟩
            exact ⟨.inr ⟨rfl, a3, _, _, a4, _, _, rfl, ⟨s3, fun e => absurd e m3, by omega, by omega⟩, ⟨s4, fun e => absurd e m4, by omega, by omega, fun y hy => ⟨x, rfl, q4 y hy⟩⟩⟩, b⟩
  · refine (first_bad a len cap l w h hnil hm (by rw [ht]; exact hy)).mono ?_
    rintro e w' ⟨rfl, b⟩
    have hc : cutWhy l = y := by simp [cutWhy, ht, hy]
    exact ⟨.inl ⟨by rw [hc]; exact hy, by rw [hc, ht]⟩, b⟩
end Go.Proofs.YtpnnbkhlbohfbaaDoor

namespace Go.Proofs.YtpnnbkhlbohfbaaDoor
open Go.RowKit Cod
attribute [local go_sem] Oper.semAt_some
set_option linter.unusedVariables false

theorem num_12 : ∀ (l : List (BitVec 8)) (k acc : Nat), (num k acc l).2.2 ≠ 12
  | [], k, acc => by simp [num]
  | c :: l, k, acc => by
    rw [num]
    split
    · simp
    · split
      · simp
      · exact num_12 l _ _
theorem cutWhy_12 (l : List (BitVec 8)) : cutWhy l ≠ 12 := by
  unfold cutWhy
  have := num_12 l 0 0
  split
  · exact this
  · split
    · decide
    · split <;> decide
/-- What the reference's Unframe answers. -/
def UnfTold (w w' : World) (l : List (BitVec 8)) (e : Ending) : Prop :=
  (unWhy l ≠ 0 ∧ e = .returned (.tuple #[.slice none 0 0, .int .i64 (unWhy l)])) ∨
  (unWhy l = 0 ∧ ∃ v, e = .returned (.tuple #[v, .int .i64 0]) ∧ w'.ownsRow w.heap.size 5 1 v (cutBody l).length (cellsOf (cutBody l)))
set_option maxHeartbeats 1600000 in
theorem runframe_any (a : Option Addr) (len cap : Nat) (l : List (BitVec 8)) (w : World) (h : Seen w a len l) (hnil : a = none → cap = 0) (hk : len ≤ cap) (hm : len ≤ 140737488355328) :
    Calls Tryd.prog 6 #[.slice a len cap] w fun e w' => UnfTold w w' l e ∧ Below w.heap.size w w' := by
  have HF := first_any a len cap l w h hnil hk hm
  have h12 := cutWhy_12 l
  clear h hnil hk hm
  go_enter Tryd.func6, Tryd.ntmps6
  go_wp2_with fail
  refine HF.mono ?_
  clear HF
  rintro e w1 ⟨hT, b1⟩
  have B1 : Hid (Below w.heap.size w w1) := b1
  rcases hT with ⟨h0, rfl⟩ | ⟨h0, a3, n3, c3, a4, n4, c4, rfl, ⟨s3, m3, k3, z3⟩, ⟨s4, m4, k4, z4, _⟩⟩
  · have hu : Hid (unWhy l = cutWhy l) := by show _ = _; simp [unWhy, h0]
    have H0 : Hid (cutWhy l ≠ 0) := h0
    generalize cutWhy l = y at *
    have g0 : ((y : Int) != 0) = true := by simpa using h0
    have g1 : ((y : Int) != 12) = true := by simp; omega
    clear h0 b1 h12
    go_wp2
    go_ret2
    exact ⟨.inl ⟨by rw [hu.out]; exact H0.out, by rw [hu.out]; rfl⟩, B1.out⟩
  · obtain rfl : n3 = (cutBody l).length := s3.1
    obtain ⟨y, hy⟩ : ∃ y : Int, (if cutSum l = four (Crc.more 0#32 (cutBody l)) then 0 else 12) = y := ⟨_, rfl⟩
    by_cases hr : cutRest l = []
    · have h4 : n4 = 0 := by rw [s4.1, hr]; rfl
      subst h4
      by_cases hs : cutSum l = four (Crc.more 0#32 (cutBody l))
      · have hu : Hid (unWhy l = 0) := by show _ = _; simp [unWhy, h0, hr, hs]
        rw [if_pos hs]
        obtain ⟨v', Z, hrun, hown, hgz⟩ := run_append_bytes 22 w1 w1.heap.size (.slice none 0 0) 0 [] (World.ownsRow_nil _ _ _ _) a3 (cutBody l).length c3 (cutBody l) (s3.below b1) m3 (by omega) (Nat.le_refl _)
        rw [List.nil_append, Nat.zero_add] at hown
        have HRun : Hid _ := hrun
        have HOwn : Hid (Z.ownsRow w1.heap.size 5 1 v' (cutBody l).length (cellsOf (cutBody l))) := hown
        have BZ : Hid (Below w.heap.size w Z) := B1.out.grown hgz B1.out.size (fun k e => by cases e)
        clear hy y s3 m3 k3 z3 s4 m4 k4 z4 b1 hrun hown hgz h12 hr hs
        go_wp2_with (at_builtin; refine wpList_append_known rfl (.tmp 27) (.tmp 28) 22 22 rfl _ _ rfl rfl _ _ HRun.out ?_)
        go_ret2
        exact ⟨.inr ⟨hu.out, _, rfl, owns_mono HOwn.out B1.out.size⟩, BZ.out⟩
      · have hu : Hid (unWhy l = 12) := by show _ = _; simp [unWhy, h0, hr, hs]
        rw [if_neg hs]
        clear hy y s3 m3 k3 z3 s4 m4 k4 z4 b1 h12 hr hs
        go_wp2
        go_ret2
        exact ⟨.inl ⟨by rw [hu.out]; decide, by rw [hu.out]; rfl⟩, B1.out⟩
    · have h4 : 0 < (n4 : Int) := by
        have := List.length_pos_iff.2 hr
        rw [← s4.1] at this
        omega
      have hu : Hid (unWhy l = 11) := by show _ = _; simp [unWhy, h0, hr]
      have g : y = 0 ∨ y = 12 := by rw [← hy]; split <;> simp
      rw [hy]
      have HY : Hid _ := hy
      clear hy s3 m3 k3 z3 s4 m4 k4 z4 b1 h12 hr
      rcases g with rfl | rfl
      · go_wp2
        go_ret2
        exact ⟨.inl ⟨by rw [hu.out]; decide, by rw [hu.out]; rfl⟩, B1.out⟩
      · go_wp2
        go_ret2
        exact ⟨.inl ⟨by rw [hu.out]; decide, by rw [hu.out]; rfl⟩, B1.out⟩
end Go.Proofs.YtpnnbkhlbohfbaaDoor
