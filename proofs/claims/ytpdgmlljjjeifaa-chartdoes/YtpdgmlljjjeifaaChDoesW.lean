/- ChartDoes: the walk. Written by gen_cd.py. -/
import Derived.Test.YtpdgmlljjjeifaaChPlay
namespace Go.Proofs.Ytpdgmlljjjeifaa
open Go.RowKit Cod
attribute [local go_sem] Oper.semAt_some
set_option linter.unusedVariables false
/-- What is done with a copy leaves both charts alone. -/
theorem keepT {w0 w w' : World} {R Q O E cO cE D : Nat} {L M : List Int} {N K : Nat} (h : Two w0 w R Q O E cO cE L N) (d : MyC w0 w D M K) (g : OnlyR w w' D) (nD : D ≠ R) : Two w0 w' R Q O E cO cE L N := by
  have nQ : Q ≠ D := d.c.ne h.rc.q (by decide)
  have nO : O ≠ D := by obtain ⟨_, h1, _⟩ := h.rc.o; exact d.c.ne h1 (by decide)
  have nE : E ≠ D := by obtain ⟨_, h1, _⟩ := h.rc.e; exact d.c.ne h1 (by decide)
  exact ⟨⟨⟨(g.block R h.my.c.lt nD.symm).trans h.my.c.hR, h.my.c.len, h.my.c.bR⟩, h.my.b.trans (g.toBelow d.c.bR h.my.b.size), h.my.g⟩, h.rc.kept fun q hq => g.block q (by have := h.rc.lt; omega) (by omega), h.ph, h.ai⟩
set_option maxRecDepth 100000 in
set_option maxHeartbeats 4000000 in
theorem chartDoes_no (n : Int) (h : ¬ (1 ≤ n ∧ n ≤ 3)) (v : Value) (w : World) : Calls Try.prog 3 #[.int .i64 n, v] w fun e w' => e = .returned (.bool true) ∧ Below w.heap.size w w' := by
  have HN := new_no n h w
  have HR := rnew_no n h w
  clear h
  go_enter Try.func3, Try.ntmps3
  go_wp2_with fail
  refine HN.mono ?_
  rintro e w1 ⟨rfl, rfl⟩
  go_wp2_with fail
  refine HR.mono ?_
  rintro e w2 ⟨rfl, rfl⟩
  go_wp2_with fail
  refine (knownC_any w2).mono ?_
  rintro e w3 ⟨rfl, b2⟩
  go_wp2
  go_ret
  exact ⟨rfl, b2⟩
set_option maxRecDepth 100000 in
set_option maxHeartbeats 8000000 in
theorem chartDoes_ok (n : Int) (h : 1 ≤ n ∧ n ≤ 3) (a : Option Addr) (len cap : Nat) (os : List CmdC) (w : World) (hC : CmdsC w a len os) (hlm : len ≤ maxLen) : Calls Try.prog 3 #[.int .i64 n, .slice a len cap] w fun e w' => e = .returned (.bool true) ∧ Below w.heap.size w w' := by
  have HN := my_new n h w w (Below.refl _ w)
  have HR : Hid (∀ W, Calls Try.prog 10 #[.int .i64 n] W fun e w' => e = .returned (.tuple #[.pointer (some ⟨W.heap.size, 0, none⟩), .int .i64 0]) ∧ ∃ O E cO cE, RC w' W.heap.size W.heap.size O E cO cE (newL n 16) ∧ Below W.heap.size W w') := fun W => rnew_ok n h W
  have HI : Hid (Ph3 (newL n 16) ∧ AllIn (newL n 16)) := ⟨ph3_new n, allIn_new n h⟩
  obtain ⟨R, eR⟩ : ∃ R, w.heap.size = R := ⟨_, rfl⟩
  rw [eR] at HN
  have HCC : Hid (CmdsC w a len os ∧ len ≤ maxLen) := ⟨hC, hlm⟩
  clear eR h hC hlm
  go_enter Try.func3, Try.ntmps3
  go_wp2_with fail
  refine HN.mono ?_
  clear HN
  rintro e w1 ⟨rfl, h1, _⟩
  have M1 : Hid (MyC w w1 R (newL n 16) 0) := h1
  have HRR := HR.out w1
  obtain ⟨Q, eQ⟩ : ∃ Q, w1.heap.size = Q := ⟨_, rfl⟩
  have EQ : Hid (w1.heap.size = Q) := eQ
  rw [eQ] at HRR
  clear h1 HR eQ
  go_wp2_with fail
  refine HRR.mono ?_
  clear HRR
  rintro e w2 ⟨rfl, O, E, cO, cE, r2, b2⟩
  have b2' : Below w1.heap.size w1 w2 := by rw [EQ.out]; exact b2
  have hQ : w.heap.size ≤ Q := by rw [← EQ.out]; exact M1.out.b.size
  have T2 : Hid (Two w w2 R Q O E cO cE (newL n 16) 0) := ⟨M1.out.below b2', { r2 with bq := hQ, bo := Nat.le_trans hQ r2.bo, be := Nat.le_trans hQ r2.be }, HI.out.1, HI.out.2⟩
  have HPl := play_any T2.out (by omega) a len cap os HCC.out.1 HCC.out.2
  clear r2 b2 b2' M1 HI EQ hQ
  go_wp2_with fail
  refine HPl.mono ?_
  clear HPl T2
  rintro e w3 ⟨rfl, L, N, t3, n3⟩
  have T3 : Hid (Two w w3 R Q O E cO cE L N ∧ N ≤ 110) := ⟨t3, n3⟩
  have HCo := copyC_any t3.my.c
  obtain ⟨D, eD⟩ : ∃ D, w3.heap.size = D := ⟨_, rfl⟩
  have ED : Hid (w3.heap.size = D) := eD
  have nDR : D ≠ R := by have := t3.my.c.lt; omega
  rw [eD] at HCo
  clear t3 n3 eD
  go_wp2_with fail
  refine HCo.mono ?_
  clear HCo
  rintro e w4 ⟨rfl, c4, b4⟩
  have b4' : Below w3.heap.size w3 w4 := by rw [ED.out]; exact b4
  have T4 : Hid (Two w w4 R Q O E cO cE L N) := T3.out.1.below b4'
  have M4 : Hid (MyC w w4 D L N ∧ N ≤ 110) := ⟨⟨⟨c4.hR, c4.len, by rw [← ED.out]; exact T3.out.1.my.b.size⟩, T4.out.my.b, T4.out.my.g⟩, T3.out.2⟩
  have HAl := alike_any (⟨M4.out.1, T4.out.rc, T4.out.ph, T4.out.ai⟩ : Two w w4 D Q O E cO cE L N)
  clear c4 b4 b4' T3 ED
  go_wp2_with fail
  refine HAl.mono ?_
  clear HAl
  rintro e w5 ⟨rfl, b5⟩
  have T5 : Hid (Two w w5 R Q O E cO cE L N) := T4.out.below b5
  have M5 : Hid (MyC w w5 D L N ∧ N ≤ 110) := ⟨M4.out.1.below b5, M4.out.2⟩
  have HX := my_do M5.out.1 (by have := M5.out.2; omega) 3 0 0 0 0
  clear b5 T4 M4
  go_wp2_with fail
  refine HX.mono ?_
  clear HX
  rintro e w51 ⟨rfl, m51, g51⟩
  have T51 : Hid (Two w w51 R Q O E cO cE L N) := keepT T5.out M5.out.1 g51 nDR
  obtain ⟨L1, eL1⟩ : ∃ x, (doC L 3 0 0 0 0).2 = x := ⟨_, rfl⟩
  rw [eL1] at m51
  have M51 : Hid (MyC w w51 D L1 (N + 1) ∧ N ≤ 110) := ⟨m51, M5.out.2⟩
  have c10 : w51.cell? ⟨Q, 10, none⟩ = some (.int .i64 (at_ L 40)) := T51.out.rc.cell 10
  generalize (doC L 3 0 0 0 0).1.v = rv1 at *
  generalize at_ L 40 = x10 at *
  have HX := my_do M51.out.1 (by have := M51.out.2; omega) 4 0 0 x10 0
  clear m51 g51 eL1 T5 M5
  go_wp2_with fail
  refine HX.mono ?_
  clear HX
  rintro e w6 ⟨rfl, m6, g6⟩
  have t6 : Two w w6 R Q O E cO cE L N := keepT T51.out M51.out.1 g6 nDR
  obtain ⟨L2, eL2⟩ : ∃ x, (doC L1 4 0 0 x10 0).2 = x := ⟨_, rfl⟩
  rw [eL2] at m6
  have M6 : Hid (MyC w w6 D L2 (N + 1 + 1) ∧ Two w w6 R Q O E cO cE L N ∧ N ≤ 110) := ⟨m6, t6, M51.out.2⟩
  obtain ⟨x9, e9⟩ : ∃ x, at_ L 39 = x := ⟨_, rfl⟩
  obtain ⟨x8, e8⟩ : ∃ x, at_ L 38 = x := ⟨_, rfl⟩
  have X98 : Hid (some (Value.int .i64 (at_ L 39)) = some (.int .i64 x9) ∧ some (Value.int .i64 (at_ L 38)) = some (.int .i64 x8)) := ⟨by rw [e9], by rw [e8]⟩
  have c9 : w6.cell? ⟨Q, 9, none⟩ = some (.int .i64 x9) := (t6.rc.cell 9).trans X98.out.1
  have c8 : w6.cell? ⟨Q, 8, none⟩ = some (.int .i64 x8) := (t6.rc.cell 8).trans X98.out.2
  generalize (doC L1 4 0 0 x10 0).1.v = rv2 at *
  clear m6 g6 t6 eL2 e9 e8 T51 M51 c10
  go_wp2_with fail
  refine wp_region_held_drew (S := fun W => W.cell? ⟨Q, 9, none⟩ = some (.int .i64 x9) ∧ W.cell? ⟨Q, 8, none⟩ = some (.int .i64 x8)) (by kernel_rfl) ⟨c9, c8⟩ (fun hHeld => ?_)
  refine take_run (i := 0) (oi := { dst := some 58, op := Go.Op.move (Go.Operand.tmp 9), type := 23, pos := "law.go:87", after := #[], guard := none }) (v := .pointer (some ⟨D, 0, none⟩)) rfl (by kernel_rfl) (by kernel_rfl) (by kernel_rfl) (fun _ _ _ h => h) (by rfl) ?_ hHeld ?_
  · (intro wq hSw; go_simp <;> with_reducible rfl)
  try simp only [Act.put, List.setIfInBounds_toArray, List.set_cons_zero, List.set_cons_succ]
  refine take_run (i := 1) (oi := { dst := some 59, op := Go.Op.move (Go.Operand.tmp 7), type := 27, pos := "law.go:87", after := #[], guard := none }) (v := .pointer (some ⟨Q, 0, none⟩)) rfl (by kernel_rfl) (by kernel_rfl) (by kernel_rfl) (fun _ _ _ h => h) (by rfl) ?_ hHeld ?_
  · (intro wq hSw; go_simp <;> with_reducible rfl)
  try simp only [Act.put, List.setIfInBounds_toArray, List.set_cons_zero, List.set_cons_succ]
  refine take_run (i := 2) (oi := { dst := some 60, op := Go.Op.nilCheck (Go.Operand.tmp 59), type := 0, pos := "law.go:87", after := #[{ on := 1, ground := Go.Ground.data }], guard := none }) (v := .pointer (some ⟨Q, 0, none⟩)) rfl (by kernel_rfl) (by kernel_rfl) (by kernel_rfl) (fun _ _ _ h => h) (by rfl) ?_ hHeld ?_
  · (intro wq hSw; go_simp <;> with_reducible rfl)
  try simp only [Act.put, List.setIfInBounds_toArray, List.set_cons_zero, List.set_cons_succ]
  refine take_run (i := 3) (oi := { dst := some 61, op := Go.Op.fieldAddr 44 (Go.Operand.tmp 60) 4, type := 0, pos := "law.go:87", after := #[{ on := 2, ground := Go.Ground.data }], guard := none }) (v := .pointer (some ⟨Q, 4, none⟩)) rfl (by kernel_rfl) (by kernel_rfl) (by kernel_rfl) (fun _ _ _ h => h) (by rfl) ?_ hHeld ?_
  · (intro wq hSw; go_simp <;> with_reducible rfl)
  try simp only [Act.put, List.setIfInBounds_toArray, List.set_cons_zero, List.set_cons_succ]
  refine take_run (i := 4) (oi := { dst := some 62, op := Go.Op.fieldAddr 42 (Go.Operand.tmp 61) 5, type := 0, pos := "law.go:87", after := #[{ on := 3, ground := Go.Ground.data }], guard := none }) (v := .pointer (some ⟨Q, 9, none⟩)) rfl (by kernel_rfl) (by kernel_rfl) (by kernel_rfl) (fun _ _ _ h => h) (by rfl) ?_ hHeld ?_
  · (intro wq hSw; go_simp <;> with_reducible rfl)
  try simp only [Act.put, List.setIfInBounds_toArray, List.set_cons_zero, List.set_cons_succ]
  refine take_run (i := 5) (oi := { dst := some 63, op := Go.Op.load 2 (Go.Operand.tmp 62), type := 2, pos := "law.go:87", after := #[{ on := 4, ground := Go.Ground.data }], guard := none }) (v := .int .i64 x9) rfl (by kernel_rfl) (by kernel_rfl) (by kernel_rfl) (fun _ _ _ h => h) (by rfl) ?_ hHeld ?_
  · (intro wq hSw; obtain ⟨k0, k1⟩ := hSw; go_simp <;> with_reducible rfl)
  try simp only [Act.put, List.setIfInBounds_toArray, List.set_cons_zero, List.set_cons_succ]
  refine take_run (i := 6) (oi := { dst := some 64, op := Go.Op.move (Go.Operand.tmp 7), type := 27, pos := "law.go:87", after := #[], guard := none }) (v := .pointer (some ⟨Q, 0, none⟩)) rfl (by kernel_rfl) (by kernel_rfl) (by kernel_rfl) (fun _ _ _ h => h) (by rfl) ?_ hHeld ?_
  · (intro wq hSw; go_simp <;> with_reducible rfl)
  try simp only [Act.put, List.setIfInBounds_toArray, List.set_cons_zero, List.set_cons_succ]
  refine take_run (i := 7) (oi := { dst := some 65, op := Go.Op.nilCheck (Go.Operand.tmp 64), type := 0, pos := "law.go:87", after := #[{ on := 6, ground := Go.Ground.data }], guard := none }) (v := .pointer (some ⟨Q, 0, none⟩)) rfl (by kernel_rfl) (by kernel_rfl) (by kernel_rfl) (fun _ _ _ h => h) (by rfl) ?_ hHeld ?_
  · (intro wq hSw; go_simp <;> with_reducible rfl)
  try simp only [Act.put, List.setIfInBounds_toArray, List.set_cons_zero, List.set_cons_succ]
  refine take_run (i := 8) (oi := { dst := some 66, op := Go.Op.fieldAddr 44 (Go.Operand.tmp 65) 4, type := 0, pos := "law.go:87", after := #[{ on := 7, ground := Go.Ground.data }], guard := none }) (v := .pointer (some ⟨Q, 4, none⟩)) rfl (by kernel_rfl) (by kernel_rfl) (by kernel_rfl) (fun _ _ _ h => h) (by rfl) ?_ hHeld ?_
  · (intro wq hSw; go_simp <;> with_reducible rfl)
  try simp only [Act.put, List.setIfInBounds_toArray, List.set_cons_zero, List.set_cons_succ]
  refine take_run (i := 9) (oi := { dst := some 67, op := Go.Op.fieldAddr 42 (Go.Operand.tmp 66) 4, type := 0, pos := "law.go:87", after := #[{ on := 8, ground := Go.Ground.data }], guard := none }) (v := .pointer (some ⟨Q, 8, none⟩)) rfl (by kernel_rfl) (by kernel_rfl) (by kernel_rfl) (fun _ _ _ h => h) (by rfl) ?_ hHeld ?_
  · (intro wq hSw; go_simp <;> with_reducible rfl)
  try simp only [Act.put, List.setIfInBounds_toArray, List.set_cons_zero, List.set_cons_succ]
  refine take_run (i := 10) (oi := { dst := some 68, op := Go.Op.load 3 (Go.Operand.tmp 67), type := 3, pos := "law.go:87", after := #[{ on := 9, ground := Go.Ground.data }], guard := none }) (v := .int .i64 x8) rfl (by kernel_rfl) (by kernel_rfl) (by kernel_rfl) (fun _ _ _ h => h) (by rfl) ?_ hHeld ?_
  · (intro wq hSw; obtain ⟨k0, k1⟩ := hSw; go_simp <;> with_reducible rfl)
  try simp only [Act.put, List.setIfInBounds_toArray, List.set_cons_zero, List.set_cons_succ]
  refine take_run (i := 11) (oi := { dst := some 69, op := Go.Op.build 38 #[(0, Go.Operand.const (Go.Value.int Go.IntKind.i64 2)), (3, Go.Operand.tmp 63), (4, Go.Operand.tmp 68)], type := 38, pos := "law.go:87", after := #[{ on := 5, ground := Go.Ground.data }, { on := 10, ground := Go.Ground.data }], guard := none }) (v := .agg #[.int .i64 2, .int .i64 0, .int .i64 0, .int .i64 x9, .int .i64 x8]) rfl (by kernel_rfl) (by kernel_rfl) (by kernel_rfl) (fun _ _ _ h => h) (by rfl) ?_ hHeld ?_
  · (intro wq hSw; go_simp <;> with_reducible rfl)
  try simp only [Act.put, List.setIfInBounds_toArray, List.set_cons_zero, List.set_cons_succ]
  refine take_call (i := 12) (oi := { dst := some 70, op := Go.Op.call { callee := Go.Callee.value (Go.Operand.func 15), args := #[Go.Operand.tmp 58, Go.Operand.tmp 69], argTypes := #[23, 38] }, type := 35, pos := "law.go:87", after := #[{ on := 0, ground := Go.Ground.data }, { on := 11, ground := Go.Ground.data }], guard := none }) rfl (by kernel_rfl) (by rfl) 15 _ (by go_simp <;> with_reducible rfl) ?_
  refine (my_do (M6.out.1.drewN 1) (by have := M6.out.2.2; omega) 2 0 0 x9 x8).mono ?_
  rintro e w7 ⟨rfl, m7, g7⟩
  have T7 : Hid (Two w w7 R Q O E cO cE L N) := keepT M6.out.2.1 (M6.out.1) (by exact ⟨g7.os, g7.tape, g7.output, g7.size, g7.block⟩) nDR
  refine ⟨_, rfl, ⟨(T7.out.rc.cell 9).trans X98.out.1, (T7.out.rc.cell 8).trans X98.out.2⟩, ?_⟩
  try simp only [Act.put, List.setIfInBounds_toArray, List.set_cons_zero, List.set_cons_succ]
  refine wpAnyH_done (by kernel_rfl) ?_ _
  have HAl := alike_any T7.out
  clear hHeld c8 c9 m7 g7
  generalize (doC L2 2 0 0 x9 x8).1.v = rv3 at *
  go_wp2_with fail
  refine HAl.mono ?_
  clear HAl
  rintro e w8 ⟨rfl, b8⟩
  have B8 : Hid (Below w.heap.size w w8) := (T7.out.below b8).my.b
  have HK := knownC_any w8
  clear b8
  go_wp2_with fail
  refine HK.mono ?_
  rintro e w9 ⟨rfl, b9⟩
  go_wp2
  go_ret
  exact ⟨rfl, B8.out.trans (b9.mono B8.out.size)⟩
theorem chartDoes_any (n : Int) (a : Option Addr) (len cap : Nat) (os : List CmdC) (w : World) (hC : CmdsC w a len os) (hlm : len ≤ maxLen) : Calls Try.prog 3 #[.int .i64 n, .slice a len cap] w fun e w' => e = .returned (.bool true) ∧ Below w.heap.size w w' := by
  by_cases h : 1 ≤ n ∧ n ≤ 3
  · exact chartDoes_ok n h a len cap os w hC hlm
  · exact chartDoes_no n h _ w
end Go.Proofs.Ytpdgmlljjjeifaa
