/- ChartCommands: the walk. Written by gen_cm.py. -/
import Derived.Test.YtpdgmlljjjeifaaChCmdP
import Derived.Laws.StructEq
namespace Go.Proofs.Ytpdgmlljjjeifaa
open Go.RowKit Cod
attribute [local go_sem] Oper.semAt_some
set_option linter.unusedVariables false
theorem below_drew_trans {w w' : World} (h : Below w.drew.heap.size w.drew w') : Below w.heap.size w w' := (Below.refl w.heap.size w).drew.trans h
set_option maxRecDepth 100000 in
set_option maxHeartbeats 8000000 in
theorem chartCommands_any (k s h n p : Int) (hk : i64in k) (hs : i64in s) (hh : i64in h) (hn : i64in n) (hp : i64in p) (a : Option Addr) (cap : Nat) (l : List (BitVec 8)) (w : World) (hS : Seen w a l.length l) (hnil : a = none → cap = 0) (hm : l.length ≤ 140737488355328) : Calls Try.prog 4 #[.agg #[.int .i64 k, .int .i64 s, .int .i64 h, .int .i64 n, .int .i64 p], .slice a l.length cap] w fun e w' => e = .returned (.bool true) ∧ Below w.heap.size w w' := by
  have HR : Hid (i64in k ∧ i64in s ∧ i64in h ∧ i64in n ∧ i64in p) := ⟨hk, hs, hh, hn, hp⟩
  have HL : Hid (Seen w a l.length l ∧ (a = none → cap = 0) ∧ l.length ≤ 140737488355328) := ⟨hS, hnil, hm⟩
  have p0 := Blk.new w #[.int .i64 k, .int .i64 s, .int .i64 h, .int .i64 n, .int .i64 p] 46
  have b0 : Below w.heap.size w (w.alloc (.cells #[.int .i64 k, .int .i64 s, .int .i64 h, .int .i64 n, .int .i64 p] 46)) := (Below.refl _ w).alloc (Nat.le_refl _) _
  obtain ⟨wA, eA⟩ : ∃ x, w.alloc (.cells #[.int .i64 k, .int .i64 s, .int .i64 h, .int .i64 n, .int .i64 p] 46) = x := ⟨_, rfl⟩
  obtain ⟨P, eP⟩ : ∃ x, w.heap.size = x := ⟨_, rfl⟩
  rw [eA] at p0 b0
  rw [eP] at p0
  have EA : Hid _ := eA
  have EP : Hid (w.heap.size = P) := eP
  have H0 : Hid (Blk wA P #[.int .i64 k, .int .i64 s, .int .i64 h, .int .i64 n, .int .i64 p] 46 ∧ Below w.heap.size w wA) := ⟨p0, b0⟩
  obtain ⟨X, eX⟩ : ∃ X, parseR l = X := ⟨_, rfl⟩
  have EX : Hid (parseR l = X) := eX
  obtain ⟨nl, enl⟩ : ∃ x, l.length = x := ⟨_, rfl⟩
  have ENL : Hid (l.length = nl) := enl
  rw [enl]
  clear eA eP p0 b0 hk hs hh hn hp hS hnil hm eX enl
  have HG := given_any k s h n p wA
  go_enter Try.func4, Try.ntmps4
  go_wp2_with fail
  rw [EA.out, EP.out]
  refine HG.mono ?_
  clear HG
  rintro e w1 ⟨rfl, b1⟩
  have H1 : Hid (Blk w1 P #[.int .i64 k, .int .i64 s, .int .i64 h, .int .i64 n, .int .i64 p] 46 ∧ Below w.heap.size w w1) := ⟨H0.out.1.below b1, H0.out.2.trans (b1.mono H0.out.2.size)⟩
  have HB := cBytes_any k s h n p HR.out.1 HR.out.2.1 HR.out.2.2.1 HR.out.2.2.2.1 HR.out.2.2.2.2 w1
  clear b1 H0
  go_wp2_with fail
  refine HB.mono ?_
  clear HB
  rintro e w2 ⟨v2, rfl, g2, b2⟩
  obtain ⟨ax, cx, rfl, sx, nx⟩ := g2
  have H2 : Hid (Blk w2 P #[.int .i64 k, .int .i64 s, .int .i64 h, .int .i64 n, .int .i64 p] 46 ∧ Below w.heap.size w w2 ∧ Seen w2 ax (cmdB k s h n p).length (cmdB k s h n p) ∧ (ax = none → cx = 0)) := ⟨H1.out.1.below b2, H1.out.2.trans (b2.mono H1.out.2.size), sx, nx⟩
  have HP := cParse_any a l.length cap l w2 (HL.out.1.below H2.out.2.1) HL.out.2.1 HL.out.2.2
  rw [EX.out, ENL.out] at HP
  unfold parseV at HP
  obtain ⟨nx', enx⟩ : ∃ x, (cmdB k s h n p).length = x := ⟨_, rfl⟩
  have ENX : Hid ((cmdB k s h n p).length = nx') := enx
  rw [enx]
  clear b2 sx nx H1 enx
  obtain ⟨x0, ex0⟩ : ∃ x, at_ X 0 = x := ⟨_, rfl⟩
  obtain ⟨x1, ex1⟩ : ∃ x, at_ X 1 = x := ⟨_, rfl⟩
  obtain ⟨x2, ex2⟩ : ∃ x, at_ X 2 = x := ⟨_, rfl⟩
  obtain ⟨x3, ex3⟩ : ∃ x, at_ X 3 = x := ⟨_, rfl⟩
  obtain ⟨x4, ex4⟩ : ∃ x, at_ X 4 = x := ⟨_, rfl⟩
  obtain ⟨x5, ex5⟩ : ∃ x, at_ X 5 = x := ⟨_, rfl⟩
  have EXX : Hid (at_ X 0 = x0 ∧ at_ X 1 = x1 ∧ at_ X 2 = x2 ∧ at_ X 3 = x3 ∧ at_ X 4 = x4 ∧ at_ X 5 = x5) := ⟨ex0, ex1, ex2, ex3, ex4, ex5⟩
  rw [ex0, ex1, ex2, ex3, ex4, ex5] at HP
  clear ex0 ex1 ex2 ex3 ex4 ex5
  go_wp2_with fail
  refine HP.mono ?_
  clear HP
  rintro e w3 ⟨rfl, b3⟩
  have q3 := Blk.new w3 #[.int .i64 x0, .int .i64 x1, .int .i64 x2, .int .i64 x3, .int .i64 x4] 38
  have b4 : Below w2.heap.size w2 (w3.alloc (.cells #[.int .i64 x0, .int .i64 x1, .int .i64 x2, .int .i64 x3, .int .i64 x4] 38)) := b3.trans (((Below.refl _ w3).alloc (Nat.le_refl _) _).mono b3.size)
  obtain ⟨w4, e4⟩ : ∃ x, w3.alloc (.cells #[.int .i64 x0, .int .i64 x1, .int .i64 x2, .int .i64 x3, .int .i64 x4] 38) = x := ⟨_, rfl⟩
  obtain ⟨Pp, ePp⟩ : ∃ x, w3.heap.size = x := ⟨_, rfl⟩
  rw [e4] at q3 b4
  rw [ePp] at q3
  have E4 : Hid _ := e4
  have EPp : Hid (w3.heap.size = Pp) := ePp
  have H4 : Hid (Blk w4 P #[.int .i64 k, .int .i64 s, .int .i64 h, .int .i64 n, .int .i64 p] 46 ∧ Below w.heap.size w w4 ∧ Seen w4 ax (cmdB k s h n p).length (cmdB k s h n p) ∧ Blk w4 Pp #[.int .i64 x0, .int .i64 x1, .int .i64 x2, .int .i64 x3, .int .i64 x4] 38) := ⟨H2.out.1.below b4, H2.out.2.1.trans (b4.mono H2.out.2.1.size), H2.out.2.2.1.below b4, q3⟩
  have HN2 : Hid (ax = none → cx = 0) := H2.out.2.2.2
  clear b3 b4 q3 e4 ePp H2
  have HP := rParse_any a l.length cap l w4 (HL.out.1.below H4.out.2.1) HL.out.2.1 HL.out.2.2
  rw [EX.out, ENL.out] at HP
  unfold parseV at HP
  rw [EXX.out.1, EXX.out.2.1, EXX.out.2.2.1, EXX.out.2.2.2.1, EXX.out.2.2.2.2.1, EXX.out.2.2.2.2.2] at HP
  go_wp2_with fail
  rw [E4.out, EPp.out]
  clear E4 EPp
  refine HP.mono ?_
  clear HP
  rintro e w5 ⟨rfl, b5⟩
  have q5 := Blk.new w5 #[.int .i64 x0, .int .i64 x1, .int .i64 x2, .int .i64 x3, .int .i64 x4] 46
  have b6 : Below w4.heap.size w4 (w5.alloc (.cells #[.int .i64 x0, .int .i64 x1, .int .i64 x2, .int .i64 x3, .int .i64 x4] 46)) := b5.trans (((Below.refl _ w5).alloc (Nat.le_refl _) _).mono b5.size)
  obtain ⟨w6, e6⟩ : ∃ x, w5.alloc (.cells #[.int .i64 x0, .int .i64 x1, .int .i64 x2, .int .i64 x3, .int .i64 x4] 46) = x := ⟨_, rfl⟩
  obtain ⟨Pq, ePq⟩ : ∃ x, w5.heap.size = x := ⟨_, rfl⟩
  rw [e6] at q5 b6
  rw [ePq] at q5
  have E6 : Hid _ := e6
  have EPq : Hid (w5.heap.size = Pq) := ePq
  have H6 : Hid (Blk w6 P #[.int .i64 k, .int .i64 s, .int .i64 h, .int .i64 n, .int .i64 p] 46 ∧ Below w.heap.size w w6 ∧ Seen w6 ax (cmdB k s h n p).length (cmdB k s h n p) ∧ Blk w6 Pp #[.int .i64 x0, .int .i64 x1, .int .i64 x2, .int .i64 x3, .int .i64 x4] 38 ∧ Blk w6 Pq #[.int .i64 x0, .int .i64 x1, .int .i64 x2, .int .i64 x3, .int .i64 x4] 46) := ⟨H4.out.1.below b6, H4.out.2.1.trans (b6.mono H4.out.2.1.size), H4.out.2.2.1.below b6, H4.out.2.2.2.below b6, q5⟩
  clear b5 b6 q5 e6 ePq H4 EXX
  have HP := cParse_any ax (cmdB k s h n p).length cx (cmdB k s h n p) w6 H6.out.2.2.1 HN2.out (by have := cmdB_len k s h n p HR.out.1 HR.out.2.1 HR.out.2.2.1 HR.out.2.2.2.1 HR.out.2.2.2.2; omega)
  rw [parse_back k s h n p HR.out.1 HR.out.2.1 HR.out.2.2.1 HR.out.2.2.2.1 HR.out.2.2.2.2, ENX.out] at HP
  rw [show parseV [k, s, h, n, p, 0] = .tuple #[.agg #[.int .i64 k, .int .i64 s, .int .i64 h, .int .i64 n, .int .i64 p], .int .i64 0] from rfl] at HP
  go_wp2_with fail
  rw [E6.out, EPq.out]
  clear E6 EPq
  refine HP.mono ?_
  clear HP
  rintro e w7 ⟨rfl, b7⟩
  have q7 := Blk.new w7 #[.int .i64 k, .int .i64 s, .int .i64 h, .int .i64 n, .int .i64 p] 38
  have b8 : Below w6.heap.size w6 (w7.alloc (.cells #[.int .i64 k, .int .i64 s, .int .i64 h, .int .i64 n, .int .i64 p] 38)) := b7.trans (((Below.refl _ w7).alloc (Nat.le_refl _) _).mono b7.size)
  obtain ⟨w8, e8⟩ : ∃ x, w7.alloc (.cells #[.int .i64 k, .int .i64 s, .int .i64 h, .int .i64 n, .int .i64 p] 38) = x := ⟨_, rfl⟩
  obtain ⟨Py, ePy⟩ : ∃ x, w7.heap.size = x := ⟨_, rfl⟩
  rw [e8] at q7 b8
  rw [ePy] at q7
  have E8 : Hid _ := e8
  have EPy : Hid (w7.heap.size = Py) := ePy
  have B8 : Hid (Blk w8 P #[.int .i64 k, .int .i64 s, .int .i64 h, .int .i64 n, .int .i64 p] 46 ∧ Blk w8 Pp #[.int .i64 x0, .int .i64 x1, .int .i64 x2, .int .i64 x3, .int .i64 x4] 38 ∧ Blk w8 Pq #[.int .i64 x0, .int .i64 x1, .int .i64 x2, .int .i64 x3, .int .i64 x4] 46 ∧ Blk w8 Py #[.int .i64 k, .int .i64 s, .int .i64 h, .int .i64 n, .int .i64 p] 38) := ⟨H6.out.1.below b8, H6.out.2.2.2.1.below b8, H6.out.2.2.2.2.below b8, q7⟩
  have HW : Hid (Below w.heap.size w w8) := H6.out.2.1.trans (b8.mono H6.out.2.1.size)
  obtain ⟨nx, enx⟩ : ∃ x, nx' = x := ⟨_, rfl⟩
  have HX : Hid (Seen w8 ax nx (cmdB k s h n p)) := by rw [← enx, ← ENX.out]; exact H6.out.2.2.1.below b8
  rw [enx]
  clear b7 b8 q7 e8 ePy H6 HN2 ENX enx
  go_wp2_with fail
  rw [E8.out, EPy.out]
  clear E8 EPy
  refine wp_region_held_drew (S := fun W => Below w8.heap.size w8 W) (by kernel_rfl) (Below.refl _ w8).drew (fun hHeld => ?_)
  refine take_run (i := 0) (oi := { dst := some 30, op := Go.Op.move (Go.Operand.tmp 5), type := 47, pos := "law.go:119", after := #[], guard := none }) (v := .slice ax nx cx) rfl (by kernel_rfl) (by kernel_rfl) (by kernel_rfl) (fun _ _ _ h => h) (by rfl) ?_ hHeld ?_
  · (intro wq hSw; go_simp <;> with_reducible rfl)
  try simp only [Act.put, List.setIfInBounds_toArray, List.set_cons_zero, List.set_cons_succ]
  refine take_text (i := 1) (oi := { dst := some 31, op := Go.Op.convert 47 9 (Go.Operand.tmp 30), type := 9, pos := "law.go:119", after := #[{ on := 0, ground := Go.Ground.data }], guard := none }) rfl (by kernel_rfl) (by kernel_rfl) (by kernel_rfl) 47 9 (.tmp 30) (.slice ax nx cx) (.string (textOf (cmdB k s h n p))) (fun _ _ _ h => h) (by rfl) rfl (by go_simp <;> with_reducible rfl) (fun W hW => run_to_text W ax nx cx (cmdB k s h n p) (HX.out.below hW)) hHeld ?_
  try simp only [Act.put, List.setIfInBounds_toArray, List.set_cons_zero, List.set_cons_succ]
  refine take_row (i := 2) (oi := { dst := some 32, op := Go.Op.load 46 (Go.Operand.tmp 2), type := 46, pos := "law.go:119", after := #[], guard := none }) rfl (by kernel_rfl) (by kernel_rfl) (by kernel_rfl) 46 (.tmp 2) P 46 #[.int .i64 k, .int .i64 s, .int .i64 h, .int .i64 n, .int .i64 p] (0, 0) _ (fun _ _ _ h => h) (by rfl) rfl (by go_simp <;> with_reducible rfl) (fun W hW => B8.out.1.below hW) Try.underlying46 rfl (by kernel_rfl) hHeld ?_
  try simp only [Act.put, List.setIfInBounds_toArray, List.set_cons_zero, List.set_cons_succ]
  refine take_call (i := 3) (oi := { dst := some 33, op := Go.Op.call { callee := Go.Callee.value (Go.Operand.func 20), args := #[Go.Operand.tmp 32], argTypes := #[46] }, type := 47, pos := "law.go:119", after := #[{ on := 2, ground := Go.Ground.data }], guard := none }) rfl (by kernel_rfl) (by rfl) 20 _ (by go_simp <;> with_reducible rfl) ?_
  refine (rBytes_any k s h n p HR.out.1 HR.out.2.1 HR.out.2.2.1 HR.out.2.2.2.1 HR.out.2.2.2.2 _).mono ?_
  rintro e w9 ⟨v9, rfl, g9, b9'⟩
  refine ⟨v9, rfl, below_drew_trans b9', ?_⟩
  try simp only [Act.put, List.setIfInBounds_toArray, List.set_cons_zero, List.set_cons_succ]
  have b9 : Below w8.heap.size w8 w9 := below_drew_trans b9'
  refine held_more (S' := fun W => Below w9.heap.size w9 W) (fun W hW => b9.trans (hW.mono b9.size)) _ _ _ _ ?_
  obtain ⟨a9, c9, rfl, s9, _⟩ := g9
  refine take_text (i := 4) (oi := { dst := some 34, op := Go.Op.convert 47 9 (Go.Operand.tmp 33), type := 9, pos := "law.go:119", after := #[{ on := 3, ground := Go.Ground.data }], guard := none }) rfl (by kernel_rfl) (by kernel_rfl) (by kernel_rfl) 47 9 (.tmp 33) (.slice a9 (cmdB k s h n p).length c9) (.string (textOf (cmdB k s h n p))) (fun _ _ _ h => h) (by rfl) rfl (by go_simp <;> with_reducible rfl) (fun W hW => run_to_text W a9 _ c9 (cmdB k s h n p) (s9.below hW)) (Below.refl _ w9) ?_
  try simp only [Act.put, List.setIfInBounds_toArray, List.set_cons_zero, List.set_cons_succ]
  refine take_run (i := 5) (oi := { dst := some 35, op := Go.Op.binOp Go.BinOp.eql 9 (Go.Operand.tmp 31) (Go.Operand.tmp 34) 9, type := 4, pos := "law.go:119", after := #[{ on := 1, ground := Go.Ground.data }, { on := 4, ground := Go.Ground.data }], guard := none }) (v := .bool true) rfl (by kernel_rfl) (by kernel_rfl) (by kernel_rfl) (fun _ _ _ h => h) (by rfl) ?_ (Below.refl _ w9) ?_
  · (intro wq hSw; have ts := text_self (textOf (cmdB k s h n p)); go_simp <;> with_reducible rfl)
  try simp only [Act.put, List.setIfInBounds_toArray, List.set_cons_zero, List.set_cons_succ]
  refine take_run (i := 6) (oi := { dst := some 36, op := Go.Op.move (Go.Operand.tmp 35), type := 4, pos := "law.go:119", after := #[{ on := 5, ground := Go.Ground.data }, { on := 3, ground := Go.Ground.chain }], guard := none }) (v := .bool true) rfl (by kernel_rfl) (by kernel_rfl) (by kernel_rfl) (fun _ _ _ h => h) (by rfl) ?_ (Below.refl _ w9) ?_
  · (intro wq hSw; go_simp <;> with_reducible rfl)
  try simp only [Act.put, List.setIfInBounds_toArray, List.set_cons_zero, List.set_cons_succ]
  refine take_row (i := 7) (oi := { dst := some 37, op := Go.Op.load 38 (Go.Operand.tmp 6), type := 38, pos := "law.go:119", after := #[{ on := 6, ground := Go.Ground.guard }], guard := some (6, true) }) rfl (by kernel_rfl) (by kernel_rfl) (by kernel_rfl) 38 (.tmp 6) Pp 38 #[.int .i64 x0, .int .i64 x1, .int .i64 x2, .int .i64 x3, .int .i64 x4] (0, 0) _ (fun _ _ _ h => h) (by rfl) rfl (by go_simp <;> with_reducible rfl) (fun W hW => (B8.out.2.1.below b9).below hW) Try.underlying38 rfl (by kernel_rfl) (Below.refl _ w9) ?_
  try simp only [Act.put, List.setIfInBounds_toArray, List.set_cons_zero, List.set_cons_succ]
  refine take_row (i := 8) (oi := { dst := some 38, op := Go.Op.load 46 (Go.Operand.tmp 8), type := 46, pos := "law.go:119", after := #[{ on := 6, ground := Go.Ground.guard }], guard := some (6, true) }) rfl (by kernel_rfl) (by kernel_rfl) (by kernel_rfl) 46 (.tmp 8) Pq 46 #[.int .i64 x0, .int .i64 x1, .int .i64 x2, .int .i64 x3, .int .i64 x4] (0, 0) _ (fun _ _ _ h => h) (by rfl) rfl (by go_simp <;> with_reducible rfl) (fun W hW => (B8.out.2.2.1.below b9).below hW) Try.underlying46 rfl (by kernel_rfl) (Below.refl _ w9) ?_
  try simp only [Act.put, List.setIfInBounds_toArray, List.set_cons_zero, List.set_cons_succ]
  refine take_call (i := 9) (oi := { dst := some 39, op := Go.Op.call { callee := Go.Callee.value (Go.Operand.func 17), args := #[Go.Operand.tmp 38], argTypes := #[46] }, type := 38, pos := "law.go:119", after := #[{ on := 8, ground := Go.Ground.data }, { on := 6, ground := Go.Ground.chain }, { on := 6, ground := Go.Ground.guard }], guard := some (6, true) }) rfl (by kernel_rfl) (by rfl) 17 _ (by go_simp <;> with_reducible rfl) ?_
  refine (given_any x0 x1 x2 x3 x4 _).mono ?_
  rintro e z1 ⟨rfl, d1⟩
  refine ⟨.agg #[.int .i64 x0, .int .i64 x1, .int .i64 x2, .int .i64 x3, .int .i64 x4], rfl, d1, ?_⟩
  try simp only [Act.put, List.setIfInBounds_toArray, List.set_cons_zero, List.set_cons_succ]
  refine take_run (i := 10) (oi := { dst := some 40, op := Go.Op.binOp Go.BinOp.eql 38 (Go.Operand.tmp 37) (Go.Operand.tmp 39) 38, type := 4, pos := "law.go:119", after := #[{ on := 7, ground := Go.Ground.data }, { on := 9, ground := Go.Ground.data }, { on := 6, ground := Go.Ground.guard }], guard := some (6, true) }) (v := .bool true) rfl (by kernel_rfl) (by kernel_rfl) (by kernel_rfl) (fun _ _ _ h => h) (by rfl) ?_ d1 ?_
  · (intro wq hSw; go_simp <;> with_reducible rfl)
  try simp only [Act.put, List.setIfInBounds_toArray, List.set_cons_zero, List.set_cons_succ]
  refine take_run (i := 11) (oi := { dst := some 41, op := Go.Op.pick (Go.Operand.tmp 36) (Go.Operand.tmp 40) (Go.Operand.const (Go.Value.bool false)), type := 4, pos := "law.go:119", after := #[{ on := 6, ground := Go.Ground.data }, { on := 10, ground := Go.Ground.data }], guard := none }) (v := .bool true) rfl (by kernel_rfl) (by kernel_rfl) (by kernel_rfl) (fun _ _ _ h => h) (by rfl) ?_ d1 ?_
  · (intro wq hSw; go_simp <;> with_reducible rfl)
  try simp only [Act.put, List.setIfInBounds_toArray, List.set_cons_zero, List.set_cons_succ]
  refine take_run (i := 12) (oi := { dst := some 42, op := Go.Op.move (Go.Operand.tmp 41), type := 4, pos := "law.go:119", after := #[{ on := 11, ground := Go.Ground.data }, { on := 9, ground := Go.Ground.chain }], guard := none }) (v := .bool true) rfl (by kernel_rfl) (by kernel_rfl) (by kernel_rfl) (fun _ _ _ h => h) (by rfl) ?_ d1 ?_
  · (intro wq hSw; go_simp <;> with_reducible rfl)
  try simp only [Act.put, List.setIfInBounds_toArray, List.set_cons_zero, List.set_cons_succ]
  refine take_run (i := 13) (oi := { dst := some 43, op := Go.Op.move (Go.Operand.tmp 7), type := 24, pos := "law.go:119", after := #[{ on := 12, ground := Go.Ground.guard }], guard := some (12, true) }) (v := .int .i64 x5) rfl (by kernel_rfl) (by kernel_rfl) (by kernel_rfl) (fun _ _ _ h => h) (by rfl) ?_ d1 ?_
  · (intro wq hSw; go_simp <;> with_reducible rfl)
  try simp only [Act.put, List.setIfInBounds_toArray, List.set_cons_zero, List.set_cons_succ]
  refine take_run (i := 14) (oi := { dst := some 44, op := Go.Op.move (Go.Operand.tmp 9), type := 24, pos := "law.go:119", after := #[{ on := 12, ground := Go.Ground.guard }], guard := some (12, true) }) (v := .int .i64 x5) rfl (by kernel_rfl) (by kernel_rfl) (by kernel_rfl) (fun _ _ _ h => h) (by rfl) ?_ d1 ?_
  · (intro wq hSw; go_simp <;> with_reducible rfl)
  try simp only [Act.put, List.setIfInBounds_toArray, List.set_cons_zero, List.set_cons_succ]
  refine take_run (i := 15) (oi := { dst := some 45, op := Go.Op.binOp Go.BinOp.eql 24 (Go.Operand.tmp 43) (Go.Operand.tmp 44) 24, type := 4, pos := "law.go:119", after := #[{ on := 13, ground := Go.Ground.data }, { on := 14, ground := Go.Ground.data }, { on := 12, ground := Go.Ground.guard }], guard := some (12, true) }) (v := .bool true) rfl (by kernel_rfl) (by kernel_rfl) (by kernel_rfl) (fun _ _ _ h => h) (by rfl) ?_ d1 ?_
  · (intro wq hSw; go_simp <;> with_reducible rfl)
  try simp only [Act.put, List.setIfInBounds_toArray, List.set_cons_zero, List.set_cons_succ]
  refine take_run (i := 16) (oi := { dst := some 46, op := Go.Op.pick (Go.Operand.tmp 42) (Go.Operand.tmp 45) (Go.Operand.const (Go.Value.bool false)), type := 4, pos := "law.go:119", after := #[{ on := 12, ground := Go.Ground.data }, { on := 15, ground := Go.Ground.data }], guard := none }) (v := .bool true) rfl (by kernel_rfl) (by kernel_rfl) (by kernel_rfl) (fun _ _ _ h => h) (by rfl) ?_ d1 ?_
  · (intro wq hSw; go_simp <;> with_reducible rfl)
  try simp only [Act.put, List.setIfInBounds_toArray, List.set_cons_zero, List.set_cons_succ]
  refine take_run (i := 17) (oi := { dst := some 47, op := Go.Op.move (Go.Operand.tmp 46), type := 4, pos := "law.go:119", after := #[{ on := 16, ground := Go.Ground.data }, { on := 12, ground := Go.Ground.chain }], guard := none }) (v := .bool true) rfl (by kernel_rfl) (by kernel_rfl) (by kernel_rfl) (fun _ _ _ h => h) (by rfl) ?_ d1 ?_
  · (intro wq hSw; go_simp <;> with_reducible rfl)
  try simp only [Act.put, List.setIfInBounds_toArray, List.set_cons_zero, List.set_cons_succ]
  refine take_row (i := 18) (oi := { dst := some 48, op := Go.Op.load 38 (Go.Operand.tmp 10), type := 38, pos := "law.go:119", after := #[{ on := 17, ground := Go.Ground.guard }], guard := some (17, true) }) rfl (by kernel_rfl) (by kernel_rfl) (by kernel_rfl) 38 (.tmp 10) Py 38 #[.int .i64 k, .int .i64 s, .int .i64 h, .int .i64 n, .int .i64 p] (0, 0) _ (fun _ _ _ h => h) (by rfl) rfl (by go_simp <;> with_reducible rfl) (fun W hW => (B8.out.2.2.2.below b9).below hW) Try.underlying38 rfl (by kernel_rfl) d1 ?_
  try simp only [Act.put, List.setIfInBounds_toArray, List.set_cons_zero, List.set_cons_succ]
  refine take_row (i := 19) (oi := { dst := some 49, op := Go.Op.load 46 (Go.Operand.tmp 2), type := 46, pos := "law.go:119", after := #[{ on := 17, ground := Go.Ground.guard }], guard := some (17, true) }) rfl (by kernel_rfl) (by kernel_rfl) (by kernel_rfl) 46 (.tmp 2) P 46 #[.int .i64 k, .int .i64 s, .int .i64 h, .int .i64 n, .int .i64 p] (0, 0) _ (fun _ _ _ h => h) (by rfl) rfl (by go_simp <;> with_reducible rfl) (fun W hW => (B8.out.1.below b9).below hW) Try.underlying46 rfl (by kernel_rfl) d1 ?_
  try simp only [Act.put, List.setIfInBounds_toArray, List.set_cons_zero, List.set_cons_succ]
  refine take_call (i := 20) (oi := { dst := some 50, op := Go.Op.call { callee := Go.Callee.value (Go.Operand.func 17), args := #[Go.Operand.tmp 49], argTypes := #[46] }, type := 38, pos := "law.go:119", after := #[{ on := 19, ground := Go.Ground.data }, { on := 17, ground := Go.Ground.chain }, { on := 17, ground := Go.Ground.guard }], guard := some (17, true) }) rfl (by kernel_rfl) (by rfl) 17 _ (by go_simp <;> with_reducible rfl) ?_
  refine (given_any k s h n p _).mono ?_
  rintro e z2 ⟨rfl, d2⟩
  refine ⟨.agg #[.int .i64 k, .int .i64 s, .int .i64 h, .int .i64 n, .int .i64 p], rfl, d1.trans (d2.mono d1.size), ?_⟩
  try simp only [Act.put, List.setIfInBounds_toArray, List.set_cons_zero, List.set_cons_succ]
  have d2' : Below w9.heap.size w9 z2 := d1.trans (d2.mono d1.size)
  refine take_run (i := 21) (oi := { dst := some 51, op := Go.Op.binOp Go.BinOp.eql 38 (Go.Operand.tmp 48) (Go.Operand.tmp 50) 38, type := 4, pos := "law.go:119", after := #[{ on := 18, ground := Go.Ground.data }, { on := 20, ground := Go.Ground.data }, { on := 17, ground := Go.Ground.guard }], guard := some (17, true) }) (v := .bool true) rfl (by kernel_rfl) (by kernel_rfl) (by kernel_rfl) (fun _ _ _ h => h) (by rfl) ?_ d2' ?_
  · (intro wq hSw; go_simp <;> with_reducible rfl)
  try simp only [Act.put, List.setIfInBounds_toArray, List.set_cons_zero, List.set_cons_succ]
  refine take_run (i := 22) (oi := { dst := some 52, op := Go.Op.pick (Go.Operand.tmp 47) (Go.Operand.tmp 51) (Go.Operand.const (Go.Value.bool false)), type := 4, pos := "law.go:119", after := #[{ on := 17, ground := Go.Ground.data }, { on := 21, ground := Go.Ground.data }], guard := none }) (v := .bool true) rfl (by kernel_rfl) (by kernel_rfl) (by kernel_rfl) (fun _ _ _ h => h) (by rfl) ?_ d2' ?_
  · (intro wq hSw; go_simp <;> with_reducible rfl)
  try simp only [Act.put, List.setIfInBounds_toArray, List.set_cons_zero, List.set_cons_succ]
  refine take_run (i := 23) (oi := { dst := some 53, op := Go.Op.move (Go.Operand.tmp 52), type := 4, pos := "law.go:119", after := #[{ on := 22, ground := Go.Ground.data }, { on := 20, ground := Go.Ground.chain }], guard := none }) (v := .bool true) rfl (by kernel_rfl) (by kernel_rfl) (by kernel_rfl) (fun _ _ _ h => h) (by rfl) ?_ d2' ?_
  · (intro wq hSw; go_simp <;> with_reducible rfl)
  try simp only [Act.put, List.setIfInBounds_toArray, List.set_cons_zero, List.set_cons_succ]
  refine take_run (i := 24) (oi := { dst := some 54, op := Go.Op.move (Go.Operand.tmp 11), type := 24, pos := "law.go:119", after := #[{ on := 23, ground := Go.Ground.guard }], guard := some (23, true) }) (v := .int .i64 0) rfl (by kernel_rfl) (by kernel_rfl) (by kernel_rfl) (fun _ _ _ h => h) (by rfl) ?_ d2' ?_
  · (intro wq hSw; go_simp <;> with_reducible rfl)
  try simp only [Act.put, List.setIfInBounds_toArray, List.set_cons_zero, List.set_cons_succ]
  refine take_run (i := 25) (oi := { dst := some 55, op := Go.Op.binOp Go.BinOp.eql 24 (Go.Operand.tmp 54) (Go.Operand.const (Go.Value.int Go.IntKind.i64 0)) 24, type := 4, pos := "law.go:119", after := #[{ on := 24, ground := Go.Ground.data }, { on := 23, ground := Go.Ground.guard }], guard := some (23, true) }) (v := .bool true) rfl (by kernel_rfl) (by kernel_rfl) (by kernel_rfl) (fun _ _ _ h => h) (by rfl) ?_ d2' ?_
  · (intro wq hSw; go_simp <;> with_reducible rfl)
  try simp only [Act.put, List.setIfInBounds_toArray, List.set_cons_zero, List.set_cons_succ]
  refine take_run (i := 26) (oi := { dst := some 56, op := Go.Op.pick (Go.Operand.tmp 53) (Go.Operand.tmp 55) (Go.Operand.const (Go.Value.bool false)), type := 4, pos := "law.go:119", after := #[{ on := 23, ground := Go.Ground.data }, { on := 25, ground := Go.Ground.data }], guard := none }) (v := .bool true) rfl (by kernel_rfl) (by kernel_rfl) (by kernel_rfl) (fun _ _ _ h => h) (by rfl) ?_ d2' ?_
  · (intro wq hSw; go_simp <;> with_reducible rfl)
  try simp only [Act.put, List.setIfInBounds_toArray, List.set_cons_zero, List.set_cons_succ]
  refine take_run (i := 27) (oi := { dst := some 57, op := Go.Op.move (Go.Operand.tmp 56), type := 4, pos := "law.go:119", after := #[{ on := 26, ground := Go.Ground.data }, { on := 23, ground := Go.Ground.chain }], guard := none }) (v := .bool true) rfl (by kernel_rfl) (by kernel_rfl) (by kernel_rfl) (fun _ _ _ h => h) (by rfl) ?_ d2' ?_
  · (intro wq hSw; go_simp <;> with_reducible rfl)
  try simp only [Act.put, List.setIfInBounds_toArray, List.set_cons_zero, List.set_cons_succ]
  refine take_call (i := 28) (oi := { dst := some 58, op := Go.Op.call { callee := Go.Callee.value (Go.Operand.func 11), args := #[], argTypes := #[] }, type := 4, pos := "law.go:119", after := #[{ on := 27, ground := Go.Ground.chain }, { on := 27, ground := Go.Ground.guard }], guard := some (27, true) }) rfl (by kernel_rfl) (by rfl) 11 _ (by go_simp <;> with_reducible rfl) ?_
  refine (knownC_any _).mono ?_
  rintro e z3 ⟨rfl, d3⟩
  refine ⟨.bool true, rfl, d2'.trans (d3.mono d2'.size), ?_⟩
  try simp only [Act.put, List.setIfInBounds_toArray, List.set_cons_zero, List.set_cons_succ]
  have d3' : Below w9.heap.size w9 z3 := d2'.trans (d3.mono d2'.size)
  refine take_run (i := 29) (oi := { dst := some 59, op := Go.Op.pick (Go.Operand.tmp 57) (Go.Operand.tmp 58) (Go.Operand.const (Go.Value.bool false)), type := 4, pos := "law.go:119", after := #[{ on := 27, ground := Go.Ground.data }, { on := 28, ground := Go.Ground.data }], guard := none }) (v := .bool true) rfl (by kernel_rfl) (by kernel_rfl) (by kernel_rfl) (fun _ _ _ h => h) (by rfl) ?_ d3' ?_
  · (intro wq hSw; go_simp <;> with_reducible rfl)
  try simp only [Act.put, List.setIfInBounds_toArray, List.set_cons_zero, List.set_cons_succ]
  refine take_run (i := 30) (oi := { dst := some 4, op := Go.Op.assign (Go.Operand.tmp 59), type := 4, pos := "law.go:119", after := #[{ on := 29, ground := Go.Ground.data }, { on := 28, ground := Go.Ground.chain }, { on := 0, ground := Go.Ground.phase }, { on := 1, ground := Go.Ground.phase }, { on := 2, ground := Go.Ground.phase }, { on := 3, ground := Go.Ground.phase }, { on := 4, ground := Go.Ground.phase }, { on := 5, ground := Go.Ground.phase }, { on := 6, ground := Go.Ground.phase }, { on := 7, ground := Go.Ground.phase }, { on := 8, ground := Go.Ground.phase }, { on := 9, ground := Go.Ground.phase }, { on := 10, ground := Go.Ground.phase }, { on := 11, ground := Go.Ground.phase }, { on := 12, ground := Go.Ground.phase }, { on := 13, ground := Go.Ground.phase }, { on := 14, ground := Go.Ground.phase }, { on := 15, ground := Go.Ground.phase }, { on := 16, ground := Go.Ground.phase }, { on := 17, ground := Go.Ground.phase }, { on := 18, ground := Go.Ground.phase }, { on := 19, ground := Go.Ground.phase }, { on := 20, ground := Go.Ground.phase }, { on := 21, ground := Go.Ground.phase }, { on := 22, ground := Go.Ground.phase }, { on := 23, ground := Go.Ground.phase }, { on := 24, ground := Go.Ground.phase }, { on := 25, ground := Go.Ground.phase }, { on := 26, ground := Go.Ground.phase }, { on := 27, ground := Go.Ground.phase }, { on := 28, ground := Go.Ground.phase }, { on := 29, ground := Go.Ground.phase }], guard := none }) (v := .bool true) rfl (by kernel_rfl) (by kernel_rfl) (by kernel_rfl) (fun _ _ _ h => h) (by rfl) ?_ d3' ?_
  · (intro wq hSw; go_simp <;> with_reducible rfl)
  try simp only [Act.put, List.setIfInBounds_toArray, List.set_cons_zero, List.set_cons_succ]
  refine wpAnyH_done (by kernel_rfl) ?_ _
  go_wp2
  go_ret
  exact ⟨rfl, HW.out.trans ((b9.trans (d3'.mono b9.size)).mono HW.out.size)⟩
end Go.Proofs.Ytpdgmlljjjeifaa
