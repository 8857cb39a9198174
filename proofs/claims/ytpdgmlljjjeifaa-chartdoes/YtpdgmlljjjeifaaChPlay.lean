/- Package chart: play. Written by gen_pl.py. -/
import Derived.Test.YtpdgmlljjjeifaaChAlike
import Derived.Test.YtpdgmlljjjeifaaChFrame
namespace Go.Proofs.Ytpdgmlljjjeifaa
open Go.RowKit Cod
attribute [local go_sem] Oper.semAt_some
set_option linter.unusedVariables false
set_option maxRecDepth 100000 in
set_option maxHeartbeats 8000000 in
theorem play_any {w0 w : World} {R Q O E cO cE : Nat} {L : List Int} {N : Nat} (h : Two w0 w R Q O E cO cE L N) (hN : N ≤ 10) (a : Option Addr) (len cap : Nat) (os : List CmdC) (hC : CmdsC w0 a len os) (hlm : len ≤ maxLen) :
    Calls Try.prog 12 #[.pointer (some ⟨R, 0, none⟩), .pointer (some ⟨Q, 0, none⟩), .slice a len cap] w fun e w' => e = .returned (.bool true) ∧ ∃ L N, Two w0 w' R Q O E cO cE L N ∧ N ≤ 110 := by
  have HCC : Hid (CmdsC w0 a len os) := hC
  have HLM : Hid (len ≤ maxLen) := hlm
  have H1 : Hid (∃ L N, Two w0 w R Q O E cO cE L N ∧ N ≤ 10 + 0) := ⟨L, N, h, by omega⟩
  clear h hN hC hlm
  go_enter Try.func12, Try.ntmps12
  go_wp2_with fail
  go_loopw [7] (fun i wr => ∃ j : Nat, (j ≤ len ∧ j ≤ 100) ∧ i = .int .i64 (j : Int) ∧ Hid (∃ L N, Two w0 wr R Q O E cO cE L N ∧ N ≤ 10 + j)) (fun i _ => 101 - (intOf i).toNat)
  case atStart => exact ⟨0, ⟨by omega, by omega⟩, rfl, H1⟩
  case round =>
    obtain ⟨j, hj, rfl, HH⟩ := hrel
    clear H1
    by_cases hjl : j < len
    · by_cases hj100 : j < 100
      · have q0 : decide ((j : Int) < (len : Int)) = true := decide_eq_true (by omega)
        have q1 : decide ((j : Int) < 100) = true := decide_eq_true (by omega)
        have hjl' : (j : Int) < (len : Int) := by omega
        obtain ⟨L, N, tw, hN⟩ := HH.out
        have hjo : j < os.length := by have := HCC.out.1; omega
        have hok := HCC.out.2.1 (os[j]'hjo) (List.getElem_mem hjo)
        have MK0 : ∀ W, Below w0.heap.size w0 W → ∃ b0 off, a = some ⟨b0, off, none⟩ ∧ W.cell? ⟨b0, off + j * 5, none⟩ = some (.int .i64 (os[j]'hjo).k) ∧ W.cell? ⟨b0, off + j * 5 + 1, none⟩ = some (.int .i64 (os[j]'hjo).s) ∧ W.cell? ⟨b0, off + j * 5 + 2, none⟩ = some (.int .i64 (os[j]'hjo).h) ∧ W.cell? ⟨b0, off + j * 5 + 3, none⟩ = some (.int .i64 (os[j]'hjo).n) ∧ W.cell? ⟨b0, off + j * 5 + 4, none⟩ = some (.int .i64 (os[j]'hjo).p) := fun W hb => HCC.out.at hb hjo
        generalize os[j]'hjo = o at hok MK0
        obtain ⟨bb, off, ea, _⟩ := MK0 w0 (Below.refl _ w0)
        subst ea
        obtain ⟨k, s, t, nn, p⟩ := o
        obtain ⟨hk, hs, ht, hn, hp⟩ := hok
        dsimp only at MK0 hk hs ht hn hp
        have MK : Hid (∀ W, Below w0.heap.size w0 W → (W.cell? ⟨bb, off + j * 5, none⟩ = some (.int .i64 k) ∧ W.cell? ⟨bb, off + j * 5 + 1, none⟩ = some (.int .i64 s) ∧ W.cell? ⟨bb, off + j * 5 + 2, none⟩ = some (.int .i64 t) ∧ W.cell? ⟨bb, off + j * 5 + 3, none⟩ = some (.int .i64 nn) ∧ W.cell? ⟨bb, off + j * 5 + 4, none⟩ = some (.int .i64 p))) := fun W hb => by
          obtain ⟨b1, o1, e1, h1⟩ := MK0 W hb
          cases e1
          exact h1
        have TW : Hid (Two w0 wr R Q O E cO cE L N) := tw
        obtain ⟨⟨⟨why, wt, n2⟩, L'⟩, ed⟩ : ∃ x, doC L k s t nn p = x := ⟨_, rfl⟩
        have HX : Hid (∀ W, Two w0 W R Q O E cO cE L N → Calls Try.prog 15 #[.pointer (some ⟨R, 0, none⟩), .agg #[.int .i64 k, .int .i64 s, .int .i64 t, .int .i64 nn, .int .i64 p]] W fun e w' => e = .returned (.agg #[.int .i64 why, .bool wt, .int .i64 n2]) ∧ MyC w0 w' R L' (N + 1) ∧ OnlyR W w' R) := fun W tW => by
          have := my_do tW.my (by omega) k s t nn p
          rw [ed] at this
          exact this
        have HY : Hid (∀ W, RC W w0.heap.size Q O E cO cE L → Calls Try.prog 30 #[.pointer (some ⟨Q, 0, none⟩), .agg #[.int .i64 k, .int .i64 s, .int .i64 t, .int .i64 nn, .int .i64 p]] W fun e w' => e = .returned (.agg #[.int .i64 why, .bool wt, .int .i64 n2]) ∧ RC w' w0.heap.size Q O E cO cE L' ∧ Only3 W w' Q O E) := fun W rW => by
          have := rdo_any rW (tw.my.g.fine (by omega)) tw.ph k s t nn p
          rw [ed] at this
          exact this
        have HP : Hid (Ph3 L' ∧ AllIn L') := by
          have h1 := (turn_doC tw.my.g tw.ph k s t nn p).2
          have h2 := tw.ai.doC tw.my.g (by omega) (k := k) (p := p) (s := s) (t := t) (n := nn) ⟨hs.1, by omega⟩ ⟨ht.1, by omega⟩ ⟨hn.1, by omega⟩
          rw [ed] at h1 h2
          exact ⟨h1, h2⟩
        have HJ : Hid (j < len ∧ j < 100 ∧ N ≤ 10 + j) := ⟨hjl, hj100, hN⟩
        clear hj HH tw hN MK0 hk hs ht hn hp ed hjo
        go_wp2_with fail
        refine wp_region_held_drew (S := fun W => Below w0.heap.size w0 W) (by kernel_rfl) (TW.out.my.b.drew) (fun hHeld => ?_)
        refine take_run (i := 0) (oi := { dst := some 18, op := Go.Op.move (Go.Operand.tmp 0), type := 23, pos := "law.go:61", after := #[], guard := none }) (v := .pointer (some ⟨R, 0, none⟩)) rfl (by kernel_rfl) (by kernel_rfl) (by kernel_rfl) (fun _ _ _ h => h) (by rfl) ?_ hHeld ?_
        · (intro wq hSw; go_simp <;> with_reducible rfl)
        try simp only [Act.put, List.setIfInBounds_toArray, List.set_cons_zero, List.set_cons_succ]
        refine take_run (i := 1) (oi := { dst := some 19, op := Go.Op.move (Go.Operand.tmp 2), type := 22, pos := "law.go:61", after := #[], guard := none }) (v := .slice (some ⟨bb, off, none⟩) len cap) rfl (by kernel_rfl) (by kernel_rfl) (by kernel_rfl) (fun _ _ _ h => h) (by rfl) ?_ hHeld ?_
        · (intro wq hSw; go_simp <;> with_reducible rfl)
        try simp only [Act.put, List.setIfInBounds_toArray, List.set_cons_zero, List.set_cons_succ]
        refine take_run (i := 2) (oi := { dst := some 20, op := Go.Op.move (Go.Operand.tmp 7), type := 3, pos := "law.go:61", after := #[], guard := none }) (v := .int .i64 (j : Int)) rfl (by kernel_rfl) (by kernel_rfl) (by kernel_rfl) (fun _ _ _ h => h) (by rfl) ?_ hHeld ?_
        · (intro wq hSw; go_simp <;> with_reducible rfl)
        try simp only [Act.put, List.setIfInBounds_toArray, List.set_cons_zero, List.set_cons_succ]
        refine take_run (i := 3) (oi := { dst := some 21, op := Go.Op.indexAddr 22 (Go.Operand.tmp 19) (Go.Operand.tmp 20), type := 0, pos := "law.go:61", after := #[{ on := 1, ground := Go.Ground.data }, { on := 2, ground := Go.Ground.data }], guard := none }) (v := .pointer (some ⟨bb, off + j * 5, none⟩)) rfl (by kernel_rfl) (by kernel_rfl) (by kernel_rfl) (fun _ _ _ h => h) (by rfl) ?_ hHeld ?_
        · (intro wq hSw; have hj9 : (j : Int) < (len : Int) := (by omega); go_simp <;> with_reducible rfl)
        try simp only [Act.put, List.setIfInBounds_toArray, List.set_cons_zero, List.set_cons_succ]
        refine take_run (i := 4) (oi := { dst := some 22, op := Go.Op.load 46 (Go.Operand.tmp 21), type := 46, pos := "law.go:61", after := #[{ on := 3, ground := Go.Ground.data }], guard := none }) (v := .agg #[.int .i64 k, .int .i64 s, .int .i64 t, .int .i64 nn, .int .i64 p]) rfl (by kernel_rfl) (by kernel_rfl) (by kernel_rfl) (fun _ _ _ h => h) (by rfl) ?_ hHeld ?_
        · (intro wq hSw; obtain ⟨k0, k1, k2, k3, k4⟩ := MK.out _ hSw; go_simp <;> with_reducible rfl)
        try simp only [Act.put, List.setIfInBounds_toArray, List.set_cons_zero, List.set_cons_succ]
        refine take_run (i := 8) (oi := { dst := some 26, op := Go.Op.move (Go.Operand.tmp 1), type := 27, pos := "law.go:61", after := #[], guard := none }) (v := .pointer (some ⟨Q, 0, none⟩)) rfl (by kernel_rfl) (by kernel_rfl) (by kernel_rfl) (fun _ _ _ h => h) (by rfl) ?_ hHeld ?_
        · (intro wq hSw; go_simp <;> with_reducible rfl)
        try simp only [Act.put, List.setIfInBounds_toArray, List.set_cons_zero, List.set_cons_succ]
        refine take_run (i := 9) (oi := { dst := some 27, op := Go.Op.move (Go.Operand.tmp 2), type := 22, pos := "law.go:61", after := #[], guard := none }) (v := .slice (some ⟨bb, off, none⟩) len cap) rfl (by kernel_rfl) (by kernel_rfl) (by kernel_rfl) (fun _ _ _ h => h) (by rfl) ?_ hHeld ?_
        · (intro wq hSw; go_simp <;> with_reducible rfl)
        try simp only [Act.put, List.setIfInBounds_toArray, List.set_cons_zero, List.set_cons_succ]
        refine take_run (i := 10) (oi := { dst := some 28, op := Go.Op.move (Go.Operand.tmp 7), type := 3, pos := "law.go:61", after := #[], guard := none }) (v := .int .i64 (j : Int)) rfl (by kernel_rfl) (by kernel_rfl) (by kernel_rfl) (fun _ _ _ h => h) (by rfl) ?_ hHeld ?_
        · (intro wq hSw; go_simp <;> with_reducible rfl)
        try simp only [Act.put, List.setIfInBounds_toArray, List.set_cons_zero, List.set_cons_succ]
        refine take_run (i := 11) (oi := { dst := some 29, op := Go.Op.indexAddr 22 (Go.Operand.tmp 27) (Go.Operand.tmp 28), type := 0, pos := "law.go:61", after := #[{ on := 9, ground := Go.Ground.data }, { on := 10, ground := Go.Ground.data }], guard := none }) (v := .pointer (some ⟨bb, off + j * 5, none⟩)) rfl (by kernel_rfl) (by kernel_rfl) (by kernel_rfl) (fun _ _ _ h => h) (by rfl) ?_ hHeld ?_
        · (intro wq hSw; have hj9 : (j : Int) < (len : Int) := (by omega); go_simp <;> with_reducible rfl)
        try simp only [Act.put, List.setIfInBounds_toArray, List.set_cons_zero, List.set_cons_succ]
        refine take_run (i := 12) (oi := { dst := some 30, op := Go.Op.load 46 (Go.Operand.tmp 29), type := 46, pos := "law.go:61", after := #[{ on := 11, ground := Go.Ground.data }], guard := none }) (v := .agg #[.int .i64 k, .int .i64 s, .int .i64 t, .int .i64 nn, .int .i64 p]) rfl (by kernel_rfl) (by kernel_rfl) (by kernel_rfl) (fun _ _ _ h => h) (by rfl) ?_ hHeld ?_
        · (intro wq hSw; obtain ⟨k0, k1, k2, k3, k4⟩ := MK.out _ hSw; go_simp <;> with_reducible rfl)
        try simp only [Act.put, List.setIfInBounds_toArray, List.set_cons_zero, List.set_cons_succ]
        refine take_call (i := 5) (oi := { dst := some 23, op := Go.Op.call { callee := Go.Callee.value (Go.Operand.func 17), args := #[Go.Operand.tmp 22], argTypes := #[46] }, type := 38, pos := "law.go:61", after := #[{ on := 4, ground := Go.Ground.data }], guard := none }) rfl (by kernel_rfl) (by rfl) 17 _ (by go_simp <;> with_reducible rfl) ?_
        refine (given_any k s t nn p _).mono ?_
        rintro e x1 ⟨rfl, d1'⟩
        have T1 : Hid (Two w0 x1 R Q O E cO cE L N) := TW.out.below (below_drew_trans d1')
        refine ⟨.agg #[.int .i64 k, .int .i64 s, .int .i64 t, .int .i64 nn, .int .i64 p], rfl, T1.out.my.b, ?_⟩
        try simp only [Act.put, List.setIfInBounds_toArray, List.set_cons_zero, List.set_cons_succ]
        refine take_call (i := 6) (oi := { dst := some 24, op := Go.Op.call { callee := Go.Callee.value (Go.Operand.func 15), args := #[Go.Operand.tmp 18, Go.Operand.tmp 23], argTypes := #[23, 38] }, type := 35, pos := "law.go:61", after := #[{ on := 0, ground := Go.Ground.data }, { on := 5, ground := Go.Ground.data }, { on := 5, ground := Go.Ground.chain }], guard := none }) rfl (by kernel_rfl) (by rfl) 15 _ (by go_simp <;> with_reducible rfl) ?_
        refine (HX.out x1 T1.out).mono ?_
        rintro e x2 ⟨rfl, m2, g2⟩
        refine ⟨.agg #[.int .i64 why, .bool wt, .int .i64 n2], rfl, m2.b, ?_⟩
        try simp only [Act.put, List.setIfInBounds_toArray, List.set_cons_zero, List.set_cons_succ]
        have T2 : Hid (MyC w0 x2 R L' (N + 1) ∧ RC x2 w0.heap.size Q O E cO cE L) := ⟨m2, T1.out.rc.kept fun q hq => g2.block q (by have := T1.out.rc.lt; omega) (by have := T1.out.nQR; have := T1.out.nOR; have := T1.out.nER; omega)⟩
        refine take_call (i := 7) (oi := { dst := some 25, op := Go.Op.call { callee := Go.Callee.value (Go.Operand.func 25), args := #[Go.Operand.tmp 24], argTypes := #[35] }, type := 62, pos := "law.go:61", after := #[{ on := 6, ground := Go.Ground.data }, { on := 6, ground := Go.Ground.chain }], guard := none }) rfl (by kernel_rfl) (by rfl) 25 _ (by go_simp <;> with_reducible rfl) ?_
        refine (taken_any why wt n2 _).mono ?_
        rintro e x3 ⟨rfl, d3⟩
        refine ⟨.agg #[.int .i64 why, .bool wt, .int .i64 n2], rfl, (T2.out.1.below d3).b, ?_⟩
        try simp only [Act.put, List.setIfInBounds_toArray, List.set_cons_zero, List.set_cons_succ]
        have T3 : Hid (MyC w0 x3 R L' (N + 1) ∧ RC x3 w0.heap.size Q O E cO cE L) := ⟨T2.out.1.below d3, T2.out.2.below d3⟩
        refine take_call (i := 13) (oi := { dst := some 31, op := Go.Op.call { callee := Go.Callee.value (Go.Operand.func 30), args := #[Go.Operand.tmp 26, Go.Operand.tmp 30], argTypes := #[27, 46] }, type := 62, pos := "law.go:61", after := #[{ on := 8, ground := Go.Ground.data }, { on := 12, ground := Go.Ground.data }, { on := 7, ground := Go.Ground.chain }], guard := none }) rfl (by kernel_rfl) (by rfl) 30 _ (by go_simp <;> with_reducible rfl) ?_
        refine (HY.out x3 T3.out.2).mono ?_
        rintro e x4 ⟨rfl, m4, g4⟩
        refine ⟨.agg #[.int .i64 why, .bool wt, .int .i64 n2], rfl, (T3.out.1.b.trans (g4.toBelow T3.out.2.bq T3.out.2.bo T3.out.2.be T3.out.1.b.size)), ?_⟩
        try simp only [Act.put, List.setIfInBounds_toArray, List.set_cons_zero, List.set_cons_succ]
        have T4 : Hid (Two w0 x4 R Q O E cO cE L' (N + 1)) := ⟨⟨⟨(g4.block R T3.out.1.c.lt (T1.out.nQR.symm) (T1.out.nOR.symm) (T1.out.nER.symm)).trans T3.out.1.c.hR, T3.out.1.c.len, T3.out.1.c.bR⟩, T3.out.1.b.trans (g4.toBelow T3.out.2.bq T3.out.2.bo T3.out.2.be T3.out.1.b.size), T3.out.1.g⟩, m4, HP.out.1, HP.out.2⟩
        refine take_run (i := 14) (oi := { dst := some 32, op := Go.Op.binOp Go.BinOp.neq 62 (Go.Operand.tmp 25) (Go.Operand.tmp 31) 62, type := 4, pos := "law.go:61", after := #[{ on := 7, ground := Go.Ground.data }, { on := 13, ground := Go.Ground.data }], guard := none }) (v := .bool false) rfl (by kernel_rfl) (by kernel_rfl) (by kernel_rfl) (fun _ _ _ h => h) (by rfl) ?_ T4.out.my.b ?_
        · (intro wq hSw; have e1 : ((why : Int) == why) = true := (by simp); have e2 : ((n2 : Int) == n2) = true := (by simp); go_simp <;> with_reducible rfl)
        try simp only [Act.put, List.setIfInBounds_toArray, List.set_cons_zero, List.set_cons_succ]
        refine take_run (i := 15) (oi := { dst := some 33, op := Go.Op.move (Go.Operand.tmp 32), type := 4, pos := "law.go:61", after := #[{ on := 14, ground := Go.Ground.data }, { on := 13, ground := Go.Ground.chain }], guard := none }) (v := .bool false) rfl (by kernel_rfl) (by kernel_rfl) (by kernel_rfl) (fun _ _ _ h => h) (by rfl) ?_ T4.out.my.b ?_
        · (intro wq hSw; go_simp <;> with_reducible rfl)
        try simp only [Act.put, List.setIfInBounds_toArray, List.set_cons_zero, List.set_cons_succ]
        refine take_run (i := 16) (oi := { dst := some 34, op := Go.Op.move (Go.Operand.tmp 0), type := 23, pos := "law.go:61", after := #[{ on := 15, ground := Go.Ground.guard }], guard := some (15, false) }) (v := .pointer (some ⟨R, 0, none⟩)) rfl (by kernel_rfl) (by kernel_rfl) (by kernel_rfl) (fun _ _ _ h => h) (by rfl) ?_ T4.out.my.b ?_
        · (intro wq hSw; go_simp <;> with_reducible rfl)
        try simp only [Act.put, List.setIfInBounds_toArray, List.set_cons_zero, List.set_cons_succ]
        refine take_run (i := 17) (oi := { dst := some 35, op := Go.Op.move (Go.Operand.tmp 1), type := 27, pos := "law.go:61", after := #[{ on := 15, ground := Go.Ground.guard }], guard := some (15, false) }) (v := .pointer (some ⟨Q, 0, none⟩)) rfl (by kernel_rfl) (by kernel_rfl) (by kernel_rfl) (fun _ _ _ h => h) (by rfl) ?_ T4.out.my.b ?_
        · (intro wq hSw; go_simp <;> with_reducible rfl)
        try simp only [Act.put, List.setIfInBounds_toArray, List.set_cons_zero, List.set_cons_succ]
        refine take_call (i := 18) (oi := { dst := some 36, op := Go.Op.call { callee := Go.Callee.value (Go.Operand.func 14), args := #[Go.Operand.tmp 34, Go.Operand.tmp 35], argTypes := #[23, 27] }, type := 4, pos := "law.go:61", after := #[{ on := 16, ground := Go.Ground.data }, { on := 17, ground := Go.Ground.data }, { on := 15, ground := Go.Ground.chain }, { on := 15, ground := Go.Ground.guard }], guard := some (15, false) }) rfl (by kernel_rfl) (by rfl) 14 _ (by go_simp <;> with_reducible rfl) ?_
        refine (alike_any T4.out).mono ?_
        rintro e x5 ⟨rfl, d5⟩
        refine ⟨.bool true, rfl, (T4.out.my.below d5).b, ?_⟩
        try simp only [Act.put, List.setIfInBounds_toArray, List.set_cons_zero, List.set_cons_succ]
        have T5 : Hid (Two w0 x5 R Q O E cO cE L' (N + 1)) := T4.out.below d5
        refine take_run (i := 19) (oi := { dst := some 37, op := Go.Op.unOp Go.UnOp.not 4 (Go.Operand.tmp 36), type := 4, pos := "law.go:61", after := #[{ on := 18, ground := Go.Ground.data }, { on := 15, ground := Go.Ground.guard }], guard := some (15, false) }) (v := .bool false) rfl (by kernel_rfl) (by kernel_rfl) (by kernel_rfl) (fun _ _ _ h => h) (by rfl) ?_ T5.out.my.b ?_
        · (intro wq hSw; go_simp <;> with_reducible rfl)
        try simp only [Act.put, List.setIfInBounds_toArray, List.set_cons_zero, List.set_cons_succ]
        refine take_run (i := 20) (oi := { dst := some 38, op := Go.Op.pick (Go.Operand.tmp 33) (Go.Operand.const (Go.Value.bool true)) (Go.Operand.tmp 37), type := 4, pos := "law.go:61", after := #[{ on := 15, ground := Go.Ground.data }, { on := 19, ground := Go.Ground.data }], guard := none }) (v := .bool false) rfl (by kernel_rfl) (by kernel_rfl) (by kernel_rfl) (fun _ _ _ h => h) (by rfl) ?_ T5.out.my.b ?_
        · (intro wq hSw; go_simp <;> with_reducible rfl)
        try simp only [Act.put, List.setIfInBounds_toArray, List.set_cons_zero, List.set_cons_succ]
        refine wpAnyH_done (by kernel_rfl) ?_ _
        have HF : Hid (∃ L N, Two w0 x5 R Q O E cO cE L N ∧ N ≤ 10 + (j + 1)) := ⟨L', N + 1, T5.out, by have := HJ.out; omega⟩
        clear hHeld
        go_wp2
        go_roundw
        case rel => exact ⟨j + 1, ⟨by omega, by omega⟩, by go_num, HF⟩
        case measure => simp only [intOf]; omega
      · obtain rfl : j = 100 := by omega
        rw [show ((100 : Nat) : Int) = 100 from rfl]
        have q0 : decide ((100 : Int) < (len : Int)) = true := decide_eq_true (by omega)
        have q1 : (100 : Int) < (len : Int) := by omega
        have H4 : Hid (∃ L N, Two w0 wr R Q O E cO cE L N ∧ N ≤ 110) := HH.out
        clear HH hj hjl hj100
        go_wp2
        go_ret
        exact ⟨rfl, H4.out⟩
    · obtain rfl : j = len := by omega
      have H4 : Hid (∃ L N, Two w0 wr R Q O E cO cE L N ∧ N ≤ 110) := by obtain ⟨L, N, x, y⟩ := HH.out; exact ⟨L, N, x, by omega⟩
      clear HH hj hjl
      go_wp2
      go_ret
      exact ⟨rfl, H4.out⟩
end Go.Proofs.Ytpdgmlljjjeifaa
