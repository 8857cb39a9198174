/- DiskPlays: the law, where all is right. -/
import Derived.Test.YtnpebdnfdbeiaaaRPlaysA
namespace Go.Proofs.Ytnpebdnfdbeiaaa
open Go.RowKit
set_option linter.unusedVariables false

set_option maxRecDepth 100000 in
set_option maxHeartbeats 12800000 in
theorem plays_full_no (sec : Int) (hsn : ¬ (1 ≤ sec ∧ sec ≤ 4096)) (ia : Option Addr) (icap n : Nat) (l : List (BitVec 8)) (a : Option Addr) (len cap : Nat) (os : List OpX) (w : World) (h1 : 1 ≤ n) (h2 : n ≤ 4096) (hs : Seen w ia (256 * n) l) (hnil : ia = none → icap = 0) (hc : 256 * n ≤ icap) (hcm : icap ≤ 140737488351232) (h : OpsAt w a len os) (hz : ∀ o ∈ os, o.b.length ≤ 140737488351232) :
    Calls Try.prog 3 #[.int .i64 sec, .slice ia (256 * n) icap, .slice a len cap] w fun e w' => e = .returned (.bool true) ∧ Below w.heap.size w w' := by
  have HS : Hid (Seen w ia (256 * n) l) := hs
  have HNil : Hid (ia = none → icap = 0) := hnil
  have HLen : Hid (256 * n ≤ icap ∧ icap ≤ 140737488351232 ∧ 1 ≤ n ∧ n ≤ 4096 ∧ l.length = 256 * n) := ⟨hc, hcm, h1, h2, hs.1.symm⟩
  have HO : Hid (OpsAt w a len os) := h
  have HZ : Hid (∀ o ∈ os, o.b.length ≤ 140737488351232) := hz
  have HL : Hid (len = os.length) := h.1
  have FA := fun k => runD_facts (loadD_ok h1 h2 hs.1.symm) (loadD_even l) rfl os k
  have ST := fun k => runD_step n (loadD l) os k
  have F0 : runD n (loadD l) (os.take 0) = loadD l := rfl
  obtain ⟨s0, e0⟩ : ∃ s, loadD l = s := ⟨_, rfl⟩
  rw [e0] at FA ST F0
  have HFA : Hid _ := FA
  have HST : Hid _ := ST
  have HF0 : Hid _ := F0
  have E0 : Hid (loadD l = s0) := e0
  clear hs hnil hc hcm h hz h1 h2 FA ST F0 e0
  go_enter Try.func3, Try.ntmps3
  go_wp2_with fail
  refine (new_no sec w hsn).mono ?_
  rintro e w1 ⟨rfl, rfl⟩
  go_wp2_with fail
  refine (refNew_no sec w1 hsn).mono ?_
  rintro e w2 ⟨rfl, rfl⟩
  have B2 : Hid (Below w2.heap.size w2 w2) := Below.refl _ _
  go_wp2_with fail
  refine (lent_any ia (256 * n) icap l w2 (HS.out.below B2.out) HNil.out (by have := HLen.out; omega)).mono ?_
  rintro e w3 ⟨g, c, rfl, o3, b3⟩
  have O3 : Hid (w3.ownsRow w2.heap.size 5 1 (.slice (some ⟨g, 0, none⟩) (256 * n + 1) c) (256 * n + 1) (cellsOf (l ++ [167#8])) ∧ Below w2.heap.size w2 w3) := ⟨o3, b3⟩
  have S3 : Hid (Seen w3 (some ⟨g, 0, none⟩) (256 * n) l) := seen_owned (owns_less o3 HLen.out.2.2.2.2) HLen.out.2.2.2.2 (by unfold maxLen; have := HLen.out.2.2.2.1; omega)
  clear o3 b3
  go_wp2_with fail
  refine (load_any (some ⟨g, 0, none⟩) n c l w3 HLen.out.2.2.1 HLen.out.2.2.2.1 S3.out (fun e => by cases e)).mono ?_
  rintro e w4 ⟨md, rfl, d4, b4, f4⟩
  have G4 : Hid (Dsk w4 md n (loadD l) ∧ Below w3.heap.size w3 w4 ∧ ∀ k, md.own k → w3.heap.size ≤ k) := ⟨d4, b4, f4⟩
  obtain ⟨D, eD⟩ : ∃ D, md.D = D := ⟨_, rfl⟩
  have ED : Hid (md.D = D) := eD
  rw [eD]
  clear d4 b4 f4 eD
  go_wp2_with fail
  refine (refLoad_any ia n icap l w4 HLen.out.2.2.1 HLen.out.2.2.2.1 (((HS.out.below B2.out).below O3.out.2).below G4.out.2.1) HLen.out.1 (by unfold maxLen; have := HLen.out.2.1; omega)).mono ?_
  rintro e w5 ⟨mr, rfl, d5, b5, f5⟩
  obtain ⟨pm, o5, g5, nm, nr, z5⟩ := plays_start B2.out O3.out.1 O3.out.2 G4.out.1 G4.out.2.1 G4.out.2.2 d5 b5 f5
  have S5 : Hid (Seen w5 ia (256 * n) l) := (((HS.out.below B2.out).below O3.out.2).below G4.out.2.1).below b5
  obtain ⟨R, eR⟩ : ∃ R, mr.R = R := ⟨_, rfl⟩
  have ER : Hid (mr.R = R) := eR
  rw [eR]
  rw [E0.out] at pm
  have G5 : Hid (PairM w2 w5 md mr n s0 s0 ∧ w5.ownsRow w2.heap.size 5 1 (.slice (some ⟨g, 0, none⟩) (256 * n + 1) c) (256 * n + 1) (cellsOf (l ++ [167#8])) ∧ w2.heap.size ≤ g ∧ ¬ md.own g ∧ ¬ mr.all g ∧ w2.heap.size ≤ w5.heap.size) := ⟨pm, o5, g5, nm, nr, z5⟩
  clear d5 b5 f5 pm o5 g5 nm nr z5 eR G4 S3 O3
  go_wp2_with fail
  refine (kept_any g c (256 * n) l ia icap w5 w2.heap.size G5.out.2.1 S5.out (by have := HLen.out; omega)).mono ?_
  rintro e w6 ⟨rfl, rfl⟩
  go_wp2_with fail
  refine (spoil_row w2.heap.size _ _ _ w6 (owns_less G5.out.2.1 HLen.out.2.2.2.2) G5.out.2.2.2.2.2 (by have := HLen.out; omega)).mono ?_
  rintro e w7 ⟨⟨u, rfl⟩, g7⟩
  have M0 : Hid (Pair w2 w7 D R n s0 s0) := ⟨md, mr, ED.out, ER.out, G5.out.1.grown g7 G5.out.2.2.1 G5.out.2.2.2.1 G5.out.2.2.2.2.1⟩
  clear g7 G5 S5 ED ER B2 E0 HS HNil
  obtain ⟨gv, cv, cR⟩ := M0.out.cell
  by_cases h20 : n ≤ 20
  · have n20 : ¬ (20 : Int) < (n : Int) := by omega
    have H20 : Hid (n ≤ 20) := h20
    clear h20
    go_wp2_with fail
    go_loopw [16] (fun i wr => ∃ k : Nat, i = .int .i64 k ∧ Hid (k ≤ len ∧ k ≤ 100) ∧ Hid (Pair w2 wr D R n (runD n s0 (os.take k)) (runD n s0 (os.take k)))) (fun i _ => 100 - (intOf i).toNat)
    case atStart => exact ⟨0, rfl, ⟨Nat.zero_le _, Nat.zero_le _⟩, by rw [HF0.out]; exact M0.out⟩
    case round =>
      clear M0 cR
      obtain ⟨k, rfl, hk, hM⟩ := hrel
      by_cases hlt : k < len ∧ k < 100
      · have hko : k < os.length := by have := HL.out; omega
        have FK := HFA.out k (by omega) (by have := hlt.2; omega)
        have FK2 := HFA.out (k + 1) (by omega) (by have := hlt.2; omega)
        have es := HST.out k hko
        have hz1 := HZ.out _ (List.getElem_mem hko)
        obtain ⟨go, off, rfl, z0, z1, z2, z3, hat⟩ := HO.out.at hM.out.low hko
        clear z0 z1 z2 z3
        have HCELL : Hid (∀ X : World, Below w2.heap.size w2 X → X.cell? ⟨go, off + k * 4, none⟩ = some (.int .i64 os[k].k) ∧ X.cell? ⟨go, off + k * 4 + 1, none⟩ = some (.int .i64 os[k].n) ∧ X.cell? ⟨go, off + k * 4 + 2, none⟩ = some (.slice os[k].ba os[k].b.length os[k].bc) ∧ X.cell? ⟨go, off + k * 4 + 3, none⟩ = some (.slice os[k].la os[k].zs.length os[k].lc)) := fun X hX => by
          obtain ⟨g', off', e', c0', c1', c2', c3', _⟩ := HO.out.at hX hko
          cases e'
          exact ⟨c0', c1', c2', c3'⟩
        obtain ⟨o, eo⟩ : ∃ o, os[k] = o := ⟨_, rfl⟩
        rw [eo] at hat hz1 HCELL es
        obtain ⟨s, esk⟩ : ∃ s, runD n s0 (os.take k) = s := ⟨_, rfl⟩
        rw [esk] at FK es hM
        rw [es] at FK2
        have DO1 := fun X (hX : Pair w2 X D R n s s) => pair_do hX o hat (by have := FK.2.2; have := hlt.2; omega) hz1
        have DO2 := fun X (hX : Pair w2 X D R n (doD n s o) s) => pair_ref hX o hat (by have := FK.2.2; have := hlt.2; omega)
        have DO3 := fun X (hX : Pair w2 X D R n (doD n s o) (doD n s o)) => pair_alike hX FK2.2.1 H20.out
        obtain ⟨E, eE⟩ : ∃ E, doE n s o = E := ⟨_, rfl⟩
        rw [eE] at DO1 DO2
        have h1 : (k : Int) < (len : Int) := by omega
        have h2 : (k : Int) < 100 := by omega
        have HLT : Hid (k < len ∧ k < 100) := hlt
        have ES : Hid (runD n s0 (os.take (k + 1)) = doD n s o) := es
        have WK : Hid ((k : Int) + 1 = ((k + 1 : Nat) : Int)) := by show (k : Int) + 1 = ((k + 1 : Nat) : Int); omega
        clear hlt hko eo hz1 es hat hk FK FK2 esk eE
        go_wp2_with fail
        refine wp_region_held_drew (S := fun X => Below w2.heap.size w2 X) (by kernel_rfl) (hM.out.low.trans (((Below.refl _ wr).drew).mono hM.out.low.size)) (fun hHeld => ?_)
        refine take_run (i := 0) (oi := { dst := some 91, op := Go.Op.move (Go.Operand.tmp 12), type := 24, pos := "law.go:83", after := #[], guard := none }) (v := .pointer (some ⟨D, 0, none⟩)) rfl (by kernel_rfl) (by kernel_rfl) (by kernel_rfl) (fun _ _ _ h => h) (by rfl) ?_ hHeld ?_
        · (intro wq hSw; go_simp <;> with_reducible rfl)
        try simp only [Act.put, List.setIfInBounds_toArray, List.set_cons_zero, List.set_cons_succ]
        refine take_run (i := 1) (oi := { dst := some 92, op := Go.Op.move (Go.Operand.tmp 2), type := 23, pos := "law.go:83", after := #[], guard := none }) (v := .slice (some ⟨go, off, none⟩) len cap) rfl (by kernel_rfl) (by kernel_rfl) (by kernel_rfl) (fun _ _ _ h => h) (by rfl) ?_ hHeld ?_
        · (intro wq hSw; go_simp <;> with_reducible rfl)
        try simp only [Act.put, List.setIfInBounds_toArray, List.set_cons_zero, List.set_cons_succ]
        refine take_run (i := 2) (oi := { dst := some 93, op := Go.Op.move (Go.Operand.tmp 16), type := 3, pos := "law.go:83", after := #[], guard := none }) (v := .int .i64 (k : Int)) rfl (by kernel_rfl) (by kernel_rfl) (by kernel_rfl) (fun _ _ _ h => h) (by rfl) ?_ hHeld ?_
        · (intro wq hSw; go_simp <;> with_reducible rfl)
        try simp only [Act.put, List.setIfInBounds_toArray, List.set_cons_zero, List.set_cons_succ]
        refine take_run (i := 3) (oi := { dst := some 94, op := Go.Op.indexAddr 23 (Go.Operand.tmp 92) (Go.Operand.tmp 93), type := 0, pos := "law.go:83", after := #[{ on := 1, ground := Go.Ground.data }, { on := 2, ground := Go.Ground.data }], guard := none }) (v := .pointer (some ⟨go, off + k * 4, none⟩)) rfl (by kernel_rfl) (by kernel_rfl) (by kernel_rfl) (fun _ _ _ h => h) (by rfl) ?_ hHeld ?_
        · (intro wq hSw; go_simp <;> with_reducible rfl)
        try simp only [Act.put, List.setIfInBounds_toArray, List.set_cons_zero, List.set_cons_succ]
        refine take_run (i := 4) (oi := { dst := some 95, op := Go.Op.load 44 (Go.Operand.tmp 94), type := 44, pos := "law.go:83", after := #[{ on := 3, ground := Go.Ground.data }], guard := none }) (v := .agg #[.int .i64 o.k, .int .i64 o.n, .slice o.ba o.b.length o.bc, .slice o.la o.zs.length o.lc]) rfl (by kernel_rfl) (by kernel_rfl) (by kernel_rfl) (fun _ _ _ h => h) (by rfl) ?_ hHeld ?_
        · (intro wq hSw; obtain ⟨c0, c1, c2, c3⟩ := HCELL.out wq hSw; go_simp <;> with_reducible rfl)
        try simp only [Act.put, List.setIfInBounds_toArray, List.set_cons_zero, List.set_cons_succ]
        refine take_run (i := 6) (oi := { dst := some 97, op := Go.Op.move (Go.Operand.tmp 14), type := 28, pos := "law.go:83", after := #[], guard := none }) (v := .pointer (some ⟨R, 0, none⟩)) rfl (by kernel_rfl) (by kernel_rfl) (by kernel_rfl) (fun _ _ _ h => h) (by rfl) ?_ hHeld ?_
        · (intro wq hSw; go_simp <;> with_reducible rfl)
        try simp only [Act.put, List.setIfInBounds_toArray, List.set_cons_zero, List.set_cons_succ]
        refine take_run (i := 7) (oi := { dst := some 98, op := Go.Op.move (Go.Operand.tmp 2), type := 23, pos := "law.go:83", after := #[], guard := none }) (v := .slice (some ⟨go, off, none⟩) len cap) rfl (by kernel_rfl) (by kernel_rfl) (by kernel_rfl) (fun _ _ _ h => h) (by rfl) ?_ hHeld ?_
        · (intro wq hSw; go_simp <;> with_reducible rfl)
        try simp only [Act.put, List.setIfInBounds_toArray, List.set_cons_zero, List.set_cons_succ]
        refine take_run (i := 8) (oi := { dst := some 99, op := Go.Op.move (Go.Operand.tmp 16), type := 3, pos := "law.go:83", after := #[], guard := none }) (v := .int .i64 (k : Int)) rfl (by kernel_rfl) (by kernel_rfl) (by kernel_rfl) (fun _ _ _ h => h) (by rfl) ?_ hHeld ?_
        · (intro wq hSw; go_simp <;> with_reducible rfl)
        try simp only [Act.put, List.setIfInBounds_toArray, List.set_cons_zero, List.set_cons_succ]
        refine take_run (i := 9) (oi := { dst := some 100, op := Go.Op.indexAddr 23 (Go.Operand.tmp 98) (Go.Operand.tmp 99), type := 0, pos := "law.go:83", after := #[{ on := 7, ground := Go.Ground.data }, { on := 8, ground := Go.Ground.data }], guard := none }) (v := .pointer (some ⟨go, off + k * 4, none⟩)) rfl (by kernel_rfl) (by kernel_rfl) (by kernel_rfl) (fun _ _ _ h => h) (by rfl) ?_ hHeld ?_
        · (intro wq hSw; go_simp <;> with_reducible rfl)
        try simp only [Act.put, List.setIfInBounds_toArray, List.set_cons_zero, List.set_cons_succ]
        refine take_run (i := 10) (oi := { dst := some 101, op := Go.Op.load 44 (Go.Operand.tmp 100), type := 44, pos := "law.go:83", after := #[{ on := 9, ground := Go.Ground.data }], guard := none }) (v := .agg #[.int .i64 o.k, .int .i64 o.n, .slice o.ba o.b.length o.bc, .slice o.la o.zs.length o.lc]) rfl (by kernel_rfl) (by kernel_rfl) (by kernel_rfl) (fun _ _ _ h => h) (by rfl) ?_ hHeld ?_
        · (intro wq hSw; obtain ⟨c0, c1, c2, c3⟩ := HCELL.out wq hSw; go_simp <;> with_reducible rfl)
        try simp only [Act.put, List.setIfInBounds_toArray, List.set_cons_zero, List.set_cons_succ]
        refine take_call (i := 5) (oi := { dst := some 96, op := Go.Op.call { callee := Go.Callee.value (Go.Operand.func 12), args := #[Go.Operand.tmp 91, Go.Operand.tmp 95], argTypes := #[24, 44] }, type := 25, pos := "law.go:83", after := #[{ on := 0, ground := Go.Ground.data }, { on := 4, ground := Go.Ground.data }], guard := none }) rfl (by kernel_rfl) (by rfl) 12 _ (by go_simp <;> with_reducible rfl) ?_
        refine (DO1 _ (hM.out.below (Below.refl _ wr).drew)).mono ?_
        rintro e y1 ⟨rfl, r1⟩
        have hY := r1.low
        refine ⟨.int .i64 (E : Int), rfl, hY, ?_⟩
        try simp only [Act.put, List.setIfInBounds_toArray, List.set_cons_zero, List.set_cons_succ]
        refine take_call (i := 11) (oi := { dst := some 102, op := Go.Op.call { callee := Go.Callee.value (Go.Operand.func 13), args := #[Go.Operand.tmp 97, Go.Operand.tmp 101], argTypes := #[28, 44] }, type := 25, pos := "law.go:83", after := #[{ on := 6, ground := Go.Ground.data }, { on := 10, ground := Go.Ground.data }, { on := 5, ground := Go.Ground.chain }], guard := none }) rfl (by kernel_rfl) (by rfl) 13 _ (by go_simp <;> with_reducible rfl) ?_
        refine (DO2 _ r1).mono ?_
        rintro e y2 ⟨rfl, r2⟩
        have hY2 := r2.low
        refine ⟨.int .i64 (E : Int), rfl, hY2, ?_⟩
        try simp only [Act.put, List.setIfInBounds_toArray, List.set_cons_zero, List.set_cons_succ]
        refine take_run (i := 12) (oi := { dst := some 103, op := Go.Op.binOp Go.BinOp.neq 25 (Go.Operand.tmp 96) (Go.Operand.tmp 102) 25, type := 4, pos := "law.go:83", after := #[{ on := 5, ground := Go.Ground.data }, { on := 11, ground := Go.Ground.data }], guard := none }) (v := .bool false) rfl (by kernel_rfl) (by kernel_rfl) (by kernel_rfl) (fun _ _ _ h => h) (by rfl) ?_ hY2 ?_
        · (intro wq hSw; go_simp <;> with_reducible rfl)
        try simp only [Act.put, List.setIfInBounds_toArray, List.set_cons_zero, List.set_cons_succ]
        refine take_run (i := 13) (oi := { dst := some 104, op := Go.Op.move (Go.Operand.tmp 103), type := 4, pos := "law.go:83", after := #[{ on := 12, ground := Go.Ground.data }, { on := 11, ground := Go.Ground.chain }], guard := none }) (v := .bool false) rfl (by kernel_rfl) (by kernel_rfl) (by kernel_rfl) (fun _ _ _ h => h) (by rfl) ?_ hY2 ?_
        · (intro wq hSw; go_simp <;> with_reducible rfl)
        try simp only [Act.put, List.setIfInBounds_toArray, List.set_cons_zero, List.set_cons_succ]
        refine take_run (i := 14) (oi := { dst := some 105, op := Go.Op.move (Go.Operand.tmp 12), type := 24, pos := "law.go:83", after := #[{ on := 13, ground := Go.Ground.guard }], guard := some (13, false) }) (v := .pointer (some ⟨D, 0, none⟩)) rfl (by kernel_rfl) (by kernel_rfl) (by kernel_rfl) (fun _ _ _ h => h) (by rfl) ?_ hY2 ?_
        · (intro wq hSw; go_simp <;> with_reducible rfl)
        try simp only [Act.put, List.setIfInBounds_toArray, List.set_cons_zero, List.set_cons_succ]
        refine take_run (i := 15) (oi := { dst := some 106, op := Go.Op.move (Go.Operand.tmp 14), type := 28, pos := "law.go:83", after := #[{ on := 13, ground := Go.Ground.guard }], guard := some (13, false) }) (v := .pointer (some ⟨R, 0, none⟩)) rfl (by kernel_rfl) (by kernel_rfl) (by kernel_rfl) (fun _ _ _ h => h) (by rfl) ?_ hY2 ?_
        · (intro wq hSw; go_simp <;> with_reducible rfl)
        try simp only [Act.put, List.setIfInBounds_toArray, List.set_cons_zero, List.set_cons_succ]
        refine take_call (i := 16) (oi := { dst := some 107, op := Go.Op.call { callee := Go.Callee.value (Go.Operand.func 14), args := #[Go.Operand.tmp 105, Go.Operand.tmp 106], argTypes := #[24, 28] }, type := 4, pos := "law.go:83", after := #[{ on := 14, ground := Go.Ground.data }, { on := 15, ground := Go.Ground.data }, { on := 13, ground := Go.Ground.chain }, { on := 13, ground := Go.Ground.guard }], guard := some (13, false) }) rfl (by kernel_rfl) (by rfl) 14 _ (by go_simp <;> with_reducible rfl) ?_
        refine (DO3 _ r2).mono ?_
        rintro e y3 ⟨rfl, r3⟩
        have hY3 := r3.low
        refine ⟨.bool true, rfl, hY3, ?_⟩
        try simp only [Act.put, List.setIfInBounds_toArray, List.set_cons_zero, List.set_cons_succ]
        refine take_run (i := 17) (oi := { dst := some 108, op := Go.Op.unOp Go.UnOp.not 4 (Go.Operand.tmp 107), type := 4, pos := "law.go:83", after := #[{ on := 16, ground := Go.Ground.data }, { on := 13, ground := Go.Ground.guard }], guard := some (13, false) }) (v := .bool false) rfl (by kernel_rfl) (by kernel_rfl) (by kernel_rfl) (fun _ _ _ h => h) (by rfl) ?_ hY3 ?_
        · (intro wq hSw; go_simp <;> with_reducible rfl)
        try simp only [Act.put, List.setIfInBounds_toArray, List.set_cons_zero, List.set_cons_succ]
        refine take_run (i := 18) (oi := { dst := some 109, op := Go.Op.pick (Go.Operand.tmp 104) (Go.Operand.const (Go.Value.bool true)) (Go.Operand.tmp 108), type := 4, pos := "law.go:83", after := #[{ on := 13, ground := Go.Ground.data }, { on := 17, ground := Go.Ground.data }], guard := none }) (v := .bool false) rfl (by kernel_rfl) (by kernel_rfl) (by kernel_rfl) (fun _ _ _ h => h) (by rfl) ?_ hY3 ?_
        · (intro wq hSw; go_simp <;> with_reducible rfl)
        try simp only [Act.put, List.setIfInBounds_toArray, List.set_cons_zero, List.set_cons_succ]
        have M2 : Hid (Pair w2 y3 D R n (runD n s0 (os.take (k + 1))) (runD n s0 (os.take (k + 1)))) := by rw [ES.out]; exact r3
        clear r1 r2 r3 hY hY2 hY3 hHeld hM DO1 DO2 DO3 ES HCELL
        refine wpAnyH_done (by kernel_rfl) ?_ _
        go_wp2
        rw [WK.out]
        go_roundw
        case rel => exact ⟨k + 1, rfl, ⟨HLT.out.1, HLT.out.2⟩, M2.out⟩
        case measure => exact less_by HLT.out.2
      · have hx : ¬ (k : Int) < (len : Int) ∨ ((k : Int) < (len : Int) ∧ ¬ (k : Int) < 100) := by omega
        have FK := HFA.out k (by have := hk.out.1; have := HL.out; omega) (by have := hk.out.2; omega)
        have HK2 : Hid (k ≤ 100) := hk.out.2
        obtain ⟨s, esk⟩ : ∃ s, runD n s0 (os.take k) = s := ⟨_, rfl⟩
        rw [esk] at FK hM
        have EV : Hid (s.even ∧ s.ws.length ≤ 100) := ⟨FK.2.1, by have := FK.2.2; have := hk.out.2; omega⟩
        clear hlt hk FK esk
        rcases hx with h1 | ⟨h1, h2⟩
        all_goals
          go_wp2_with fail
          refine (trio_copy hM.out).mono ?_
          rintro e x1 ⟨C, rfl, t1⟩
          have T1 : Hid (TrioR w2 x1 C D R n s s s) := t1
          clear t1 hM
          go_wp2_with fail
          refine (trio_alike T1.out EV.out.1 H20.out).mono ?_
          rintro e x2 ⟨rfl, t2⟩
          have T2 : Hid (TrioR w2 x2 C D R n s s s) := t2
          have cvx : (convert 22 22 (.slice (some ⟨x2.heap.size, 0, none⟩) 5 5)).run Try.prog (x2.alloc (.cells #[.int .u8 111, .int .u8 116, .int .u8 104, .int .u8 101, .int .u8 114] 5)) = .ok (.slice (some ⟨x2.heap.size, 0, none⟩) 5 5) (x2.alloc (.cells #[.int .u8 111, .int .u8 116, .int .u8 104, .int .u8 101, .int .u8 114] 5 (5, 6))) := Go.Lib.run_convert_bytes_const (P := Try.prog) x2 22 5 _ 5 5 Try.underlying22 Try.underlying5
          clear t2 T1
          go_wp2_with fail
          have bA := (Below.refl x2.heap.size x2).alloc (Nat.le_refl _) (.cells #[.int .u8 111, .int .u8 116, .int .u8 104, .int .u8 101, .int .u8 114] 5 (5, 6))
          refine (trio_write (T2.out.below bA) 0 _ 5 5 [111#8, 116#8, 104#8, 101#8, 114#8] (seen_new x2 [111#8, 116#8, 104#8, 101#8, 114#8] 5 (5, 6) (by decide)) (by have := EV.out.2; omega)).mono ?_
          rintro e x3 ⟨rfl, t3⟩
          have T3 : Hid (TrioR w2 x3 C D R n (writeD n s 0 [111#8, 116#8, 104#8, 101#8, 114#8]) s s) := t3
          clear t3 T2 bA
          go_wp2_with fail
          refine (trio_crash T3.out).mono ?_
          rintro e x4 ⟨rfl, p4⟩
          have P4 : Hid (Pair w2 x4 D R n s s) := p4
          clear p4 T3
          go_wp2_with fail
          refine (pair_alike P4.out EV.out.1 H20.out).mono ?_
          rintro e x5 ⟨rfl, p5⟩
          have P5 : Hid (Pair w2 x5 D R n s s) := p5
          clear p5 P4
          go_wp2_with fail
          refine (known_any _).mono ?_
          rintro e y ⟨rfl, b⟩
          have B : Hid (Below w2.heap.size w2 y) := P5.out.low.trans (b.mono P5.out.low.size)
          clear b P5
          go_wp2
          go_ret
          exact ⟨rfl, B.out⟩
  · have n20 : (20 : Int) < (n : Int) := by omega
    clear h20
    go_wp2_with fail
    refine (known_any _).mono ?_
    rintro e y ⟨rfl, b⟩
    have B : Hid (Below w2.heap.size w2 y) := M0.out.low.trans (b.mono M0.out.low.size)
    clear b
    go_wp2
    go_ret
    exact ⟨rfl, B.out⟩
end Go.Proofs.Ytnpebdnfdbeiaaa
