/- Package chart: alike. Written by gen_al.py. -/
import Derived.Test.YtpdgmlljjjeifaaChTwo
import Derived.Laws.StructEq
import Derived.Test.YtpdgmlljjjeifaaRefS
namespace Go.Proofs.Ytpdgmlljjjeifaa
open Go.RowKit Cod
attribute [local go_sem] Oper.semAt_some
set_option linter.unusedVariables false
section
variable {w0 w : World} {R Q O E cO cE : Nat} {L : List Int} {N : Nat}
theorem own_out (L : List Int) {i : Int} (h : ¬ (0 ≤ i ∧ i < 16)) : own_ L i = 0 ∧ epo_ L i = 0 := by
  unfold own_ epo_
  rw [if_neg h, if_neg h]
  exact ⟨rfl, rfl⟩
set_option maxRecDepth 100000 in
set_option maxHeartbeats 8000000 in
theorem alike_any (h : Two w0 w R Q O E cO cE L N) : Calls Try.prog 14 #[.pointer (some ⟨R, 0, none⟩), .pointer (some ⟨Q, 0, none⟩)] w fun e w' => e = .returned (.bool true) ∧ Below w.heap.size w w' := by
  have H : Hid (Two w0 w R Q O E cO cE L N) := h
  have hO := h.rc.hO
  have hE := h.rc.hE
  clear h
  go_enter Try.func14, Try.ntmps14
  go_wp2_with fail
  go_loopw [5] (fun i wr => ∃ k : Int, (-1 ≤ k ∧ k ≤ 17) ∧ i = .int .i64 k ∧ Hid (Two w0 wr R Q O E cO cE L N ∧ Below w.heap.size w wr)) (fun i _ => (17 - intOf i).toNat)
  case atStart => exact ⟨-1, by omega, rfl, ⟨H.out, Below.refl _ w⟩⟩
  case round =>
    obtain ⟨k, hk, rfl, HH⟩ := hrel
    clear H
    by_cases h17 : k < 17
    · have q0 : decide (k ≤ 16) = true := decide_eq_true (by omega)
      have q00 : k ≤ 16 := by omega
      have HO := owner_any HH.out.1.my.c k
      have HE : Hid (∀ W, Below wr.heap.size wr W → Calls Try.prog 22 #[.pointer (some ⟨R, 0, none⟩), .int .i64 k] W fun e w' => e = .returned (.int .i64 (epo_ L k)) ∧ Below wr.heap.size wr w') := fun W hb => (epoch_any (HH.out.1.my.c.below hb) k).mono fun e w' ⟨he, hb'⟩ => ⟨he, hb.trans (hb'.mono hb.size)⟩
      by_cases hin : 0 ≤ k ∧ k < 16
      · obtain ⟨m, rfl⟩ : ∃ m : Nat, k = (m : Int) := ⟨k.toNat, by omega⟩
        have hm : m < 16 := by omega
        have c1 : wr.cell? ⟨Q, 1, none⟩ = some (.slice (some ⟨O, 0, none⟩) 16 cO) := HH.out.1.rc.cell 1
        have c2 : wr.cell? ⟨Q, 2, none⟩ = some (.slice (some ⟨E, 0, none⟩) 16 cE) := HH.out.1.rc.cell 2
        have s1 := (HH.out.1.rc.co m hm).1
        have s2 := (HH.out.1.rc.ce m hm).1
        rw [own_at hm] at HO
        rw [epo_at hm] at HE
        have e1 : ((at_ L (1 + m * 2) : Int) != at_ L (1 + m * 2)) = false := by simp
        have e2 : ((at_ L (2 + m * 2) : Int) != at_ L (2 + m * 2)) = false := by simp
        generalize at_ L (1 + m * 2) = o1 at *
        generalize at_ L (2 + m * 2) = o2 at *
        clear hk hin h17 q00 q0
        go_wp2_with fail
        refine HO.mono ?_
        clear HO
        rintro e w2 ⟨rfl, b2⟩
        go_wp2_with fail
        refine (HE.out _ b2).mono ?_
        clear HE
        rintro e w3 ⟨rfl, b3⟩
        have H3 : Hid (Two w0 w3 R Q O E cO cE L N ∧ Below w.heap.size w w3) := ⟨HH.out.1.below b3, HH.out.2.trans (b3.mono HH.out.2.size)⟩
        clear b2 b3 HH c1 c2 s1 s2
        go_wp2
        go_roundw
        case rel => exact ⟨((m + 1 : Nat) : Int), by omega, by go_num, H3⟩
        case measure => simp only [intOf]; omega
      · obtain ⟨r1, r2⟩ := own_out L hin
        rw [r1] at HO
        rw [r2] at HE
        have hneg : k = -1 ∨ k = 16 := by omega
        clear hk hin h17 q00 q0 r1 r2
        rcases hneg with rfl | rfl
        · go_wp2_with fail
          refine HO.mono ?_
          clear HO
          rintro e w2 ⟨rfl, b2⟩
          go_wp2_with fail
          refine (HE.out _ b2).mono ?_
          clear HE
          rintro e w3 ⟨rfl, b3⟩
          have H3 : Hid (Two w0 w3 R Q O E cO cE L N ∧ Below w.heap.size w w3) := ⟨HH.out.1.below b3, HH.out.2.trans (b3.mono HH.out.2.size)⟩
          clear b2 b3 HH
          go_wp2
          go_roundw
          case rel => exact ⟨0, by omega, by rfl, H3⟩
          case measure => simp only [intOf]; omega
        · go_wp2_with fail
          refine HO.mono ?_
          clear HO
          rintro e w2 ⟨rfl, b2⟩
          go_wp2_with fail
          refine (HE.out _ b2).mono ?_
          clear HE
          rintro e w3 ⟨rfl, b3⟩
          have H3 : Hid (Two w0 w3 R Q O E cO cE L N ∧ Below w.heap.size w w3) := ⟨HH.out.1.below b3, HH.out.2.trans (b3.mono HH.out.2.size)⟩
          clear b2 b3 HH
          go_wp2
          go_roundw
          case rel => exact ⟨17, by omega, by rfl, H3⟩
          case measure => simp only [intOf]; omega
    · obtain rfl : k = 17 := by omega
      have HA := audit_any HH.out.1.my.c
      clear hk h17
      go_wp2_with fail
      refine HA.mono ?_
      clear HA
      rintro e w2 ⟨rfl, nq, rfl⟩
      have H2 : Hid (Two w0 (wr.drewN nq) R Q O E cO cE L N ∧ Below w.heap.size w (wr.drewN nq)) := ⟨HH.out.1.drewN nq, below_drewN' HH.out.2 nq⟩
      generalize wr.drewN nq = w3 at *
      have HI := cImage_any H2.out.1.my.c H2.out.1.ai
      clear HH
      go_wp2_with fail
      refine HI.mono ?_
      clear HI
      rintro e w4 ⟨v4, rfl, g4, b4, o4⟩
      obtain ⟨ax, cx, rfl, sx, _⟩ := g4
      have T4 : Hid (Two w0 w4 R Q O E cO cE L N) := H2.out.1.below b4
      have B4 : Hid (Below w.heap.size w w4) := H2.out.2.trans (b4.mono H2.out.2.size)
      have OX : Hid (w4.ownsRow w.heap.size 5 1 (.slice ax (imgB L).length cx) (imgB L).length (cellsOf (imgB L))) := o4.mono H2.out.2.size
      obtain ⟨nx, enx⟩ : ∃ x, (imgB L).length = x := ⟨_, rfl⟩
      have ENX : Hid ((imgB L).length = nx) := enx
      have SX : Hid (Seen w4 ax nx (imgB L)) := by rw [← enx]; exact sx
      rw [enx]
      have MK0 : ∀ W, Below w4.heap.size w4 W → (W.cell? ⟨Q, 0, none⟩ = some (.int .i64 (at_ L 0)) ∧ W.cell? ⟨Q, 4, none⟩ = some (.int .i64 (at_ L 34)) ∧ W.cell? ⟨Q, 5, none⟩ = some (.int .i64 (at_ L 35)) ∧ W.cell? ⟨Q, 6, none⟩ = some (.int .i64 (at_ L 36)) ∧ W.cell? ⟨Q, 7, none⟩ = some (.int .i64 (at_ L 37)) ∧ W.cell? ⟨Q, 8, none⟩ = some (.int .i64 (at_ L 38)) ∧ W.cell? ⟨Q, 9, none⟩ = some (.int .i64 (at_ L 39)) ∧ W.cell? ⟨Q, 10, none⟩ = some (.int .i64 (at_ L 40)) ∧ W.cell? ⟨Q, 11, none⟩ = some (.int .i64 (at_ L 41))) := fun W hb => by
        have r := T4.out.rc.below hb
        exact ⟨r.cell 0, r.cell 4, r.cell 5, r.cell 6, r.cell 7, r.cell 8, r.cell 9, r.cell 10, r.cell 11⟩
      have move_any := @move_any
      have shards_any := @shards_any
      unfold moveV at move_any
      clear b4 sx o4 enx H2
      have MK : Hid _ := MK0
      clear MK0
      go_wp2_with fail
      refine wp_region_held_drew (S := fun W => Below w4.heap.size w4 W) (by kernel_rfl) (Below.refl _ w4).drew (fun hHeld => ?_)
      refine take_run (i := 0) (oi := { dst := some 55, op := Go.Op.move (Go.Operand.tmp 0), type := 23, pos := "law.go:53", after := #[], guard := none }) (v := .pointer (some ⟨R, 0, none⟩)) rfl (by kernel_rfl) (by kernel_rfl) (by kernel_rfl) (fun _ _ _ h => h) (by rfl) ?_ hHeld ?_
      · (intro wq hSw; go_simp <;> with_reducible rfl)
      try simp only [Act.put, List.setIfInBounds_toArray, List.set_cons_zero, List.set_cons_succ]
      refine take_run (i := 3) (oi := { dst := some 58, op := Go.Op.move (Go.Operand.tmp 1), type := 27, pos := "law.go:53", after := #[], guard := none }) (v := .pointer (some ⟨Q, 0, none⟩)) rfl (by kernel_rfl) (by kernel_rfl) (by kernel_rfl) (fun _ _ _ h => h) (by rfl) ?_ hHeld ?_
      · (intro wq hSw; go_simp <;> with_reducible rfl)
      try simp only [Act.put, List.setIfInBounds_toArray, List.set_cons_zero, List.set_cons_succ]
      refine take_run (i := 4) (oi := { dst := some 59, op := Go.Op.nilCheck (Go.Operand.tmp 58), type := 0, pos := "law.go:53", after := #[{ on := 3, ground := Go.Ground.data }], guard := none }) (v := .pointer (some ⟨Q, 0, none⟩)) rfl (by kernel_rfl) (by kernel_rfl) (by kernel_rfl) (fun _ _ _ h => h) (by rfl) ?_ hHeld ?_
      · (intro wq hSw; go_simp <;> with_reducible rfl)
      try simp only [Act.put, List.setIfInBounds_toArray, List.set_cons_zero, List.set_cons_succ]
      refine take_run (i := 5) (oi := { dst := some 60, op := Go.Op.fieldAddr 44 (Go.Operand.tmp 59) 4, type := 0, pos := "law.go:53", after := #[{ on := 4, ground := Go.Ground.data }], guard := none }) (v := .pointer (some ⟨Q, 4, none⟩)) rfl (by kernel_rfl) (by kernel_rfl) (by kernel_rfl) (fun _ _ _ h => h) (by rfl) ?_ hHeld ?_
      · (intro wq hSw; go_simp <;> with_reducible rfl)
      try simp only [Act.put, List.setIfInBounds_toArray, List.set_cons_zero, List.set_cons_succ]
      refine take_run (i := 6) (oi := { dst := some 61, op := Go.Op.load 42 (Go.Operand.tmp 60), type := 42, pos := "law.go:53", after := #[{ on := 5, ground := Go.Ground.data }], guard := none }) (v := .agg #[.int .i64 (at_ L 34), .int .i64 (at_ L 35), .int .i64 (at_ L 36), .int .i64 (at_ L 37), .int .i64 (at_ L 38), .int .i64 (at_ L 39)]) rfl (by kernel_rfl) (by kernel_rfl) (by kernel_rfl) (fun _ _ _ h => h) (by rfl) ?_ hHeld ?_
      · (intro wq hSw; obtain ⟨k0, k4, k5, k6, k7, k8, k9, k10, k11⟩ := MK.out _ hSw; go_simp <;> with_reducible rfl)
      try simp only [Act.put, List.setIfInBounds_toArray, List.set_cons_zero, List.set_cons_succ]
      refine take_call (i := 1) (oi := { dst := some 56, op := Go.Op.call { callee := Go.Callee.value (Go.Operand.func 24), args := #[Go.Operand.tmp 55], argTypes := #[23] }, type := 60, pos := "law.go:53", after := #[{ on := 0, ground := Go.Ground.data }], guard := none }) rfl (by kernel_rfl) (by rfl) 24 _ (by go_simp <;> with_reducible rfl) ?_
      refine ((move_any (T4.out.my.c.drewN 1))).mono ?_
      rintro e z1 ⟨rfl, d1'⟩
      have d1 : Below w4.heap.size w4 z1 := below_drew_trans d1'
      refine ⟨.agg #[.int .i64 (at_ L 34), .int .i64 (at_ L 35), .int .i64 (at_ L 36), .int .i64 (at_ L 37), .int .i64 (at_ L 38), .int .i64 (at_ L 39)], rfl, below_drew_trans d1', ?_⟩
      try simp only [Act.put, List.setIfInBounds_toArray, List.set_cons_zero, List.set_cons_succ]
      refine take_call (i := 2) (oi := { dst := some 57, op := Go.Op.call { callee := Go.Callee.value (Go.Operand.func 26), args := #[Go.Operand.tmp 56], argTypes := #[60] }, type := 42, pos := "law.go:53", after := #[{ on := 1, ground := Go.Ground.data }, { on := 1, ground := Go.Ground.chain }], guard := none }) rfl (by kernel_rfl) (by rfl) 26 _ (by go_simp <;> with_reducible rfl) ?_
      refine (moving_any (at_ L 34) (at_ L 35) (at_ L 36) (at_ L 37) (at_ L 38) (at_ L 39) _).mono ?_
      rintro e z2 ⟨rfl, d2'⟩
      refine ⟨.agg #[.int .i64 (at_ L 34), .int .i64 (at_ L 35), .int .i64 (at_ L 36), .int .i64 (at_ L 37), .int .i64 (at_ L 38), .int .i64 (at_ L 39)], rfl, d1.trans (d2'.mono d1.size), ?_⟩
      try simp only [Act.put, List.setIfInBounds_toArray, List.set_cons_zero, List.set_cons_succ]
      have d2 : Below w4.heap.size w4 z2 := d1.trans (d2'.mono d1.size)
      refine take_run (i := 7) (oi := { dst := some 62, op := Go.Op.binOp Go.BinOp.eql 42 (Go.Operand.tmp 57) (Go.Operand.tmp 61) 42, type := 4, pos := "law.go:53", after := #[{ on := 2, ground := Go.Ground.data }, { on := 6, ground := Go.Ground.data }], guard := none }) (v := .bool true) rfl (by kernel_rfl) (by kernel_rfl) (by kernel_rfl) (fun _ _ _ h => h) (by rfl) ?_ d2 ?_
      · (intro wq hSw; go_simp <;> with_reducible rfl)
      try simp only [Act.put, List.setIfInBounds_toArray, List.set_cons_zero, List.set_cons_succ]
      refine take_run (i := 8) (oi := { dst := some 63, op := Go.Op.move (Go.Operand.tmp 62), type := 4, pos := "law.go:53", after := #[{ on := 7, ground := Go.Ground.data }, { on := 2, ground := Go.Ground.chain }], guard := none }) (v := .bool true) rfl (by kernel_rfl) (by kernel_rfl) (by kernel_rfl) (fun _ _ _ h => h) (by rfl) ?_ d2 ?_
      · (intro wq hSw; go_simp <;> with_reducible rfl)
      try simp only [Act.put, List.setIfInBounds_toArray, List.set_cons_zero, List.set_cons_succ]
      refine take_run (i := 9) (oi := { dst := some 64, op := Go.Op.move (Go.Operand.tmp 8), type := 2, pos := "law.go:53", after := #[{ on := 8, ground := Go.Ground.guard }], guard := some (8, true) }) (v := .int .i64 (at_ L 40)) rfl (by kernel_rfl) (by kernel_rfl) (by kernel_rfl) (fun _ _ _ h => h) (by rfl) ?_ d2 ?_
      · (intro wq hSw; go_simp <;> with_reducible rfl)
      try simp only [Act.put, List.setIfInBounds_toArray, List.set_cons_zero, List.set_cons_succ]
      refine take_run (i := 10) (oi := { dst := some 65, op := Go.Op.move (Go.Operand.tmp 1), type := 27, pos := "law.go:53", after := #[{ on := 8, ground := Go.Ground.guard }], guard := some (8, true) }) (v := .pointer (some ⟨Q, 0, none⟩)) rfl (by kernel_rfl) (by kernel_rfl) (by kernel_rfl) (fun _ _ _ h => h) (by rfl) ?_ d2 ?_
      · (intro wq hSw; go_simp <;> with_reducible rfl)
      try simp only [Act.put, List.setIfInBounds_toArray, List.set_cons_zero, List.set_cons_succ]
      refine take_run (i := 11) (oi := { dst := some 66, op := Go.Op.nilCheck (Go.Operand.tmp 65), type := 0, pos := "law.go:53", after := #[{ on := 10, ground := Go.Ground.data }, { on := 8, ground := Go.Ground.guard }], guard := some (8, true) }) (v := .pointer (some ⟨Q, 0, none⟩)) rfl (by kernel_rfl) (by kernel_rfl) (by kernel_rfl) (fun _ _ _ h => h) (by rfl) ?_ d2 ?_
      · (intro wq hSw; go_simp <;> with_reducible rfl)
      try simp only [Act.put, List.setIfInBounds_toArray, List.set_cons_zero, List.set_cons_succ]
      refine take_run (i := 12) (oi := { dst := some 67, op := Go.Op.fieldAddr 44 (Go.Operand.tmp 66) 5, type := 0, pos := "law.go:53", after := #[{ on := 11, ground := Go.Ground.data }, { on := 8, ground := Go.Ground.guard }], guard := some (8, true) }) (v := .pointer (some ⟨Q, 10, none⟩)) rfl (by kernel_rfl) (by kernel_rfl) (by kernel_rfl) (fun _ _ _ h => h) (by rfl) ?_ d2 ?_
      · (intro wq hSw; go_simp <;> with_reducible rfl)
      try simp only [Act.put, List.setIfInBounds_toArray, List.set_cons_zero, List.set_cons_succ]
      refine take_run (i := 13) (oi := { dst := some 68, op := Go.Op.load 2 (Go.Operand.tmp 67), type := 2, pos := "law.go:53", after := #[{ on := 12, ground := Go.Ground.data }, { on := 8, ground := Go.Ground.guard }], guard := some (8, true) }) (v := .int .i64 (at_ L 40)) rfl (by kernel_rfl) (by kernel_rfl) (by kernel_rfl) (fun _ _ _ h => h) (by rfl) ?_ d2 ?_
      · (intro wq hSw; obtain ⟨k0, k4, k5, k6, k7, k8, k9, k10, k11⟩ := MK.out _ hSw; go_simp <;> with_reducible rfl)
      try simp only [Act.put, List.setIfInBounds_toArray, List.set_cons_zero, List.set_cons_succ]
      refine take_run (i := 14) (oi := { dst := some 69, op := Go.Op.binOp Go.BinOp.eql 2 (Go.Operand.tmp 64) (Go.Operand.tmp 68) 2, type := 4, pos := "law.go:53", after := #[{ on := 9, ground := Go.Ground.data }, { on := 13, ground := Go.Ground.data }, { on := 8, ground := Go.Ground.guard }], guard := some (8, true) }) (v := .bool true) rfl (by kernel_rfl) (by kernel_rfl) (by kernel_rfl) (fun _ _ _ h => h) (by rfl) ?_ d2 ?_
      · (intro wq hSw; go_simp <;> with_reducible rfl)
      try simp only [Act.put, List.setIfInBounds_toArray, List.set_cons_zero, List.set_cons_succ]
      refine take_run (i := 15) (oi := { dst := some 70, op := Go.Op.pick (Go.Operand.tmp 63) (Go.Operand.tmp 69) (Go.Operand.const (Go.Value.bool false)), type := 4, pos := "law.go:53", after := #[{ on := 8, ground := Go.Ground.data }, { on := 14, ground := Go.Ground.data }], guard := none }) (v := .bool true) rfl (by kernel_rfl) (by kernel_rfl) (by kernel_rfl) (fun _ _ _ h => h) (by rfl) ?_ d2 ?_
      · (intro wq hSw; go_simp <;> with_reducible rfl)
      try simp only [Act.put, List.setIfInBounds_toArray, List.set_cons_zero, List.set_cons_succ]
      refine take_run (i := 16) (oi := { dst := some 71, op := Go.Op.move (Go.Operand.tmp 70), type := 4, pos := "law.go:53", after := #[{ on := 15, ground := Go.Ground.data }, { on := 8, ground := Go.Ground.chain }], guard := none }) (v := .bool true) rfl (by kernel_rfl) (by kernel_rfl) (by kernel_rfl) (fun _ _ _ h => h) (by rfl) ?_ d2 ?_
      · (intro wq hSw; go_simp <;> with_reducible rfl)
      try simp only [Act.put, List.setIfInBounds_toArray, List.set_cons_zero, List.set_cons_succ]
      refine take_run (i := 17) (oi := { dst := some 72, op := Go.Op.move (Go.Operand.tmp 9), type := 3, pos := "law.go:53", after := #[{ on := 16, ground := Go.Ground.guard }], guard := some (16, true) }) (v := .int .i64 (at_ L 41)) rfl (by kernel_rfl) (by kernel_rfl) (by kernel_rfl) (fun _ _ _ h => h) (by rfl) ?_ d2 ?_
      · (intro wq hSw; go_simp <;> with_reducible rfl)
      try simp only [Act.put, List.setIfInBounds_toArray, List.set_cons_zero, List.set_cons_succ]
      refine take_run (i := 18) (oi := { dst := some 73, op := Go.Op.move (Go.Operand.tmp 1), type := 27, pos := "law.go:53", after := #[{ on := 16, ground := Go.Ground.guard }], guard := some (16, true) }) (v := .pointer (some ⟨Q, 0, none⟩)) rfl (by kernel_rfl) (by kernel_rfl) (by kernel_rfl) (fun _ _ _ h => h) (by rfl) ?_ d2 ?_
      · (intro wq hSw; go_simp <;> with_reducible rfl)
      try simp only [Act.put, List.setIfInBounds_toArray, List.set_cons_zero, List.set_cons_succ]
      refine take_run (i := 19) (oi := { dst := some 74, op := Go.Op.nilCheck (Go.Operand.tmp 73), type := 0, pos := "law.go:53", after := #[{ on := 18, ground := Go.Ground.data }, { on := 16, ground := Go.Ground.guard }], guard := some (16, true) }) (v := .pointer (some ⟨Q, 0, none⟩)) rfl (by kernel_rfl) (by kernel_rfl) (by kernel_rfl) (fun _ _ _ h => h) (by rfl) ?_ d2 ?_
      · (intro wq hSw; go_simp <;> with_reducible rfl)
      try simp only [Act.put, List.setIfInBounds_toArray, List.set_cons_zero, List.set_cons_succ]
      refine take_run (i := 20) (oi := { dst := some 75, op := Go.Op.fieldAddr 44 (Go.Operand.tmp 74) 6, type := 0, pos := "law.go:53", after := #[{ on := 19, ground := Go.Ground.data }, { on := 16, ground := Go.Ground.guard }], guard := some (16, true) }) (v := .pointer (some ⟨Q, 11, none⟩)) rfl (by kernel_rfl) (by kernel_rfl) (by kernel_rfl) (fun _ _ _ h => h) (by rfl) ?_ d2 ?_
      · (intro wq hSw; go_simp <;> with_reducible rfl)
      try simp only [Act.put, List.setIfInBounds_toArray, List.set_cons_zero, List.set_cons_succ]
      refine take_run (i := 21) (oi := { dst := some 76, op := Go.Op.load 3 (Go.Operand.tmp 75), type := 3, pos := "law.go:53", after := #[{ on := 20, ground := Go.Ground.data }, { on := 16, ground := Go.Ground.guard }], guard := some (16, true) }) (v := .int .i64 (at_ L 41)) rfl (by kernel_rfl) (by kernel_rfl) (by kernel_rfl) (fun _ _ _ h => h) (by rfl) ?_ d2 ?_
      · (intro wq hSw; obtain ⟨k0, k4, k5, k6, k7, k8, k9, k10, k11⟩ := MK.out _ hSw; go_simp <;> with_reducible rfl)
      try simp only [Act.put, List.setIfInBounds_toArray, List.set_cons_zero, List.set_cons_succ]
      refine take_run (i := 22) (oi := { dst := some 77, op := Go.Op.binOp Go.BinOp.eql 3 (Go.Operand.tmp 72) (Go.Operand.tmp 76) 3, type := 4, pos := "law.go:53", after := #[{ on := 17, ground := Go.Ground.data }, { on := 21, ground := Go.Ground.data }, { on := 16, ground := Go.Ground.guard }], guard := some (16, true) }) (v := .bool true) rfl (by kernel_rfl) (by kernel_rfl) (by kernel_rfl) (fun _ _ _ h => h) (by rfl) ?_ d2 ?_
      · (intro wq hSw; go_simp <;> with_reducible rfl)
      try simp only [Act.put, List.setIfInBounds_toArray, List.set_cons_zero, List.set_cons_succ]
      refine take_run (i := 23) (oi := { dst := some 78, op := Go.Op.pick (Go.Operand.tmp 71) (Go.Operand.tmp 77) (Go.Operand.const (Go.Value.bool false)), type := 4, pos := "law.go:53", after := #[{ on := 16, ground := Go.Ground.data }, { on := 22, ground := Go.Ground.data }], guard := none }) (v := .bool true) rfl (by kernel_rfl) (by kernel_rfl) (by kernel_rfl) (fun _ _ _ h => h) (by rfl) ?_ d2 ?_
      · (intro wq hSw; go_simp <;> with_reducible rfl)
      try simp only [Act.put, List.setIfInBounds_toArray, List.set_cons_zero, List.set_cons_succ]
      refine take_run (i := 24) (oi := { dst := some 79, op := Go.Op.move (Go.Operand.tmp 78), type := 4, pos := "law.go:53", after := #[{ on := 23, ground := Go.Ground.data }, { on := 16, ground := Go.Ground.chain }], guard := none }) (v := .bool true) rfl (by kernel_rfl) (by kernel_rfl) (by kernel_rfl) (fun _ _ _ h => h) (by rfl) ?_ d2 ?_
      · (intro wq hSw; go_simp <;> with_reducible rfl)
      try simp only [Act.put, List.setIfInBounds_toArray, List.set_cons_zero, List.set_cons_succ]
      refine take_run (i := 25) (oi := { dst := some 80, op := Go.Op.move (Go.Operand.tmp 0), type := 23, pos := "law.go:53", after := #[{ on := 24, ground := Go.Ground.guard }], guard := some (24, true) }) (v := .pointer (some ⟨R, 0, none⟩)) rfl (by kernel_rfl) (by kernel_rfl) (by kernel_rfl) (fun _ _ _ h => h) (by rfl) ?_ d2 ?_
      · (intro wq hSw; go_simp <;> with_reducible rfl)
      try simp only [Act.put, List.setIfInBounds_toArray, List.set_cons_zero, List.set_cons_succ]
      refine take_run (i := 27) (oi := { dst := some 82, op := Go.Op.move (Go.Operand.tmp 1), type := 27, pos := "law.go:53", after := #[{ on := 24, ground := Go.Ground.guard }], guard := some (24, true) }) (v := .pointer (some ⟨Q, 0, none⟩)) rfl (by kernel_rfl) (by kernel_rfl) (by kernel_rfl) (fun _ _ _ h => h) (by rfl) ?_ d2 ?_
      · (intro wq hSw; go_simp <;> with_reducible rfl)
      try simp only [Act.put, List.setIfInBounds_toArray, List.set_cons_zero, List.set_cons_succ]
      refine take_run (i := 28) (oi := { dst := some 83, op := Go.Op.nilCheck (Go.Operand.tmp 82), type := 0, pos := "law.go:53", after := #[{ on := 27, ground := Go.Ground.data }, { on := 24, ground := Go.Ground.guard }], guard := some (24, true) }) (v := .pointer (some ⟨Q, 0, none⟩)) rfl (by kernel_rfl) (by kernel_rfl) (by kernel_rfl) (fun _ _ _ h => h) (by rfl) ?_ d2 ?_
      · (intro wq hSw; go_simp <;> with_reducible rfl)
      try simp only [Act.put, List.setIfInBounds_toArray, List.set_cons_zero, List.set_cons_succ]
      refine take_run (i := 29) (oi := { dst := some 84, op := Go.Op.fieldAddr 44 (Go.Operand.tmp 83) 0, type := 0, pos := "law.go:53", after := #[{ on := 28, ground := Go.Ground.data }, { on := 24, ground := Go.Ground.guard }], guard := some (24, true) }) (v := .pointer (some ⟨Q, 0, none⟩)) rfl (by kernel_rfl) (by kernel_rfl) (by kernel_rfl) (fun _ _ _ h => h) (by rfl) ?_ d2 ?_
      · (intro wq hSw; go_simp <;> with_reducible rfl)
      try simp only [Act.put, List.setIfInBounds_toArray, List.set_cons_zero, List.set_cons_succ]
      refine take_run (i := 30) (oi := { dst := some 85, op := Go.Op.load 3 (Go.Operand.tmp 84), type := 3, pos := "law.go:53", after := #[{ on := 29, ground := Go.Ground.data }, { on := 24, ground := Go.Ground.guard }], guard := some (24, true) }) (v := .int .i64 (at_ L 0)) rfl (by kernel_rfl) (by kernel_rfl) (by kernel_rfl) (fun _ _ _ h => h) (by rfl) ?_ d2 ?_
      · (intro wq hSw; obtain ⟨k0, k4, k5, k6, k7, k8, k9, k10, k11⟩ := MK.out _ hSw; go_simp <;> with_reducible rfl)
      try simp only [Act.put, List.setIfInBounds_toArray, List.set_cons_zero, List.set_cons_succ]
      refine take_call (i := 26) (oi := { dst := some 81, op := Go.Op.call { callee := Go.Callee.value (Go.Operand.func 27), args := #[Go.Operand.tmp 80], argTypes := #[23] }, type := 3, pos := "law.go:53", after := #[{ on := 25, ground := Go.Ground.data }, { on := 24, ground := Go.Ground.chain }, { on := 24, ground := Go.Ground.guard }], guard := some (24, true) }) rfl (by kernel_rfl) (by rfl) 27 _ (by go_simp <;> with_reducible rfl) ?_
      refine ((shards_any (T4.out.my.c.below d2))).mono ?_
      rintro e z3 ⟨rfl, hz3⟩
      have d3 : Below w4.heap.size w4 z3 := by rw [hz3]; exact d2
      refine ⟨.int .i64 (at_ L 0), rfl, by rw [hz3]; exact d2, ?_⟩
      try simp only [Act.put, List.setIfInBounds_toArray, List.set_cons_zero, List.set_cons_succ]
      refine take_run (i := 31) (oi := { dst := some 86, op := Go.Op.binOp Go.BinOp.eql 3 (Go.Operand.tmp 81) (Go.Operand.tmp 85) 3, type := 4, pos := "law.go:53", after := #[{ on := 26, ground := Go.Ground.data }, { on := 30, ground := Go.Ground.data }, { on := 24, ground := Go.Ground.guard }], guard := some (24, true) }) (v := .bool true) rfl (by kernel_rfl) (by kernel_rfl) (by kernel_rfl) (fun _ _ _ h => h) (by rfl) ?_ d3 ?_
      · (intro wq hSw; go_simp <;> with_reducible rfl)
      try simp only [Act.put, List.setIfInBounds_toArray, List.set_cons_zero, List.set_cons_succ]
      refine take_run (i := 32) (oi := { dst := some 87, op := Go.Op.pick (Go.Operand.tmp 79) (Go.Operand.tmp 86) (Go.Operand.const (Go.Value.bool false)), type := 4, pos := "law.go:53", after := #[{ on := 24, ground := Go.Ground.data }, { on := 31, ground := Go.Ground.data }], guard := none }) (v := .bool true) rfl (by kernel_rfl) (by kernel_rfl) (by kernel_rfl) (fun _ _ _ h => h) (by rfl) ?_ d3 ?_
      · (intro wq hSw; go_simp <;> with_reducible rfl)
      try simp only [Act.put, List.setIfInBounds_toArray, List.set_cons_zero, List.set_cons_succ]
      refine take_run (i := 33) (oi := { dst := some 88, op := Go.Op.move (Go.Operand.tmp 87), type := 4, pos := "law.go:53", after := #[{ on := 32, ground := Go.Ground.data }, { on := 26, ground := Go.Ground.chain }], guard := none }) (v := .bool true) rfl (by kernel_rfl) (by kernel_rfl) (by kernel_rfl) (fun _ _ _ h => h) (by rfl) ?_ d3 ?_
      · (intro wq hSw; go_simp <;> with_reducible rfl)
      try simp only [Act.put, List.setIfInBounds_toArray, List.set_cons_zero, List.set_cons_succ]
      refine take_run (i := 34) (oi := { dst := some 89, op := Go.Op.move (Go.Operand.tmp 10), type := 47, pos := "law.go:53", after := #[{ on := 33, ground := Go.Ground.guard }], guard := some (33, true) }) (v := .slice ax nx cx) rfl (by kernel_rfl) (by kernel_rfl) (by kernel_rfl) (fun _ _ _ h => h) (by rfl) ?_ d3 ?_
      · (intro wq hSw; go_simp <;> with_reducible rfl)
      try simp only [Act.put, List.setIfInBounds_toArray, List.set_cons_zero, List.set_cons_succ]
      refine take_text (i := 35) (oi := { dst := some 90, op := Go.Op.convert 47 9 (Go.Operand.tmp 89), type := 9, pos := "law.go:53", after := #[{ on := 34, ground := Go.Ground.data }, { on := 33, ground := Go.Ground.guard }], guard := some (33, true) }) rfl (by kernel_rfl) (by kernel_rfl) (by kernel_rfl) 47 9 (.tmp 89) (.slice ax nx cx) (.string (textOf (imgB L))) (fun _ _ _ h => h) (by rfl) rfl (by go_simp <;> with_reducible rfl) (fun W hW => run_to_text W ax nx cx (imgB L) (SX.out.below hW)) d3 ?_
      try simp only [Act.put, List.setIfInBounds_toArray, List.set_cons_zero, List.set_cons_succ]
      refine take_run (i := 36) (oi := { dst := some 91, op := Go.Op.move (Go.Operand.tmp 1), type := 27, pos := "law.go:53", after := #[{ on := 33, ground := Go.Ground.guard }], guard := some (33, true) }) (v := .pointer (some ⟨Q, 0, none⟩)) rfl (by kernel_rfl) (by kernel_rfl) (by kernel_rfl) (fun _ _ _ h => h) (by rfl) ?_ d3 ?_
      · (intro wq hSw; go_simp <;> with_reducible rfl)
      try simp only [Act.put, List.setIfInBounds_toArray, List.set_cons_zero, List.set_cons_succ]
      refine take_call (i := 37) (oi := { dst := some 92, op := Go.Op.call { callee := Go.Callee.value (Go.Operand.func 31), args := #[Go.Operand.tmp 91], argTypes := #[27] }, type := 47, pos := "law.go:53", after := #[{ on := 36, ground := Go.Ground.data }, { on := 33, ground := Go.Ground.chain }, { on := 33, ground := Go.Ground.guard }], guard := some (33, true) }) rfl (by kernel_rfl) (by rfl) 31 _ (by go_simp <;> with_reducible rfl) ?_
      refine ((rImage_any (T4.out.rc.below d3) T4.out.ai)).mono ?_
      rintro e z4 ⟨v4, rfl, g4, d4'⟩
      refine ⟨v4, rfl, d3.trans (d4'.mono d3.size), ?_⟩
      try simp only [Act.put, List.setIfInBounds_toArray, List.set_cons_zero, List.set_cons_succ]
      have d4 : Below w4.heap.size w4 z4 := d3.trans (d4'.mono d3.size)
      refine held_more (S' := fun W => Below z4.heap.size z4 W) (fun W hW => d4.trans (hW.mono d4.size)) _ _ _ _ ?_
      obtain ⟨a9, c9, rfl, s9, _⟩ := g4
      refine take_text (i := 38) (oi := { dst := some 93, op := Go.Op.convert 47 9 (Go.Operand.tmp 92), type := 9, pos := "law.go:53", after := #[{ on := 37, ground := Go.Ground.data }, { on := 33, ground := Go.Ground.guard }], guard := some (33, true) }) rfl (by kernel_rfl) (by kernel_rfl) (by kernel_rfl) 47 9 (.tmp 92) (.slice a9 (imgB L).length c9) (.string (textOf (imgB L))) (fun _ _ _ h => h) (by rfl) rfl (by go_simp <;> with_reducible rfl) (fun W hW => run_to_text W a9 _ c9 (imgB L) (s9.below hW)) (Below.refl _ z4) ?_
      try simp only [Act.put, List.setIfInBounds_toArray, List.set_cons_zero, List.set_cons_succ]
      refine take_run (i := 39) (oi := { dst := some 94, op := Go.Op.binOp Go.BinOp.eql 9 (Go.Operand.tmp 90) (Go.Operand.tmp 93) 9, type := 4, pos := "law.go:53", after := #[{ on := 35, ground := Go.Ground.data }, { on := 38, ground := Go.Ground.data }, { on := 33, ground := Go.Ground.guard }], guard := some (33, true) }) (v := .bool true) rfl (by kernel_rfl) (by kernel_rfl) (by kernel_rfl) (fun _ _ _ h => h) (by rfl) ?_ (Below.refl _ z4) ?_
      · (intro wq hSw; have ts := text_self (textOf (imgB L)); go_simp <;> with_reducible rfl)
      try simp only [Act.put, List.setIfInBounds_toArray, List.set_cons_zero, List.set_cons_succ]
      refine take_run (i := 40) (oi := { dst := some 95, op := Go.Op.pick (Go.Operand.tmp 88) (Go.Operand.tmp 94) (Go.Operand.const (Go.Value.bool false)), type := 4, pos := "law.go:53", after := #[{ on := 33, ground := Go.Ground.data }, { on := 39, ground := Go.Ground.data }], guard := none }) (v := .bool true) rfl (by kernel_rfl) (by kernel_rfl) (by kernel_rfl) (fun _ _ _ h => h) (by rfl) ?_ (Below.refl _ z4) ?_
      · (intro wq hSw; go_simp <;> with_reducible rfl)
      try simp only [Act.put, List.setIfInBounds_toArray, List.set_cons_zero, List.set_cons_succ]
      refine take_run (i := 41) (oi := { dst := some 11, op := Go.Op.assign (Go.Operand.tmp 95), type := 4, pos := "law.go:53", after := #[{ on := 40, ground := Go.Ground.data }, { on := 37, ground := Go.Ground.chain }, { on := 0, ground := Go.Ground.phase }, { on := 1, ground := Go.Ground.phase }, { on := 2, ground := Go.Ground.phase }, { on := 3, ground := Go.Ground.phase }, { on := 4, ground := Go.Ground.phase }, { on := 5, ground := Go.Ground.phase }, { on := 6, ground := Go.Ground.phase }, { on := 7, ground := Go.Ground.phase }, { on := 8, ground := Go.Ground.phase }, { on := 9, ground := Go.Ground.phase }, { on := 10, ground := Go.Ground.phase }, { on := 11, ground := Go.Ground.phase }, { on := 12, ground := Go.Ground.phase }, { on := 13, ground := Go.Ground.phase }, { on := 14, ground := Go.Ground.phase }, { on := 15, ground := Go.Ground.phase }, { on := 16, ground := Go.Ground.phase }, { on := 17, ground := Go.Ground.phase }, { on := 18, ground := Go.Ground.phase }, { on := 19, ground := Go.Ground.phase }, { on := 20, ground := Go.Ground.phase }, { on := 21, ground := Go.Ground.phase }, { on := 22, ground := Go.Ground.phase }, { on := 23, ground := Go.Ground.phase }, { on := 24, ground := Go.Ground.phase }, { on := 25, ground := Go.Ground.phase }, { on := 26, ground := Go.Ground.phase }, { on := 27, ground := Go.Ground.phase }, { on := 28, ground := Go.Ground.phase }, { on := 29, ground := Go.Ground.phase }, { on := 30, ground := Go.Ground.phase }, { on := 31, ground := Go.Ground.phase }, { on := 32, ground := Go.Ground.phase }, { on := 33, ground := Go.Ground.phase }, { on := 34, ground := Go.Ground.phase }, { on := 35, ground := Go.Ground.phase }, { on := 36, ground := Go.Ground.phase }, { on := 37, ground := Go.Ground.phase }, { on := 38, ground := Go.Ground.phase }, { on := 39, ground := Go.Ground.phase }, { on := 40, ground := Go.Ground.phase }], guard := none }) (v := .bool true) rfl (by kernel_rfl) (by kernel_rfl) (by kernel_rfl) (fun _ _ _ h => h) (by rfl) ?_ (Below.refl _ z4) ?_
      · (intro wq hSw; go_simp <;> with_reducible rfl)
      try simp only [Act.put, List.setIfInBounds_toArray, List.set_cons_zero, List.set_cons_succ]
      refine wpAnyH_done (by kernel_rfl) ?_ _
      have OY : Hid (z4.ownsRow w.heap.size 5 1 (.slice ax nx cx) nx (cellsOf (imgB L))) := by rw [← ENX.out]; exact owns_kept OX.out (fun g hg => d4.block g ((OX.out.lt g hg).2))
      have B5 : Hid (Below w.heap.size w z4) := B4.out.trans (d4.mono B4.out.size)
      have HSp := spoil_any w.heap.size (.slice ax nx cx) nx (imgB L) z4 OY.out B5.out.size (by have := imgP_len T4.out.ai 42; have := ENX.out; unfold imgB at *; omega)
      clear hHeld
      go_wp2_with fail
      refine HSp.mono ?_
      rintro e z5 ⟨⟨u, rfl⟩, b5⟩
      go_wp2
      go_ret
      exact ⟨rfl, B5.out.trans b5⟩
end
end Go.Proofs.Ytpdgmlljjjeifaa
