/- What reach does. -/
import Derived.Test.YtikpmaecbfebkaaDoorDWrite
namespace Go.Proofs.YtikpmaecbfebkaaDoor
open Go.RowKit
set_option linter.unusedVariables false

theorem write_any (m : DM) (n : Nat) (s : DS) (i : Int) (a : Option Addr) (len cap : Nat) (b : List (BitVec 8)) (w : World) (h : Dsk w m n s) (hs : Seen w a len b) (hk : s.ws.length < 1000000) :
    Calls Tryd.prog 52 #[.pointer (some ⟨m.D, 0, none⟩), .int .i64 i, .slice a len cap] w fun e w' => ∃ m', e = .returned (.int .i64 (whyW n s i b : Nat)) ∧ m'.D = m.D ∧ Dsk w' m' n (writeD n s i b) ∧ Only m w w' ∧ m.next m' w.heap.size := by
  by_cases h0 : whyW n s i b = 0
  · have hd : s.de = false := by
      cases hd : s.de with
      | false => rfl
      | true => simp [whyW, hd] at h0
    have hi : 0 ≤ i ∧ i < n := by
      unfold whyW at h0
      rw [hd] at h0
      simp only [Bool.false_eq_true, if_false] at h0
      split at h0
      · cases h0
      · rename_i h2; exact Decidable.not_not.1 h2
    have hb : b.length ≤ 256 := by
      unfold whyW at h0
      rw [hd] at h0
      simp only [Bool.false_eq_true, if_false] at h0
      rw [if_neg (by simp [hi])] at h0
      split at h0
      · cases h0
      · omega
    have hf : s.fu = false := by
      cases hf : s.fu with
      | false => rfl
      | true => simp [whyW, hd, hi, hf, show ¬ 256 < b.length by omega] at h0
    have e1 : writeD n s i b = wrote s i.toNat b := by unfold writeD; rw [if_pos h0]
    rw [e1, h0]
    have hc : (i.toNat : Int) = i := by omega
    have := write_ok m n s i.toNat a len cap b w h hs hd hf (by omega) (by rw [hs.1]; exact hb) hk
    rw [hc] at this
    exact this
  · have e1 : writeD n s i b = s := by unfold writeD; rw [if_neg h0]
    rw [e1]
    refine (write_no m n s i a len cap b w h hs.1 h0).mono ?_
    rintro e w' ⟨rfl, rfl⟩
    exact ⟨m, rfl, rfl, h, Only.refl m _, DM.next.refl m _⟩
theorem wcells_get : ∀ (ws : List (Nat × List (BitVec 8))) (k j : Nat) (hk : k < ws.length), (∀ x ∈ ws, x.2.length = 256) → j < 257 → (wcells ws)[k * 257 + j]? = (wcell ws[k])[j]?
  | [], k, j, hk, _, _ => by simp at hk
  | x :: ws, 0, j, hk, h, hj => by
    have hl : (wcell x).length = 257 := wcell_length (i := x.1) (h x List.mem_cons_self)
    show (wcell x ++ wcells ws)[0 * 257 + j]? = _
    rw [List.getElem?_append_left (by omega)]
    simp
  | x :: ws, k + 1, j, hk, h, hj => by
    have hl : (wcell x).length = 257 := wcell_length (i := x.1) (h x List.mem_cons_self)
    show (wcell x ++ wcells ws)[(k + 1) * 257 + j]? = _
    rw [List.getElem?_append_right (by omega), hl, show (k + 1) * 257 + j - 257 = k * 257 + j by omega, wcells_get ws k j (by simpa using hk) (fun y hy => h y (List.mem_cons_of_mem _ hy)) hj]
    simp
theorem Dsk.wcell_at {w : World} {m : DM} {n : Nat} {s : DS} (h : Dsk w m n s) {k : Nat} (hk : k < s.ws.length) : ∃ g c, m.wv = .slice (some ⟨g, 0, none⟩) s.ws.length c ∧ g ≠ m.gi ∧ g ≠ m.gn ∧ g ≠ m.D ∧ w.cell? ⟨g, k * 257, none⟩ = some (.int .i64 (s.ws[k].1 : Int)) ∧
    ∀ z, z ≤ 256 → Seen w (some ⟨g, k * 257 + 1, none⟩) z (s.ws[k].2.take z) := by
  rcases h.hw.2 with ⟨_, e⟩ | ⟨g, c, cur, e, _, hg, _⟩
  · omega
  · have hw := h.hw
    rw [e] at hw
    have hall : ∀ x ∈ s.ws, x.2.length = 256 := fun x hx => (h.ok.lw x hx).2
    have hlen : s.ws[k].2.length = 256 := hall _ (List.getElem_mem hk)
    have c0 : ∀ j, j < 257 → w.cell? ⟨g, k * 257 + j, none⟩ = (wcell s.ws[k])[j]? := fun j hj => by
      rw [hw.cellAt (k * 257 + j) (by have : (k + 1) * 257 ≤ s.ws.length * 257 := Nat.mul_le_mul_right 257 hk; omega)]
      exact wcells_get s.ws k j hk hall hj
    refine ⟨g, c, e, ?_, ?_, ?_, ?_, fun z hz => ⟨by rw [List.length_take]; omega, by rw [List.length_take]; unfold maxLen; omega, .inr ⟨g, k * 257 + 1, rfl, fun j hj => ?_⟩⟩⟩
    · intro eg
      rcases h.hi.2 with ⟨e2, _⟩ | ⟨g2, c2, cur2, e2, _, hg2, _⟩
      · cases e2
      · cases e2; rw [eg, hg2] at hg; cases hg
    · intro eg
      rcases h.hn.2 with ⟨e2, _⟩ | ⟨g2, c2, cur2, e2, _, hg2, _⟩
      · cases e2
      · cases e2; rw [eg, hg2] at hg; cases hg
    · intro eg
      rw [eg, h.hd] at hg; cases hg
    · have := c0 0 (by omega)
      rw [Nat.add_zero] at this
      rw [this]; rfl
    · rw [List.length_take] at hj
      have := c0 (j + 1) (by omega)
      rw [show k * 257 + 1 + j = k * 257 + (j + 1) by omega, this]
      simp [wcell, cellsOf, show j < z by omega, show j < s.ws[k].2.length by omega]
theorem exec_sliceZ {ρ : Operand → Value} {o : Oper} {x y : Operand} {w : World} {vx vy v : Value} (ho : o.op = .slice 93 x none (some y) none) (hx : ρ x = vx) (hy : ρ y = vy) (h : ∀ w, (Instr.sliceAt 93 vx none (some vy) none).run Tryd.prog w = .ok v w) : (execOp ρ o).run Tryd.prog w = .ok (.value v) w := by
  unfold execOp
  simp only [ho, hx, hy, Option.map_none, Option.map_some, Sem.run_bind, h w, Result.andThen_ok, Sem.run_pure]
theorem Just.only {m : DM} {g : Nat} {w w' : World} (j : Just g w w') (hg : m.own g) : Only m w w' := ⟨j.os, j.tape, j.output, by rw [j.size]; exact Nat.le_refl _, fun k _ ho => j.block k (fun e => ho (by rw [e]; exact hg))⟩
theorem Only.drew {m : DM} {w w' : World} (h : Only m w.drew w') : Only m w w' := ⟨h.os, h.tape, h.output, h.size, h.block⟩
theorem run_sliceZ (w : World) (g o z : Nat) (hz : z ≤ 256) : (Instr.sliceAt 93 (.pointer (some ⟨g, o, none⟩)) none (some (.int .i64 (z : Int))) none).run Tryd.prog w = .ok (.slice (some ⟨g, o, none⟩) z 256) w := by
  have h1 : ¬ ((z : Int) < 0) := by omega
  have h2 : ¬ (256 < z) := by omega
  have h3 : ((z : Int)) ≤ 256 := by omega
  have hw : wrap64 (z : Int) = z := by unfold wrap64; omega
  go_simp
  done
set_option maxRecDepth 100000 in
set_option maxHeartbeats 1600000 in
theorem reach_any (m : DM) (n : Nat) (s : DS) (k z : Nat) (w : World) (h : Dsk w m n s) (hk : k < s.ws.length) (hz : z ≤ 256) : Calls Tryd.prog 56 #[.pointer (some ⟨m.D, 0, none⟩), .int .i64 (k : Int), .int .i64 (z : Int)] w fun e w' =>
    (∃ v, e = .returned v) ∧ Dsk w' m n { s with img := patch s.img s.ws[k].1 (s.ws[k].2.take z) } ∧ Only m w w' := by
  obtain ⟨g, c, hwv, gi, gn, gD, cx, sx⟩ := h.wcell_at hk
  obtain ⟨x, hx⟩ : ∃ x, s.ws[k] = x := ⟨_, rfl⟩
  have hxo := h.ok.lw _ (List.getElem_mem hk)
  rw [hx] at cx sx hxo ⊢
  obtain ⟨c0, _, c2, _⟩ := h.cells
  rw [hwv] at c2
  have hd := h.below (Below.refl _ w).drew
  obtain ⟨v, w1, hc, d1, j1⟩ := hd.patch_img hxo.1 (some ⟨g, k * 257 + 1, none⟩) z 256 _ (show Seen w.drew _ _ _ from sx z hz) hz 3
  have HSc := sector_any m.gi (256 * n) m.ci x.1 w.drew (by have := h.ok.n2; omega) h.caps.1 (by have := h.ok.n2; omega)
  have FIN : Hid (Dsk w1 m n { s with img := patch s.img x.1 (x.2.take z) } ∧ Only m w w1) := ⟨d1, (j1.only (.inr (.inl rfl))).drew⟩
  have HC : Hid _ := hc
  have ES : Hid (∀ w, (Instr.sliceAt 93 (.pointer (some ⟨g, k * 257 + 1, none⟩)) none (some (.int .i64 (z : Int))) none).run Tryd.prog w = .ok (.slice (some ⟨g, k * 257 + 1, none⟩) z 256) w) := fun w => run_sliceZ w g _ z hz
  have hk1 : (k : Int) < (s.ws.length : Int) := by omega
  clear h hx hxo sx hd d1 j1 hc hz hk
  go_enter Tryd.func56, Tryd.ntmps56
  go_wp2_with fail
  refine (wpIn_wide (n := 1)).1 ?_
  refine wpIn_region_any (by kernel_rfl) ?_
  change wpAnyIn _ _ _ _ _ _ _ _ _ (World.drew _)
  refine any_take 0 (oi := { dst := some 13, op := Go.Op.move (Go.Operand.tmp 0), type := 24, pos := "disk.go:185", after := #[], guard := none }) (.pointer (some ⟨m.D, 0, none⟩)) rfl (by kernel_rfl) (by kernel_rfl) (by kernel_rfl) (fun _ _ _ h => h) (by rfl) (by intro wq; go_simp <;> with_reducible rfl) (fun _ => rfl) ?_
  simp only [Act.put, List.setIfInBounds_toArray, List.set_cons_zero, List.set_cons_succ]
  refine any_take 1 (oi := { dst := some 14, op := Go.Op.nilCheck (Go.Operand.tmp 13), type := 0, pos := "disk.go:185", after := #[{ on := 0, ground := Go.Ground.data }], guard := none }) (.pointer (some ⟨m.D, 0, none⟩)) rfl (by kernel_rfl) (by kernel_rfl) (by kernel_rfl) (fun _ _ _ h => h) (by rfl) (by intro wq; go_simp <;> with_reducible rfl) (fun _ => rfl) ?_
  simp only [Act.put, List.setIfInBounds_toArray, List.set_cons_zero, List.set_cons_succ]
  refine any_take 2 (oi := { dst := some 15, op := Go.Op.fieldAddr 69 (Go.Operand.tmp 14) 0, type := 0, pos := "disk.go:185", after := #[{ on := 1, ground := Go.Ground.data }], guard := none }) (.pointer (some ⟨m.D, 0, none⟩)) rfl (by kernel_rfl) (by kernel_rfl) (by kernel_rfl) (fun _ _ _ h => h) (by rfl) (by intro wq; go_simp <;> with_reducible rfl) (fun _ => rfl) ?_
  simp only [Act.put, List.setIfInBounds_toArray, List.set_cons_zero, List.set_cons_succ]
  refine any_take 4 (oi := { dst := some 17, op := Go.Op.move (Go.Operand.tmp 6), type := 112, pos := "disk.go:185", after := #[], guard := none }) (.pointer (some ⟨g, k * 257, none⟩)) rfl (by kernel_rfl) (by kernel_rfl) (by kernel_rfl) (fun _ _ _ h => h) (by rfl) (by intro wq; go_simp <;> with_reducible rfl) (fun _ => rfl) ?_
  simp only [Act.put, List.setIfInBounds_toArray, List.set_cons_zero, List.set_cons_succ]
  refine any_take 5 (oi := { dst := some 18, op := Go.Op.nilCheck (Go.Operand.tmp 17), type := 0, pos := "disk.go:185", after := #[{ on := 4, ground := Go.Ground.data }], guard := none }) (.pointer (some ⟨g, k * 257, none⟩)) rfl (by kernel_rfl) (by kernel_rfl) (by kernel_rfl) (fun _ _ _ h => h) (by rfl) (by intro wq; go_simp <;> with_reducible rfl) (fun _ => rfl) ?_
  simp only [Act.put, List.setIfInBounds_toArray, List.set_cons_zero, List.set_cons_succ]
  refine any_take 6 (oi := { dst := some 19, op := Go.Op.fieldAddr 95 (Go.Operand.tmp 18) 0, type := 0, pos := "disk.go:185", after := #[{ on := 5, ground := Go.Ground.data }], guard := none }) (.pointer (some ⟨g, k * 257, none⟩)) rfl (by kernel_rfl) (by kernel_rfl) (by kernel_rfl) (fun _ _ _ h => h) (by rfl) (by intro wq; go_simp <;> with_reducible rfl) (fun _ => rfl) ?_
  simp only [Act.put, List.setIfInBounds_toArray, List.set_cons_zero, List.set_cons_succ]
  refine any_take 9 (oi := { dst := some 22, op := Go.Op.move (Go.Operand.tmp 6), type := 112, pos := "disk.go:185", after := #[], guard := none }) (.pointer (some ⟨g, k * 257, none⟩)) rfl (by kernel_rfl) (by kernel_rfl) (by kernel_rfl) (fun _ _ _ h => h) (by rfl) (by intro wq; go_simp <;> with_reducible rfl) (fun _ => rfl) ?_
  simp only [Act.put, List.setIfInBounds_toArray, List.set_cons_zero, List.set_cons_succ]
  refine any_take 10 (oi := { dst := some 23, op := Go.Op.nilCheck (Go.Operand.tmp 22), type := 0, pos := "disk.go:185", after := #[{ on := 9, ground := Go.Ground.data }], guard := none }) (.pointer (some ⟨g, k * 257, none⟩)) rfl (by kernel_rfl) (by kernel_rfl) (by kernel_rfl) (fun _ _ _ h => h) (by rfl) (by intro wq; go_simp <;> with_reducible rfl) (fun _ => rfl) ?_
  simp only [Act.put, List.setIfInBounds_toArray, List.set_cons_zero, List.set_cons_succ]
  refine any_take 11 (oi := { dst := some 24, op := Go.Op.fieldAddr 95 (Go.Operand.tmp 23) 1, type := 0, pos := "disk.go:185", after := #[{ on := 10, ground := Go.Ground.data }], guard := none }) (.pointer (some ⟨g, k * 257 + 1, none⟩)) rfl (by kernel_rfl) (by kernel_rfl) (by kernel_rfl) (fun _ _ _ h => h) (by rfl) (by intro wq; go_simp <;> with_reducible rfl) (fun _ => rfl) ?_
  simp only [Act.put, List.setIfInBounds_toArray, List.set_cons_zero, List.set_cons_succ]
  refine any_take 12 (oi := { dst := some 25, op := Go.Op.move (Go.Operand.tmp 2), type := 3, pos := "disk.go:185", after := #[], guard := none }) (.int .i64 (z : Int)) rfl (by kernel_rfl) (by kernel_rfl) (by kernel_rfl) (fun _ _ _ h => h) (by rfl) (by intro wq; go_simp <;> with_reducible rfl) (fun _ => rfl) ?_
  simp only [Act.put, List.setIfInBounds_toArray, List.set_cons_zero, List.set_cons_succ]
  refine any_three 3 7 13 (by kernel_rfl) ?_ ?_ ?_
  · -- 3
    refine op_value (.slice (some ⟨m.gi, 0, none⟩) (256 * n) m.ci) (i := 3) (oi := { dst := some 16, op := Go.Op.load 22 (Go.Operand.tmp 15), type := 22, pos := "disk.go:185", after := #[{ on := 2, ground := Go.Ground.data }], guard := none }) rfl (by rfl) (by go_simp <;> with_reducible rfl) ?_
    simp only [Act.put, List.setIfInBounds_toArray, List.set_cons_zero, List.set_cons_succ]
    refine any_two 7 13 (by kernel_rfl) ?_ ?_
    · -- 7
      refine op_value (.int .i64 (x.1 : Int)) (i := 7) (oi := { dst := some 20, op := Go.Op.load 3 (Go.Operand.tmp 19), type := 3, pos := "disk.go:185", after := #[{ on := 6, ground := Go.Ground.data }], guard := none }) rfl (by rfl) (by go_simp <;> with_reducible rfl) ?_
      simp only [Act.put, List.setIfInBounds_toArray, List.set_cons_zero, List.set_cons_succ]
      refine any_two 8 13 (by kernel_rfl) ?_ ?_
      · -- 8
        refine op_call (i := 8) (oi := { dst := some 21, op := Go.Op.call { callee := Go.Callee.value (Go.Operand.func 57), args := #[Go.Operand.tmp 16, Go.Operand.tmp 20], argTypes := #[22, 3] }, type := 22, pos := "disk.go:185", after := #[{ on := 3, ground := Go.Ground.data }, { on := 7, ground := Go.Ground.data }], guard := none }) 57 _ rfl (by rfl) (by go_simp <;> with_reducible rfl) ?_
        refine (HSc).mono ?_
        rintro e w9 ⟨rfl, rfl⟩
        refine ⟨_, rfl, ?_⟩
        simp only [Act.put, List.setIfInBounds_toArray, List.set_cons_zero, List.set_cons_succ]
        refine any_one 13 (by kernel_rfl) ?_
        refine op_value (.slice (some ⟨g, k * 257 + 1, none⟩) z 256) (i := 13) (oi := { dst := some 26, op := Go.Op.slice 93 (Go.Operand.tmp 24) none (some (Go.Operand.tmp 25)) none, type := 22, pos := "disk.go:185", after := #[{ on := 11, ground := Go.Ground.data }, { on := 12, ground := Go.Ground.data }], guard := none }) rfl (by rfl) (exec_sliceZ rfl rfl rfl ES.out) ?_
        simp only [Act.put, List.setIfInBounds_toArray, List.set_cons_zero, List.set_cons_succ]
        refine any_one 14 (by kernel_rfl) ?_
        refine op_value (v) (i := 14) (oi := { dst := some 27, op := Go.Op.call { callee := Go.Callee.builtin Go.Builtin.copy, args := #[Go.Operand.tmp 21, Go.Operand.tmp 26], argTypes := #[22, 22] }, type := 3, pos := "disk.go:185", after := #[{ on := 8, ground := Go.Ground.data }, { on := 13, ground := Go.Ground.data }, { on := 8, ground := Go.Ground.chain }], guard := none }) rfl (by rfl) (exec_copy (t := 22) (tn := 22) rfl rfl rfl HC.out) ?_
        simp only [Act.put, List.setIfInBounds_toArray, List.set_cons_zero, List.set_cons_succ]
        refine wpAnyIn_done (by kernel_rfl) ?_ _
        go_wp2
        refine bodyPost_end (results_none rfl _ _ _) rfl ?_
        exact ⟨⟨_, rfl⟩, FIN.out⟩
      · -- 13
        refine op_value (.slice (some ⟨g, k * 257 + 1, none⟩) z 256) (i := 13) (oi := { dst := some 26, op := Go.Op.slice 93 (Go.Operand.tmp 24) none (some (Go.Operand.tmp 25)) none, type := 22, pos := "disk.go:185", after := #[{ on := 11, ground := Go.Ground.data }, { on := 12, ground := Go.Ground.data }], guard := none }) rfl (by rfl) (exec_sliceZ rfl rfl rfl ES.out) ?_
        simp only [Act.put, List.setIfInBounds_toArray, List.set_cons_zero, List.set_cons_succ]
        refine any_one 8 (by kernel_rfl) ?_
        refine op_call (i := 8) (oi := { dst := some 21, op := Go.Op.call { callee := Go.Callee.value (Go.Operand.func 57), args := #[Go.Operand.tmp 16, Go.Operand.tmp 20], argTypes := #[22, 3] }, type := 22, pos := "disk.go:185", after := #[{ on := 3, ground := Go.Ground.data }, { on := 7, ground := Go.Ground.data }], guard := none }) 57 _ rfl (by rfl) (by go_simp <;> with_reducible rfl) ?_
        refine (HSc).mono ?_
        rintro e w9 ⟨rfl, rfl⟩
        refine ⟨_, rfl, ?_⟩
        simp only [Act.put, List.setIfInBounds_toArray, List.set_cons_zero, List.set_cons_succ]
        refine any_one 14 (by kernel_rfl) ?_
        refine op_value (v) (i := 14) (oi := { dst := some 27, op := Go.Op.call { callee := Go.Callee.builtin Go.Builtin.copy, args := #[Go.Operand.tmp 21, Go.Operand.tmp 26], argTypes := #[22, 22] }, type := 3, pos := "disk.go:185", after := #[{ on := 8, ground := Go.Ground.data }, { on := 13, ground := Go.Ground.data }, { on := 8, ground := Go.Ground.chain }], guard := none }) rfl (by rfl) (exec_copy (t := 22) (tn := 22) rfl rfl rfl HC.out) ?_
        simp only [Act.put, List.setIfInBounds_toArray, List.set_cons_zero, List.set_cons_succ]
        refine wpAnyIn_done (by kernel_rfl) ?_ _
        go_wp2
        refine bodyPost_end (results_none rfl _ _ _) rfl ?_
        exact ⟨⟨_, rfl⟩, FIN.out⟩
    · -- 13
      refine op_value (.slice (some ⟨g, k * 257 + 1, none⟩) z 256) (i := 13) (oi := { dst := some 26, op := Go.Op.slice 93 (Go.Operand.tmp 24) none (some (Go.Operand.tmp 25)) none, type := 22, pos := "disk.go:185", after := #[{ on := 11, ground := Go.Ground.data }, { on := 12, ground := Go.Ground.data }], guard := none }) rfl (by rfl) (exec_sliceZ rfl rfl rfl ES.out) ?_
      simp only [Act.put, List.setIfInBounds_toArray, List.set_cons_zero, List.set_cons_succ]
      refine any_one 7 (by kernel_rfl) ?_
      refine op_value (.int .i64 (x.1 : Int)) (i := 7) (oi := { dst := some 20, op := Go.Op.load 3 (Go.Operand.tmp 19), type := 3, pos := "disk.go:185", after := #[{ on := 6, ground := Go.Ground.data }], guard := none }) rfl (by rfl) (by go_simp <;> with_reducible rfl) ?_
      simp only [Act.put, List.setIfInBounds_toArray, List.set_cons_zero, List.set_cons_succ]
      refine any_one 8 (by kernel_rfl) ?_
      refine op_call (i := 8) (oi := { dst := some 21, op := Go.Op.call { callee := Go.Callee.value (Go.Operand.func 57), args := #[Go.Operand.tmp 16, Go.Operand.tmp 20], argTypes := #[22, 3] }, type := 22, pos := "disk.go:185", after := #[{ on := 3, ground := Go.Ground.data }, { on := 7, ground := Go.Ground.data }], guard := none }) 57 _ rfl (by rfl) (by go_simp <;> with_reducible rfl) ?_
      refine (HSc).mono ?_
      rintro e w9 ⟨rfl, rfl⟩
      refine ⟨_, rfl, ?_⟩
      simp only [Act.put, List.setIfInBounds_toArray, List.set_cons_zero, List.set_cons_succ]
      refine any_one 14 (by kernel_rfl) ?_
      refine op_value (v) (i := 14) (oi := { dst := some 27, op := Go.Op.call { callee := Go.Callee.builtin Go.Builtin.copy, args := #[Go.Operand.tmp 21, Go.Operand.tmp 26], argTypes := #[22, 22] }, type := 3, pos := "disk.go:185", after := #[{ on := 8, ground := Go.Ground.data }, { on := 13, ground := Go.Ground.data }, { on := 8, ground := Go.Ground.chain }], guard := none }) rfl (by rfl) (exec_copy (t := 22) (tn := 22) rfl rfl rfl HC.out) ?_
      simp only [Act.put, List.setIfInBounds_toArray, List.set_cons_zero, List.set_cons_succ]
      refine wpAnyIn_done (by kernel_rfl) ?_ _
      go_wp2
      refine bodyPost_end (results_none rfl _ _ _) rfl ?_
      exact ⟨⟨_, rfl⟩, FIN.out⟩
  · -- 7
    refine op_value (.int .i64 (x.1 : Int)) (i := 7) (oi := { dst := some 20, op := Go.Op.load 3 (Go.Operand.tmp 19), type := 3, pos := "disk.go:185", after := #[{ on := 6, ground := Go.Ground.data }], guard := none }) rfl (by rfl) (by go_simp <;> with_reducible rfl) ?_
    simp only [Act.put, List.setIfInBounds_toArray, List.set_cons_zero, List.set_cons_succ]
    refine any_two 3 13 (by kernel_rfl) ?_ ?_
    · -- 3
      refine op_value (.slice (some ⟨m.gi, 0, none⟩) (256 * n) m.ci) (i := 3) (oi := { dst := some 16, op := Go.Op.load 22 (Go.Operand.tmp 15), type := 22, pos := "disk.go:185", after := #[{ on := 2, ground := Go.Ground.data }], guard := none }) rfl (by rfl) (by go_simp <;> with_reducible rfl) ?_
      simp only [Act.put, List.setIfInBounds_toArray, List.set_cons_zero, List.set_cons_succ]
      refine any_two 8 13 (by kernel_rfl) ?_ ?_
      · -- 8
        refine op_call (i := 8) (oi := { dst := some 21, op := Go.Op.call { callee := Go.Callee.value (Go.Operand.func 57), args := #[Go.Operand.tmp 16, Go.Operand.tmp 20], argTypes := #[22, 3] }, type := 22, pos := "disk.go:185", after := #[{ on := 3, ground := Go.Ground.data }, { on := 7, ground := Go.Ground.data }], guard := none }) 57 _ rfl (by rfl) (by go_simp <;> with_reducible rfl) ?_
        refine (HSc).mono ?_
        rintro e w9 ⟨rfl, rfl⟩
        refine ⟨_, rfl, ?_⟩
        simp only [Act.put, List.setIfInBounds_toArray, List.set_cons_zero, List.set_cons_succ]
        refine any_one 13 (by kernel_rfl) ?_
        refine op_value (.slice (some ⟨g, k * 257 + 1, none⟩) z 256) (i := 13) (oi := { dst := some 26, op := Go.Op.slice 93 (Go.Operand.tmp 24) none (some (Go.Operand.tmp 25)) none, type := 22, pos := "disk.go:185", after := #[{ on := 11, ground := Go.Ground.data }, { on := 12, ground := Go.Ground.data }], guard := none }) rfl (by rfl) (exec_sliceZ rfl rfl rfl ES.out) ?_
        simp only [Act.put, List.setIfInBounds_toArray, List.set_cons_zero, List.set_cons_succ]
        refine any_one 14 (by kernel_rfl) ?_
        refine op_value (v) (i := 14) (oi := { dst := some 27, op := Go.Op.call { callee := Go.Callee.builtin Go.Builtin.copy, args := #[Go.Operand.tmp 21, Go.Operand.tmp 26], argTypes := #[22, 22] }, type := 3, pos := "disk.go:185", after := #[{ on := 8, ground := Go.Ground.data }, { on := 13, ground := Go.Ground.data }, { on := 8, ground := Go.Ground.chain }], guard := none }) rfl (by rfl) (exec_copy (t := 22) (tn := 22) rfl rfl rfl HC.out) ?_
        simp only [Act.put, List.setIfInBounds_toArray, List.set_cons_zero, List.set_cons_succ]
        refine wpAnyIn_done (by kernel_rfl) ?_ _
        go_wp2
        refine bodyPost_end (results_none rfl _ _ _) rfl ?_
        exact ⟨⟨_, rfl⟩, FIN.out⟩
      · -- 13
        refine op_value (.slice (some ⟨g, k * 257 + 1, none⟩) z 256) (i := 13) (oi := { dst := some 26, op := Go.Op.slice 93 (Go.Operand.tmp 24) none (some (Go.Operand.tmp 25)) none, type := 22, pos := "disk.go:185", after := #[{ on := 11, ground := Go.Ground.data }, { on := 12, ground := Go.Ground.data }], guard := none }) rfl (by rfl) (exec_sliceZ rfl rfl rfl ES.out) ?_
        simp only [Act.put, List.setIfInBounds_toArray, List.set_cons_zero, List.set_cons_succ]
        refine any_one 8 (by kernel_rfl) ?_
        refine op_call (i := 8) (oi := { dst := some 21, op := Go.Op.call { callee := Go.Callee.value (Go.Operand.func 57), args := #[Go.Operand.tmp 16, Go.Operand.tmp 20], argTypes := #[22, 3] }, type := 22, pos := "disk.go:185", after := #[{ on := 3, ground := Go.Ground.data }, { on := 7, ground := Go.Ground.data }], guard := none }) 57 _ rfl (by rfl) (by go_simp <;> with_reducible rfl) ?_
        refine (HSc).mono ?_
        rintro e w9 ⟨rfl, rfl⟩
        refine ⟨_, rfl, ?_⟩
        simp only [Act.put, List.setIfInBounds_toArray, List.set_cons_zero, List.set_cons_succ]
        refine any_one 14 (by kernel_rfl) ?_
        refine op_value (v) (i := 14) (oi := { dst := some 27, op := Go.Op.call { callee := Go.Callee.builtin Go.Builtin.copy, args := #[Go.Operand.tmp 21, Go.Operand.tmp 26], argTypes := #[22, 22] }, type := 3, pos := "disk.go:185", after := #[{ on := 8, ground := Go.Ground.data }, { on := 13, ground := Go.Ground.data }, { on := 8, ground := Go.Ground.chain }], guard := none }) rfl (by rfl) (exec_copy (t := 22) (tn := 22) rfl rfl rfl HC.out) ?_
        simp only [Act.put, List.setIfInBounds_toArray, List.set_cons_zero, List.set_cons_succ]
        refine wpAnyIn_done (by kernel_rfl) ?_ _
        go_wp2
        refine bodyPost_end (results_none rfl _ _ _) rfl ?_
        exact ⟨⟨_, rfl⟩, FIN.out⟩
    · -- 13
      refine op_value (.slice (some ⟨g, k * 257 + 1, none⟩) z 256) (i := 13) (oi := { dst := some 26, op := Go.Op.slice 93 (Go.Operand.tmp 24) none (some (Go.Operand.tmp 25)) none, type := 22, pos := "disk.go:185", after := #[{ on := 11, ground := Go.Ground.data }, { on := 12, ground := Go.Ground.data }], guard := none }) rfl (by rfl) (exec_sliceZ rfl rfl rfl ES.out) ?_
      simp only [Act.put, List.setIfInBounds_toArray, List.set_cons_zero, List.set_cons_succ]
      refine any_one 3 (by kernel_rfl) ?_
      refine op_value (.slice (some ⟨m.gi, 0, none⟩) (256 * n) m.ci) (i := 3) (oi := { dst := some 16, op := Go.Op.load 22 (Go.Operand.tmp 15), type := 22, pos := "disk.go:185", after := #[{ on := 2, ground := Go.Ground.data }], guard := none }) rfl (by rfl) (by go_simp <;> with_reducible rfl) ?_
      simp only [Act.put, List.setIfInBounds_toArray, List.set_cons_zero, List.set_cons_succ]
      refine any_one 8 (by kernel_rfl) ?_
      refine op_call (i := 8) (oi := { dst := some 21, op := Go.Op.call { callee := Go.Callee.value (Go.Operand.func 57), args := #[Go.Operand.tmp 16, Go.Operand.tmp 20], argTypes := #[22, 3] }, type := 22, pos := "disk.go:185", after := #[{ on := 3, ground := Go.Ground.data }, { on := 7, ground := Go.Ground.data }], guard := none }) 57 _ rfl (by rfl) (by go_simp <;> with_reducible rfl) ?_
      refine (HSc).mono ?_
      rintro e w9 ⟨rfl, rfl⟩
      refine ⟨_, rfl, ?_⟩
      simp only [Act.put, List.setIfInBounds_toArray, List.set_cons_zero, List.set_cons_succ]
      refine any_one 14 (by kernel_rfl) ?_
      refine op_value (v) (i := 14) (oi := { dst := some 27, op := Go.Op.call { callee := Go.Callee.builtin Go.Builtin.copy, args := #[Go.Operand.tmp 21, Go.Operand.tmp 26], argTypes := #[22, 22] }, type := 3, pos := "disk.go:185", after := #[{ on := 8, ground := Go.Ground.data }, { on := 13, ground := Go.Ground.data }, { on := 8, ground := Go.Ground.chain }], guard := none }) rfl (by rfl) (exec_copy (t := 22) (tn := 22) rfl rfl rfl HC.out) ?_
      simp only [Act.put, List.setIfInBounds_toArray, List.set_cons_zero, List.set_cons_succ]
      refine wpAnyIn_done (by kernel_rfl) ?_ _
      go_wp2
      refine bodyPost_end (results_none rfl _ _ _) rfl ?_
      exact ⟨⟨_, rfl⟩, FIN.out⟩
  · -- 13
    refine op_value (.slice (some ⟨g, k * 257 + 1, none⟩) z 256) (i := 13) (oi := { dst := some 26, op := Go.Op.slice 93 (Go.Operand.tmp 24) none (some (Go.Operand.tmp 25)) none, type := 22, pos := "disk.go:185", after := #[{ on := 11, ground := Go.Ground.data }, { on := 12, ground := Go.Ground.data }], guard := none }) rfl (by rfl) (exec_sliceZ rfl rfl rfl ES.out) ?_
    simp only [Act.put, List.setIfInBounds_toArray, List.set_cons_zero, List.set_cons_succ]
    refine any_two 3 7 (by kernel_rfl) ?_ ?_
    · -- 3
      refine op_value (.slice (some ⟨m.gi, 0, none⟩) (256 * n) m.ci) (i := 3) (oi := { dst := some 16, op := Go.Op.load 22 (Go.Operand.tmp 15), type := 22, pos := "disk.go:185", after := #[{ on := 2, ground := Go.Ground.data }], guard := none }) rfl (by rfl) (by go_simp <;> with_reducible rfl) ?_
      simp only [Act.put, List.setIfInBounds_toArray, List.set_cons_zero, List.set_cons_succ]
      refine any_one 7 (by kernel_rfl) ?_
      refine op_value (.int .i64 (x.1 : Int)) (i := 7) (oi := { dst := some 20, op := Go.Op.load 3 (Go.Operand.tmp 19), type := 3, pos := "disk.go:185", after := #[{ on := 6, ground := Go.Ground.data }], guard := none }) rfl (by rfl) (by go_simp <;> with_reducible rfl) ?_
      simp only [Act.put, List.setIfInBounds_toArray, List.set_cons_zero, List.set_cons_succ]
      refine any_one 8 (by kernel_rfl) ?_
      refine op_call (i := 8) (oi := { dst := some 21, op := Go.Op.call { callee := Go.Callee.value (Go.Operand.func 57), args := #[Go.Operand.tmp 16, Go.Operand.tmp 20], argTypes := #[22, 3] }, type := 22, pos := "disk.go:185", after := #[{ on := 3, ground := Go.Ground.data }, { on := 7, ground := Go.Ground.data }], guard := none }) 57 _ rfl (by rfl) (by go_simp <;> with_reducible rfl) ?_
      refine (HSc).mono ?_
      rintro e w9 ⟨rfl, rfl⟩
      refine ⟨_, rfl, ?_⟩
      simp only [Act.put, List.setIfInBounds_toArray, List.set_cons_zero, List.set_cons_succ]
      refine any_one 14 (by kernel_rfl) ?_
      refine op_value (v) (i := 14) (oi := { dst := some 27, op := Go.Op.call { callee := Go.Callee.builtin Go.Builtin.copy, args := #[Go.Operand.tmp 21, Go.Operand.tmp 26], argTypes := #[22, 22] }, type := 3, pos := "disk.go:185", after := #[{ on := 8, ground := Go.Ground.data }, { on := 13, ground := Go.Ground.data }, { on := 8, ground := Go.Ground.chain }], guard := none }) rfl (by rfl) (exec_copy (t := 22) (tn := 22) rfl rfl rfl HC.out) ?_
      simp only [Act.put, List.setIfInBounds_toArray, List.set_cons_zero, List.set_cons_succ]
      refine wpAnyIn_done (by kernel_rfl) ?_ _
      go_wp2
      refine bodyPost_end (results_none rfl _ _ _) rfl ?_
      exact ⟨⟨_, rfl⟩, FIN.out⟩
    · -- 7
      refine op_value (.int .i64 (x.1 : Int)) (i := 7) (oi := { dst := some 20, op := Go.Op.load 3 (Go.Operand.tmp 19), type := 3, pos := "disk.go:185", after := #[{ on := 6, ground := Go.Ground.data }], guard := none }) rfl (by rfl) (by go_simp <;> with_reducible rfl) ?_
      simp only [Act.put, List.setIfInBounds_toArray, List.set_cons_zero, List.set_cons_succ]
      refine any_one 3 (by kernel_rfl) ?_
      refine op_value (.slice (some ⟨m.gi, 0, none⟩) (256 * n) m.ci) (i := 3) (oi := { dst := some 16, op := Go.Op.load 22 (Go.Operand.tmp 15), type := 22, pos := "disk.go:185", after := #[{ on := 2, ground := Go.Ground.data }], guard := none }) rfl (by rfl) (by go_simp <;> with_reducible rfl) ?_
      simp only [Act.put, List.setIfInBounds_toArray, List.set_cons_zero, List.set_cons_succ]
      refine any_one 8 (by kernel_rfl) ?_
      refine op_call (i := 8) (oi := { dst := some 21, op := Go.Op.call { callee := Go.Callee.value (Go.Operand.func 57), args := #[Go.Operand.tmp 16, Go.Operand.tmp 20], argTypes := #[22, 3] }, type := 22, pos := "disk.go:185", after := #[{ on := 3, ground := Go.Ground.data }, { on := 7, ground := Go.Ground.data }], guard := none }) 57 _ rfl (by rfl) (by go_simp <;> with_reducible rfl) ?_
      refine (HSc).mono ?_
      rintro e w9 ⟨rfl, rfl⟩
      refine ⟨_, rfl, ?_⟩
      simp only [Act.put, List.setIfInBounds_toArray, List.set_cons_zero, List.set_cons_succ]
      refine any_one 14 (by kernel_rfl) ?_
      refine op_value (v) (i := 14) (oi := { dst := some 27, op := Go.Op.call { callee := Go.Callee.builtin Go.Builtin.copy, args := #[Go.Operand.tmp 21, Go.Operand.tmp 26], argTypes := #[22, 22] }, type := 3, pos := "disk.go:185", after := #[{ on := 8, ground := Go.Ground.data }, { on := 13, ground := Go.Ground.data }, { on := 8, ground := Go.Ground.chain }], guard := none }) rfl (by rfl) (exec_copy (t := 22) (tn := 22) rfl rfl rfl HC.out) ?_
      simp only [Act.put, List.setIfInBounds_toArray, List.set_cons_zero, List.set_cons_succ]
      refine wpAnyIn_done (by kernel_rfl) ?_ _
      go_wp2
      refine bodyPost_end (results_none rfl _ _ _) rfl ?_
      exact ⟨⟨_, rfl⟩, FIN.out⟩
end Go.Proofs.YtikpmaecbfebkaaDoor
