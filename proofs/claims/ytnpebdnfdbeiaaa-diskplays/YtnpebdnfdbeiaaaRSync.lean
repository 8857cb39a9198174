/- The reference's disk: Sync. -/
import Derived.Test.YtnpebdnfdbeiaaaRDsk
import Derived.Test.YtnpebdnfdbeiaaaSteps
import Derived.Deep.RegionHeld
namespace Go.Proofs.Ytnpebdnfdbeiaaa
open Go.RowKit
set_option linter.unusedVariables false

/-- A store that comes last. -/
theorem take_put {P : Program} {ops : Array Oper} {Q : Exit → Act → World → Prop} {md : Region.Mode} {S : World → Prop} {i : Nat} {oi : Oper} {fuel : Nat} {listed : Array Bool} {a : Act} {w w' : World} (hi : ops[i]? = some oi) (hr : Region.ready md ops listed = [i]) (hw : Region.wanted oi (yielded ops a.tmps) = true)
    (hx : (execOp a.eval oi).run P w = .ok .skip w') (hS : S w') (h : wpAnyH P md ops Q S fuel (listed.setIfInBounds i true) (a.put oi.dst undef) w') : wpAnyH P md ops Q S (fuel + 1) listed a w := by
  refine wpAnyH_all (rs := [i]) hr (by simp) (fun j hj => ?_)
  obtain rfl : j = i := by simpa using hj
  unfold wpOp
  simp only [hi, hw, if_true, Oper.wp, hx]
  rw [Oper.upon_skip]
  exact .inl ⟨hS, h⟩
theorem cell_else {w : World} {a b : Addr} {u v : Value} (h : w.cell? a = some u) (hne : a.block ≠ b.block) : (w.setCell b v).cell? a = some u := by
  rw [World.cell?_of_block (Below.heap_setCell _ _ _ _ hne)]
  exact h
theorem ROnly.drew {m : RM} {w w' : World} (h : ROnly m w w') : ROnly m w w'.drew := ROnly.trans h (RM.next.refl m _) (ROnly.of_below (Below.refl _ w').drew)
theorem reachAll_one (l : List (BitVec 8)) (ws : List (Nat × List (BitVec 8))) (k : Nat) (h : k < ws.length) : reachAll l (ws.take (k + 1)) = patch (reachAll l (ws.take k)) ws[k].1 ws[k].2 := by
  unfold reachAll
  rw [List.take_succ_eq_append_getElem h, List.foldl_append]
  rfl
theorem put_next {m mk : RM} {N G i : Nat} (h : m.next mk N) (hG : G ∈ m.gl ∨ N ≤ G) : m.next { mk with gs := mk.gs.set i G } N := by
  refine ⟨h.R, fun k hk => h.own k hk, fun k hk => ?_⟩
  rcases hk with e | e | e
  · exact h.all k (.inl e)
  · rcases List.mem_or_eq_of_mem_set e with e | e
    · exact h.all k (.inr (.inl e))
    · rw [e]
      exact hG.imp (fun x => .inr (.inr x)) id
  · exact h.all k (.inr (.inr e))
/-- All writes are done with. -/
theorem RDsk.clear {w : World} {m : RM} {n : Nat} {s : DS} (h : RDsk w m n s) {w' : World} {s' : DS} (hR : w'.heap[m.R]? = some (.cells #[m.sv, .slice none 0 0, .bool s'.fa, .bool s'.fu, .bool s'.de] 39 (0, 0))) (hk : ∀ k, k ≠ m.R → w'.heap[k]? = w.heap[k]?) (ok : s'.ok n) (hi : s'.img = s.img) (hw : s'.ws = []) : RDsk w' { m with lv := .slice none 0 0, gl := [] } n s' := by
  refine h.head (lv := .slice none 0 0) (gl := []) hR hk ok hi ?_ (by rw [hw]; rfl) (fun i h1 => nomatch h1)
  rw [hw]
  exact World.ownsRow_nil _ _ _ _
theorem clear_next {m mk : RM} {N : Nat} (h : m.next mk N) : m.next { mk with lv := .slice none 0 0, gl := [] } N := by
  refine ⟨h.R, fun k hk => ?_, fun k hk => ?_⟩
  · rcases hk with e | e | e
    · exact h.own k (.inl e)
    · exact h.own k (.inr (.inl e))
    · cases e
  · rcases hk with (e | e | e) | e | e
    · exact h.all k (.inl (.inl e))
    · exact h.all k (.inl (.inr (.inl e)))
    · cases e
    · exact h.all k (.inr (.inl e))
    · cases e
set_option maxRecDepth 100000 in
set_option maxHeartbeats 3200000 in
theorem refSync_any (m : RM) (n : Nat) (s : DS) (w : World) (h : RDsk w m n s) : Calls Try.prog 26 #[.pointer (some ⟨m.R, 0, none⟩)] w fun e w' => ∃ m', e = .returned (.int .i64 (whyS s : Nat)) ∧ RDo w w' m m' n (syncD s) := by
  have H : Hid (RDsk w m n s) := h
  obtain ⟨c0, c1, c2, c3, c4, fz⟩ := h.cells
  obtain ⟨R, eR⟩ : ∃ R, m.R = R := ⟨_, rfl⟩
  have ER : Hid (m.R = R) := eR
  rw [eR] at c0 c1 c2 c4 fz
  have fz4 := fz 4
  rw [eR]
  by_cases hde : s.de = true
  · have e1 : whyS s = 21 := by unfold whyS; rw [if_pos hde]
    have e2 : syncD s = s := by unfold syncD; rw [if_pos hde]
    rw [e1, e2]
    rw [hde] at c4
    have FIN : Hid (RDo w w m m n s) := ⟨H.out, ROnly.refl m w, RM.next.refl m _⟩
    clear h e1 e2 hde eR fz c0 c1
    go_enter Try.func26, Try.ntmps26
    go_wp2
    go_ret
    first | exact ⟨m, rfl, FIN.out⟩ | exact ⟨rfl, m, FIN.out⟩
  · have hde' : s.de = false := by simpa using hde
    rw [hde'] at c4
    by_cases hfa : s.fa = true
    · have e1 : whyS s = 20 := by unfold whyS; rw [if_neg hde, if_pos hfa]
      have e2 : syncD s = { s with de := true } := by unfold syncD; rw [if_neg hde, if_pos hfa]
      rw [e1, e2]
      rw [hfa] at c2
      have FIN : Hid (RDo w (w.setCell ⟨R, 4, none⟩ (.bool true)) m m n { s with de := true }) := by
        refine ⟨h.flag (s' := { s with de := true }) ?_ (fun k hk => ?_) rfl rfl rfl, by rw [← eR]; exact ROnly.set (.inl rfl) _, RM.next.refl m _⟩
        · have := block_put h.hd 4 (.bool true)
          rw [eR] at this ⊢
          simpa using this
        · exact Below.heap_setCell _ _ _ k (fun e => hk (by rw [eR]; simpa using e))
      clear h e1 e2 hde hde' hfa eR fz c0 c1
      go_enter Try.func26, Try.ntmps26
      go_wp2
      go_ret
      first | exact ⟨m, rfl, FIN.out⟩ | exact ⟨rfl, m, FIN.out⟩
    · have hfa' : s.fa = false := by simpa using hfa
      rw [hfa'] at c2
      have e1 : whyS s = 0 := by unfold whyS; rw [if_neg hde, if_neg hfa]
      have e2 : syncD s = { s with img := reachAll s.img s.ws, ws := [] } := by unfold syncD; rw [if_neg hde, if_neg hfa]
      have OK : Hid (({ s with img := reachAll s.img s.ws, ws := [] } : DS).ok n) := by have := syncD_ok h.ok; rw [e2] at this; exact this
      rw [e1, e2]
      obtain ⟨gv, cv, es⟩ := h.sform
      obtain ⟨la, lc, el⟩ := h.lform
      have ES : Hid (m.sv = .slice (some ⟨gv, 0, none⟩) n cv) := es
      have EL : Hid (m.lv = .slice la s.ws.length lc) := el
      have HLK : Hid (s.ws.length ≤ 1000000) := h.ok.lk
      obtain ⟨N, eN⟩ : ∃ N, s.ws.length = N := ⟨_, rfl⟩
      have EN : Hid (s.ws.length = N) := eN
      clear h e1 e2 hde hde' hfa hfa' eR fz c0 c1 es el eN
      go_enter Try.func26, Try.ntmps26
      go_wp2_with fail
      go_loopw [3] (fun i wr => ∃ (k : Nat) (mk : RM), i = .int .i64 k ∧ Hid (k ≤ N) ∧ Hid (mk.lv = m.lv ∧ mk.gl = m.gl ∧ mk.sv = m.sv) ∧ Hid (RDsk wr mk n { s with img := reachAll s.img (s.ws.take k) }) ∧ Hid (ROnly m w wr) ∧ Hid (m.next mk w.heap.size)) (fun i _ => N - (intOf i).toNat)
      case atStart => exact ⟨0, m, rfl, Nat.zero_le _, ⟨rfl, rfl, rfl⟩, H.out, ROnly.refl m w, RM.next.refl m _⟩
      case round =>
        obtain ⟨k, mk, rfl, hk, hm, hD, hO, hX⟩ := hrel
        have eRk : mk.R = R := hX.out.R.trans ER.out
        have d0 := hD.out.cells.1
        have d1 := hD.out.cells.2.1
        have f1 := hD.out.cells.2.2.2.2.2 1
        rw [hm.out.2.2, ES.out, eRk] at d0
        rw [hm.out.1, EL.out, EN.out, eRk] at d1
        rw [eRk] at f1
        by_cases hlt : k < N
        · have hws : k < s.ws.length := by rw [EN.out]; exact hlt
          obtain ⟨gw, cw, hg, ev, b0, b1⟩ := hD.out.l_at (i := k) hws
          have lw := H.out.ok.lw _ (List.getElem_mem hws)
          have cl := hD.out.cl k hg hws
          have hst := reachAll_one s.img s.ws k hws
          have memG : mk.gl[k] ∈ m.gl := by rw [← hm.out.2.1]; exact List.getElem_mem hg
          obtain ⟨gl, egl⟩ : ∃ x, mk.gl[k] = x := ⟨_, rfl⟩
          have b0' : wr.cell? ⟨gw, k * 2, none⟩ = some (.int .i64 (s.ws[k].1 : Int)) := b0
          have cl' : Con wr mk.gl[k] s.ws[k].2 := cl
          obtain ⟨x, ex⟩ : ∃ x, s.ws[k] = x := ⟨_, rfl⟩
          rw [egl] at b1 cl' memG
          rw [ex] at b0' cl' hst lw
          obtain ⟨x1, x2⟩ := x
          have ev2 : la = some ⟨gw, 0, none⟩ := by
            rw [hm.out.1, EL.out] at ev
            cases ev; rfl
          subst ev2
          have hx1 : x1 < n := lw.1
          have hgs : x1 < mk.gs.length := by rw [hD.out.ls]; exact hx1
          have esk : mk.sv = .slice (some ⟨gv, 0, none⟩) n cv := hm.out.2.2.trans ES.out
          have a0 := (hD.out.s_at esk hgs)
          have PUT : Hid (RDsk (wr.drew.setCell ⟨gv, x1, none⟩ (.slice (some ⟨gl, 0, none⟩) 256 256)) { mk with gs := mk.gs.set x1 gl } n { s with img := reachAll s.img (s.ws.take (k + 1)) }) := by
            have q := (hD.out.below (Below.refl _ wr).drew).put (G := gl) (P := x2) esk hx1 (cl'.below (Below.refl _ wr).drew)
            rw [hst]
            exact q
          have OO : Hid (ROnly m w (wr.drew.setCell ⟨gv, x1, none⟩ (.slice (some ⟨gl, 0, none⟩) 256 256))) := ROnly.trans hO.out.drew (RM.next.refl m _) (ROnly.set (.inr (.inl (by rw [ES.out]; rfl))) _)
          have NX : Hid (m.next { mk with gs := mk.gs.set x1 gl } w.heap.size) := put_next hX.out (.inl memG)
          have neR : R ≠ gv := fun e => hD.out.R_s (k := gv) (by rw [esk]; rfl) (by rw [eRk]; exact e.symm)
          have neL : gw ≠ gv := hD.out.s_l (k := gv) (j := gw) (by rw [esk]; rfl) (by rw [ev]; rfl)
          have FAC : Hid (wr.drew.cell? ⟨R, 0, none⟩ = some (.slice (some ⟨gv, 0, none⟩) n cv) ∧ wr.drew.cell? ⟨R, 1, none⟩ = some (.slice (some ⟨gw, 0, none⟩) N lc) ∧ wr.drew.cell? ⟨gw, k * 2, none⟩ = some (.int .i64 (x1 : Int)) ∧ wr.drew.cell? ⟨gw, k * 2 + 1, none⟩ = some (.slice (some ⟨gl, 0, none⟩) 256 256)) := ⟨d0, d1, b0', b1⟩
          have AFT : Hid ((wr.drew.setCell ⟨gv, x1, none⟩ (.slice (some ⟨gl, 0, none⟩) 256 256)).cell? ⟨R, 0, none⟩ = some (.slice (some ⟨gv, 0, none⟩) n cv) ∧ (wr.drew.setCell ⟨gv, x1, none⟩ (.slice (some ⟨gl, 0, none⟩) 256 256)).cell? ⟨R, 1, none⟩ = some (.slice (some ⟨gw, 0, none⟩) N lc) ∧ (wr.drew.setCell ⟨gv, x1, none⟩ (.slice (some ⟨gl, 0, none⟩) 256 256)).cell? ⟨gw, k * 2, none⟩ = some (.int .i64 (x1 : Int)) ∧ (wr.drew.setCell ⟨gv, x1, none⟩ (.slice (some ⟨gl, 0, none⟩) 256 256)).cell? ⟨gw, k * 2 + 1, none⟩ = some (.slice (some ⟨gl, 0, none⟩) 256 256)) :=
            ⟨cell_else FAC.out.1 neR, cell_else FAC.out.2.1 neR, cell_else FAC.out.2.2.1 neL, cell_else FAC.out.2.2.2 neL⟩
          have z0 : wr.drew.cell? ⟨gv, x1, none⟩ = some (.slice (some ⟨mk.gs[x1], 0, none⟩) 256 256) := a0.1
          have z1 : wr.drew.frozen? ⟨gv, x1, none⟩ = false := a0.2
          obtain ⟨go, ego⟩ : ∃ x, mk.gs[x1] = x := ⟨_, rfl⟩
          rw [ego] at z0
          have h1 : (k : Int) < (N : Int) := by omega
          have h2 : (k : Int) < 1000000 := by have := HLK.out; have := EN.out; omega
          have h3 : (x1 : Int) < (n : Int) := by omega
          have h4 : (0 : Int) ≤ (x1 : Int) := by omega
          have HLT : Hid (k < N) := hlt
          have HM : Hid (mk.lv = m.lv ∧ mk.gl = m.gl ∧ mk.sv = m.sv) := hm.out
          have WK : Hid ((k : Int) + 1 = ((k + 1 : Nat) : Int)) := by show (k : Int) + 1 = ((k + 1 : Nat) : Int); omega
          clear hlt hk hm hD hO hX a0 cl cl' lw hst b0 b0' b1 ev hws hg ex egl ego hx1 hgs esk memG eRk neR neL
          go_wp2_with fail
          refine wp_region_held_drew (S := fun X => X.cell? ⟨R, 0, none⟩ = some (.slice (some ⟨gv, 0, none⟩) n cv) ∧ X.cell? ⟨R, 1, none⟩ = some (.slice (some ⟨gw, 0, none⟩) N lc) ∧ X.cell? ⟨gw, k * 2, none⟩ = some (.int .i64 (x1 : Int)) ∧ X.cell? ⟨gw, k * 2 + 1, none⟩ = some (.slice (some ⟨gl, 0, none⟩) 256 256)) (by kernel_rfl) FAC.out (fun hHeld => ?_)
          refine take_run (i := 0) (oi := { dst := some 24, op := Go.Op.move (Go.Operand.tmp 0), type := 28, pos := "ref.go:107", after := #[], guard := none }) (v := .pointer (some ⟨R, 0, none⟩)) rfl (by kernel_rfl) (by kernel_rfl) (by kernel_rfl) (fun _ _ _ h => h) (by rfl) ?_ hHeld ?_
          · (intro wq hSw; go_simp <;> with_reducible rfl)
          try simp only [Act.put, List.setIfInBounds_toArray, List.set_cons_zero, List.set_cons_succ]
          refine take_run (i := 1) (oi := { dst := some 25, op := Go.Op.nilCheck (Go.Operand.tmp 24), type := 0, pos := "ref.go:107", after := #[{ on := 0, ground := Go.Ground.data }], guard := none }) (v := .pointer (some ⟨R, 0, none⟩)) rfl (by kernel_rfl) (by kernel_rfl) (by kernel_rfl) (fun _ _ _ h => h) (by rfl) ?_ hHeld ?_
          · (intro wq hSw; go_simp <;> with_reducible rfl)
          try simp only [Act.put, List.setIfInBounds_toArray, List.set_cons_zero, List.set_cons_succ]
          refine take_run (i := 2) (oi := { dst := some 26, op := Go.Op.fieldAddr 39 (Go.Operand.tmp 25) 0, type := 0, pos := "ref.go:107", after := #[{ on := 1, ground := Go.Ground.data }], guard := none }) (v := .pointer (some ⟨R, 0, none⟩)) rfl (by kernel_rfl) (by kernel_rfl) (by kernel_rfl) (fun _ _ _ h => h) (by rfl) ?_ hHeld ?_
          · (intro wq hSw; go_simp <;> with_reducible rfl)
          try simp only [Act.put, List.setIfInBounds_toArray, List.set_cons_zero, List.set_cons_succ]
          refine take_run (i := 3) (oi := { dst := some 27, op := Go.Op.load 36 (Go.Operand.tmp 26), type := 36, pos := "ref.go:107", after := #[{ on := 2, ground := Go.Ground.data }], guard := none }) (v := .slice (some ⟨gv, 0, none⟩) n cv) rfl (by kernel_rfl) (by kernel_rfl) (by kernel_rfl) (fun _ _ _ h => h) (by rfl) ?_ hHeld ?_
          · (intro wq hSw; obtain ⟨s0, s1, s2, s3⟩ := hSw; go_simp <;> with_reducible rfl)
          try simp only [Act.put, List.setIfInBounds_toArray, List.set_cons_zero, List.set_cons_succ]
          refine take_run (i := 4) (oi := { dst := some 28, op := Go.Op.move (Go.Operand.tmp 0), type := 28, pos := "ref.go:107", after := #[], guard := none }) (v := .pointer (some ⟨R, 0, none⟩)) rfl (by kernel_rfl) (by kernel_rfl) (by kernel_rfl) (fun _ _ _ h => h) (by rfl) ?_ hHeld ?_
          · (intro wq hSw; go_simp <;> with_reducible rfl)
          try simp only [Act.put, List.setIfInBounds_toArray, List.set_cons_zero, List.set_cons_succ]
          refine take_run (i := 5) (oi := { dst := some 29, op := Go.Op.nilCheck (Go.Operand.tmp 28), type := 0, pos := "ref.go:107", after := #[{ on := 4, ground := Go.Ground.data }], guard := none }) (v := .pointer (some ⟨R, 0, none⟩)) rfl (by kernel_rfl) (by kernel_rfl) (by kernel_rfl) (fun _ _ _ h => h) (by rfl) ?_ hHeld ?_
          · (intro wq hSw; go_simp <;> with_reducible rfl)
          try simp only [Act.put, List.setIfInBounds_toArray, List.set_cons_zero, List.set_cons_succ]
          refine take_run (i := 6) (oi := { dst := some 30, op := Go.Op.fieldAddr 39 (Go.Operand.tmp 29) 1, type := 0, pos := "ref.go:107", after := #[{ on := 5, ground := Go.Ground.data }], guard := none }) (v := .pointer (some ⟨R, 1, none⟩)) rfl (by kernel_rfl) (by kernel_rfl) (by kernel_rfl) (fun _ _ _ h => h) (by rfl) ?_ hHeld ?_
          · (intro wq hSw; go_simp <;> with_reducible rfl)
          try simp only [Act.put, List.setIfInBounds_toArray, List.set_cons_zero, List.set_cons_succ]
          refine take_run (i := 7) (oi := { dst := some 31, op := Go.Op.load 37 (Go.Operand.tmp 30), type := 37, pos := "ref.go:107", after := #[{ on := 6, ground := Go.Ground.data }], guard := none }) (v := .slice (some ⟨gw, 0, none⟩) N lc) rfl (by kernel_rfl) (by kernel_rfl) (by kernel_rfl) (fun _ _ _ h => h) (by rfl) ?_ hHeld ?_
          · (intro wq hSw; obtain ⟨s0, s1, s2, s3⟩ := hSw; go_simp <;> with_reducible rfl)
          try simp only [Act.put, List.setIfInBounds_toArray, List.set_cons_zero, List.set_cons_succ]
          refine take_run (i := 8) (oi := { dst := some 32, op := Go.Op.move (Go.Operand.tmp 3), type := 3, pos := "ref.go:107", after := #[], guard := none }) (v := .int .i64 (k : Int)) rfl (by kernel_rfl) (by kernel_rfl) (by kernel_rfl) (fun _ _ _ h => h) (by rfl) ?_ hHeld ?_
          · (intro wq hSw; go_simp <;> with_reducible rfl)
          try simp only [Act.put, List.setIfInBounds_toArray, List.set_cons_zero, List.set_cons_succ]
          refine take_run (i := 9) (oi := { dst := some 33, op := Go.Op.indexAddr 37 (Go.Operand.tmp 31) (Go.Operand.tmp 32), type := 0, pos := "ref.go:107", after := #[{ on := 7, ground := Go.Ground.data }, { on := 8, ground := Go.Ground.data }], guard := none }) (v := .pointer (some ⟨gw, k * 2, none⟩)) rfl (by kernel_rfl) (by kernel_rfl) (by kernel_rfl) (fun _ _ _ h => h) (by rfl) ?_ hHeld ?_
          · (intro wq hSw; go_simp <;> with_reducible rfl)
          try simp only [Act.put, List.setIfInBounds_toArray, List.set_cons_zero, List.set_cons_succ]
          refine take_run (i := 10) (oi := { dst := some 34, op := Go.Op.fieldAddr 69 (Go.Operand.tmp 33) 0, type := 0, pos := "ref.go:107", after := #[{ on := 9, ground := Go.Ground.data }], guard := none }) (v := .pointer (some ⟨gw, k * 2, none⟩)) rfl (by kernel_rfl) (by kernel_rfl) (by kernel_rfl) (fun _ _ _ h => h) (by rfl) ?_ hHeld ?_
          · (intro wq hSw; go_simp <;> with_reducible rfl)
          try simp only [Act.put, List.setIfInBounds_toArray, List.set_cons_zero, List.set_cons_succ]
          refine take_run (i := 11) (oi := { dst := some 35, op := Go.Op.load 3 (Go.Operand.tmp 34), type := 3, pos := "ref.go:107", after := #[{ on := 10, ground := Go.Ground.data }], guard := none }) (v := .int .i64 (x1 : Int)) rfl (by kernel_rfl) (by kernel_rfl) (by kernel_rfl) (fun _ _ _ h => h) (by rfl) ?_ hHeld ?_
          · (intro wq hSw; obtain ⟨s0, s1, s2, s3⟩ := hSw; go_simp <;> with_reducible rfl)
          try simp only [Act.put, List.setIfInBounds_toArray, List.set_cons_zero, List.set_cons_succ]
          refine take_run (i := 12) (oi := { dst := some 36, op := Go.Op.move (Go.Operand.tmp 0), type := 28, pos := "ref.go:107", after := #[], guard := none }) (v := .pointer (some ⟨R, 0, none⟩)) rfl (by kernel_rfl) (by kernel_rfl) (by kernel_rfl) (fun _ _ _ h => h) (by rfl) ?_ hHeld ?_
          · (intro wq hSw; go_simp <;> with_reducible rfl)
          try simp only [Act.put, List.setIfInBounds_toArray, List.set_cons_zero, List.set_cons_succ]
          refine take_run (i := 13) (oi := { dst := some 37, op := Go.Op.nilCheck (Go.Operand.tmp 36), type := 0, pos := "ref.go:107", after := #[{ on := 12, ground := Go.Ground.data }], guard := none }) (v := .pointer (some ⟨R, 0, none⟩)) rfl (by kernel_rfl) (by kernel_rfl) (by kernel_rfl) (fun _ _ _ h => h) (by rfl) ?_ hHeld ?_
          · (intro wq hSw; go_simp <;> with_reducible rfl)
          try simp only [Act.put, List.setIfInBounds_toArray, List.set_cons_zero, List.set_cons_succ]
          refine take_run (i := 14) (oi := { dst := some 38, op := Go.Op.fieldAddr 39 (Go.Operand.tmp 37) 1, type := 0, pos := "ref.go:107", after := #[{ on := 13, ground := Go.Ground.data }], guard := none }) (v := .pointer (some ⟨R, 1, none⟩)) rfl (by kernel_rfl) (by kernel_rfl) (by kernel_rfl) (fun _ _ _ h => h) (by rfl) ?_ hHeld ?_
          · (intro wq hSw; go_simp <;> with_reducible rfl)
          try simp only [Act.put, List.setIfInBounds_toArray, List.set_cons_zero, List.set_cons_succ]
          refine take_run (i := 15) (oi := { dst := some 39, op := Go.Op.load 37 (Go.Operand.tmp 38), type := 37, pos := "ref.go:107", after := #[{ on := 14, ground := Go.Ground.data }], guard := none }) (v := .slice (some ⟨gw, 0, none⟩) N lc) rfl (by kernel_rfl) (by kernel_rfl) (by kernel_rfl) (fun _ _ _ h => h) (by rfl) ?_ hHeld ?_
          · (intro wq hSw; obtain ⟨s0, s1, s2, s3⟩ := hSw; go_simp <;> with_reducible rfl)
          try simp only [Act.put, List.setIfInBounds_toArray, List.set_cons_zero, List.set_cons_succ]
          refine take_run (i := 16) (oi := { dst := some 40, op := Go.Op.move (Go.Operand.tmp 3), type := 3, pos := "ref.go:107", after := #[], guard := none }) (v := .int .i64 (k : Int)) rfl (by kernel_rfl) (by kernel_rfl) (by kernel_rfl) (fun _ _ _ h => h) (by rfl) ?_ hHeld ?_
          · (intro wq hSw; go_simp <;> with_reducible rfl)
          try simp only [Act.put, List.setIfInBounds_toArray, List.set_cons_zero, List.set_cons_succ]
          refine take_run (i := 17) (oi := { dst := some 41, op := Go.Op.indexAddr 37 (Go.Operand.tmp 39) (Go.Operand.tmp 40), type := 0, pos := "ref.go:107", after := #[{ on := 15, ground := Go.Ground.data }, { on := 16, ground := Go.Ground.data }], guard := none }) (v := .pointer (some ⟨gw, k * 2, none⟩)) rfl (by kernel_rfl) (by kernel_rfl) (by kernel_rfl) (fun _ _ _ h => h) (by rfl) ?_ hHeld ?_
          · (intro wq hSw; go_simp <;> with_reducible rfl)
          try simp only [Act.put, List.setIfInBounds_toArray, List.set_cons_zero, List.set_cons_succ]
          refine take_run (i := 18) (oi := { dst := some 42, op := Go.Op.fieldAddr 69 (Go.Operand.tmp 41) 1, type := 0, pos := "ref.go:107", after := #[{ on := 17, ground := Go.Ground.data }], guard := none }) (v := .pointer (some ⟨gw, k * 2 + 1, none⟩)) rfl (by kernel_rfl) (by kernel_rfl) (by kernel_rfl) (fun _ _ _ h => h) (by rfl) ?_ hHeld ?_
          · (intro wq hSw; go_simp <;> with_reducible rfl)
          try simp only [Act.put, List.setIfInBounds_toArray, List.set_cons_zero, List.set_cons_succ]
          refine take_run (i := 19) (oi := { dst := some 43, op := Go.Op.load 22 (Go.Operand.tmp 42), type := 22, pos := "ref.go:107", after := #[{ on := 18, ground := Go.Ground.data }], guard := none }) (v := .slice (some ⟨gl, 0, none⟩) 256 256) rfl (by kernel_rfl) (by kernel_rfl) (by kernel_rfl) (fun _ _ _ h => h) (by rfl) ?_ hHeld ?_
          · (intro wq hSw; obtain ⟨s0, s1, s2, s3⟩ := hSw; go_simp <;> with_reducible rfl)
          try simp only [Act.put, List.setIfInBounds_toArray, List.set_cons_zero, List.set_cons_succ]
          refine take_run (i := 20) (oi := { dst := some 44, op := Go.Op.indexAddr 36 (Go.Operand.tmp 27) (Go.Operand.tmp 35), type := 0, pos := "ref.go:107", after := #[{ on := 3, ground := Go.Ground.data }, { on := 11, ground := Go.Ground.data }, { on := 0, ground := Go.Ground.phase }, { on := 1, ground := Go.Ground.phase }, { on := 2, ground := Go.Ground.phase }, { on := 3, ground := Go.Ground.phase }, { on := 4, ground := Go.Ground.phase }, { on := 5, ground := Go.Ground.phase }, { on := 6, ground := Go.Ground.phase }, { on := 7, ground := Go.Ground.phase }, { on := 8, ground := Go.Ground.phase }, { on := 9, ground := Go.Ground.phase }, { on := 10, ground := Go.Ground.phase }, { on := 11, ground := Go.Ground.phase }, { on := 12, ground := Go.Ground.phase }, { on := 13, ground := Go.Ground.phase }, { on := 14, ground := Go.Ground.phase }, { on := 15, ground := Go.Ground.phase }, { on := 16, ground := Go.Ground.phase }, { on := 17, ground := Go.Ground.phase }, { on := 18, ground := Go.Ground.phase }, { on := 19, ground := Go.Ground.phase }], guard := none }) (v := .pointer (some ⟨gv, x1, none⟩)) rfl (by kernel_rfl) (by kernel_rfl) (by kernel_rfl) (fun _ _ _ h => h) (by rfl) ?_ hHeld ?_
          · (intro wq hSw; go_simp <;> with_reducible rfl)
          try simp only [Act.put, List.setIfInBounds_toArray, List.set_cons_zero, List.set_cons_succ]
          refine take_put (i := 21) (oi := { dst := none, op := Go.Op.store 22 (Go.Operand.tmp 44) (Go.Operand.tmp 43), type := 0, pos := "ref.go:107", after := #[{ on := 20, ground := Go.Ground.data }, { on := 19, ground := Go.Ground.data }, { on := 0, ground := Go.Ground.phase }, { on := 1, ground := Go.Ground.phase }, { on := 2, ground := Go.Ground.phase }, { on := 3, ground := Go.Ground.phase }, { on := 4, ground := Go.Ground.phase }, { on := 5, ground := Go.Ground.phase }, { on := 6, ground := Go.Ground.phase }, { on := 7, ground := Go.Ground.phase }, { on := 8, ground := Go.Ground.phase }, { on := 9, ground := Go.Ground.phase }, { on := 10, ground := Go.Ground.phase }, { on := 11, ground := Go.Ground.phase }, { on := 12, ground := Go.Ground.phase }, { on := 13, ground := Go.Ground.phase }, { on := 14, ground := Go.Ground.phase }, { on := 15, ground := Go.Ground.phase }, { on := 16, ground := Go.Ground.phase }, { on := 17, ground := Go.Ground.phase }, { on := 18, ground := Go.Ground.phase }, { on := 19, ground := Go.Ground.phase }], guard := none }) (w' := wr.drew.setCell ⟨gv, x1, none⟩ (.slice (some ⟨gl, 0, none⟩) 256 256)) rfl (by kernel_rfl) (by rfl) (by go_simp <;> with_reducible rfl) AFT.out ?_
          try simp only [Act.put]
          refine wpAnyH_done (by kernel_rfl) ?_ _
          clear hHeld
          go_wp2
          rw [WK.out]
          go_roundw
          case rel => exact ⟨k + 1, { mk with gs := mk.gs.set x1 gl }, rfl, HLT.out, HM.out, PUT.out, OO.out, NX.out⟩
          case measure => exact less_by HLT.out
        · have hk2 : k = s.ws.length := by have := hk.out; have := EN.out; omega
          have h1 : ¬ (k : Int) < (N : Int) := by omega
          have tk : s.ws.take k = s.ws := List.take_of_length_le (by omega)
          have FIN : Hid (RDo w (wr.setCell ⟨R, 1, none⟩ (.slice none 0 0)) m { mk with lv := .slice none 0 0, gl := [] } n { s with img := reachAll s.img s.ws, ws := [] }) := by
            refine ⟨hD.out.clear (s' := { s with img := reachAll s.img s.ws, ws := [] }) ?_ (fun j hj => ?_) OK.out (by show reachAll s.img s.ws = reachAll s.img (s.ws.take k); rw [tk]) rfl, ROnly.trans hO.out (RM.next.refl m _) (by rw [← ER.out]; exact ROnly.set (.inl rfl) _), clear_next hX.out⟩
            · have := block_put hD.out.hd 1 (.slice none 0 0)
              rw [eRk] at this ⊢
              simpa using this
            · exact Below.heap_setCell _ _ _ j (fun e => hj (by rw [eRk]; simpa using e))
          clear hlt hk hm hD hO hX tk hk2 eRk
          go_wp2
          go_ret
          first | exact ⟨_, rfl, FIN.out⟩ | exact ⟨rfl, _, FIN.out⟩
end Go.Proofs.Ytnpebdnfdbeiaaa
