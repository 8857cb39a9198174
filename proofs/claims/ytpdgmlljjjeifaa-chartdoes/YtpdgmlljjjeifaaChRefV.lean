/- Package chart's reference: a move begins. Written by gen_rd.py. -/
import Derived.Test.YtpdgmlljjjeifaaChRefS
namespace Go.Proofs.Ytpdgmlljjjeifaa
open Go.RowKit
attribute [local go_sem] Oper.semAt_some
set_option linter.unusedVariables false
section
variable {w w' : World} {base Q O E cO cE : Nat} {L : List Int}
set_option maxRecDepth 100000 in
set_option maxHeartbeats 4000000 in
theorem rdo_move (hc : RC w base Q O E cO cE L) (hf : Fine L) (s h n p : Int) : Calls Try.prog 30 #[.pointer (some ⟨Q, 0, none⟩), .agg #[.int .i64 1, .int .i64 s, .int .i64 h, .int .i64 n, .int .i64 p]] w fun e w' => RTold w w' base Q O E cO cE e (mvC L s h) := by
  obtain ⟨d0, p1⟩ := pre_ref hc (1) s h n p
  obtain ⟨P, eP⟩ : ∃ P, w.heap.size = P := ⟨_, rfl⟩
  have hlt := hc.lt
  obtain ⟨wA, eA⟩ : ∃ wA, ((w.alloc (.cells #[.int .i64 1, .int .i64 s, .int .i64 h, .int .i64 n, .int .i64 p] 46)).alloc (.cells #[.int .i64 0, .bool false, .int .i64 0] 62)) = wA := ⟨_, rfl⟩
  rw [eA] at d0 p1
  rw [eP] at d0 p1 hlt
  have EA : Hid _ := eA
  have EP : Hid (w.heap.size = P) := eP
  have D : Hid (Rd w wA base Q O E cO cE L (P + 1) #[.int .i64 0, .bool false, .int .i64 0]) := d0
  obtain ⟨lq, lo, le_⟩ := hlt
  have PP : Hid (Blk wA P #[.int .i64 1, .int .i64 s, .int .i64 h, .int .i64 n, .int .i64 p] 46) := p1
  have y0 : wA.cell? ⟨P, 0, none⟩ = some (.int .i64 1) := p1.cell 0
  have y1 : wA.cell? ⟨P, 1, none⟩ = some (.int .i64 s) := p1.cell 1
  have y2 : wA.cell? ⟨P, 2, none⟩ = some (.int .i64 h) := p1.cell 2
  have c0 : wA.cell? ⟨Q, 0, none⟩ = some (.int .i64 (at_ L 0)) := D.out.c.cell 0
  have c1 : wA.cell? ⟨Q, 1, none⟩ = some (.slice (some ⟨O, 0, none⟩) 16 cO) := D.out.c.cell 1
  have c2 : wA.cell? ⟨Q, 2, none⟩ = some (.slice (some ⟨E, 0, none⟩) 16 cE) := D.out.c.cell 2
  have c3 : wA.cell? ⟨Q, 3, none⟩ = some (.int .i64 (at_ L 33)) := D.out.c.cell 3
  have fq3 := D.out.c.fz 3
  have c4 : wA.cell? ⟨Q, 4, none⟩ = some (.int .i64 (at_ L 34)) := D.out.c.cell 4
  have fq4 := D.out.c.fz 4
  have c5 : wA.cell? ⟨Q, 5, none⟩ = some (.int .i64 (at_ L 35)) := D.out.c.cell 5
  have fq5 := D.out.c.fz 5
  have c6 : wA.cell? ⟨Q, 6, none⟩ = some (.int .i64 (at_ L 36)) := D.out.c.cell 6
  have fq6 := D.out.c.fz 6
  have c7 : wA.cell? ⟨Q, 7, none⟩ = some (.int .i64 (at_ L 37)) := D.out.c.cell 7
  have fq7 := D.out.c.fz 7
  have c8 : wA.cell? ⟨Q, 8, none⟩ = some (.int .i64 (at_ L 38)) := D.out.c.cell 8
  have fq8 := D.out.c.fz 8
  have c9 : wA.cell? ⟨Q, 9, none⟩ = some (.int .i64 (at_ L 39)) := D.out.c.cell 9
  have fq9 := D.out.c.fz 9
  have z0 : wA.cell? ⟨P + 1, 0, none⟩ = some (.int .i64 0) := D.out.z.cell 0
  have z1 : wA.cell? ⟨P + 1, 1, none⟩ = some (.bool false) := D.out.z.cell 1
  have z2 : wA.cell? ⟨P + 1, 2, none⟩ = some (.int .i64 0) := D.out.z.cell 2
  have g0 := D.out.z.fz 0
  have g1 := D.out.z.fz 1
  have g2 := D.out.z.fz 2
  have HF : Hid (Fine L) := hf
  have HL : Hid (L.length = 42) := hc.len
  clear eA eP d0 p1 hf
  have HS := fun W => rslot_any s W
  have HB := busy_any D.out.c
  have hO := hc.hO
  have hE := hc.hE
  unfold mvC
  by_cases h1 : 0 ≤ s ∧ s < 16
  case neg =>
    rw [if_pos (fun x => h1 x.1)]
    rw [decide_eq_false h1] at HS
    have HQ : ∀ W, Hid (Calls Try.prog 43 #[.int .i64 s] W fun e w' => e = .returned (.bool false) ∧ w' = W) := HS
    clear h1 HB HS hc
    go_enter Try.func30, Try.ntmps30
    go_wp2
    rw [EA.out, EP.out]
    go_quiet (first | (go_at_call 43; refine Calls.quiet_of_same (HQ _).out))
    go_wp2
    have dd := (D.out.drewN nq).store (.int .i64 1) (.bool false) (.int .i64 0)
    exact bodyPost_ret (results_cell_row rfl _ _ (P + 1) 62 _ _ _ rfl dd.z Try.underlying62 rfl (by kernel_rfl)) rfl ⟨rfl, dd.c, dd.o⟩
  rw [decide_eq_true h1] at HS
  have HQ : ∀ W, Hid (Calls Try.prog 43 #[.int .i64 s] W fun e w' => e = .returned (.bool true) ∧ w' = W) := HS
  clear HS
  by_cases h2 : h < 1
  · rw [if_pos (fun x => by omega)]
    have q2 : decide (h < 1) = true := decide_eq_true h2
    clear h1 HB hc
    go_enter Try.func30, Try.ntmps30
    go_wp2
    rw [EA.out, EP.out]
    go_quiet (first | (go_at_call 43; refine Calls.quiet_of_same (HQ _).out))
    go_wp2
    have dd := (D.out.drewN nq).store (.int .i64 1) (.bool false) (.int .i64 0)
    exact bodyPost_ret (results_cell_row rfl _ _ (P + 1) 62 _ _ _ rfl dd.z Try.underlying62 rfl (by kernel_rfl)) rfl ⟨rfl, dd.c, dd.o⟩
  have q2 : decide (h < 1) = false := decide_eq_false h2
  by_cases h3 : at_ L 0 < h
  · rw [if_pos (fun x => by omega)]
    have q3 : decide (at_ L 0 < h) = true := decide_eq_true h3
    clear h1 HB hc h2
    go_enter Try.func30, Try.ntmps30
    go_wp2
    rw [EA.out, EP.out]
    go_quiet (first | (go_at_call 43; refine Calls.quiet_of_same (HQ _).out))
    go_wp2
    have dd := (D.out.drewN nq).store (.int .i64 1) (.bool false) (.int .i64 0)
    exact bodyPost_ret (results_cell_row rfl _ _ (P + 1) 62 _ _ _ rfl dd.z Try.underlying62 rfl (by kernel_rfl)) rfl ⟨rfl, dd.c, dd.o⟩
  have q3 : decide (at_ L 0 < h) = false := decide_eq_false h3
  rw [if_neg (fun x => x ⟨h1, by omega, by omega⟩)]
  have HBQ : ∀ nq, Calls Try.prog 44 #[.pointer (some ⟨Q, 0, none⟩)] (wA.drewN nq) fun e w' => e = .returned (.bool (!may_ L)) ∧ w' = wA.drewN nq := fun nq => busy_any (D.out.c.drewN nq)
  have HBB : Hid _ := HBQ
  clear HB HBQ
  by_cases hm : may_ L = false
  · rw [if_pos hm]
    rw [hm] at HBB
    clear h1 hc h2 h3 hm
    go_enter Try.func30, Try.ntmps30
    go_wp2
    rw [EA.out, EP.out]
    go_quiet (first | (go_at_call 43; refine Calls.quiet_of_same (HQ _).out))
    go_wp2_with fail
    refine (HBB.out _).mono ?_
    rintro e w2 ⟨rfl, rfl⟩
    go_wp2
    have dd := (D.out.drewN nq).store (.int .i64 50) (.bool false) (.int .i64 0)
    exact bodyPost_ret (results_cell_row rfl _ _ (P + 1) 62 _ _ _ rfl dd.z Try.underlying62 rfl (by kernel_rfl)) rfl ⟨rfl, dd.c, dd.o⟩
  rw [if_neg hm]
  have hm' : may_ L = true := by simpa using hm
  rw [hm'] at HBB
  obtain ⟨sn, rfl⟩ : ∃ sn : Nat, s = (sn : Int) := ⟨s.toNat, by omega⟩
  have hsn : sn < 16 := by omega
  have s1 := (D.out.c.co sn hsn).1
  have s3 := (D.out.c.ce sn hsn).1
  have qe : wrap64 (epo_ L (sn : Int) + 1) = epo_ L (sn : Int) + 1 := by have := HF.out.ep (sn : Int); unfold wrap64; omega
  have qb : wrap64 (at_ L 33 + 1) = at_ L 33 + 1 := by have := HF.out.bg; unfold wrap64; omega
  rw [own_at hsn, epo_at hsn]
  rw [epo_at hsn] at qe
  obtain ⟨ow, eow⟩ : ∃ x, at_ L (1 + sn * 2) = x := ⟨_, rfl⟩
  obtain ⟨ep, eep⟩ : ∃ x, at_ L (2 + sn * 2) = x := ⟨_, rfl⟩
  rw [eow] at s1
  rw [eep] at s3 qe
  rw [eow, eep]
  by_cases h4 : ow = h
  · subst h4
    rw [if_pos rfl]
    clear h1 hc h2 h3 hm hm' qe qb eow eep
    go_enter Try.func30, Try.ntmps30
    go_wp2
    rw [EA.out, EP.out]
    go_quiet (first | (go_at_call 43; refine Calls.quiet_of_same (HQ _).out))
    go_wp2_with fail
    refine (HBB.out _).mono ?_
    rintro e w2 ⟨rfl, rfl⟩
    revert nq
    intro nq0
    go_wp2
    go_quiet (fail)
    go_wp2
    have dd := (D.out.drewN (nq0 + nq)).store (.int .i64 0) (.bool false) (.int .i64 0)
    exact bodyPost_ret (results_cell_row rfl _ _ (P + 1) 62 _ _ _ rfl dd.z Try.underlying62 rfl (by kernel_rfl)) rfl ⟨rfl, dd.c, dd.o⟩
  have h4' : ((ow : Int) == h) = false := by simpa using h4
  rw [if_neg h4]
  obtain ⟨bg, eb⟩ : ∃ x, at_ L 33 + 1 = x := ⟨_, rfl⟩
  obtain ⟨b0, eb0⟩ : ∃ x, at_ L 33 = x := ⟨_, rfl⟩
  have qb' : wrap64 (b0 + 1) = bg := by rw [← eb0, ← eb]; exact qb
  obtain ⟨ep1, ee⟩ : ∃ x, ep + 1 = x := ⟨_, rfl⟩
  have qe' : wrap64 (ep + 1) = ep1 := by rw [← ee]; exact qe
  have qe2 : IntKind.i64.wrap (ep + 1) = ep1 := (IntWalk.i64_left _).trans qe'
  rw [eb, ee]
  rw [eb0] at c3
  have nQO := D.out.c.nQO
  have nQE := D.out.c.nQE
  have EOW : Hid (at_ L (1 + sn * 2) = ow ∧ at_ L (2 + sn * 2) = ep) := ⟨eow, eep⟩
  clear h1 hc h2 h3 hm hm' qe qb eow eep eb eb0 ee
  go_enter Try.func30, Try.ntmps30
  go_wp2
  rw [EA.out, EP.out]
  go_quiet (first | (go_at_call 43; refine Calls.quiet_of_same (HQ _).out))
  go_wp2_with fail
  refine (HBB.out _).mono ?_
  rintro e w2 ⟨rfl, rfl⟩
  clear HBB HQ
  revert nq
  intro nq0
  go_wp2
  go_quiet (fail)
  go_wp2
  have D2 : Hid (Rd w ((wA.drewN (nq0 + nq)).setCell ⟨Q, 3, none⟩ (.int .i64 bg)) base Q O E cO cE (L.set 33 bg) (P + 1) #[.int .i64 0, .bool false, .int .i64 0]) := (D.out.drewN (nq0 + nq)).set 3 (by omega) bg
  have P2 : Hid (Blk ((wA.drewN (nq0 + nq)).setCell ⟨Q, 3, none⟩ (.int .i64 bg)) P #[.int .i64 1, .int .i64 (sn : Int), .int .i64 h, .int .i64 n, .int .i64 p] 46) := Blk.other (PP.out.drewN (nq0 + nq)) (by have := D.out.hq; have := EP.out; omega) 3 _
  clear c0 c1 c2 c3 c4 c5 c6 c7 c8 c9 fq3 fq4 fq5 fq6 fq7 fq8 fq9 s1 s3 z0 z1 z2 g0 g1 g2 y0 y1 y2 PP
  have y1 : ((wA.drewN (nq0 + nq)).setCell ⟨Q, 3, none⟩ (.int .i64 bg)).cell? ⟨P, 1, none⟩ = some (.int .i64 (sn : Int)) := P2.out.cell 1
  have y2 : ((wA.drewN (nq0 + nq)).setCell ⟨Q, 3, none⟩ (.int .i64 bg)).cell? ⟨P, 2, none⟩ = some (.int .i64 h) := P2.out.cell 2
  have c1 : ((wA.drewN (nq0 + nq)).setCell ⟨Q, 3, none⟩ (.int .i64 bg)).cell? ⟨Q, 1, none⟩ = some (.slice (some ⟨O, 0, none⟩) 16 cO) := D2.out.c.cell 1
  have c2 : ((wA.drewN (nq0 + nq)).setCell ⟨Q, 3, none⟩ (.int .i64 bg)).cell? ⟨Q, 2, none⟩ = some (.slice (some ⟨E, 0, none⟩) 16 cE) := D2.out.c.cell 2
  have c3 : ((wA.drewN (nq0 + nq)).setCell ⟨Q, 3, none⟩ (.int .i64 bg)).cell? ⟨Q, 3, none⟩ = some (.int .i64 bg) := (D2.out.c.cell 3).trans (by show some (Value.int .i64 (at_ (L.set 33 bg) 33)) = _; rw [at_set_self (by rw [HL.out]; omega)])
  have s1 : ((wA.drewN (nq0 + nq)).setCell ⟨Q, 3, none⟩ (.int .i64 bg)).cell? ⟨O, sn, none⟩ = some (.int .i64 ow) := ((D2.out.c.co sn hsn).1).trans (by rw [at_set_ne (by omega), EOW.out.1])
  have s3 : ((wA.drewN (nq0 + nq)).setCell ⟨Q, 3, none⟩ (.int .i64 bg)).cell? ⟨E, sn, none⟩ = some (.int .i64 ep) := ((D2.out.c.ce sn hsn).1).trans (by rw [at_set_ne (by omega), EOW.out.2])
  have c4 := D2.out.c.cell 4
  rw [show (qcells (L.set 33 bg) O cO E cE)[4]? = some (.int .i64 (at_ (L.set 33 bg) 34)) from rfl] at c4
  generalize at_ (L.set 33 bg) 34 = u4 at c4
  have fq4 := D2.out.c.fz 4
  have c5 := D2.out.c.cell 5
  rw [show (qcells (L.set 33 bg) O cO E cE)[5]? = some (.int .i64 (at_ (L.set 33 bg) 35)) from rfl] at c5
  generalize at_ (L.set 33 bg) 35 = u5 at c5
  have fq5 := D2.out.c.fz 5
  have c6 := D2.out.c.cell 6
  rw [show (qcells (L.set 33 bg) O cO E cE)[6]? = some (.int .i64 (at_ (L.set 33 bg) 36)) from rfl] at c6
  generalize at_ (L.set 33 bg) 36 = u6 at c6
  have fq6 := D2.out.c.fz 6
  have c7 := D2.out.c.cell 7
  rw [show (qcells (L.set 33 bg) O cO E cE)[7]? = some (.int .i64 (at_ (L.set 33 bg) 37)) from rfl] at c7
  generalize at_ (L.set 33 bg) 37 = u7 at c7
  have fq7 := D2.out.c.fz 7
  have c8 := D2.out.c.cell 8
  rw [show (qcells (L.set 33 bg) O cO E cE)[8]? = some (.int .i64 (at_ (L.set 33 bg) 38)) from rfl] at c8
  generalize at_ (L.set 33 bg) 38 = u8 at c8
  have fq8 := D2.out.c.fz 8
  have c9 := D2.out.c.cell 9
  rw [show (qcells (L.set 33 bg) O cO E cE)[9]? = some (.int .i64 (at_ (L.set 33 bg) 39)) from rfl] at c9
  generalize at_ (L.set 33 bg) 39 = u9 at c9
  have fq9 := D2.out.c.fz 9
  have z0 : ((wA.drewN (nq0 + nq)).setCell ⟨Q, 3, none⟩ (.int .i64 bg)).cell? ⟨P + 1, 0, none⟩ = some (.int .i64 0) := D2.out.z.cell 0
  have z1 : ((wA.drewN (nq0 + nq)).setCell ⟨Q, 3, none⟩ (.int .i64 bg)).cell? ⟨P + 1, 1, none⟩ = some (.bool false) := D2.out.z.cell 1
  have z2 : ((wA.drewN (nq0 + nq)).setCell ⟨Q, 3, none⟩ (.int .i64 bg)).cell? ⟨P + 1, 2, none⟩ = some (.int .i64 0) := D2.out.z.cell 2
  have g0 := D2.out.z.fz 0
  have g1 := D2.out.z.fz 1
  have g2 := D2.out.z.fz 2
  generalize ((wA.drewN (nq0 + nq)).setCell ⟨Q, 3, none⟩ (.int .i64 bg)) = w2 at *
  have nPQ : P ≠ Q := by have := D2.out.hq; have := EP.out; omega
  have SFIN : Hid (∀ W, W = ((((((w2.setCell ⟨Q, 4, none⟩ (.int .i64 (sn : Int))).setCell ⟨Q, 5, none⟩ (.int .i64 ow)).setCell ⟨Q, 6, none⟩ (.int .i64 h)).setCell ⟨Q, 7, none⟩ (.int .i64 ep1)).setCell ⟨Q, 8, none⟩ (.int .i64 1)).setCell ⟨Q, 9, none⟩ (.int .i64 bg)).drew → (W.cell? ⟨P, 1, none⟩ = some (.int .i64 (sn : Int)) ∧ W.cell? ⟨P, 2, none⟩ = some (.int .i64 h) ∧ W.cell? ⟨Q, 1, none⟩ = some (.slice (some ⟨O, 0, none⟩) 16 cO) ∧ W.cell? ⟨Q, 2, none⟩ = some (.slice (some ⟨E, 0, none⟩) 16 cE) ∧ W.cell? ⟨Q, 3, none⟩ = some (.int .i64 bg) ∧ W.cell? ⟨O, sn, none⟩ = some (.int .i64 ow) ∧ W.cell? ⟨E, sn, none⟩ = some (.int .i64 ep))) := by
    rintro W rfl
    have b := ((((((P2.out.other nPQ.symm 4 (.int .i64 (sn : Int))).other nPQ.symm 5 (.int .i64 ow)).other nPQ.symm 6 (.int .i64 h)).other nPQ.symm 7 (.int .i64 ep1)).other nPQ.symm 8 (.int .i64 1)).other nPQ.symm 9 (.int .i64 bg)).drewN 1
    have d := ((((((D2.out.set 4 (by omega) (sn : Int)).set 5 (by omega) ow).set 6 (by omega) h).set 7 (by omega) ep1).set 8 (by omega) 1).set 9 (by omega) bg).drewN 1
    refine ⟨b.cell 1, b.cell 2, d.c.cell 1, d.c.cell 2, (d.c.cell 3).trans ?_, (d.c.co sn hsn).1.trans ?_, (d.c.ce sn hsn).1.trans ?_⟩
    · show some (Value.int .i64 (at_ (((((((L.set 33 bg).set 34 (sn : Int)).set 35 ow).set 36 h).set 37 ep1).set 38 1).set 39 bg) 33)) = _
      rw [at_set_ne (by omega), at_set_ne (by omega), at_set_ne (by omega), at_set_ne (by omega), at_set_ne (by omega), at_set_ne (by omega), at_set_self (by rw [HL.out]; omega)]
    · rw [at_set_ne (by omega), at_set_ne (by omega), at_set_ne (by omega), at_set_ne (by omega), at_set_ne (by omega), at_set_ne (by omega), at_set_ne (by omega), EOW.out.1]
    · rw [at_set_ne (by omega), at_set_ne (by omega), at_set_ne (by omega), at_set_ne (by omega), at_set_ne (by omega), at_set_ne (by omega), at_set_ne (by omega), EOW.out.2]
  clear D P2 qb'
  refine wp_region_held_drew (S := fun W => W.cell? ⟨P, 1, none⟩ = some (.int .i64 (sn : Int)) ∧ W.cell? ⟨P, 2, none⟩ = some (.int .i64 h) ∧ W.cell? ⟨Q, 1, none⟩ = some (.slice (some ⟨O, 0, none⟩) 16 cO) ∧ W.cell? ⟨Q, 2, none⟩ = some (.slice (some ⟨E, 0, none⟩) 16 cE) ∧ W.cell? ⟨Q, 3, none⟩ = some (.int .i64 bg) ∧ W.cell? ⟨O, sn, none⟩ = some (.int .i64 ow) ∧ W.cell? ⟨E, sn, none⟩ = some (.int .i64 ep)) (by kernel_rfl) ⟨y1, y2, c1, c2, c3, s1, s3⟩ (fun hHeld => ?_)
  refine take_run (i := 0) (oi := { dst := some 52, op := Go.Op.move (Go.Operand.tmp 0), type := 27, pos := "ref.go:106", after := #[], guard := none }) (v := .pointer (some ⟨Q, 0, none⟩)) rfl (by kernel_rfl) (by kernel_rfl) (by kernel_rfl) (fun _ _ _ h => h) (by rfl) ?_ hHeld ?_
  · (intro wq hSw; go_simp <;> with_reducible rfl)
  try simp only [Act.put, List.setIfInBounds_toArray, List.set_cons_zero, List.set_cons_succ]
  refine take_run (i := 1) (oi := { dst := some 53, op := Go.Op.fieldAddr 46 (Go.Operand.tmp 3) 1, type := 0, pos := "ref.go:106", after := #[], guard := none }) (v := .pointer (some ⟨P, 1, none⟩)) rfl (by kernel_rfl) (by kernel_rfl) (by kernel_rfl) (fun _ _ _ h => h) (by rfl) ?_ hHeld ?_
  · (intro wq hSw; go_simp <;> with_reducible rfl)
  try simp only [Act.put, List.setIfInBounds_toArray, List.set_cons_zero, List.set_cons_succ]
  refine take_run (i := 2) (oi := { dst := some 54, op := Go.Op.load 3 (Go.Operand.tmp 53), type := 3, pos := "ref.go:106", after := #[{ on := 1, ground := Go.Ground.data }], guard := none }) (v := .int .i64 (sn : Int)) rfl (by kernel_rfl) (by kernel_rfl) (by kernel_rfl) (fun _ _ _ h => h) (by rfl) ?_ hHeld ?_
  · (intro wq hSw; obtain ⟨h1, h2, h3, h4, h5, h6, h7⟩ := hSw; go_simp <;> with_reducible rfl)
  try simp only [Act.put, List.setIfInBounds_toArray, List.set_cons_zero, List.set_cons_succ]
  refine take_run (i := 3) (oi := { dst := some 55, op := Go.Op.move (Go.Operand.tmp 0), type := 27, pos := "ref.go:106", after := #[], guard := none }) (v := .pointer (some ⟨Q, 0, none⟩)) rfl (by kernel_rfl) (by kernel_rfl) (by kernel_rfl) (fun _ _ _ h => h) (by rfl) ?_ hHeld ?_
  · (intro wq hSw; go_simp <;> with_reducible rfl)
  try simp only [Act.put, List.setIfInBounds_toArray, List.set_cons_zero, List.set_cons_succ]
  refine take_run (i := 4) (oi := { dst := some 56, op := Go.Op.nilCheck (Go.Operand.tmp 55), type := 0, pos := "ref.go:106", after := #[{ on := 3, ground := Go.Ground.data }], guard := none }) (v := .pointer (some ⟨Q, 0, none⟩)) rfl (by kernel_rfl) (by kernel_rfl) (by kernel_rfl) (fun _ _ _ h => h) (by rfl) ?_ hHeld ?_
  · (intro wq hSw; go_simp <;> with_reducible rfl)
  try simp only [Act.put, List.setIfInBounds_toArray, List.set_cons_zero, List.set_cons_succ]
  refine take_run (i := 5) (oi := { dst := some 57, op := Go.Op.fieldAddr 44 (Go.Operand.tmp 56) 1, type := 0, pos := "ref.go:106", after := #[{ on := 4, ground := Go.Ground.data }], guard := none }) (v := .pointer (some ⟨Q, 1, none⟩)) rfl (by kernel_rfl) (by kernel_rfl) (by kernel_rfl) (fun _ _ _ h => h) (by rfl) ?_ hHeld ?_
  · (intro wq hSw; go_simp <;> with_reducible rfl)
  try simp only [Act.put, List.setIfInBounds_toArray, List.set_cons_zero, List.set_cons_succ]
  refine take_run (i := 6) (oi := { dst := some 58, op := Go.Op.load 39 (Go.Operand.tmp 57), type := 39, pos := "ref.go:106", after := #[{ on := 5, ground := Go.Ground.data }], guard := none }) (v := .slice (some ⟨O, 0, none⟩) 16 cO) rfl (by kernel_rfl) (by kernel_rfl) (by kernel_rfl) (fun _ _ _ h => h) (by rfl) ?_ hHeld ?_
  · (intro wq hSw; obtain ⟨h1, h2, h3, h4, h5, h6, h7⟩ := hSw; go_simp <;> with_reducible rfl)
  try simp only [Act.put, List.setIfInBounds_toArray, List.set_cons_zero, List.set_cons_succ]
  refine take_run (i := 7) (oi := { dst := some 59, op := Go.Op.fieldAddr 46 (Go.Operand.tmp 3) 1, type := 0, pos := "ref.go:106", after := #[], guard := none }) (v := .pointer (some ⟨P, 1, none⟩)) rfl (by kernel_rfl) (by kernel_rfl) (by kernel_rfl) (fun _ _ _ h => h) (by rfl) ?_ hHeld ?_
  · (intro wq hSw; go_simp <;> with_reducible rfl)
  try simp only [Act.put, List.setIfInBounds_toArray, List.set_cons_zero, List.set_cons_succ]
  refine take_run (i := 8) (oi := { dst := some 60, op := Go.Op.load 3 (Go.Operand.tmp 59), type := 3, pos := "ref.go:106", after := #[{ on := 7, ground := Go.Ground.data }], guard := none }) (v := .int .i64 (sn : Int)) rfl (by kernel_rfl) (by kernel_rfl) (by kernel_rfl) (fun _ _ _ h => h) (by rfl) ?_ hHeld ?_
  · (intro wq hSw; obtain ⟨h1, h2, h3, h4, h5, h6, h7⟩ := hSw; go_simp <;> with_reducible rfl)
  try simp only [Act.put, List.setIfInBounds_toArray, List.set_cons_zero, List.set_cons_succ]
  refine take_run (i := 9) (oi := { dst := some 61, op := Go.Op.indexAddr 39 (Go.Operand.tmp 58) (Go.Operand.tmp 60), type := 0, pos := "ref.go:106", after := #[{ on := 6, ground := Go.Ground.data }, { on := 8, ground := Go.Ground.data }], guard := none }) (v := .pointer (some ⟨O, sn, none⟩)) rfl (by kernel_rfl) (by kernel_rfl) (by kernel_rfl) (fun _ _ _ h => h) (by rfl) ?_ hHeld ?_
  · (intro wq hSw; have hs9 : ¬ (16 : Int) ≤ (sn : Int) := (by omega); have hs8 : (sn : Int) < 16 := (by omega); go_simp <;> with_reducible rfl)
  try simp only [Act.put, List.setIfInBounds_toArray, List.set_cons_zero, List.set_cons_succ]
  refine take_run (i := 10) (oi := { dst := some 62, op := Go.Op.load 3 (Go.Operand.tmp 61), type := 3, pos := "ref.go:106", after := #[{ on := 9, ground := Go.Ground.data }], guard := none }) (v := .int .i64 ow) rfl (by kernel_rfl) (by kernel_rfl) (by kernel_rfl) (fun _ _ _ h => h) (by rfl) ?_ hHeld ?_
  · (intro wq hSw; obtain ⟨h1, h2, h3, h4, h5, h6, h7⟩ := hSw; go_simp <;> with_reducible rfl)
  try simp only [Act.put, List.setIfInBounds_toArray, List.set_cons_zero, List.set_cons_succ]
  refine take_run (i := 11) (oi := { dst := some 63, op := Go.Op.fieldAddr 46 (Go.Operand.tmp 3) 2, type := 0, pos := "ref.go:106", after := #[], guard := none }) (v := .pointer (some ⟨P, 2, none⟩)) rfl (by kernel_rfl) (by kernel_rfl) (by kernel_rfl) (fun _ _ _ h => h) (by rfl) ?_ hHeld ?_
  · (intro wq hSw; go_simp <;> with_reducible rfl)
  try simp only [Act.put, List.setIfInBounds_toArray, List.set_cons_zero, List.set_cons_succ]
  refine take_run (i := 12) (oi := { dst := some 64, op := Go.Op.load 3 (Go.Operand.tmp 63), type := 3, pos := "ref.go:106", after := #[{ on := 11, ground := Go.Ground.data }], guard := none }) (v := .int .i64 h) rfl (by kernel_rfl) (by kernel_rfl) (by kernel_rfl) (fun _ _ _ h => h) (by rfl) ?_ hHeld ?_
  · (intro wq hSw; obtain ⟨h1, h2, h3, h4, h5, h6, h7⟩ := hSw; go_simp <;> with_reducible rfl)
  try simp only [Act.put, List.setIfInBounds_toArray, List.set_cons_zero, List.set_cons_succ]
  refine take_run (i := 13) (oi := { dst := some 65, op := Go.Op.move (Go.Operand.tmp 0), type := 27, pos := "ref.go:106", after := #[], guard := none }) (v := .pointer (some ⟨Q, 0, none⟩)) rfl (by kernel_rfl) (by kernel_rfl) (by kernel_rfl) (fun _ _ _ h => h) (by rfl) ?_ hHeld ?_
  · (intro wq hSw; go_simp <;> with_reducible rfl)
  try simp only [Act.put, List.setIfInBounds_toArray, List.set_cons_zero, List.set_cons_succ]
  refine take_run (i := 14) (oi := { dst := some 66, op := Go.Op.nilCheck (Go.Operand.tmp 65), type := 0, pos := "ref.go:106", after := #[{ on := 13, ground := Go.Ground.data }], guard := none }) (v := .pointer (some ⟨Q, 0, none⟩)) rfl (by kernel_rfl) (by kernel_rfl) (by kernel_rfl) (fun _ _ _ h => h) (by rfl) ?_ hHeld ?_
  · (intro wq hSw; go_simp <;> with_reducible rfl)
  try simp only [Act.put, List.setIfInBounds_toArray, List.set_cons_zero, List.set_cons_succ]
  refine take_run (i := 15) (oi := { dst := some 67, op := Go.Op.fieldAddr 44 (Go.Operand.tmp 66) 2, type := 0, pos := "ref.go:106", after := #[{ on := 14, ground := Go.Ground.data }], guard := none }) (v := .pointer (some ⟨Q, 2, none⟩)) rfl (by kernel_rfl) (by kernel_rfl) (by kernel_rfl) (fun _ _ _ h => h) (by rfl) ?_ hHeld ?_
  · (intro wq hSw; go_simp <;> with_reducible rfl)
  try simp only [Act.put, List.setIfInBounds_toArray, List.set_cons_zero, List.set_cons_succ]
  refine take_run (i := 16) (oi := { dst := some 68, op := Go.Op.load 40 (Go.Operand.tmp 67), type := 40, pos := "ref.go:106", after := #[{ on := 15, ground := Go.Ground.data }], guard := none }) (v := .slice (some ⟨E, 0, none⟩) 16 cE) rfl (by kernel_rfl) (by kernel_rfl) (by kernel_rfl) (fun _ _ _ h => h) (by rfl) ?_ hHeld ?_
  · (intro wq hSw; obtain ⟨h1, h2, h3, h4, h5, h6, h7⟩ := hSw; go_simp <;> with_reducible rfl)
  try simp only [Act.put, List.setIfInBounds_toArray, List.set_cons_zero, List.set_cons_succ]
  refine take_run (i := 17) (oi := { dst := some 69, op := Go.Op.fieldAddr 46 (Go.Operand.tmp 3) 1, type := 0, pos := "ref.go:106", after := #[], guard := none }) (v := .pointer (some ⟨P, 1, none⟩)) rfl (by kernel_rfl) (by kernel_rfl) (by kernel_rfl) (fun _ _ _ h => h) (by rfl) ?_ hHeld ?_
  · (intro wq hSw; go_simp <;> with_reducible rfl)
  try simp only [Act.put, List.setIfInBounds_toArray, List.set_cons_zero, List.set_cons_succ]
  refine take_run (i := 18) (oi := { dst := some 70, op := Go.Op.load 3 (Go.Operand.tmp 69), type := 3, pos := "ref.go:106", after := #[{ on := 17, ground := Go.Ground.data }], guard := none }) (v := .int .i64 (sn : Int)) rfl (by kernel_rfl) (by kernel_rfl) (by kernel_rfl) (fun _ _ _ h => h) (by rfl) ?_ hHeld ?_
  · (intro wq hSw; obtain ⟨h1, h2, h3, h4, h5, h6, h7⟩ := hSw; go_simp <;> with_reducible rfl)
  try simp only [Act.put, List.setIfInBounds_toArray, List.set_cons_zero, List.set_cons_succ]
  refine take_run (i := 19) (oi := { dst := some 71, op := Go.Op.indexAddr 40 (Go.Operand.tmp 68) (Go.Operand.tmp 70), type := 0, pos := "ref.go:106", after := #[{ on := 16, ground := Go.Ground.data }, { on := 18, ground := Go.Ground.data }], guard := none }) (v := .pointer (some ⟨E, sn, none⟩)) rfl (by kernel_rfl) (by kernel_rfl) (by kernel_rfl) (fun _ _ _ h => h) (by rfl) ?_ hHeld ?_
  · (intro wq hSw; have hs9 : ¬ (16 : Int) ≤ (sn : Int) := (by omega); have hs8 : (sn : Int) < 16 := (by omega); go_simp <;> with_reducible rfl)
  try simp only [Act.put, List.setIfInBounds_toArray, List.set_cons_zero, List.set_cons_succ]
  refine take_run (i := 20) (oi := { dst := some 72, op := Go.Op.load 2 (Go.Operand.tmp 71), type := 2, pos := "ref.go:106", after := #[{ on := 19, ground := Go.Ground.data }], guard := none }) (v := .int .i64 ep) rfl (by kernel_rfl) (by kernel_rfl) (by kernel_rfl) (fun _ _ _ h => h) (by rfl) ?_ hHeld ?_
  · (intro wq hSw; obtain ⟨h1, h2, h3, h4, h5, h6, h7⟩ := hSw; go_simp <;> with_reducible rfl)
  try simp only [Act.put, List.setIfInBounds_toArray, List.set_cons_zero, List.set_cons_succ]
  refine take_run (i := 21) (oi := { dst := some 73, op := Go.Op.binOp Go.BinOp.add 2 (Go.Operand.tmp 72) (Go.Operand.const (Go.Value.int Go.IntKind.i64 1)) 2, type := 2, pos := "ref.go:106", after := #[{ on := 20, ground := Go.Ground.data }], guard := none }) (v := .int .i64 ep1) rfl (by kernel_rfl) (by kernel_rfl) (by kernel_rfl) (fun _ _ _ h => h) (by rfl) ?_ hHeld ?_
  · (intro wq hSw; go_simp <;> with_reducible rfl)
  try simp only [Act.put, List.setIfInBounds_toArray, List.set_cons_zero, List.set_cons_succ]
  refine take_run (i := 22) (oi := { dst := some 74, op := Go.Op.move (Go.Operand.tmp 0), type := 27, pos := "ref.go:106", after := #[], guard := none }) (v := .pointer (some ⟨Q, 0, none⟩)) rfl (by kernel_rfl) (by kernel_rfl) (by kernel_rfl) (fun _ _ _ h => h) (by rfl) ?_ hHeld ?_
  · (intro wq hSw; go_simp <;> with_reducible rfl)
  try simp only [Act.put, List.setIfInBounds_toArray, List.set_cons_zero, List.set_cons_succ]
  refine take_run (i := 23) (oi := { dst := some 75, op := Go.Op.nilCheck (Go.Operand.tmp 74), type := 0, pos := "ref.go:106", after := #[{ on := 22, ground := Go.Ground.data }], guard := none }) (v := .pointer (some ⟨Q, 0, none⟩)) rfl (by kernel_rfl) (by kernel_rfl) (by kernel_rfl) (fun _ _ _ h => h) (by rfl) ?_ hHeld ?_
  · (intro wq hSw; go_simp <;> with_reducible rfl)
  try simp only [Act.put, List.setIfInBounds_toArray, List.set_cons_zero, List.set_cons_succ]
  refine take_run (i := 24) (oi := { dst := some 76, op := Go.Op.fieldAddr 44 (Go.Operand.tmp 75) 3, type := 0, pos := "ref.go:106", after := #[{ on := 23, ground := Go.Ground.data }], guard := none }) (v := .pointer (some ⟨Q, 3, none⟩)) rfl (by kernel_rfl) (by kernel_rfl) (by kernel_rfl) (fun _ _ _ h => h) (by rfl) ?_ hHeld ?_
  · (intro wq hSw; go_simp <;> with_reducible rfl)
  try simp only [Act.put, List.setIfInBounds_toArray, List.set_cons_zero, List.set_cons_succ]
  refine take_run (i := 25) (oi := { dst := some 77, op := Go.Op.load 2 (Go.Operand.tmp 76), type := 2, pos := "ref.go:106", after := #[{ on := 24, ground := Go.Ground.data }], guard := none }) (v := .int .i64 bg) rfl (by kernel_rfl) (by kernel_rfl) (by kernel_rfl) (fun _ _ _ h => h) (by rfl) ?_ hHeld ?_
  · (intro wq hSw; obtain ⟨h1, h2, h3, h4, h5, h6, h7⟩ := hSw; go_simp <;> with_reducible rfl)
  try simp only [Act.put, List.setIfInBounds_toArray, List.set_cons_zero, List.set_cons_succ]
  refine take_run (i := 26) (oi := { dst := some 78, op := Go.Op.build 42 #[(0, Go.Operand.tmp 54), (1, Go.Operand.tmp 62), (2, Go.Operand.tmp 64), (3, Go.Operand.tmp 73), (4, Go.Operand.const (Go.Value.int Go.IntKind.i64 1)), (5, Go.Operand.tmp 77)], type := 42, pos := "ref.go:106", after := #[{ on := 2, ground := Go.Ground.data }, { on := 10, ground := Go.Ground.data }, { on := 12, ground := Go.Ground.data }, { on := 21, ground := Go.Ground.data }, { on := 25, ground := Go.Ground.data }], guard := none }) (v := .agg #[.int .i64 (sn : Int), .int .i64 ow, .int .i64 h, .int .i64 ep1, .int .i64 1, .int .i64 bg]) rfl (by kernel_rfl) (by kernel_rfl) (by kernel_rfl) (fun _ _ _ h => h) (by rfl) ?_ hHeld ?_
  · (intro wq hSw; go_simp <;> with_reducible rfl)
  try simp only [Act.put, List.setIfInBounds_toArray, List.set_cons_zero, List.set_cons_succ]
  refine take_run (i := 27) (oi := { dst := some 79, op := Go.Op.nilCheck (Go.Operand.tmp 52), type := 0, pos := "ref.go:106", after := #[{ on := 0, ground := Go.Ground.data }, { on := 0, ground := Go.Ground.phase }, { on := 1, ground := Go.Ground.phase }, { on := 2, ground := Go.Ground.phase }, { on := 3, ground := Go.Ground.phase }, { on := 4, ground := Go.Ground.phase }, { on := 5, ground := Go.Ground.phase }, { on := 6, ground := Go.Ground.phase }, { on := 7, ground := Go.Ground.phase }, { on := 8, ground := Go.Ground.phase }, { on := 9, ground := Go.Ground.phase }, { on := 10, ground := Go.Ground.phase }, { on := 11, ground := Go.Ground.phase }, { on := 12, ground := Go.Ground.phase }, { on := 13, ground := Go.Ground.phase }, { on := 14, ground := Go.Ground.phase }, { on := 15, ground := Go.Ground.phase }, { on := 16, ground := Go.Ground.phase }, { on := 17, ground := Go.Ground.phase }, { on := 18, ground := Go.Ground.phase }, { on := 19, ground := Go.Ground.phase }, { on := 20, ground := Go.Ground.phase }, { on := 21, ground := Go.Ground.phase }, { on := 22, ground := Go.Ground.phase }, { on := 23, ground := Go.Ground.phase }, { on := 24, ground := Go.Ground.phase }, { on := 25, ground := Go.Ground.phase }, { on := 26, ground := Go.Ground.phase }], guard := none }) (v := .pointer (some ⟨Q, 0, none⟩)) rfl (by kernel_rfl) (by kernel_rfl) (by kernel_rfl) (fun _ _ _ h => h) (by rfl) ?_ hHeld ?_
  · (intro wq hSw; go_simp <;> with_reducible rfl)
  try simp only [Act.put, List.setIfInBounds_toArray, List.set_cons_zero, List.set_cons_succ]
  refine take_run (i := 28) (oi := { dst := some 80, op := Go.Op.fieldAddr 44 (Go.Operand.tmp 79) 4, type := 0, pos := "ref.go:106", after := #[{ on := 27, ground := Go.Ground.data }, { on := 0, ground := Go.Ground.phase }, { on := 1, ground := Go.Ground.phase }, { on := 2, ground := Go.Ground.phase }, { on := 3, ground := Go.Ground.phase }, { on := 4, ground := Go.Ground.phase }, { on := 5, ground := Go.Ground.phase }, { on := 6, ground := Go.Ground.phase }, { on := 7, ground := Go.Ground.phase }, { on := 8, ground := Go.Ground.phase }, { on := 9, ground := Go.Ground.phase }, { on := 10, ground := Go.Ground.phase }, { on := 11, ground := Go.Ground.phase }, { on := 12, ground := Go.Ground.phase }, { on := 13, ground := Go.Ground.phase }, { on := 14, ground := Go.Ground.phase }, { on := 15, ground := Go.Ground.phase }, { on := 16, ground := Go.Ground.phase }, { on := 17, ground := Go.Ground.phase }, { on := 18, ground := Go.Ground.phase }, { on := 19, ground := Go.Ground.phase }, { on := 20, ground := Go.Ground.phase }, { on := 21, ground := Go.Ground.phase }, { on := 22, ground := Go.Ground.phase }, { on := 23, ground := Go.Ground.phase }, { on := 24, ground := Go.Ground.phase }, { on := 25, ground := Go.Ground.phase }, { on := 26, ground := Go.Ground.phase }], guard := none }) (v := .pointer (some ⟨Q, 4, none⟩)) rfl (by kernel_rfl) (by kernel_rfl) (by kernel_rfl) (fun _ _ _ h => h) (by rfl) ?_ hHeld ?_
  · (intro wq hSw; go_simp <;> with_reducible rfl)
  try simp only [Act.put, List.setIfInBounds_toArray, List.set_cons_zero, List.set_cons_succ]
  refine take_eff (i := 29) (oi := { dst := none, op := Go.Op.store 42 (Go.Operand.tmp 80) (Go.Operand.tmp 78), type := 0, pos := "ref.go:106", after := #[{ on := 28, ground := Go.Ground.data }, { on := 26, ground := Go.Ground.data }, { on := 0, ground := Go.Ground.phase }, { on := 1, ground := Go.Ground.phase }, { on := 2, ground := Go.Ground.phase }, { on := 3, ground := Go.Ground.phase }, { on := 4, ground := Go.Ground.phase }, { on := 5, ground := Go.Ground.phase }, { on := 6, ground := Go.Ground.phase }, { on := 7, ground := Go.Ground.phase }, { on := 8, ground := Go.Ground.phase }, { on := 9, ground := Go.Ground.phase }, { on := 10, ground := Go.Ground.phase }, { on := 11, ground := Go.Ground.phase }, { on := 12, ground := Go.Ground.phase }, { on := 13, ground := Go.Ground.phase }, { on := 14, ground := Go.Ground.phase }, { on := 15, ground := Go.Ground.phase }, { on := 16, ground := Go.Ground.phase }, { on := 17, ground := Go.Ground.phase }, { on := 18, ground := Go.Ground.phase }, { on := 19, ground := Go.Ground.phase }, { on := 20, ground := Go.Ground.phase }, { on := 21, ground := Go.Ground.phase }, { on := 22, ground := Go.Ground.phase }, { on := 23, ground := Go.Ground.phase }, { on := 24, ground := Go.Ground.phase }, { on := 25, ground := Go.Ground.phase }, { on := 26, ground := Go.Ground.phase }], guard := none }) rfl (by kernel_rfl) (by rfl) (by go_simp <;> with_reducible rfl) (SFIN.out _ rfl) ?_
  try simp only [Act.put]
  refine wpAnyH_done (by kernel_rfl) ?_ _
  clear hHeld
  go_wp2
  have dd := (((((((D2.out.set 4 (by omega) (sn : Int)).set 5 (by omega) ow).set 6 (by omega) h).set 7 (by omega) ep1).set 8 (by omega) 1).set 9 (by omega) bg).store (.int .i64 0) (.bool true) (.int .i64 bg)).drewN 1
  exact bodyPost_ret (results_cell_row rfl _ _ (P + 1) 62 _ _ _ rfl dd.z Try.underlying62 rfl (by kernel_rfl)) rfl ⟨rfl, dd.c, dd.o⟩
end
end Go.Proofs.Ytpdgmlljjjeifaa
