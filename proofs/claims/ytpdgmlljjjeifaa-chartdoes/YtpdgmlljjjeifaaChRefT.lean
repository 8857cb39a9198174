/- Package chart's reference: step. Written by gen_rd.py. -/
import Derived.Test.YtpdgmlljjjeifaaChRefS
namespace Go.Proofs.Ytpdgmlljjjeifaa
open Go.RowKit
attribute [local go_sem] Oper.semAt_some
set_option linter.unusedVariables false
section
variable {w w' : World} {base Q O E cO cE : Nat} {L : List Int}
theorem zero_after (hl : L.length = 42) : ((((((L.set 38 4).set 34 0).set 35 0).set 36 0).set 37 0).set 38 0).set 39 0 = (((((L.set 34 0).set 35 0).set 36 0).set 37 0).set 38 0).set 39 0 := by
  refine List.ext_getElem (by simp) fun i h1 h2 => ?_
  simp only [List.getElem_set]
  by_cases e : 38 = i
  · simp [e]
  · simp [e]
set_option maxRecDepth 100000 in
set_option maxHeartbeats 4000000 in
theorem rdo_step (hc : RC w base Q O E cO cE L) (hf : Fine L) (h3 : Ph3 L) (s h n p : Int) : Calls Try.prog 30 #[.pointer (some ⟨Q, 0, none⟩), .agg #[.int .i64 2, .int .i64 s, .int .i64 h, .int .i64 n, .int .i64 p]] w fun e w' => RTold w w' base Q O E cO cE e (stC L n p) := by
  obtain ⟨d0, p1⟩ := pre_ref hc (2) s h n p
  obtain ⟨P, eP⟩ : ∃ P, w.heap.size = P := ⟨_, rfl⟩
  have hlt := hc.lt
  obtain ⟨wA, eA⟩ : ∃ wA, ((w.alloc (.cells #[.int .i64 2, .int .i64 s, .int .i64 h, .int .i64 n, .int .i64 p] 46)).alloc (.cells #[.int .i64 0, .bool false, .int .i64 0] 62)) = wA := ⟨_, rfl⟩
  rw [eA] at d0 p1
  rw [eP] at d0 p1 hlt
  have EA : Hid _ := eA
  have EP : Hid (w.heap.size = P) := eP
  have D : Hid (Rd w wA base Q O E cO cE L (P + 1) #[.int .i64 0, .bool false, .int .i64 0]) := d0
  obtain ⟨lq, lo, le_⟩ := hlt
  have y0 : wA.cell? ⟨P, 0, none⟩ = some (.int .i64 2) := p1.cell 0
  have y3 : wA.cell? ⟨P, 3, none⟩ = some (.int .i64 n) := p1.cell 3
  have y4 : wA.cell? ⟨P, 4, none⟩ = some (.int .i64 p) := p1.cell 4
  have c1 : wA.cell? ⟨Q, 1, none⟩ = some (.slice (some ⟨O, 0, none⟩) 16 cO) := D.out.c.cell 1
  have c2 : wA.cell? ⟨Q, 2, none⟩ = some (.slice (some ⟨E, 0, none⟩) 16 cE) := D.out.c.cell 2
  have c4 : wA.cell? ⟨Q, 4, none⟩ = some (.int .i64 (at_ L 34)) := D.out.c.cell 4
  have fq4 := D.out.c.fz 4
  have c5 : wA.cell? ⟨Q, 5, none⟩ = some (.int .i64 (at_ L 35)) := D.out.c.cell 5
  have fq5 := D.out.c.fz 5
  have c6 : wA.cell? ⟨Q, 6, none⟩ = some (.int .i64 (at_ L 36)) := D.out.c.cell 6
  have fq6 := D.out.c.fz 6
  have c7 : wA.cell? ⟨Q, 7, none⟩ = some (.int .i64 (at_ L 37)) := D.out.c.cell 7
  have fq7 := D.out.c.fz 7
  have c8 : wA.cell? ⟨Q, 8, none⟩ = some (.int .i64 (at_ L 38)) := D.out.c.cell 8
  have fq8 := D.out.c.fz 8
  have c9 : wA.cell? ⟨Q, 9, none⟩ = some (.int .i64 (at_ L 39)) := D.out.c.cell 9
  have fq9 := D.out.c.fz 9
  have z0 : wA.cell? ⟨P + 1, 0, none⟩ = some (.int .i64 0) := D.out.z.cell 0
  have z1 : wA.cell? ⟨P + 1, 1, none⟩ = some (.bool false) := D.out.z.cell 1
  have z2 : wA.cell? ⟨P + 1, 2, none⟩ = some (.int .i64 0) := D.out.z.cell 2
  have g0 := D.out.z.fz 0
  have g1 := D.out.z.fz 1
  have g2 := D.out.z.fz 2
  have HF : Hid (Fine L) := hf
  have HL : Hid (L.length = 42) := hc.len
  clear eA eP d0 p1 hf
  have HS := HF.out.sl
  have H3 := h3
  unfold Ph3 at H3
  unfold stC
  clear h3
  obtain ⟨ms, e34⟩ : ∃ x, at_ L 34 = x := ⟨_, rfl⟩
  obtain ⟨mt, e36⟩ : ∃ x, at_ L 36 = x := ⟨_, rfl⟩
  obtain ⟨me, e37⟩ : ∃ x, at_ L 37 = x := ⟨_, rfl⟩
  obtain ⟨mp, e38⟩ : ∃ x, at_ L 38 = x := ⟨_, rfl⟩
  obtain ⟨mn, e39⟩ : ∃ x, at_ L 39 = x := ⟨_, rfl⟩
  rw [e34] at c4 HS
  rw [e36] at c6
  rw [e37] at c7
  rw [e38] at c8 HS H3
  rw [e39] at c9
  rw [e34, e36, e37, e38, e39]
  have E38 : Hid (at_ L 38 = mp) := e38
  have E34 : Hid (at_ L 34 = ms) := e34
  have E37 : Hid (at_ L 37 = me) := e37
  clear e34 e36 e37 e38 e39
  generalize at_ L 35 = mf at *
  by_cases h0 : mp = 0
  · subst h0
    clear HS H3 hc
    rw [if_pos (.inl rfl)]
    go_enter Try.func30, Try.ntmps30
    go_wp2
    rw [EA.out, EP.out]
    go_quiet (fail)
    go_wp2
    have dd := (D.out.drewN nq).store (.int .i64 5) (.bool false) (.int .i64 0)
    exact bodyPost_ret (results_cell_row rfl _ _ (P + 1) 62 _ _ _ rfl dd.z Try.underlying62 rfl (by kernel_rfl)) rfl ⟨rfl, dd.c, dd.o⟩
  have h0' : ((mp : Int) == 0) = false := by simpa using h0
  by_cases h2 : mn = n
  case neg =>
    clear HS H3 hc
    have h2' : ((mn : Int) != n) = true := by simpa using h2
    rw [if_pos (.inr (.inr h2))]
    go_enter Try.func30, Try.ntmps30
    go_wp2
    rw [EA.out, EP.out]
    go_quiet (fail)
    go_wp2
    have dd := (D.out.drewN nq).store (.int .i64 5) (.bool false) (.int .i64 0)
    exact bodyPost_ret (results_cell_row rfl _ _ (P + 1) 62 _ _ _ rfl dd.z Try.underlying62 rfl (by kernel_rfl)) rfl ⟨rfl, dd.c, dd.o⟩
  subst h2
  by_cases h1 : mp = p
  case neg =>
    clear HS H3 hc
    have h1' : ((mp : Int) != p) = true := by simpa using h1
    rw [if_pos (.inr (.inl h1))]
    go_enter Try.func30, Try.ntmps30
    go_wp2
    rw [EA.out, EP.out]
    go_quiet (fail)
    go_wp2
    have dd := (D.out.drewN nq).store (.int .i64 5) (.bool false) (.int .i64 0)
    exact bodyPost_ret (results_cell_row rfl _ _ (P + 1) 62 _ _ _ rfl dd.z Try.underlying62 rfl (by kernel_rfl)) rfl ⟨rfl, dd.c, dd.o⟩
  subst h1
  rw [if_neg (fun x => x.elim h0 fun x => x.elim (fun y => y rfl) fun y => y rfl)]
  by_cases k1 : mp = 1
  · subst k1
    rw [if_pos rfl]
    clear HS H3 hc h0 h0'
    go_enter Try.func30, Try.ntmps30
    go_wp2
    rw [EA.out, EP.out]
    go_quiet (fail)
    go_wp2
    have dd := ((D.out.drewN nq).set 8 (by omega) 2).store (.int .i64 0) (.bool false) (.int .i64 mn)
    exact bodyPost_ret (results_cell_row rfl _ _ (P + 1) 62 _ _ _ rfl dd.z Try.underlying62 rfl (by kernel_rfl)) rfl ⟨rfl, dd.c, dd.o⟩
  rw [if_neg k1]
  by_cases k2 : mp = 2
  · subst k2
    rw [if_pos rfl]
    obtain ⟨sn, rfl⟩ : ∃ sn : Nat, ms = (sn : Int) := ⟨ms.toNat, by have := HS rfl; omega⟩
    have hsn : sn < 16 := by have := HS rfl; omega
    have s1 := (D.out.c.co sn hsn).1
    have s2 := (D.out.c.co sn hsn).2
    have s3 := (D.out.c.ce sn hsn).1
    have s4 := (D.out.c.ce sn hsn).2
    have nQO := D.out.c.nQO
    have nQE := D.out.c.nQE
    have nOE := D.out.c.nOE
    have nO := hc.hO
    have nE := hc.hE
    generalize at_ L (1 + sn * 2) = so at *
    generalize at_ L (2 + sn * 2) = se at *
    clear HS H3 hc h0 h0' k1
    rw [Int.toNat_natCast]
    go_enter Try.func30, Try.ntmps30
    go_wp2
    rw [EA.out, EP.out]
    go_quiet (fail)
    go_wp2
    go_region
    have D2 : Hid (Rd w ((wA.drewN (nq + 1)).setCell ⟨O, sn, none⟩ (.int .i64 mt)) base Q O E cO cE (L.set (1 + sn * 2) mt) (P + 1) #[.int .i64 0, .bool false, .int .i64 0]) := (D.out.drewN (nq + 1)).setO sn hsn mt
    clear c1 c2 c4 c5 c6 c7 c8 c9 fq4 fq5 fq6 fq7 fq8 fq9 s1 s2 s3 s4 z0 z1 z2 g0 g1 g2 y0 y3 y4
    have c2 : ((wA.drewN (nq + 1)).setCell ⟨O, sn, none⟩ (.int .i64 mt)).cell? ⟨Q, 2, none⟩ = some (.slice (some ⟨E, 0, none⟩) 16 cE) := D2.out.c.cell 2
    have c4 : ((wA.drewN (nq + 1)).setCell ⟨O, sn, none⟩ (.int .i64 mt)).cell? ⟨Q, 4, none⟩ = some (.int .i64 (sn : Int)) := (D2.out.c.cell 4).trans (by show some (Value.int .i64 (at_ (L.set (1 + sn * 2) mt) 34)) = _; rw [at_set_ne (by omega), E34.out])
    have c7 : ((wA.drewN (nq + 1)).setCell ⟨O, sn, none⟩ (.int .i64 mt)).cell? ⟨Q, 7, none⟩ = some (.int .i64 me) := (D2.out.c.cell 7).trans (by show some (Value.int .i64 (at_ (L.set (1 + sn * 2) mt) 37)) = _; rw [at_set_ne (by omega), E37.out])
    have c8 : ((wA.drewN (nq + 1)).setCell ⟨O, sn, none⟩ (.int .i64 mt)).cell? ⟨Q, 8, none⟩ = some (.int .i64 2) := (D2.out.c.cell 8).trans (by show some (Value.int .i64 (at_ (L.set (1 + sn * 2) mt) 38)) = _; rw [at_set_ne (by omega), E38.out])
    have fq8 := D2.out.c.fz 8
    have s3 := (D2.out.c.ce sn hsn).1
    have s4 := (D2.out.c.ce sn hsn).2
    generalize at_ (L.set (1 + sn * 2) mt) (2 + sn * 2) = se2 at *
    have z0 : ((wA.drewN (nq + 1)).setCell ⟨O, sn, none⟩ (.int .i64 mt)).cell? ⟨P + 1, 0, none⟩ = some (.int .i64 0) := D2.out.z.cell 0
    have z1 : ((wA.drewN (nq + 1)).setCell ⟨O, sn, none⟩ (.int .i64 mt)).cell? ⟨P + 1, 1, none⟩ = some (.bool false) := D2.out.z.cell 1
    have z2 : ((wA.drewN (nq + 1)).setCell ⟨O, sn, none⟩ (.int .i64 mt)).cell? ⟨P + 1, 2, none⟩ = some (.int .i64 0) := D2.out.z.cell 2
    have g0 := D2.out.z.fz 0
    have g1 := D2.out.z.fz 1
    have g2 := D2.out.z.fz 2
    generalize (wA.drewN (nq + 1)).setCell ⟨O, sn, none⟩ (.int .i64 mt) = w2 at *
    clear D
    go_wp2
    go_region
    go_wp2
    have dd := (((D2.out.setE sn hsn me).set 8 (by omega) 3).store (.int .i64 0) (.bool false) (.int .i64 mn)).drewN 1
    exact bodyPost_ret (results_cell_row rfl _ _ (P + 1) 62 _ _ _ rfl dd.z Try.underlying62 rfl (by kernel_rfl)) rfl ⟨rfl, dd.c, dd.o⟩
  rw [if_neg k2]
  obtain rfl : mp = 3 := by omega
  rw [if_pos rfl]
  clear HS H3 hc h0 h0' k1 k2
  go_enter Try.func30, Try.ntmps30
  go_wp2
  rw [EA.out, EP.out]
  go_quiet (fail)
  go_wp2
  have dd := (((((((D.out.drewN nq).set 8 (by omega) 4).set 4 (by omega) 0).set 5 (by omega) 0).set 6 (by omega) 0).set 7 (by omega) 0).set 8 (by omega) 0 |>.set 9 (by omega) 0).store (.int .i64 0) (.bool false) (.int .i64 mn)
  exact bodyPost_ret (results_cell_row rfl _ _ (P + 1) 62 _ _ _ rfl dd.z Try.underlying62 rfl (by kernel_rfl)) rfl ⟨rfl, by have := dd.c; have h9 : RC _ base Q O E cO cE (((((((L.set 38 4).set 34 0).set 35 0).set 36 0).set 37 0).set 38 0).set 39 0) := this; rw [zero_after HL.out] at h9; exact h9, dd.o⟩
end
end Go.Proofs.Ytpdgmlljjjeifaa
