/- Package chart: a move begins. Written by gen_mv.py. -/
import Derived.Test.YtpdgmlljjjeifaaChDeeds
import Derived.Deep.RegionLaw
namespace Go.Proofs.Ytpdgmlljjjeifaa
open Go.RowKit
attribute [local go_sem] Oper.semAt_some
set_option linter.unusedVariables false
section
variable {w w' : World} {base R : Nat} {L : List Int}
/-- An effect: the one operation that may come up. -/
theorem take_eff {P : Program} {ops : Array Oper} {Q : Exit → Act → World → Prop} {md : Region.Mode} {S : World → Prop} {i : Nat} {oi : Oper} {fuel : Nat} {listed : Array Bool} {a : Act} {w w' : World} (hi : ops[i]? = some oi) (hr : Region.ready md ops listed = [i]) (hw : Region.wanted oi (yielded ops a.tmps) = true)
    (hx : (execOp a.eval oi).run P w = .ok .skip w') (hS : S w') (h : wpAnyH P md ops Q S fuel (listed.setIfInBounds i true) (a.put oi.dst undef) w') : wpAnyH P md ops Q S (fuel + 1) listed a w := by
  refine wpAnyH_all (rs := [i]) hr (by simp) (fun j hj => ?_)
  obtain rfl : j = i := by simpa using hj
  unfold wpOp
  simp only [hi, hw, if_true, Oper.wp, hx]
  rw [Oper.upon_skip]
  exact .inl ⟨hS, h⟩
theorem own_set33 (L : List Int) (s v : Int) : own_ (L.set 33 v) s = own_ L s := by
  unfold own_
  split
  · exact at_set_ne (by omega) v
  · rfl
theorem epo_set33 (L : List Int) (s v : Int) : epo_ (L.set 33 v) s = epo_ L s := by
  unfold epo_
  split
  · exact at_set_ne (by omega) v
  · rfl
set_option maxRecDepth 100000 in
set_option maxHeartbeats 1600000 in
theorem beginMove_any (hc : CIn w base R L) (hf : Fine L) (k s h n p : Int) : Calls Try.prog 45 #[.pointer (some ⟨R, 0, none⟩), .agg #[.int .i64 k, .int .i64 s, .int .i64 h, .int .i64 n, .int .i64 p]] w fun e w' => DTold w w' base R e (mvC L s h) := by
  obtain ⟨d0, p1⟩ := pre_deed hc k s h n p
  obtain ⟨P, eP⟩ : ∃ P, w.heap.size = P := ⟨_, rfl⟩
  have hlt := hc.lt
  obtain ⟨wA, eA⟩ : ∃ wA, ((w.alloc (.cells #[.int .i64 k, .int .i64 s, .int .i64 h, .int .i64 n, .int .i64 p] 38)).alloc (.cells #[.int .i64 0, .bool false, .int .i64 0] 35)) = wA := ⟨_, rfl⟩
  rw [eA] at d0 p1
  rw [eP] at d0 p1 hlt
  have EA : Hid _ := eA
  have EP : Hid (w.heap.size = P) := eP
  have D : Hid (Dd w wA base R L (P + 1) #[.int .i64 0, .bool false, .int .i64 0]) := d0
  have PP : Hid (Blk wA P #[.int .i64 k, .int .i64 s, .int .i64 h, .int .i64 n, .int .i64 p] 38) := p1
  have y1 : wA.cell? ⟨P, 1, none⟩ = some (.int .i64 s) := p1.cell 1
  have y2 : wA.cell? ⟨P, 2, none⟩ = some (.int .i64 h) := p1.cell 2
  clear eA eP d0 p1
  have z0 : wA.cell? ⟨P + 1, 0, none⟩ = some (.int .i64 0) := D.out.q.cell 0
  have z1 : wA.cell? ⟨P + 1, 1, none⟩ = some (.bool false) := D.out.q.cell 1
  have z2 : wA.cell? ⟨P + 1, 2, none⟩ = some (.int .i64 0) := D.out.q.cell 2
  have g0 := D.out.q.fz 0
  have g1 := D.out.q.fz 1
  have g2 := D.out.q.fz 2
  have ltQ := D.out.q.lt
  have ltR := D.out.c.lt
  have HF : Hid (Fine L) := hf
  have HS := fun W => isSlot_any s W
  have HH := isShard_any D.out.c h
  have HM := may_any D.out.c
  clear hc hf
  unfold mvC
  by_cases h1 : 0 ≤ s ∧ s < 16
  case neg =>
    rw [if_pos (fun x => h1 x.1)]
    rw [decide_eq_false h1] at HS
    clear h1 HH HM
    go_enter Try.func45, Try.ntmps45
    go_wp2_with fail
    rw [EA.out, EP.out]
    refine (HS _).mono ?_
    rintro e w2 ⟨rfl, rfl⟩
    go_wp2
    have dd := D.out.store (.int .i64 1) (.bool false) (.int .i64 0)
    exact bodyPost_ret (results_cell_row rfl _ _ (P + 1) 35 _ _ _ rfl dd.q Try.underlying35 rfl (by kernel_rfl)) rfl ⟨rfl, dd.c, dd.o⟩
  by_cases h2 : 1 ≤ h ∧ h ≤ at_ L 0
  case neg =>
    rw [if_pos (fun x => h2 x.2)]
    rw [decide_eq_true h1] at HS
    rw [decide_eq_false h2] at HH
    clear h1 h2 HM
    go_enter Try.func45, Try.ntmps45
    go_wp2_with fail
    rw [EA.out, EP.out]
    refine (HS _).mono ?_
    rintro e w2 ⟨rfl, rfl⟩
    go_wp2_with fail
    refine HH.mono ?_
    rintro e w2 ⟨rfl, rfl⟩
    go_wp2
    have dd := D.out.store (.int .i64 1) (.bool false) (.int .i64 0)
    exact bodyPost_ret (results_cell_row rfl _ _ (P + 1) 35 _ _ _ rfl dd.q Try.underlying35 rfl (by kernel_rfl)) rfl ⟨rfl, dd.c, dd.o⟩
  rw [if_neg (fun x => x ⟨h1, h2⟩)]
  rw [decide_eq_true h1] at HS
  rw [decide_eq_true h2] at HH
  clear h1 h2
  by_cases h3 : may_ L = false
  · rw [if_pos h3]
    rw [h3] at HM
    clear h3
    go_enter Try.func45, Try.ntmps45
    go_wp2_with fail
    rw [EA.out, EP.out]
    refine (HS _).mono ?_
    rintro e w2 ⟨rfl, rfl⟩
    go_wp2_with fail
    refine HH.mono ?_
    rintro e w2 ⟨rfl, rfl⟩
    go_wp2_with fail
    refine HM.mono ?_
    rintro e w2 ⟨rfl, rfl⟩
    go_wp2
    have dd := D.out.store (.int .i64 50) (.bool false) (.int .i64 0)
    exact bodyPost_ret (results_cell_row rfl _ _ (P + 1) 35 _ _ _ rfl dd.q Try.underlying35 rfl (by kernel_rfl)) rfl ⟨rfl, dd.c, dd.o⟩
  rw [if_neg h3]
  have h3' : may_ L = true := by simpa using h3
  rw [h3'] at HM
  have HO : Hid (∀ W, Below wA.heap.size wA W → Calls Try.prog 21 #[.pointer (some ⟨R, 0, none⟩), .int .i64 s] W fun e w' => e = .returned (.int .i64 (own_ L s)) ∧ Below wA.heap.size wA w') := fun W hb => (owner_any (D.out.c.below hb) s).mono fun e w' ⟨he, hb'⟩ => ⟨he, hb.trans (hb'.mono hb.size)⟩
  have MK : Hid (∀ W, Below wA.heap.size wA W → (Below wA.heap.size wA W ∧ W.cell? ⟨P, 1, none⟩ = some (.int .i64 s) ∧ W.cell? ⟨P, 2, none⟩ = some (.int .i64 h))) := fun W hb => ⟨hb, (PP.out.below hb).cell 1, (PP.out.below hb).cell 2⟩
  have b0 := Below.refl wA.heap.size wA
  by_cases h4 : own_ L s = h
  · rw [if_pos h4]
    rw [h4] at HO
    clear h3 h3' h4
    go_enter Try.func45, Try.ntmps45
    go_wp2_with fail
    rw [EA.out, EP.out]
    refine (HS _).mono ?_
    rintro e w2 ⟨rfl, rfl⟩
    go_wp2_with fail
    refine HH.mono ?_
    rintro e w2 ⟨rfl, rfl⟩
    go_wp2_with fail
    refine HM.mono ?_
    rintro e w2 ⟨rfl, rfl⟩
    clear HS HH HM
    go_wp2_with fail
    go_region_held3 (fun w' => Below w2.heap.size w2 w' ∧ w'.cell? ⟨P, 1, none⟩ = some (.int .i64 s) ∧ w'.cell? ⟨P, 2, none⟩ = some (.int .i64 h))
      (first | assumption | exact MK.out _ (by assumption) | exact MK.out _ (Below.drew (by assumption)))
      (first
        | (go_at_call 21; refine (HO.out _ (by first | assumption | exact Below.drew (by assumption))).mono ?_; rintro e w3 ⟨rfl, b3⟩))
    have D3 : Hid (Dd w w3 base R L (P + 1) #[.int .i64 0, .bool false, .int .i64 0]) := D.out.below b3
    clear z0 z1 z2 g0 g1 g2 ltQ ltR
    have z0 : w3.cell? ⟨P + 1, 0, none⟩ = some (.int .i64 0) := D3.out.q.cell 0
    have z1 : w3.cell? ⟨P + 1, 1, none⟩ = some (.bool false) := D3.out.q.cell 1
    have z2 : w3.cell? ⟨P + 1, 2, none⟩ = some (.int .i64 0) := D3.out.q.cell 2
    have g0 := D3.out.q.fz 0
    have g1 := D3.out.q.fz 1
    have g2 := D3.out.q.fz 2
    have ltQ := D3.out.q.lt
    have ltR := D3.out.c.lt
    clear b3 b0
    go_wp2
    have dd := D3.out.store (.int .i64 0) (.bool false) (.int .i64 0)
    exact bodyPost_ret (results_cell_row rfl _ _ (P + 1) 35 _ _ _ rfl dd.q Try.underlying35 rfl (by kernel_rfl)) rfl ⟨rfl, dd.c, dd.o⟩
  rw [if_neg h4]
  have h4' : (own_ L s == h) = false := by simpa using h4
  have HB : Hid (∀ W, Below wA.heap.size wA W → Calls Try.prog 58 #[.pointer (some ⟨R, 0, none⟩)] W fun e w' => e = .returned (.agg #[.int .i64 0, .bool true, .int .i64 (at_ L 33 + 1)]) ∧ CIn w' base R (L.set 33 (at_ L 33 + 1)) ∧ OnlyR W w' R) := fun W hb => begins_any (D.out.c.below hb) ⟨HF.out.bg.1, by unfold may_ at h3'; simp only [decide_eq_true_eq] at h3'; exact h3'.2.2⟩
  obtain ⟨bg, eb⟩ : ∃ bg, at_ L 33 + 1 = bg := ⟨_, rfl⟩
  rw [eb] at HB ⊢
  have HE0 : Hid (∀ W base, CIn W base R (L.set 33 bg) → Calls Try.prog 21 #[.pointer (some ⟨R, 0, none⟩), .int .i64 s] W fun e w' => e = .returned (.int .i64 (own_ L s)) ∧ Below W.heap.size W w') := fun W base hC => by have := owner_any hC s; rwa [own_set33] at this
  have HE1 : Hid (∀ W base, CIn W base R (L.set 33 bg) → Calls Try.prog 22 #[.pointer (some ⟨R, 0, none⟩), .int .i64 s] W fun e w' => e = .returned (.int .i64 (epo_ L s)) ∧ Below W.heap.size W w') := fun W base hC => by have := epoch_any hC s; rwa [epo_set33] at this
  have qe : wrap64 (epo_ L s + 1) = epo_ L s + 1 := by have := HF.out.ep s; unfold wrap64; omega
  clear h3 h3' eb
  generalize own_ L s = ow at *
  generalize epo_ L s = ep at *
  obtain ⟨ep1, ee⟩ : ∃ x, ep + 1 = x := ⟨_, rfl⟩
  have qe' : wrap64 (ep + 1) = ep1 := qe.trans ee
  rw [ee]
  clear qe ee
  go_enter Try.func45, Try.ntmps45
  go_wp2_with fail
  rw [EA.out, EP.out]
  refine (HS _).mono ?_
  rintro e w2 ⟨rfl, rfl⟩
  go_wp2_with fail
  refine HH.mono ?_
  rintro e w2 ⟨rfl, rfl⟩
  go_wp2_with fail
  refine HM.mono ?_
  rintro e w2 ⟨rfl, rfl⟩
  clear HS HH HM
  go_wp2_with fail
  go_region_held3 (fun w' => Below w2.heap.size w2 w' ∧ w'.cell? ⟨P, 1, none⟩ = some (.int .i64 s) ∧ w'.cell? ⟨P, 2, none⟩ = some (.int .i64 h))
    (first | assumption | exact MK.out _ (by assumption) | exact MK.out _ (Below.drew (by assumption)))
    (first
      | (go_at_call 21; refine (HO.out _ (by first | assumption | exact Below.drew (by assumption))).mono ?_; rintro e w3 ⟨rfl, b3⟩))
  have D3 := D.out.below b3
  have P3 : Blk w3 P #[.int .i64 k, .int .i64 s, .int .i64 h, .int .i64 n, .int .i64 p] 38 := PP.out.below b3
  have hPR : P ≠ R := by omega
  have HB3 := HB.out _ b3
  have DD3 : Hid (Dd w w3 base R L (P + 1) #[.int .i64 0, .bool false, .int .i64 0]) := D3
  have PP3 : Hid (Blk w3 P #[.int .i64 k, .int .i64 s, .int .i64 h, .int .i64 n, .int .i64 p] 38) := P3
  clear z0 z1 z2 g0 g1 g2 ltQ ltR y1 y2 b3 b0 D3 P3 HB HO MK D PP
  go_wp2_with fail
  refine HB3.mono ?_
  clear HB3
  rintro e w4 ⟨rfl, c4, o4⟩
  have dB := (DD3.out.only c4 o4).alloc (.cells #[.int .i64 0, .bool true, .int .i64 bg] 35)
  have pB := (PP3.out.only o4 hPR).alloc (.cells #[.int .i64 0, .bool true, .int .i64 bg] 35)
  have sB := Blk.new w4 #[.int .i64 0, .bool true, .int .i64 bg] 35
  have nS : P + 1 < w4.heap.size := (DD3.out.only c4 o4).q.lt
  clear c4 o4
  obtain ⟨wB, eB⟩ : ∃ wB, w4.alloc (.cells #[.int .i64 0, .bool true, .int .i64 bg] 35) = wB := ⟨_, rfl⟩
  obtain ⟨S, eS⟩ : ∃ S, w4.heap.size = S := ⟨_, rfl⟩
  rw [eB] at dB pB sB
  rw [eS] at sB nS
  have EB : Hid _ := eB
  have ES : Hid (w4.heap.size = S) := eS
  have DB : Hid (Dd w wB base R (L.set 33 bg) (P + 1) #[.int .i64 0, .bool false, .int .i64 0]) := dB
  have y1 : wB.cell? ⟨P, 1, none⟩ = some (.int .i64 s) := pB.cell 1
  have y2 : wB.cell? ⟨P, 2, none⟩ = some (.int .i64 h) := pB.cell 2
  have x2 : wB.cell? ⟨S, 2, none⟩ = some (.int .i64 bg) := sB.cell 2
  have MK : Hid (∀ W, Below wB.heap.size wB W → (W.cell? ⟨P, 1, none⟩ = some (.int .i64 s) ∧ W.cell? ⟨P, 2, none⟩ = some (.int .i64 h) ∧ W.cell? ⟨S, 2, none⟩ = some (.int .i64 bg) ∧ (∃ v34 v35 v36 v37 v38 v39, W.cell? ⟨R, 34, none⟩ = some (.int .i64 v34) ∧ W.cell? ⟨R, 35, none⟩ = some (.int .i64 v35) ∧ W.cell? ⟨R, 36, none⟩ = some (.int .i64 v36) ∧ W.cell? ⟨R, 37, none⟩ = some (.int .i64 v37) ∧ W.cell? ⟨R, 38, none⟩ = some (.int .i64 v38) ∧ W.cell? ⟨R, 39, none⟩ = some (.int .i64 v39)) ∧ (∀ i, W.frozen? ⟨R, i, none⟩ = false))) := fun W hb => ⟨(pB.below hb).cell 1, (pB.below hb).cell 2, (sB.below hb).cell 2, ⟨_, _, _, _, _, _, (dB.below hb).c.cell 34 (by omega), (dB.below hb).c.cell 35 (by omega), (dB.below hb).c.cell 36 (by omega), (dB.below hb).c.cell 37 (by omega), (dB.below hb).c.cell 38 (by omega), (dB.below hb).c.cell 39 (by omega)⟩, (dB.below hb).c.fz⟩
  have MKS : Hid (∀ W, Below wB.heap.size wB W → (W.cell? ⟨P, 1, none⟩ = some (.int .i64 s) ∧ W.cell? ⟨P, 2, none⟩ = some (.int .i64 h) ∧ W.cell? ⟨S, 2, none⟩ = some (.int .i64 bg))) := fun W hb => ⟨(pB.below hb).cell 1, (pB.below hb).cell 2, (sB.below hb).cell 2⟩
  have H0 : Hid (∀ W, Below wB.heap.size wB W → Calls Try.prog 21 #[.pointer (some ⟨R, 0, none⟩), .int .i64 s] W fun e w' => e = .returned (.int .i64 ow) ∧ Below wB.heap.size wB w') := fun W hb => (HE0.out W base (dB.below hb).c).mono fun e w' ⟨he, hb'⟩ => ⟨he, hb.trans (hb'.mono hb.size)⟩
  have H1 : Hid (∀ W, Below wB.heap.size wB W → Calls Try.prog 22 #[.pointer (some ⟨R, 0, none⟩), .int .i64 s] W fun e w' => e = .returned (.int .i64 ep) ∧ Below wB.heap.size wB w') := fun W hb => (HE1.out W base (dB.below hb).c).mono fun e w' ⟨he, hb'⟩ => ⟨he, hb.trans (hb'.mono hb.size)⟩
  have PB : Hid (Blk wB P #[.int .i64 k, .int .i64 s, .int .i64 h, .int .i64 n, .int .i64 p] 38) := pB
  have SB : Hid (Blk wB S #[.int .i64 0, .bool true, .int .i64 bg] 35) := sB
  have b0 := Below.refl wB.heap.size wB
  have nR : S ≠ R := by omega
  clear dB pB sB eB eS HE0 HE1 DD3 PP3
  go_wp2_with fail
  rw [EB.out, ES.out]
  refine wp_region_held_drew (S := fun W => Blk W P #[.int .i64 k, .int .i64 s, .int .i64 h, .int .i64 n, .int .i64 p] 38 ∧ Blk W S #[.int .i64 0, .bool true, .int .i64 bg] 35) (by kernel_rfl) ⟨PB.out, SB.out⟩ (fun hHeld => ?_)
  refine take_run (i := 0) (oi := { dst := some 35, op := Go.Op.move (Go.Operand.tmp 0), type := 23, pos := "chart.go:150", after := #[], guard := none }) (v := .pointer (some ⟨R, 0, none⟩)) rfl (by kernel_rfl) (by kernel_rfl) (by kernel_rfl) (fun _ _ _ h => h) (by rfl) ?_ hHeld ?_
  · (intro wq hSw; go_simp <;> with_reducible rfl)
  try simp only [Act.put, List.setIfInBounds_toArray, List.set_cons_zero, List.set_cons_succ]
  refine take_run (i := 1) (oi := { dst := some 36, op := Go.Op.fieldAddr 38 (Go.Operand.tmp 3) 1, type := 0, pos := "chart.go:150", after := #[], guard := none }) (v := .pointer (some ⟨P, 1, none⟩)) rfl (by kernel_rfl) (by kernel_rfl) (by kernel_rfl) (fun _ _ _ h => h) (by rfl) ?_ hHeld ?_
  · (intro wq hSw; go_simp <;> with_reducible rfl)
  try simp only [Act.put, List.setIfInBounds_toArray, List.set_cons_zero, List.set_cons_succ]
  refine take_run (i := 2) (oi := { dst := some 37, op := Go.Op.load 3 (Go.Operand.tmp 36), type := 3, pos := "chart.go:150", after := #[{ on := 1, ground := Go.Ground.data }], guard := none }) (v := .int .i64 s) rfl (by kernel_rfl) (by kernel_rfl) (by kernel_rfl) (fun _ _ _ h => h) (by rfl) ?_ hHeld ?_
  · (intro wq hSw; have yy := hSw.1.cell 1; have yz := hSw.1.cell 2; have yw := hSw.2.cell 2; simp only [List.getElem?_toArray, List.getElem?_cons_zero, List.getElem?_cons_succ] at yy yz yw; go_simp <;> with_reducible rfl)
  try simp only [Act.put, List.setIfInBounds_toArray, List.set_cons_zero, List.set_cons_succ]
  refine take_run (i := 3) (oi := { dst := some 38, op := Go.Op.move (Go.Operand.tmp 0), type := 23, pos := "chart.go:150", after := #[], guard := none }) (v := .pointer (some ⟨R, 0, none⟩)) rfl (by kernel_rfl) (by kernel_rfl) (by kernel_rfl) (fun _ _ _ h => h) (by rfl) ?_ hHeld ?_
  · (intro wq hSw; go_simp <;> with_reducible rfl)
  try simp only [Act.put, List.setIfInBounds_toArray, List.set_cons_zero, List.set_cons_succ]
  refine take_run (i := 4) (oi := { dst := some 39, op := Go.Op.fieldAddr 38 (Go.Operand.tmp 3) 1, type := 0, pos := "chart.go:150", after := #[], guard := none }) (v := .pointer (some ⟨P, 1, none⟩)) rfl (by kernel_rfl) (by kernel_rfl) (by kernel_rfl) (fun _ _ _ h => h) (by rfl) ?_ hHeld ?_
  · (intro wq hSw; go_simp <;> with_reducible rfl)
  try simp only [Act.put, List.setIfInBounds_toArray, List.set_cons_zero, List.set_cons_succ]
  refine take_run (i := 5) (oi := { dst := some 40, op := Go.Op.load 3 (Go.Operand.tmp 39), type := 3, pos := "chart.go:150", after := #[{ on := 4, ground := Go.Ground.data }], guard := none }) (v := .int .i64 s) rfl (by kernel_rfl) (by kernel_rfl) (by kernel_rfl) (fun _ _ _ h => h) (by rfl) ?_ hHeld ?_
  · (intro wq hSw; have yy := hSw.1.cell 1; have yz := hSw.1.cell 2; have yw := hSw.2.cell 2; simp only [List.getElem?_toArray, List.getElem?_cons_zero, List.getElem?_cons_succ] at yy yz yw; go_simp <;> with_reducible rfl)
  try simp only [Act.put, List.setIfInBounds_toArray, List.set_cons_zero, List.set_cons_succ]
  refine take_run (i := 7) (oi := { dst := some 42, op := Go.Op.fieldAddr 38 (Go.Operand.tmp 3) 2, type := 0, pos := "chart.go:150", after := #[], guard := none }) (v := .pointer (some ⟨P, 2, none⟩)) rfl (by kernel_rfl) (by kernel_rfl) (by kernel_rfl) (fun _ _ _ h => h) (by rfl) ?_ hHeld ?_
  · (intro wq hSw; go_simp <;> with_reducible rfl)
  try simp only [Act.put, List.setIfInBounds_toArray, List.set_cons_zero, List.set_cons_succ]
  refine take_run (i := 8) (oi := { dst := some 43, op := Go.Op.load 3 (Go.Operand.tmp 42), type := 3, pos := "chart.go:150", after := #[{ on := 7, ground := Go.Ground.data }], guard := none }) (v := .int .i64 h) rfl (by kernel_rfl) (by kernel_rfl) (by kernel_rfl) (fun _ _ _ h => h) (by rfl) ?_ hHeld ?_
  · (intro wq hSw; have yy := hSw.1.cell 1; have yz := hSw.1.cell 2; have yw := hSw.2.cell 2; simp only [List.getElem?_toArray, List.getElem?_cons_zero, List.getElem?_cons_succ] at yy yz yw; go_simp <;> with_reducible rfl)
  try simp only [Act.put, List.setIfInBounds_toArray, List.set_cons_zero, List.set_cons_succ]
  refine take_run (i := 9) (oi := { dst := some 44, op := Go.Op.move (Go.Operand.tmp 0), type := 23, pos := "chart.go:150", after := #[], guard := none }) (v := .pointer (some ⟨R, 0, none⟩)) rfl (by kernel_rfl) (by kernel_rfl) (by kernel_rfl) (fun _ _ _ h => h) (by rfl) ?_ hHeld ?_
  · (intro wq hSw; go_simp <;> with_reducible rfl)
  try simp only [Act.put, List.setIfInBounds_toArray, List.set_cons_zero, List.set_cons_succ]
  refine take_run (i := 10) (oi := { dst := some 45, op := Go.Op.fieldAddr 38 (Go.Operand.tmp 3) 1, type := 0, pos := "chart.go:150", after := #[], guard := none }) (v := .pointer (some ⟨P, 1, none⟩)) rfl (by kernel_rfl) (by kernel_rfl) (by kernel_rfl) (fun _ _ _ h => h) (by rfl) ?_ hHeld ?_
  · (intro wq hSw; go_simp <;> with_reducible rfl)
  try simp only [Act.put, List.setIfInBounds_toArray, List.set_cons_zero, List.set_cons_succ]
  refine take_run (i := 11) (oi := { dst := some 46, op := Go.Op.load 3 (Go.Operand.tmp 45), type := 3, pos := "chart.go:150", after := #[{ on := 10, ground := Go.Ground.data }], guard := none }) (v := .int .i64 s) rfl (by kernel_rfl) (by kernel_rfl) (by kernel_rfl) (fun _ _ _ h => h) (by rfl) ?_ hHeld ?_
  · (intro wq hSw; have yy := hSw.1.cell 1; have yz := hSw.1.cell 2; have yw := hSw.2.cell 2; simp only [List.getElem?_toArray, List.getElem?_cons_zero, List.getElem?_cons_succ] at yy yz yw; go_simp <;> with_reducible rfl)
  try simp only [Act.put, List.setIfInBounds_toArray, List.set_cons_zero, List.set_cons_succ]
  refine take_run (i := 14) (oi := { dst := some 49, op := Go.Op.fieldAddr 35 (Go.Operand.tmp 5) 2, type := 0, pos := "chart.go:150", after := #[], guard := none }) (v := .pointer (some ⟨S, 2, none⟩)) rfl (by kernel_rfl) (by kernel_rfl) (by kernel_rfl) (fun _ _ _ h => h) (by rfl) ?_ hHeld ?_
  · (intro wq hSw; go_simp <;> with_reducible rfl)
  try simp only [Act.put, List.setIfInBounds_toArray, List.set_cons_zero, List.set_cons_succ]
  refine take_run (i := 15) (oi := { dst := some 50, op := Go.Op.load 2 (Go.Operand.tmp 49), type := 2, pos := "chart.go:150", after := #[{ on := 14, ground := Go.Ground.data }], guard := none }) (v := .int .i64 bg) rfl (by kernel_rfl) (by kernel_rfl) (by kernel_rfl) (fun _ _ _ h => h) (by rfl) ?_ hHeld ?_
  · (intro wq hSw; have yy := hSw.1.cell 1; have yz := hSw.1.cell 2; have yw := hSw.2.cell 2; simp only [List.getElem?_toArray, List.getElem?_cons_zero, List.getElem?_cons_succ] at yy yz yw; go_simp <;> with_reducible rfl)
  try simp only [Act.put, List.setIfInBounds_toArray, List.set_cons_zero, List.set_cons_succ]
  refine take_call (i := 6) (oi := { dst := some 41, op := Go.Op.call { callee := Go.Callee.value (Go.Operand.func 21), args := #[Go.Operand.tmp 38, Go.Operand.tmp 40], argTypes := #[23, 3] }, type := 3, pos := "chart.go:150", after := #[{ on := 3, ground := Go.Ground.data }, { on := 5, ground := Go.Ground.data }], guard := none }) rfl (by kernel_rfl) (by rfl) 21 _ (by go_simp <;> with_reducible rfl) ?_
  refine (H0.out _ b0.drew).mono ?_
  rintro e w5 ⟨rfl, b5⟩
  refine ⟨.int .i64 ow, rfl, ⟨PB.out.below b5, SB.out.below b5⟩, ?_⟩
  try simp only [Act.put, List.setIfInBounds_toArray, List.set_cons_zero, List.set_cons_succ]
  refine take_call (i := 12) (oi := { dst := some 47, op := Go.Op.call { callee := Go.Callee.value (Go.Operand.func 22), args := #[Go.Operand.tmp 44, Go.Operand.tmp 46], argTypes := #[23, 3] }, type := 2, pos := "chart.go:150", after := #[{ on := 9, ground := Go.Ground.data }, { on := 11, ground := Go.Ground.data }, { on := 6, ground := Go.Ground.chain }], guard := none }) rfl (by kernel_rfl) (by rfl) 22 _ (by go_simp <;> with_reducible rfl) ?_
  refine (H1.out _ b5).mono ?_
  rintro e w6 ⟨rfl, b6⟩
  refine ⟨.int .i64 ep, rfl, ⟨PB.out.below b6, SB.out.below b6⟩, ?_⟩
  try simp only [Act.put, List.setIfInBounds_toArray, List.set_cons_zero, List.set_cons_succ]
  refine take_run (i := 13) (oi := { dst := some 48, op := Go.Op.binOp Go.BinOp.add 2 (Go.Operand.tmp 47) (Go.Operand.const (Go.Value.int Go.IntKind.i64 1)) 2, type := 2, pos := "chart.go:150", after := #[{ on := 12, ground := Go.Ground.data }], guard := none }) (v := .int .i64 ep1) rfl (by kernel_rfl) (by kernel_rfl) (by kernel_rfl) (fun _ _ _ h => h) (by rfl) ?_ ⟨PB.out.below b6, SB.out.below b6⟩ ?_
  · (intro wq hSw; have qq : IntKind.i64.wrap (ep + 1) = ep1 := (IntWalk.i64_left _).trans qe'; go_simp <;> with_reducible rfl)
  try simp only [Act.put, List.setIfInBounds_toArray, List.set_cons_zero, List.set_cons_succ]
  refine take_run (i := 16) (oi := { dst := some 51, op := Go.Op.build 60 #[(0, Go.Operand.tmp 37), (1, Go.Operand.tmp 41), (2, Go.Operand.tmp 43), (3, Go.Operand.tmp 48), (4, Go.Operand.const (Go.Value.int Go.IntKind.i64 1)), (5, Go.Operand.tmp 50)], type := 60, pos := "chart.go:150", after := #[{ on := 2, ground := Go.Ground.data }, { on := 6, ground := Go.Ground.data }, { on := 8, ground := Go.Ground.data }, { on := 13, ground := Go.Ground.data }, { on := 15, ground := Go.Ground.data }], guard := none }) (v := .agg #[.int .i64 s, .int .i64 ow, .int .i64 h, .int .i64 ep1, .int .i64 1, .int .i64 bg]) rfl (by kernel_rfl) (by kernel_rfl) (by kernel_rfl) (fun _ _ _ h => h) (by rfl) ?_ ⟨PB.out.below b6, SB.out.below b6⟩ ?_
  · (intro wq hSw; go_simp <;> with_reducible rfl)
  try simp only [Act.put, List.setIfInBounds_toArray, List.set_cons_zero, List.set_cons_succ]
  refine take_run (i := 17) (oi := { dst := some 52, op := Go.Op.nilCheck (Go.Operand.tmp 35), type := 0, pos := "chart.go:150", after := #[{ on := 0, ground := Go.Ground.data }, { on := 0, ground := Go.Ground.phase }, { on := 1, ground := Go.Ground.phase }, { on := 2, ground := Go.Ground.phase }, { on := 3, ground := Go.Ground.phase }, { on := 4, ground := Go.Ground.phase }, { on := 5, ground := Go.Ground.phase }, { on := 6, ground := Go.Ground.phase }, { on := 7, ground := Go.Ground.phase }, { on := 8, ground := Go.Ground.phase }, { on := 9, ground := Go.Ground.phase }, { on := 10, ground := Go.Ground.phase }, { on := 11, ground := Go.Ground.phase }, { on := 12, ground := Go.Ground.phase }, { on := 13, ground := Go.Ground.phase }, { on := 14, ground := Go.Ground.phase }, { on := 15, ground := Go.Ground.phase }, { on := 16, ground := Go.Ground.phase }], guard := none }) (v := .pointer (some ⟨R, 0, none⟩)) rfl (by kernel_rfl) (by kernel_rfl) (by kernel_rfl) (fun _ _ _ h => h) (by rfl) ?_ ⟨PB.out.below b6, SB.out.below b6⟩ ?_
  · (intro wq hSw; go_simp <;> with_reducible rfl)
  try simp only [Act.put, List.setIfInBounds_toArray, List.set_cons_zero, List.set_cons_succ]
  refine take_run (i := 18) (oi := { dst := some 53, op := Go.Op.fieldAddr 76 (Go.Operand.tmp 52) 3, type := 0, pos := "chart.go:150", after := #[{ on := 17, ground := Go.Ground.data }, { on := 0, ground := Go.Ground.phase }, { on := 1, ground := Go.Ground.phase }, { on := 2, ground := Go.Ground.phase }, { on := 3, ground := Go.Ground.phase }, { on := 4, ground := Go.Ground.phase }, { on := 5, ground := Go.Ground.phase }, { on := 6, ground := Go.Ground.phase }, { on := 7, ground := Go.Ground.phase }, { on := 8, ground := Go.Ground.phase }, { on := 9, ground := Go.Ground.phase }, { on := 10, ground := Go.Ground.phase }, { on := 11, ground := Go.Ground.phase }, { on := 12, ground := Go.Ground.phase }, { on := 13, ground := Go.Ground.phase }, { on := 14, ground := Go.Ground.phase }, { on := 15, ground := Go.Ground.phase }, { on := 16, ground := Go.Ground.phase }], guard := none }) (v := .pointer (some ⟨R, 34, none⟩)) rfl (by kernel_rfl) (by kernel_rfl) (by kernel_rfl) (fun _ _ _ h => h) (by rfl) ?_ ⟨PB.out.below b6, SB.out.below b6⟩ ?_
  · (intro wq hSw; go_simp <;> with_reducible rfl)
  try simp only [Act.put, List.setIfInBounds_toArray, List.set_cons_zero, List.set_cons_succ]
  obtain ⟨m1, m2, m3, ⟨v34, v35, v36, v37, v38, v39, k34, k35, k36, k37, k38, k39⟩, kf⟩ := MK.out _ b6
  have f34 := kf 34
  have f35 := kf 35
  have f36 := kf 36
  have f37 := kf 37
  have f38 := kf 38
  have f39 := kf 39
  clear kf
  refine take_eff (i := 19) (oi := { dst := none, op := Go.Op.store 60 (Go.Operand.tmp 53) (Go.Operand.tmp 51), type := 0, pos := "chart.go:150", after := #[{ on := 18, ground := Go.Ground.data }, { on := 16, ground := Go.Ground.data }, { on := 12, ground := Go.Ground.chain }, { on := 0, ground := Go.Ground.phase }, { on := 1, ground := Go.Ground.phase }, { on := 2, ground := Go.Ground.phase }, { on := 3, ground := Go.Ground.phase }, { on := 4, ground := Go.Ground.phase }, { on := 5, ground := Go.Ground.phase }, { on := 6, ground := Go.Ground.phase }, { on := 7, ground := Go.Ground.phase }, { on := 8, ground := Go.Ground.phase }, { on := 9, ground := Go.Ground.phase }, { on := 10, ground := Go.Ground.phase }, { on := 11, ground := Go.Ground.phase }, { on := 12, ground := Go.Ground.phase }, { on := 13, ground := Go.Ground.phase }, { on := 14, ground := Go.Ground.phase }, { on := 15, ground := Go.Ground.phase }, { on := 16, ground := Go.Ground.phase }], guard := none }) rfl (by kernel_rfl) (by rfl) (by go_simp <;> with_reducible rfl) ⟨(((((((PB.out.below b6).other hPR.symm 34 (.int .i64 s)).other hPR.symm 35 (.int .i64 ow)).other hPR.symm 36 (.int .i64 h)).other hPR.symm 37 (.int .i64 ep1)).other hPR.symm 38 (.int .i64 1)).other hPR.symm 39 (.int .i64 bg)), (((((((SB.out.below b6).other nR.symm 34 (.int .i64 s)).other nR.symm 35 (.int .i64 ow)).other nR.symm 36 (.int .i64 h)).other nR.symm 37 (.int .i64 ep1)).other nR.symm 38 (.int .i64 1)).other nR.symm 39 (.int .i64 bg))⟩ ?_
  try simp only [Act.put]
  refine wpAnyH_done (by kernel_rfl) ?_ _
  have D6 : Hid (Dd w w6 base R (L.set 33 bg) (P + 1) #[.int .i64 0, .bool false, .int .i64 0]) := DB.out.below b6
  have z0 : w6.cell? ⟨P + 1, 0, none⟩ = some (.int .i64 0) := D6.out.q.cell 0
  have z1 : w6.cell? ⟨P + 1, 1, none⟩ = some (.bool false) := D6.out.q.cell 1
  have z2 : w6.cell? ⟨P + 1, 2, none⟩ = some (.int .i64 0) := D6.out.q.cell 2
  have g0 := D6.out.q.fz 0
  have g1 := D6.out.q.fz 1
  have g2 := D6.out.q.fz 2
  have ltQ := D6.out.q.lt
  have ltR := D6.out.c.lt
  have x0 : w6.cell? ⟨S, 0, none⟩ = some (.int .i64 0) := (SB.out.below b6).cell 0
  have x1 : w6.cell? ⟨S, 1, none⟩ = some (.bool true) := (SB.out.below b6).cell 1
  have hQR : P + 1 ≠ R := by omega
  clear hHeld MK MKS H0 H1 b0 b5 b6 y1 y2 x2 m1 m2 hlt
  go_wp2
  have dd := ((((((D6.out.set 34 s).set 35 ow).set 36 h).set 37 ep1).set 38 1).set 39 bg).store (.int .i64 0) (.bool true) (.int .i64 bg)
  exact bodyPost_ret (results_cell_row rfl _ _ (P + 1) 35 _ _ _ rfl dd.q Try.underlying35 rfl (by kernel_rfl)) rfl ⟨rfl, dd.c, dd.o⟩
end
end Go.Proofs.Ytpdgmlljjjeifaa
