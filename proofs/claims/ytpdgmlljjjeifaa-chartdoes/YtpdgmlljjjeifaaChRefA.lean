/- Package chart's reference: Do of a kind that there is not; cut, thawed. Written by gen_rd.py. -/
import Derived.Test.YtpdgmlljjjeifaaChRefS
namespace Go.Proofs.Ytpdgmlljjjeifaa
open Go.RowKit
attribute [local go_sem] Oper.semAt_some
set_option linter.unusedVariables false
section
variable {w w' : World} {base Q O E cO cE : Nat} {L : List Int}
set_option maxRecDepth 100000 in
set_option maxHeartbeats 4000000 in
theorem rdo_none (hc : RC w base Q O E cO cE L) (hf : Fine L) (k s h n p : Int) (hk : ¬ (1 ≤ k ∧ k ≤ 5)) : Calls Try.prog 30 #[.pointer (some ⟨Q, 0, none⟩), .agg #[.int .i64 k, .int .i64 s, .int .i64 h, .int .i64 n, .int .i64 p]] w fun e w' => RTold w w' base Q O E cO cE e (⟨1, false, 0⟩, L) := by
  obtain ⟨d0, p1⟩ := pre_ref hc k s h n p
  obtain ⟨P, eP⟩ : ∃ P, w.heap.size = P := ⟨_, rfl⟩
  have hlt := hc.lt
  obtain ⟨wA, eA⟩ : ∃ wA, ((w.alloc (.cells #[.int .i64 k, .int .i64 s, .int .i64 h, .int .i64 n, .int .i64 p] 46)).alloc (.cells #[.int .i64 0, .bool false, .int .i64 0] 62)) = wA := ⟨_, rfl⟩
  rw [eA] at d0 p1
  rw [eP] at d0 p1 hlt
  have EA : Hid _ := eA
  have EP : Hid (w.heap.size = P) := eP
  have D : Hid (Rd w wA base Q O E cO cE L (P + 1) #[.int .i64 0, .bool false, .int .i64 0]) := d0
  obtain ⟨lq, lo, le_⟩ := hlt
  have y0 : wA.cell? ⟨P, 0, none⟩ = some (.int .i64 k) := p1.cell 0
  have z0 : wA.cell? ⟨P + 1, 0, none⟩ = some (.int .i64 0) := D.out.z.cell 0
  have z1 : wA.cell? ⟨P + 1, 1, none⟩ = some (.bool false) := D.out.z.cell 1
  have z2 : wA.cell? ⟨P + 1, 2, none⟩ = some (.int .i64 0) := D.out.z.cell 2
  have g0 := D.out.z.fz 0
  have g1 := D.out.z.fz 1
  have g2 := D.out.z.fz 2
  have HF : Hid (Fine L) := hf
  have HL : Hid (L.length = 42) := hc.len
  clear eA eP d0 p1 hf
  have k1 : ¬ k = 1 := by omega
  have j1 : ((k : Int) == 1) = false := by simpa using k1
  have k2 : ¬ k = 2 := by omega
  have j2 : ((k : Int) == 2) = false := by simpa using k2
  have k3 : ¬ k = 3 := by omega
  have j3 : ((k : Int) == 3) = false := by simpa using k3
  have k4 : ¬ k = 4 := by omega
  have j4 : ((k : Int) == 4) = false := by simpa using k4
  have k5 : ¬ k = 5 := by omega
  have j5 : ((k : Int) == 5) = false := by simpa using k5
  have HC : Hid (RC w base Q O E cO cE L) := hc
  clear hk hc
  go_enter Try.func30, Try.ntmps30
  go_wp2
  exact bodyPost_ret (results_cell_row rfl _ _ (w.alloc (.cells #[.int .i64 k, .int .i64 s, .int .i64 h, .int .i64 n, .int .i64 p] 46)).heap.size 62 _ _ _ (by simp) (heap_alloc_new _ _) Try.underlying62 rfl (by kernel_rfl)) rfl ⟨rfl, (HC.out.alloc _).alloc _, ((Only3.refl w Q O E).alloc _).alloc _⟩
set_option maxRecDepth 100000 in
set_option maxHeartbeats 4000000 in
theorem rdo_cut (hc : RC w base Q O E cO cE L) (hf : Fine L) (s h n p : Int) : Calls Try.prog 30 #[.pointer (some ⟨Q, 0, none⟩), .agg #[.int .i64 4, .int .i64 s, .int .i64 h, .int .i64 n, .int .i64 p]] w fun e w' => RTold w w' base Q O E cO cE e (cuC L n) := by
  obtain ⟨d0, p1⟩ := pre_ref hc (4) s h n p
  obtain ⟨P, eP⟩ : ∃ P, w.heap.size = P := ⟨_, rfl⟩
  have hlt := hc.lt
  obtain ⟨wA, eA⟩ : ∃ wA, ((w.alloc (.cells #[.int .i64 4, .int .i64 s, .int .i64 h, .int .i64 n, .int .i64 p] 46)).alloc (.cells #[.int .i64 0, .bool false, .int .i64 0] 62)) = wA := ⟨_, rfl⟩
  rw [eA] at d0 p1
  rw [eP] at d0 p1 hlt
  have EA : Hid _ := eA
  have EP : Hid (w.heap.size = P) := eP
  have D : Hid (Rd w wA base Q O E cO cE L (P + 1) #[.int .i64 0, .bool false, .int .i64 0]) := d0
  obtain ⟨lq, lo, le_⟩ := hlt
  have y0 : wA.cell? ⟨P, 0, none⟩ = some (.int .i64 4) := p1.cell 0
  have y3 : wA.cell? ⟨P, 3, none⟩ = some (.int .i64 n) := p1.cell 3
  have c10 : wA.cell? ⟨Q, 10, none⟩ = some (.int .i64 (at_ L 40)) := D.out.c.cell 10
  have fq10 := D.out.c.fz 10
  have c11 : wA.cell? ⟨Q, 11, none⟩ = some (.int .i64 (at_ L 41)) := D.out.c.cell 11
  have fq11 := D.out.c.fz 11
  have z0 : wA.cell? ⟨P + 1, 0, none⟩ = some (.int .i64 0) := D.out.z.cell 0
  have z1 : wA.cell? ⟨P + 1, 1, none⟩ = some (.bool false) := D.out.z.cell 1
  have z2 : wA.cell? ⟨P + 1, 2, none⟩ = some (.int .i64 0) := D.out.z.cell 2
  have g0 := D.out.z.fz 0
  have g1 := D.out.z.fz 1
  have g2 := D.out.z.fz 2
  have HF : Hid (Fine L) := hf
  have HL : Hid (L.length = 42) := hc.len
  clear eA eP d0 p1 hf
  unfold cuC
  clear hc
  by_cases h1 : at_ L 41 = 1
  · by_cases h0 : at_ L 40 = n
    · rw [if_pos ⟨h0, h1⟩]
      have HE : Hid (at_ L 40 = n ∧ at_ L 41 = 1) := ⟨h0, h1⟩
      rw [h1] at c11
      rw [h0] at c10
      clear h0 h1
      go_enter Try.func30, Try.ntmps30
      go_wp2
      rw [EA.out, EP.out]
      go_quiet (fail)
      go_wp2
      have dd := ((D.out.drewN nq).set 11 (by omega) 2).store (.int .i64 0) (.bool false) (.int .i64 n)
      exact bodyPost_ret (results_cell_row rfl _ _ (P + 1) 62 _ _ _ rfl dd.z Try.underlying62 rfl (by kernel_rfl)) rfl ⟨rfl, by have := dd.c; rw [set_same (by rw [HL.out]; omega) HE.out.1]; exact this, dd.o⟩
    · rw [if_neg (fun x => h0 x.1)]
      rw [h1] at c11
      have h0' : ((at_ L 40 : Int) != n) = true := by simpa using h0
      generalize at_ L 40 = x at *
      clear h1
      go_enter Try.func30, Try.ntmps30
      go_wp2
      rw [EA.out, EP.out]
      go_quiet (fail)
      go_wp2
      have dd := (D.out.drewN nq).store (.int .i64 5) (.bool false) (.int .i64 0)
      exact bodyPost_ret (results_cell_row rfl _ _ (P + 1) 62 _ _ _ rfl dd.z Try.underlying62 rfl (by kernel_rfl)) rfl ⟨rfl, dd.c, dd.o⟩
  · rw [if_neg (fun x => h1 x.2)]
    have h1' : ((at_ L 41 : Int) != 1) = true := by simpa using h1
    generalize at_ L 41 = x at *
    go_enter Try.func30, Try.ntmps30
    go_wp2
    rw [EA.out, EP.out]
    go_quiet (fail)
    go_wp2
    have dd := (D.out.drewN nq).store (.int .i64 5) (.bool false) (.int .i64 0)
    exact bodyPost_ret (results_cell_row rfl _ _ (P + 1) 62 _ _ _ rfl dd.z Try.underlying62 rfl (by kernel_rfl)) rfl ⟨rfl, dd.c, dd.o⟩
set_option maxRecDepth 100000 in
set_option maxHeartbeats 4000000 in
theorem rdo_thaw (hc : RC w base Q O E cO cE L) (hf : Fine L) (s h n p : Int) : Calls Try.prog 30 #[.pointer (some ⟨Q, 0, none⟩), .agg #[.int .i64 5, .int .i64 s, .int .i64 h, .int .i64 n, .int .i64 p]] w fun e w' => RTold w w' base Q O E cO cE e (thC L n) := by
  obtain ⟨d0, p1⟩ := pre_ref hc (5) s h n p
  obtain ⟨P, eP⟩ : ∃ P, w.heap.size = P := ⟨_, rfl⟩
  have hlt := hc.lt
  obtain ⟨wA, eA⟩ : ∃ wA, ((w.alloc (.cells #[.int .i64 5, .int .i64 s, .int .i64 h, .int .i64 n, .int .i64 p] 46)).alloc (.cells #[.int .i64 0, .bool false, .int .i64 0] 62)) = wA := ⟨_, rfl⟩
  rw [eA] at d0 p1
  rw [eP] at d0 p1 hlt
  have EA : Hid _ := eA
  have EP : Hid (w.heap.size = P) := eP
  have D : Hid (Rd w wA base Q O E cO cE L (P + 1) #[.int .i64 0, .bool false, .int .i64 0]) := d0
  obtain ⟨lq, lo, le_⟩ := hlt
  have y0 : wA.cell? ⟨P, 0, none⟩ = some (.int .i64 5) := p1.cell 0
  have y3 : wA.cell? ⟨P, 3, none⟩ = some (.int .i64 n) := p1.cell 3
  have c10 : wA.cell? ⟨Q, 10, none⟩ = some (.int .i64 (at_ L 40)) := D.out.c.cell 10
  have fq10 := D.out.c.fz 10
  have c11 : wA.cell? ⟨Q, 11, none⟩ = some (.int .i64 (at_ L 41)) := D.out.c.cell 11
  have fq11 := D.out.c.fz 11
  have z0 : wA.cell? ⟨P + 1, 0, none⟩ = some (.int .i64 0) := D.out.z.cell 0
  have z1 : wA.cell? ⟨P + 1, 1, none⟩ = some (.bool false) := D.out.z.cell 1
  have z2 : wA.cell? ⟨P + 1, 2, none⟩ = some (.int .i64 0) := D.out.z.cell 2
  have g0 := D.out.z.fz 0
  have g1 := D.out.z.fz 1
  have g2 := D.out.z.fz 2
  have HF : Hid (Fine L) := hf
  have HL : Hid (L.length = 42) := hc.len
  clear eA eP d0 p1 hf
  unfold thC
  clear hc
  by_cases h1 : at_ L 41 = 2
  · by_cases h0 : at_ L 40 = n
    · rw [if_pos ⟨h0, h1⟩]
      have HE : Hid (at_ L 40 = n ∧ at_ L 41 = 2) := ⟨h0, h1⟩
      rw [h1] at c11
      rw [h0] at c10
      clear h0 h1
      go_enter Try.func30, Try.ntmps30
      go_wp2
      rw [EA.out, EP.out]
      go_quiet (fail)
      go_wp2
      have dd := (((D.out.drewN nq).set 11 (by omega) 0).set 10 (by omega) 0).store (.int .i64 0) (.bool false) (.int .i64 n)
      exact bodyPost_ret (results_cell_row rfl _ _ (P + 1) 62 _ _ _ rfl dd.z Try.underlying62 rfl (by kernel_rfl)) rfl ⟨rfl, by have := dd.c; rw [List.set_comm _ _ (by omega)]; exact this, dd.o⟩
    · rw [if_neg (fun x => h0 x.1)]
      rw [h1] at c11
      have h0' : ((at_ L 40 : Int) != n) = true := by simpa using h0
      generalize at_ L 40 = x at *
      clear h1
      go_enter Try.func30, Try.ntmps30
      go_wp2
      rw [EA.out, EP.out]
      go_quiet (fail)
      go_wp2
      have dd := (D.out.drewN nq).store (.int .i64 5) (.bool false) (.int .i64 0)
      exact bodyPost_ret (results_cell_row rfl _ _ (P + 1) 62 _ _ _ rfl dd.z Try.underlying62 rfl (by kernel_rfl)) rfl ⟨rfl, dd.c, dd.o⟩
  · rw [if_neg (fun x => h1 x.2)]
    have h1' : ((at_ L 41 : Int) != 2) = true := by simpa using h1
    generalize at_ L 41 = x at *
    go_enter Try.func30, Try.ntmps30
    go_wp2
    rw [EA.out, EP.out]
    go_quiet (fail)
    go_wp2
    have dd := (D.out.drewN nq).store (.int .i64 5) (.bool false) (.int .i64 0)
    exact bodyPost_ret (results_cell_row rfl _ _ (P + 1) 62 _ _ _ rfl dd.z Try.underlying62 rfl (by kernel_rfl)) rfl ⟨rfl, dd.c, dd.o⟩
set_option maxRecDepth 100000 in
set_option maxHeartbeats 4000000 in
theorem rdo_audit (hc : RC w base Q O E cO cE L) (hf : Fine L) (s h n p : Int) : Calls Try.prog 30 #[.pointer (some ⟨Q, 0, none⟩), .agg #[.int .i64 3, .int .i64 s, .int .i64 h, .int .i64 n, .int .i64 p]] w fun e w' => RTold w w' base Q O E cO cE e (auC L) := by
  obtain ⟨d0, p1⟩ := pre_ref hc (3) s h n p
  obtain ⟨P, eP⟩ : ∃ P, w.heap.size = P := ⟨_, rfl⟩
  have hlt := hc.lt
  obtain ⟨wA, eA⟩ : ∃ wA, ((w.alloc (.cells #[.int .i64 3, .int .i64 s, .int .i64 h, .int .i64 n, .int .i64 p] 46)).alloc (.cells #[.int .i64 0, .bool false, .int .i64 0] 62)) = wA := ⟨_, rfl⟩
  rw [eA] at d0 p1
  rw [eP] at d0 p1 hlt
  have EA : Hid _ := eA
  have EP : Hid (w.heap.size = P) := eP
  have D : Hid (Rd w wA base Q O E cO cE L (P + 1) #[.int .i64 0, .bool false, .int .i64 0]) := d0
  obtain ⟨lq, lo, le_⟩ := hlt
  have y0 : wA.cell? ⟨P, 0, none⟩ = some (.int .i64 3) := p1.cell 0
  have c3 : wA.cell? ⟨Q, 3, none⟩ = some (.int .i64 (at_ L 33)) := D.out.c.cell 3
  have fq3 := D.out.c.fz 3
  have c10 : wA.cell? ⟨Q, 10, none⟩ = some (.int .i64 (at_ L 40)) := D.out.c.cell 10
  have fq10 := D.out.c.fz 10
  have c11 : wA.cell? ⟨Q, 11, none⟩ = some (.int .i64 (at_ L 41)) := D.out.c.cell 11
  have fq11 := D.out.c.fz 11
  have z0 : wA.cell? ⟨P + 1, 0, none⟩ = some (.int .i64 0) := D.out.z.cell 0
  have z1 : wA.cell? ⟨P + 1, 1, none⟩ = some (.bool false) := D.out.z.cell 1
  have z2 : wA.cell? ⟨P + 1, 2, none⟩ = some (.int .i64 0) := D.out.z.cell 2
  have g0 := D.out.z.fz 0
  have g1 := D.out.z.fz 1
  have g2 := D.out.z.fz 2
  have HF : Hid (Fine L) := hf
  have HL : Hid (L.length = 42) := hc.len
  clear eA eP d0 p1 hf
  have HB := busy_any D.out.c
  unfold auC
  clear hc
  by_cases hm : may_ L = false
  · rw [if_pos hm]
    rw [hm] at HB
    clear hm
    go_enter Try.func30, Try.ntmps30
    go_wp2_with fail
    rw [EA.out, EP.out]
    refine HB.mono ?_
    rintro e w2 ⟨rfl, rfl⟩
    go_wp2
    have dd := D.out.store (.int .i64 50) (.bool false) (.int .i64 0)
    exact bodyPost_ret (results_cell_row rfl _ _ (P + 1) 62 _ _ _ rfl dd.z Try.underlying62 rfl (by kernel_rfl)) rfl ⟨rfl, dd.c, dd.o⟩
  · rw [if_neg hm]
    have hm' : may_ L = true := by simpa using hm
    rw [hm'] at HB
    have q : wrap64 (at_ L 33 + 1) = at_ L 33 + 1 := by have h1 := HF.out.bg; unfold wrap64; omega
    obtain ⟨bg, eb⟩ : ∃ bg, at_ L 33 + 1 = bg := ⟨_, rfl⟩
    have q' : wrap64 (at_ L 33 + 1) = bg := q.trans eb
    rw [eb]
    clear hm hm' eb q
    generalize at_ L 33 = b0 at *
    go_enter Try.func30, Try.ntmps30
    go_wp2_with fail
    rw [EA.out, EP.out]
    refine HB.mono ?_
    rintro e w2 ⟨rfl, rfl⟩
    clear HB
    go_wp2
    have dd := (((D.out.set 3 (by omega) bg).set 10 (by omega) bg).set 11 (by omega) 1).store (.int .i64 0) (.bool true) (.int .i64 bg)
    exact bodyPost_ret (results_cell_row rfl _ _ (P + 1) 62 _ _ _ rfl dd.z Try.underlying62 rfl (by kernel_rfl)) rfl ⟨rfl, dd.c, dd.o⟩
end
end Go.Proofs.Ytpdgmlljjjeifaa
