/- Package chart: what each command does. Written by gen_ch.py. -/
import Derived.Test.YtpdgmlljjjeifaaChSmall
namespace Go.Proofs.Ytpdgmlljjjeifaa
open Go.RowKit
attribute [local go_sem] Oper.semAt_some
set_option linter.unusedVariables false
/-- A result: its error, whether it waits, its number. -/
structure Rs where
  why : Int
  wait : Bool
  n : Int
def Rs.v (r : Rs) : Value := .agg #[.int .i64 r.why, .bool r.wait, .int .i64 r.n]
/-- What there is behind a command. -/
def DTold (w w' : World) (base R : Nat) (e : Ending) (x : Rs × List Int) : Prop := e = .returned x.1.v ∧ CIn w' base R x.2 ∧ OnlyR w w' R
def mvC (L : List Int) (s h : Int) : Rs × List Int :=
  if ¬ ((0 ≤ s ∧ s < 16) ∧ (1 ≤ h ∧ h ≤ at_ L 0)) then (⟨1, false, 0⟩, L) else
  if may_ L = false then (⟨50, false, 0⟩, L) else
  if own_ L s = h then (⟨0, false, 0⟩, L) else
  (⟨0, true, at_ L 33 + 1⟩, ((((((L.set 33 (at_ L 33 + 1)).set 34 s).set 35 (own_ L s)).set 36 h).set 37 (epo_ L s + 1)).set 38 1).set 39 (at_ L 33 + 1))
def stC (L : List Int) (n p : Int) : Rs × List Int :=
  if at_ L 38 = 0 ∨ at_ L 38 ≠ p ∨ at_ L 39 ≠ n then (⟨5, false, 0⟩, L) else
  (⟨0, false, n⟩,
    if at_ L 38 = 1 then L.set 38 2 else
    if at_ L 38 = 2 then ((L.set (1 + (at_ L 34).toNat * 2) (at_ L 36)).set (1 + (at_ L 34).toNat * 2 + 1) (at_ L 37)).set 38 3 else
    if at_ L 38 = 3 then (((((L.set 34 0).set 35 0).set 36 0).set 37 0).set 38 0).set 39 0 else L)
def auC (L : List Int) : Rs × List Int :=
  if may_ L = false then (⟨50, false, 0⟩, L) else
  (⟨0, true, at_ L 33 + 1⟩, ((L.set 33 (at_ L 33 + 1)).set 40 (at_ L 33 + 1)).set 41 1)
def cuC (L : List Int) (n : Int) : Rs × List Int :=
  if at_ L 40 = n ∧ at_ L 41 = 1 then (⟨0, false, n⟩, (L.set 40 n).set 41 2) else (⟨5, false, 0⟩, L)
def thC (L : List Int) (n : Int) : Rs × List Int :=
  if at_ L 40 = n ∧ at_ L 41 = 2 then (⟨0, false, n⟩, (L.set 40 0).set 41 0) else (⟨5, false, 0⟩, L)
/-- Numbers that do not run over; a slot that moves is one. -/
structure Fine (L : List Int) : Prop where
  bg : -9223372036854775808 ≤ at_ L 33 ∧ at_ L 33 ≤ 1152921504606846976
  ep : ∀ s, -9223372036854775808 ≤ epo_ L s ∧ epo_ L s ≤ 2305843009213693952
  sl : at_ L 38 = 2 → 0 ≤ at_ L 34 ∧ at_ L 34 < 16
section
variable {w w' : World} {base R : Nat} {L : List Int}
theorem pre_deed (hc : CIn w base R L) (k s h n p : Int) :
    Dd w ((w.alloc (.cells #[.int .i64 k, .int .i64 s, .int .i64 h, .int .i64 n, .int .i64 p] 38)).alloc (.cells #[.int .i64 0, .bool false, .int .i64 0] 35)) base R L (w.heap.size + 1) #[.int .i64 0, .bool false, .int .i64 0] ∧ Blk ((w.alloc (.cells #[.int .i64 k, .int .i64 s, .int .i64 h, .int .i64 n, .int .i64 p] 38)).alloc (.cells #[.int .i64 0, .bool false, .int .i64 0] 35)) w.heap.size #[.int .i64 k, .int .i64 s, .int .i64 h, .int .i64 n, .int .i64 p] 38 :=
  ⟨⟨(hc.alloc _).alloc _, ((OnlyR.refl w R).alloc _).alloc _, by have := Blk.new (w.alloc (.cells #[.int .i64 k, .int .i64 s, .int .i64 h, .int .i64 n, .int .i64 p] 38)) #[.int .i64 0, .bool false, .int .i64 0] 35; simpa using this, by omega, hc.lt⟩, (Blk.new w _ _).alloc _⟩

set_option maxRecDepth 100000 in
set_option maxHeartbeats 1600000 in
theorem cut_any (hc : CIn w base R L) (k s h n p : Int) : Calls Try.prog 48 #[.pointer (some ⟨R, 0, none⟩), .agg #[.int .i64 k, .int .i64 s, .int .i64 h, .int .i64 n, .int .i64 p]] w fun e w' => DTold w w' base R e (cuC L n) := by
  obtain ⟨d0, p1⟩ := pre_deed hc k s h n p
  obtain ⟨P, eP⟩ : ∃ P, w.heap.size = P := ⟨_, rfl⟩
  have hlt := hc.lt
  obtain ⟨wA, eA⟩ : ∃ wA, ((w.alloc (.cells #[.int .i64 k, .int .i64 s, .int .i64 h, .int .i64 n, .int .i64 p] 38)).alloc (.cells #[.int .i64 0, .bool false, .int .i64 0] 35)) = wA := ⟨_, rfl⟩
  rw [eA] at d0 p1
  rw [eP] at d0 p1 hlt
  have EA : Hid _ := eA
  have EP : Hid (w.heap.size = P) := eP
  have D : Hid (Dd w wA base R L (P + 1) #[.int .i64 0, .bool false, .int .i64 0]) := d0
  have PP : Hid (Blk wA P #[.int .i64 k, .int .i64 s, .int .i64 h, .int .i64 n, .int .i64 p] 38) := p1
  have y3 : wA.cell? ⟨P, 3, none⟩ = some (.int .i64 n) := p1.cell 3
  clear eA eP d0 p1
  have HN := next_any (D.out.c) n 1 n 2
  clear hc
  go_enter Try.func48, Try.ntmps48
  go_wp2_with fail
  rw [EA.out, EP.out]
  refine HN.mono ?_
  clear HN
  rintro e w2 (⟨hn, rfl, c2, o2⟩ | ⟨hn, rfl, c2, o2⟩)
  · have D2 : Hid (Dd w w2 base R _ (P + 1) #[.int .i64 0, .bool false, .int .i64 0]) := D.out.only c2 o2
    have HN : Hid _ := hn
    have z0 : w2.cell? ⟨P + 1, 0, none⟩ = some (.int .i64 0) := D2.out.q.cell 0
    have z1 : w2.cell? ⟨P + 1, 1, none⟩ = some (.bool false) := D2.out.q.cell 1
    have z2 : w2.cell? ⟨P + 1, 2, none⟩ = some (.int .i64 0) := D2.out.q.cell 2
    have g0 := D2.out.q.fz 0
    have g1 := D2.out.q.fz 1
    have g2 := D2.out.q.fz 2
    have ltQ := D2.out.q.lt
    have ltR := D2.out.c.lt
    clear c2 o2 hn y3
    go_wp2
    have dd := D2.out.store (.int .i64 5) (.bool false) (.int .i64 0)
    exact bodyPost_ret (results_cell_row rfl _ _ (P + 1) 35 _ _ _ rfl dd.q Try.underlying35 rfl (by kernel_rfl)) rfl (by unfold cuC; rw [if_neg HN.out]; exact ⟨rfl, dd.c, dd.o⟩)
  · have D2 : Hid (Dd w w2 base R _ (P + 1) #[.int .i64 0, .bool false, .int .i64 0]) := D.out.only c2 o2
    have HN : Hid _ := hn
    have z0 : w2.cell? ⟨P + 1, 0, none⟩ = some (.int .i64 0) := D2.out.q.cell 0
    have z1 : w2.cell? ⟨P + 1, 1, none⟩ = some (.bool false) := D2.out.q.cell 1
    have z2 : w2.cell? ⟨P + 1, 2, none⟩ = some (.int .i64 0) := D2.out.q.cell 2
    have g0 := D2.out.q.fz 0
    have g1 := D2.out.q.fz 1
    have g2 := D2.out.q.fz 2
    have ltQ := D2.out.q.lt
    have ltR := D2.out.c.lt
    clear c2 o2 hn y3
    go_wp2
    have dd := D2.out.store (.int .i64 0) (.bool false) (.int .i64 n)
    exact bodyPost_ret (results_cell_row rfl _ _ (P + 1) 35 _ _ _ rfl dd.q Try.underlying35 rfl (by kernel_rfl)) rfl (by unfold cuC; rw [if_pos HN.out]; exact ⟨rfl, dd.c, dd.o⟩)
set_option maxRecDepth 100000 in
set_option maxHeartbeats 1600000 in
theorem thawed_any (hc : CIn w base R L) (k s h n p : Int) : Calls Try.prog 49 #[.pointer (some ⟨R, 0, none⟩), .agg #[.int .i64 k, .int .i64 s, .int .i64 h, .int .i64 n, .int .i64 p]] w fun e w' => DTold w w' base R e (thC L n) := by
  obtain ⟨d0, p1⟩ := pre_deed hc k s h n p
  obtain ⟨P, eP⟩ : ∃ P, w.heap.size = P := ⟨_, rfl⟩
  have hlt := hc.lt
  obtain ⟨wA, eA⟩ : ∃ wA, ((w.alloc (.cells #[.int .i64 k, .int .i64 s, .int .i64 h, .int .i64 n, .int .i64 p] 38)).alloc (.cells #[.int .i64 0, .bool false, .int .i64 0] 35)) = wA := ⟨_, rfl⟩
  rw [eA] at d0 p1
  rw [eP] at d0 p1 hlt
  have EA : Hid _ := eA
  have EP : Hid (w.heap.size = P) := eP
  have D : Hid (Dd w wA base R L (P + 1) #[.int .i64 0, .bool false, .int .i64 0]) := d0
  have PP : Hid (Blk wA P #[.int .i64 k, .int .i64 s, .int .i64 h, .int .i64 n, .int .i64 p] 38) := p1
  have y3 : wA.cell? ⟨P, 3, none⟩ = some (.int .i64 n) := p1.cell 3
  clear eA eP d0 p1
  have HN := next_any (D.out.c) n 2 0 0
  clear hc
  go_enter Try.func49, Try.ntmps49
  go_wp2_with fail
  rw [EA.out, EP.out]
  refine HN.mono ?_
  clear HN
  rintro e w2 (⟨hn, rfl, c2, o2⟩ | ⟨hn, rfl, c2, o2⟩)
  · have D2 : Hid (Dd w w2 base R _ (P + 1) #[.int .i64 0, .bool false, .int .i64 0]) := D.out.only c2 o2
    have HN : Hid _ := hn
    have z0 : w2.cell? ⟨P + 1, 0, none⟩ = some (.int .i64 0) := D2.out.q.cell 0
    have z1 : w2.cell? ⟨P + 1, 1, none⟩ = some (.bool false) := D2.out.q.cell 1
    have z2 : w2.cell? ⟨P + 1, 2, none⟩ = some (.int .i64 0) := D2.out.q.cell 2
    have g0 := D2.out.q.fz 0
    have g1 := D2.out.q.fz 1
    have g2 := D2.out.q.fz 2
    have ltQ := D2.out.q.lt
    have ltR := D2.out.c.lt
    clear c2 o2 hn y3
    go_wp2
    have dd := D2.out.store (.int .i64 5) (.bool false) (.int .i64 0)
    exact bodyPost_ret (results_cell_row rfl _ _ (P + 1) 35 _ _ _ rfl dd.q Try.underlying35 rfl (by kernel_rfl)) rfl (by unfold thC; rw [if_neg HN.out]; exact ⟨rfl, dd.c, dd.o⟩)
  · have D2 : Hid (Dd w w2 base R _ (P + 1) #[.int .i64 0, .bool false, .int .i64 0]) := D.out.only c2 o2
    have HN : Hid _ := hn
    have z0 : w2.cell? ⟨P + 1, 0, none⟩ = some (.int .i64 0) := D2.out.q.cell 0
    have z1 : w2.cell? ⟨P + 1, 1, none⟩ = some (.bool false) := D2.out.q.cell 1
    have z2 : w2.cell? ⟨P + 1, 2, none⟩ = some (.int .i64 0) := D2.out.q.cell 2
    have g0 := D2.out.q.fz 0
    have g1 := D2.out.q.fz 1
    have g2 := D2.out.q.fz 2
    have ltQ := D2.out.q.lt
    have ltR := D2.out.c.lt
    clear c2 o2 hn y3
    go_wp2
    have dd := D2.out.store (.int .i64 0) (.bool false) (.int .i64 n)
    exact bodyPost_ret (results_cell_row rfl _ _ (P + 1) 35 _ _ _ rfl dd.q Try.underlying35 rfl (by kernel_rfl)) rfl (by unfold thC; rw [if_pos HN.out]; exact ⟨rfl, dd.c, dd.o⟩)
set_option maxRecDepth 100000 in
set_option maxHeartbeats 1600000 in
theorem beginAudit_any (hc : CIn w base R L) (hf : Fine L) (k s h n p : Int) : Calls Try.prog 47 #[.pointer (some ⟨R, 0, none⟩), .agg #[.int .i64 k, .int .i64 s, .int .i64 h, .int .i64 n, .int .i64 p]] w fun e w' => DTold w w' base R e (auC L) := by
  obtain ⟨d0, p1⟩ := pre_deed hc k s h n p
  obtain ⟨P, eP⟩ : ∃ P, w.heap.size = P := ⟨_, rfl⟩
  have hlt := hc.lt
  obtain ⟨wA, eA⟩ : ∃ wA, ((w.alloc (.cells #[.int .i64 k, .int .i64 s, .int .i64 h, .int .i64 n, .int .i64 p] 38)).alloc (.cells #[.int .i64 0, .bool false, .int .i64 0] 35)) = wA := ⟨_, rfl⟩
  rw [eA] at d0 p1
  rw [eP] at d0 p1 hlt
  have EA : Hid _ := eA
  have EP : Hid (w.heap.size = P) := eP
  have D : Hid (Dd w wA base R L (P + 1) #[.int .i64 0, .bool false, .int .i64 0]) := d0
  have PP : Hid (Blk wA P #[.int .i64 k, .int .i64 s, .int .i64 h, .int .i64 n, .int .i64 p] 38) := p1
  clear eA eP d0 p1
  have HM := may_any D.out.c
  have HF : Hid (Fine L) := hf
  clear hc hf
  unfold auC
  by_cases hm : may_ L = false
  · rw [if_pos hm]
    rw [hm] at HM
    clear hm
    have z0 : wA.cell? ⟨P + 1, 0, none⟩ = some (.int .i64 0) := D.out.q.cell 0
    have z1 : wA.cell? ⟨P + 1, 1, none⟩ = some (.bool false) := D.out.q.cell 1
    have z2 : wA.cell? ⟨P + 1, 2, none⟩ = some (.int .i64 0) := D.out.q.cell 2
    have g0 := D.out.q.fz 0
    have g1 := D.out.q.fz 1
    have g2 := D.out.q.fz 2
    have ltQ := D.out.q.lt
    have ltR := D.out.c.lt
    go_enter Try.func47, Try.ntmps47
    go_wp2_with fail
    rw [EA.out, EP.out]
    refine HM.mono ?_
    rintro e w2 ⟨rfl, rfl⟩
    go_wp2
    have dd := D.out.store (.int .i64 50) (.bool false) (.int .i64 0)
    exact bodyPost_ret (results_cell_row rfl _ _ (P + 1) 35 _ _ _ rfl dd.q Try.underlying35 rfl (by kernel_rfl)) rfl ⟨rfl, dd.c, dd.o⟩
  · rw [if_neg hm]
    have hm' : may_ L = true := by simpa using hm
    rw [hm'] at HM
    have HB := begins_any D.out.c ⟨HF.out.bg.1, by unfold may_ at hm'; simp only [decide_eq_true_eq] at hm'; exact hm'.2.2⟩
    obtain ⟨bg, eb⟩ : ∃ bg, at_ L 33 + 1 = bg := ⟨_, rfl⟩
    rw [eb] at HB ⊢
    clear hm hm' eb
    go_enter Try.func47, Try.ntmps47
    go_wp2_with fail
    rw [EA.out, EP.out]
    refine HM.mono ?_
    rintro e w2 ⟨rfl, rfl⟩
    clear HM
    go_wp2_with fail
    refine HB.mono ?_
    clear HB
    rintro e w3 ⟨rfl, c3, o3⟩
    have D3 : Hid (Dd w w3 base R (L.set 33 bg) (P + 1) #[.int .i64 0, .bool false, .int .i64 0]) := D.out.only c3 o3
    have z0 : w3.cell? ⟨P + 1, 0, none⟩ = some (.int .i64 0) := D3.out.q.cell 0
    have z1 : w3.cell? ⟨P + 1, 1, none⟩ = some (.bool false) := D3.out.q.cell 1
    have z2 : w3.cell? ⟨P + 1, 2, none⟩ = some (.int .i64 0) := D3.out.q.cell 2
    have g0 := D3.out.q.fz 0
    have g1 := D3.out.q.fz 1
    have g2 := D3.out.q.fz 2
    have ltQ := D3.out.q.lt
    have ltR := D3.out.c.lt
    have v0 := c3.cell 40 (by omega)
    have v1 := c3.cell 41 (by omega)
    have h0 := c3.fz 40
    have h1 := c3.fz 41
    clear c3 o3
    generalize at_ (L.set 33 bg) 40 = u0 at *
    generalize at_ (L.set 33 bg) 41 = u1 at *
    go_wp2
    have dd := (((D3.out.set 40 bg).set 41 1).store (.int .i64 0) (.bool true) (.int .i64 bg)).alloc (.cells #[.int .i64 0, .bool true, .int .i64 bg] 35)
    exact bodyPost_ret (results_cell_row rfl _ _ (P + 1) 35 _ _ _ rfl dd.q Try.underlying35 rfl (by kernel_rfl)) rfl ⟨rfl, dd.c, dd.o⟩
set_option maxRecDepth 100000 in
set_option maxHeartbeats 1600000 in
theorem step_any (hc : CIn w base R L) (hf : Fine L) (k s h n p : Int) : Calls Try.prog 46 #[.pointer (some ⟨R, 0, none⟩), .agg #[.int .i64 k, .int .i64 s, .int .i64 h, .int .i64 n, .int .i64 p]] w fun e w' => DTold w w' base R e (stC L n p) := by
  obtain ⟨d0, p1⟩ := pre_deed hc k s h n p
  obtain ⟨P, eP⟩ : ∃ P, w.heap.size = P := ⟨_, rfl⟩
  have hlt := hc.lt
  obtain ⟨wA, eA⟩ : ∃ wA, ((w.alloc (.cells #[.int .i64 k, .int .i64 s, .int .i64 h, .int .i64 n, .int .i64 p] 38)).alloc (.cells #[.int .i64 0, .bool false, .int .i64 0] 35)) = wA := ⟨_, rfl⟩
  rw [eA] at d0 p1
  rw [eP] at d0 p1 hlt
  have EA : Hid _ := eA
  have EP : Hid (w.heap.size = P) := eP
  have D : Hid (Dd w wA base R L (P + 1) #[.int .i64 0, .bool false, .int .i64 0]) := d0
  have PP : Hid (Blk wA P #[.int .i64 k, .int .i64 s, .int .i64 h, .int .i64 n, .int .i64 p] 38) := p1
  have y3 : wA.cell? ⟨P, 3, none⟩ = some (.int .i64 n) := p1.cell 3
  have y4 : wA.cell? ⟨P, 4, none⟩ = some (.int .i64 p) := p1.cell 4
  clear eA eP d0 p1
  have z0 : wA.cell? ⟨P + 1, 0, none⟩ = some (.int .i64 0) := D.out.q.cell 0
  have z1 : wA.cell? ⟨P + 1, 1, none⟩ = some (.bool false) := D.out.q.cell 1
  have z2 : wA.cell? ⟨P + 1, 2, none⟩ = some (.int .i64 0) := D.out.q.cell 2
  have g0 := D.out.q.fz 0
  have g1 := D.out.q.fz 1
  have g2 := D.out.q.fz 2
  have ltQ := D.out.q.lt
  have ltR := D.out.c.lt
  have HF : Hid (Fine L) := hf
  have c34 := D.out.c.cell 34 (by omega)
  have h34 := D.out.c.fz 34
  have c35 := D.out.c.cell 35 (by omega)
  have h35 := D.out.c.fz 35
  have c36 := D.out.c.cell 36 (by omega)
  have h36 := D.out.c.fz 36
  have c37 := D.out.c.cell 37 (by omega)
  have h37 := D.out.c.fz 37
  have c38 := D.out.c.cell 38 (by omega)
  have h38 := D.out.c.fz 38
  have c39 := D.out.c.cell 39 (by omega)
  have h39 := D.out.c.fz 39
  clear hc hf
  unfold stC
  have HS := HF.out.sl
  generalize at_ L 34 = ms at *
  generalize at_ L 35 = mf at *
  generalize at_ L 36 = mt at *
  generalize at_ L 37 = me at *
  generalize at_ L 38 = mp at *
  generalize at_ L 39 = mn at *
  by_cases h0 : mp = 0
  · subst h0
    clear HS
    rw [if_pos (.inl rfl)]
    go_enter Try.func46, Try.ntmps46
    go_wp2
    rw [EA.out, EP.out]
    go_quiet (fail)
    go_wp2
    have dd := (D.out.drewN nq).store (.int .i64 5) (.bool false) (.int .i64 0)
    exact bodyPost_ret (results_cell_row rfl _ _ (P + 1) 35 _ _ _ rfl dd.q Try.underlying35 rfl (by kernel_rfl)) rfl ⟨rfl, dd.c, dd.o⟩
  · by_cases h1 : mp = p
    · by_cases h2 : mn = n
      · rw [if_neg (fun x => x.elim h0 fun x => x.elim (fun y => y h1) fun y => y h2)]
        subst h1
        subst h2
        by_cases k1 : mp = 1
        · rw [if_pos k1]
          subst k1
          clear HS
          go_enter Try.func46, Try.ntmps46
          go_wp2
          rw [EA.out, EP.out]
          go_quiet (fail)
          go_wp2
          have dd := ((D.out.drewN nq).set 38 2).store (.int .i64 0) (.bool false) (.int .i64 mn)
          exact bodyPost_ret (results_cell_row rfl _ _ (P + 1) 35 _ _ _ rfl dd.q Try.underlying35 rfl (by kernel_rfl)) rfl ⟨rfl, dd.c, dd.o⟩
        · rw [if_neg k1]
          by_cases k2 : mp = 2
          · rw [if_pos k2]
            obtain ⟨sn, rfl⟩ : ∃ sn : Nat, ms = (sn : Int) := ⟨ms.toNat, by have := HS k2; omega⟩
            have hsn : sn < 16 := by have := HS k2; omega
            subst k2
            clear HS
            have s1 := D.out.c.cell (1 + sn * 2) (by omega)
            have s2 := D.out.c.cell (1 + sn * 2 + 1) (by omega)
            have s3 := D.out.c.fz (1 + sn * 2)
            have s4 := D.out.c.fz (1 + sn * 2 + 1)
            generalize at_ L (1 + sn * 2) = so at *
            generalize at_ L (1 + sn * 2 + 1) = se at *
            go_enter Try.func46, Try.ntmps46
            go_wp2
            rw [EA.out, EP.out]
            go_quiet (fail)
            go_wp2
            go_region
            go_wp2
            have dd := (((((D.out.drewN (nq + 1)).set (1 + sn * 2) mt).set (1 + sn * 2 + 1) me).set 38 3)).store (.int .i64 0) (.bool false) (.int .i64 mn)
            exact bodyPost_ret (results_cell_row rfl _ _ (P + 1) 35 _ _ _ rfl dd.q Try.underlying35 rfl (by kernel_rfl)) rfl ⟨rfl, dd.c, dd.o⟩
          · rw [if_neg k2]
            by_cases k3 : mp = 3
            · rw [if_pos k3]
              subst k3
              clear HS
              go_enter Try.func46, Try.ntmps46
              go_wp2
              rw [EA.out, EP.out]
              go_quiet (fail)
              go_wp2
              have dd := ((((((D.out.drewN nq).set 34 0).set 35 0).set 36 0).set 37 0).set 38 0 |>.set 39 0).store (.int .i64 0) (.bool false) (.int .i64 mn)
              exact bodyPost_ret (results_cell_row rfl _ _ (P + 1) 35 _ _ _ rfl dd.q Try.underlying35 rfl (by kernel_rfl)) rfl ⟨rfl, dd.c, dd.o⟩
            · rw [if_neg k3]
              clear HS
              go_enter Try.func46, Try.ntmps46
              go_wp2
              rw [EA.out, EP.out]
              go_quiet (fail)
              go_wp2
              have dd := (D.out.drewN nq).store (.int .i64 0) (.bool false) (.int .i64 mn)
              exact bodyPost_ret (results_cell_row rfl _ _ (P + 1) 35 _ _ _ rfl dd.q Try.underlying35 rfl (by kernel_rfl)) rfl ⟨rfl, dd.c, dd.o⟩
      · clear HS
        subst h1
        have h2' : ((mn : Int) != n) = true := by simpa using h2
        rw [if_pos (.inr (.inr h2))]
        go_enter Try.func46, Try.ntmps46
        go_wp2
        rw [EA.out, EP.out]
        go_quiet (fail)
        go_wp2
        have dd := (D.out.drewN nq).store (.int .i64 5) (.bool false) (.int .i64 0)
        exact bodyPost_ret (results_cell_row rfl _ _ (P + 1) 35 _ _ _ rfl dd.q Try.underlying35 rfl (by kernel_rfl)) rfl ⟨rfl, dd.c, dd.o⟩
    · clear HS
      rw [if_pos (.inr (.inl h1))]
      go_enter Try.func46, Try.ntmps46
      go_wp2
      rw [EA.out, EP.out]
      go_quiet (fail)
      go_wp2
      have dd := (D.out.drewN nq).store (.int .i64 5) (.bool false) (.int .i64 0)
      exact bodyPost_ret (results_cell_row rfl _ _ (P + 1) 35 _ _ _ rfl dd.q Try.underlying35 rfl (by kernel_rfl)) rfl ⟨rfl, dd.c, dd.o⟩
end
end Go.Proofs.Ytpdgmlljjjeifaa
