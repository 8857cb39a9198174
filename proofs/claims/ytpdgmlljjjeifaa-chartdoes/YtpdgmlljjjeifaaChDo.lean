/- Package chart: Do. Written by gen_do.py. -/
import Derived.Test.YtpdgmlljjjeifaaChMove
namespace Go.Proofs.Ytpdgmlljjjeifaa
open Go.RowKit
attribute [local go_sem] Oper.semAt_some
set_option linter.unusedVariables false
/-- The rows of deeds. -/
def deedsA (R : Nat) : Array Value := #[.int .i64 1, .func (.func 45) #[.pointer (some ⟨R, 0, none⟩)] #[], .int .i64 2, .func (.func 46) #[.pointer (some ⟨R, 0, none⟩)] #[], .int .i64 3, .func (.func 47) #[.pointer (some ⟨R, 0, none⟩)] #[], .int .i64 4, .func (.func 48) #[.pointer (some ⟨R, 0, none⟩)] #[], .int .i64 5, .func (.func 49) #[.pointer (some ⟨R, 0, none⟩)] #[]]
def fnOf (R : Nat) (m : Nat) : Nat := match m with | 0 => 45 | 1 => 46 | 2 => 47 | 3 => 48 | _ => 49
theorem deedsA_get (R : Nat) : ∀ m, m < 5 → (deedsA R)[m * 2]? = some (.int .i64 ((m : Int) + 1)) ∧ (deedsA R)[m * 2 + 1]? = some (.func (.func (fnOf R m)) #[.pointer (some ⟨R, 0, none⟩)] #[])
  | 0, _ => ⟨rfl, rfl⟩
  | 1, _ => ⟨rfl, rfl⟩
  | 2, _ => ⟨rfl, rfl⟩
  | 3, _ => ⟨rfl, rfl⟩
  | 4, _ => ⟨rfl, rfl⟩
theorem fnOf_enter (R : Nat) : ∀ m, m < 5 → ∀ args w, (callFunc (fnOf R m) args).run Try.prog w = .ok (.enter (fnOf R m) args) w
  | 0, _ => fun _ _ => by kernel_rfl
  | 1, _ => fun _ _ => by kernel_rfl
  | 2, _ => fun _ _ => by kernel_rfl
  | 3, _ => fun _ _ => by kernel_rfl
  | 4, _ => fun _ _ => by kernel_rfl
theorem run_store_fn (P : Program) (w : World) (a : Addr) (f : Fn) (x y : Array Value) (m : Mode) : (store a (.func f x y) m).run P w = stored P w a (.func f x y) m := run_store P w a _ m rfl
attribute [local go_sem] run_store_fn
section
variable {w w' : World} {base R : Nat} {L : List Int}
set_option maxRecDepth 100000 in
set_option maxHeartbeats 1600000 in
theorem deeds_any (w : World) (R : Nat) : Calls Try.prog 33 #[.pointer (some ⟨R, 0, none⟩)] w fun e w' => e = .returned (.slice (some ⟨w.heap.size, 0, none⟩) 5 5) ∧ w' = w.alloc (.cells (deedsA R) 82) := by
  go_enter Try.func33, Try.ntmps33
  go_wp2
  go_ret
  exact ⟨rfl, rfl⟩
set_option maxRecDepth 100000 in
set_option maxHeartbeats 1600000 in
theorem do_at (hc : CIn w base R L) (k s h n p : Int) (m : Nat) (hm : m < 5) (hk : k = (m : Int) + 1) (x : Rs × List Int) (HC : ∀ W, CIn W base R L → Calls Try.prog (fnOf R m) #[.pointer (some ⟨R, 0, none⟩), .agg #[.int .i64 k, .int .i64 s, .int .i64 h, .int .i64 n, .int .i64 p]] W fun e w' => DTold W w' base R e x) : Calls Try.prog 15 #[.pointer (some ⟨R, 0, none⟩), .agg #[.int .i64 k, .int .i64 s, .int .i64 h, .int .i64 n, .int .i64 p]] w fun e w' => DTold w w' base R e x := by
  obtain ⟨d0, p1⟩ := pre_deed hc k s h n p
  obtain ⟨P, eP⟩ : ∃ P, w.heap.size = P := ⟨_, rfl⟩
  have hlt := hc.lt
  obtain ⟨wA, eA⟩ : ∃ wA, ((w.alloc (.cells #[.int .i64 k, .int .i64 s, .int .i64 h, .int .i64 n, .int .i64 p] 38)).alloc (.cells #[.int .i64 0, .bool false, .int .i64 0] 35)) = wA := ⟨_, rfl⟩
  rw [eA] at d0 p1
  rw [eP] at d0 p1 hlt
  have EA : Hid _ := eA
  have EP : Hid (w.heap.size = P) := eP
  have D : Hid (Dd w wA base R L (P + 1) #[.int .i64 0, .bool false, .int .i64 0]) := d0
  have PP : Hid (Blk wA P #[.int .i64 k, .int .i64 s, .int .i64 h, .int .i64 n, .int .i64 p] 38) := p1
  have y0 : wA.cell? ⟨P, 0, none⟩ = some (.int .i64 k) := p1.cell 0
  clear eA eP d0 p1
  have HD := deeds_any wA R
  have d1 := D.out.alloc (.cells (deedsA R) 82)
  have p1 := PP.out.alloc (.cells (deedsA R) 82)
  have b1 := Blk.new wA (deedsA R) 82
  obtain ⟨w1, e1⟩ : ∃ w1, wA.alloc (.cells (deedsA R) 82) = w1 := ⟨_, rfl⟩
  obtain ⟨B, eB⟩ : ∃ B, wA.heap.size = B := ⟨_, rfl⟩
  rw [e1] at d1 p1 b1 HD
  rw [eB] at b1 HD
  have H1 : Hid (Dd w w1 base R L (P + 1) #[.int .i64 0, .bool false, .int .i64 0] ∧ Blk w1 P #[.int .i64 k, .int .i64 s, .int .i64 h, .int .i64 n, .int .i64 p] 38 ∧ Blk w1 B (deedsA R) 82) := ⟨d1, p1, b1⟩
  obtain ⟨⟨why, wt, nn⟩, L2⟩ := x
  have HCC : Hid _ := HC
  have HCF : Hid _ := fnOf_enter R m hm
  have HM : Hid (m < 5) := hm
  have HK : Hid (k = (m : Int) + 1) := hk
  clear hc HC d1 p1 b1 e1 eB D PP y0 hk hm
  go_enter Try.func15, Try.ntmps15
  go_wp2_with fail
  rw [EA.out, EP.out]
  refine HD.mono ?_
  clear HD
  rintro e w2 ⟨rfl, rfl⟩
  go_wp2_with fail
  go_loopw [13] (fun i wr => ∃ j : Nat, j ≤ m ∧ i = .int .i64 (j : Int) ∧ Hid (Dd w wr base R L (P + 1) #[.int .i64 0, .bool false, .int .i64 0] ∧ Blk wr P #[.int .i64 k, .int .i64 s, .int .i64 h, .int .i64 n, .int .i64 p] 38 ∧ Blk wr B (deedsA R) 82)) (fun i _ => 5 - (intOf i).toNat)
  case atStart => exact ⟨0, by omega, rfl, H1⟩
  case round =>
    obtain ⟨j, hj, rfl, HH⟩ := hrel
    clear H1
    have q0 : decide ((j : Int) < 5) = true := decide_eq_true (by have := HM.out; omega)
    have q3 : wrap64 ((j : Int) + 1) = ((j + 1 : Nat) : Int) := by have := HM.out; unfold wrap64; omega
    have y0 : wr.cell? ⟨P, 0, none⟩ = some (.int .i64 k) := HH.out.2.1.cell 0
    have u0 := HH.out.2.2.cell (j * 2)
    have u1 := HH.out.2.2.cell (j * 2 + 1)
    rw [(deedsA_get R j (by have := HM.out; omega)).1] at u0
    rw [(deedsA_get R j (by have := HM.out; omega)).2] at u1
    have ltP := HH.out.2.1.lt
    have ltB := HH.out.2.2.lt
    have hj5 : j < 5 := by have := HM.out; omega
    by_cases hjm : j < m
    · have hne : ¬ ((j : Int) + 1 = k) := by have := HK.out; omega
      have hne' : ((j : Int) + 1 == k) = false := by simpa using hne
      have HJ : Hid (j < m) := hjm
      clear hjm hj
      go_wp2
      go_roundw
      case rel => exact ⟨j + 1, by have := HJ.out; omega, by simp, ⟨HH.out.1.alloc _, HH.out.2.1.alloc _, HH.out.2.2.alloc _⟩⟩
      case measure => simp only [intOf]; omega
    · obtain rfl : j = m := by omega
      have heq : (j : Int) + 1 = k := HK.out.symm
      have heq' : ((j : Int) + 1 == k) = true := by simpa using heq
      have y1 : wr.cell? ⟨P, 1, none⟩ = some (.int .i64 s) := HH.out.2.1.cell 1
      have y2 : wr.cell? ⟨P, 2, none⟩ = some (.int .i64 h) := HH.out.2.1.cell 2
      have y3 : wr.cell? ⟨P, 3, none⟩ = some (.int .i64 n) := HH.out.2.1.cell 3
      have y4 : wr.cell? ⟨P, 4, none⟩ = some (.int .i64 p) := HH.out.2.1.cell 4
      have hcf := HCF.out
      clear hjm hj q3
      go_wp2_with fail
      refine (HCC.out _ (HH.out.1.alloc _).c).mono ?_
      rintro e w5 ⟨rfl, c5, o5⟩
      have D5 : Hid (Dd w w5 base R L2 (P + 1) #[.int .i64 0, .bool false, .int .i64 0]) := (HH.out.1.alloc _).only c5 o5
      have z0 : w5.cell? ⟨P + 1, 0, none⟩ = some (.int .i64 0) := D5.out.q.cell 0
      have z1 : w5.cell? ⟨P + 1, 1, none⟩ = some (.bool false) := D5.out.q.cell 1
      have z2 : w5.cell? ⟨P + 1, 2, none⟩ = some (.int .i64 0) := D5.out.q.cell 2
      have g0 := D5.out.q.fz 0
      have g1 := D5.out.q.fz 1
      have g2 := D5.out.q.fz 2
      have ltQ := D5.out.q.lt
      have ltR := D5.out.c.lt
      clear c5 o5 u0 u1 y0 y1 y2 y3 y4 hcf heq heq' HCC HCF HK ltP ltB
      dsimp only [Rs.v]
      go_wp2
      have dd := D5.out.store (.int .i64 why) (.bool wt) (.int .i64 nn)
      exact bodyPost_ret (results_cell_row rfl _ _ (P + 1) 35 _ _ _ rfl dd.q Try.underlying35 rfl (by kernel_rfl)) rfl ⟨rfl, dd.c, dd.o⟩
set_option maxRecDepth 100000 in
set_option maxHeartbeats 1600000 in
theorem do_none (hc : CIn w base R L) (k s h n p : Int) (hk : ¬ (1 ≤ k ∧ k ≤ 5)) : Calls Try.prog 15 #[.pointer (some ⟨R, 0, none⟩), .agg #[.int .i64 k, .int .i64 s, .int .i64 h, .int .i64 n, .int .i64 p]] w fun e w' => DTold w w' base R e (⟨1, false, 0⟩, L) := by
  obtain ⟨d0, p1⟩ := pre_deed hc k s h n p
  obtain ⟨P, eP⟩ : ∃ P, w.heap.size = P := ⟨_, rfl⟩
  have hlt := hc.lt
  obtain ⟨wA, eA⟩ : ∃ wA, ((w.alloc (.cells #[.int .i64 k, .int .i64 s, .int .i64 h, .int .i64 n, .int .i64 p] 38)).alloc (.cells #[.int .i64 0, .bool false, .int .i64 0] 35)) = wA := ⟨_, rfl⟩
  rw [eA] at d0 p1
  rw [eP] at d0 p1 hlt
  have EA : Hid _ := eA
  have EP : Hid (w.heap.size = P) := eP
  have D : Hid (Dd w wA base R L (P + 1) #[.int .i64 0, .bool false, .int .i64 0]) := d0
  have PP : Hid (Blk wA P #[.int .i64 k, .int .i64 s, .int .i64 h, .int .i64 n, .int .i64 p] 38) := p1
  have y0 : wA.cell? ⟨P, 0, none⟩ = some (.int .i64 k) := p1.cell 0
  clear eA eP d0 p1
  have HD := deeds_any wA R
  have d1 := D.out.alloc (.cells (deedsA R) 82)
  have p1 := PP.out.alloc (.cells (deedsA R) 82)
  have b1 := Blk.new wA (deedsA R) 82
  obtain ⟨w1, e1⟩ : ∃ w1, wA.alloc (.cells (deedsA R) 82) = w1 := ⟨_, rfl⟩
  obtain ⟨B, eB⟩ : ∃ B, wA.heap.size = B := ⟨_, rfl⟩
  rw [e1] at d1 p1 b1 HD
  rw [eB] at b1 HD
  have H1 : Hid (Dd w w1 base R L (P + 1) #[.int .i64 0, .bool false, .int .i64 0] ∧ Blk w1 P #[.int .i64 k, .int .i64 s, .int .i64 h, .int .i64 n, .int .i64 p] 38 ∧ Blk w1 B (deedsA R) 82) := ⟨d1, p1, b1⟩
  have HK : Hid (¬ (1 ≤ k ∧ k ≤ 5)) := hk
  clear hc d1 p1 b1 e1 eB D PP y0 hk
  go_enter Try.func15, Try.ntmps15
  go_wp2_with fail
  rw [EA.out, EP.out]
  refine HD.mono ?_
  clear HD
  rintro e w2 ⟨rfl, rfl⟩
  go_wp2_with fail
  go_loopw [13] (fun i wr => ∃ j : Nat, j ≤ 5 ∧ i = .int .i64 (j : Int) ∧ Hid (Dd w wr base R L (P + 1) #[.int .i64 0, .bool false, .int .i64 0] ∧ Blk wr P #[.int .i64 k, .int .i64 s, .int .i64 h, .int .i64 n, .int .i64 p] 38 ∧ Blk wr B (deedsA R) 82)) (fun i _ => 5 - (intOf i).toNat)
  case atStart => exact ⟨0, by omega, rfl, H1⟩
  case round =>
    obtain ⟨j, hj, rfl, HH⟩ := hrel
    clear H1
    have y0 : wr.cell? ⟨P, 0, none⟩ = some (.int .i64 k) := HH.out.2.1.cell 0
    have ltP := HH.out.2.1.lt
    have ltB := HH.out.2.2.lt
    by_cases hj5 : j < 5
    · have q0 : decide ((j : Int) < 5) = true := decide_eq_true (by omega)
      have q3 : wrap64 ((j : Int) + 1) = ((j + 1 : Nat) : Int) := by unfold wrap64; omega
      have u0 := HH.out.2.2.cell (j * 2)
      have u1 := HH.out.2.2.cell (j * 2 + 1)
      rw [(deedsA_get R j hj5).1] at u0
      rw [(deedsA_get R j hj5).2] at u1
      have hne : ¬ ((j : Int) + 1 = k) := by have := HK.out; omega
      have hne' : ((j : Int) + 1 == k) = false := by simpa using hne
      clear hj
      go_wp2
      go_roundw
      case rel => exact ⟨j + 1, by omega, by simp, ⟨HH.out.1.alloc _, HH.out.2.1.alloc _, HH.out.2.2.alloc _⟩⟩
      case measure => simp only [intOf]; omega
    · obtain rfl : j = 5 := by omega
      have D5 : Hid (Dd w wr base R L (P + 1) #[.int .i64 0, .bool false, .int .i64 0]) := HH.out.1
      have z0 : wr.cell? ⟨P + 1, 0, none⟩ = some (.int .i64 0) := D5.out.q.cell 0
      have z1 : wr.cell? ⟨P + 1, 1, none⟩ = some (.bool false) := D5.out.q.cell 1
      have z2 : wr.cell? ⟨P + 1, 2, none⟩ = some (.int .i64 0) := D5.out.q.cell 2
      have g0 := D5.out.q.fz 0
      have g1 := D5.out.q.fz 1
      have g2 := D5.out.q.fz 2
      have ltQ := D5.out.q.lt
      have ltR := D5.out.c.lt
      clear hj hj5
      go_wp2
      have dd := D5.out.store (.int .i64 1) (.bool false) (.int .i64 0)
      exact bodyPost_ret (results_cell_row rfl _ _ (P + 1) 35 _ _ _ rfl dd.q Try.underlying35 rfl (by kernel_rfl)) rfl ⟨rfl, dd.c, dd.o⟩
/-- What Do does. -/
def doC (L : List Int) (k s h n p : Int) : Rs × List Int :=
  if k = 1 then mvC L s h else if k = 2 then stC L n p else if k = 3 then auC L else if k = 4 then cuC L n else if k = 5 then thC L n else (⟨1, false, 0⟩, L)
theorem do_any (hc : CIn w base R L) (hf : Fine L) (k s h n p : Int) : Calls Try.prog 15 #[.pointer (some ⟨R, 0, none⟩), .agg #[.int .i64 k, .int .i64 s, .int .i64 h, .int .i64 n, .int .i64 p]] w fun e w' => DTold w w' base R e (doC L k s h n p) := by
  unfold doC
  by_cases h1 : k = 1
  · rw [if_pos h1]; exact do_at hc k s h n p 0 (by omega) (by omega) _ fun W hW => beginMove_any hW hf k s h n p
  rw [if_neg h1]
  by_cases h2 : k = 2
  · rw [if_pos h2]; exact do_at hc k s h n p 1 (by omega) (by omega) _ fun W hW => step_any hW hf k s h n p
  rw [if_neg h2]
  by_cases h3 : k = 3
  · rw [if_pos h3]; exact do_at hc k s h n p 2 (by omega) (by omega) _ fun W hW => beginAudit_any hW hf k s h n p
  rw [if_neg h3]
  by_cases h4 : k = 4
  · rw [if_pos h4]; exact do_at hc k s h n p 3 (by omega) (by omega) _ fun W hW => cut_any hW k s h n p
  rw [if_neg h4]
  by_cases h5 : k = 5
  · rw [if_pos h5]; exact do_at hc k s h n p 4 (by omega) (by omega) _ fun W hW => thawed_any hW k s h n p
  rw [if_neg h5]
  exact do_none hc k s h n p (by omega)
set_option maxRecDepth 100000 in
set_option maxHeartbeats 1600000 in
theorem do_nil (k s h n p : Int) (w : World) : Calls Try.prog 15 #[.pointer none, .agg #[.int .i64 k, .int .i64 s, .int .i64 h, .int .i64 n, .int .i64 p]] w fun e w' => e = .returned (Rs.v ⟨2, false, 0⟩) ∧ Below w.heap.size w w' := by
  go_enter Try.func15, Try.ntmps15
  go_wp2
  exact bodyPost_ret (results_cell_row rfl _ _ (w.alloc (.cells #[.int .i64 k, .int .i64 s, .int .i64 h, .int .i64 n, .int .i64 p] 38)).heap.size 35 _ _ _ (by simp) (heap_alloc_new _ _) Try.underlying35 rfl (by kernel_rfl)) rfl ⟨rfl, ((Below.refl _ w).alloc (Nat.le_refl _) _).alloc (by simp) _⟩
end
end Go.Proofs.Ytpdgmlljjjeifaa
