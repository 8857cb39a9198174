/- NetNil. -/
import Derived.Test.YtginkikkenegkaaNNil
namespace Go.Proofs.Ytginkikkenegkaa
open Go.RowKit Go.Maps Go.Shelf
attribute [local go_sem] Oper.semAt_some
set_option linter.unusedVariables false

theorem neq_func (w : World) (f : Fn) (lb : Array Value) : (binOp .neq 45 (.func f #[] lb) .nilFunc).run Try.prog w = .ok (.bool true) w := by
  have hu := run_underlying (w := w) Try.underlying45
  have h : ∀ d : Nat, (Op.equalIn (d + 1) 45 (.func f #[] lb) .nilFunc).run Try.prog w = .ok false w := fun d => by
    simp [Op.equalIn, hu]
  simp only [binOp]
  simp [Op.equal, Op.maxDepth, h 9999]
set_option maxRecDepth 100000 in
set_option maxHeartbeats 1600000 in
theorem all1_nil (n Bk : Nat) (w : World) (hc : w.cell? ⟨Bk, 0, none⟩ = some (.slice none 0 0)) : SeqR n Try.prog 38 #[.pointer (some ⟨Bk, 0, none⟩)] (fun _ : Unit => #[.agg #[]]) (fun _ _ => True) (fun _ _ _ => False) (fun xs => xs = []) (fun _ => False) w := by
  intro l J Jx W hW hJ hJx hY h0
  have cW : W.cell? ⟨Bk, 0, none⟩ = some (.slice none 0 0) := by rw [hW.cell (p := ⟨Bk, 0, none⟩) (World.block_lt_of_cell? w _ hc)]; exact hc
  have H0 : Hid (J [] W) := h0
  refine (callsIn_wide (n := n)).2 ?_
  clear hW hJ hJx hY h0 hc
  show Calls Try.prog 38 #[.func (.yield l) #[] #[], .pointer (some ⟨Bk, 0, none⟩)] W _
  go_enter Try.func38, Try.ntmps38
  go_wp2
  go_loopw [7] (fun i wr => i = .int .i64 0 ∧ wr = W) (fun _ _ => 0)
  case atStart => exact ⟨rfl, rfl⟩
  case round =>
    obtain ⟨rfl, rfl⟩ := hrel
    go_wp2
    exact bodyPost_end (results_none rfl _ _ _) rfl ⟨⟨_, rfl⟩, .inl ⟨[], rfl, H0.out⟩⟩
set_option maxRecDepth 100000 in
set_option maxHeartbeats 4000000 in
theorem netNil_any (k : Int) (a : Option Addr) (n c : Nat) (w : World) : Calls Try.prog 5 #[.int .i64 k, .slice a n c] w fun e w' => e = .returned (.bool true) ∧ Below w.heap.size w w' := by
  refine (callsIn_wide (n := 5)).1 ?_
  refine callsIn_of_wp_marks Try.func5 rfl trivial ?_ rfl
  refine wpIn_wide.2 ?_
  simp only [Try.ntmps5, List.size_toArray, List.length_cons, List.length_nil, Nat.reduceAdd, Nat.reduceSub, Array.replicate_succ, Array.replicate_zero, List.push_toArray, List.append_toArray, List.nil_append, List.cons_append]
  have hnf := neq_func
  go_wp2_with fail
  refine (look_nilN k w).mono ?_
  rintro e w1 ⟨rfl, b1⟩
  have bA := (Below.refl _ w1).alloc (Nat.le_refl _) (.cells #[.int .i64 0, .int .i64 0, .slice none 0 0] 40)
  have r1 := row3 w1 (.int .i64 0) (.int .i64 0) (.slice none 0 0)
  obtain ⟨wA, eA⟩ : ∃ wA, w1.alloc (.cells #[.int .i64 0, .int .i64 0, .slice none 0 0] 40) = wA := ⟨_, rfl⟩
  rw [eA] at bA r1
  have BA : Hid (Below w.heap.size w wA) := b1.trans (bA.mono b1.size)
  obtain ⟨P1, eP1⟩ : ∃ P1, w1.heap.size = P1 := ⟨_, rfl⟩
  rw [eP1] at r1
  have R1 : Hid (wA.heap[P1]? = some (.cells #[.int .i64 0, .int .i64 0, .slice none 0 0] 40 (0, 0))) := r1
  have HTk := take_nilN k wA
  have EA : Hid _ := eA
  have EP1 : Hid _ := eP1
  clear b1 bA r1 eA eP1
  go_wp2_with fail
  rw [show _ = wA from EA.out]
  try rw [show w1.heap.size = P1 from EP1.out]
  refine HTk.mono ?_
  rintro e w2 ⟨rfl, b2⟩
  clear HTk EA EP1
  have bB := ((Below.refl _ w2).alloc (Nat.le_refl _) (.cells #[.int .i64 0, .int .i64 0, .slice none 0 0] 40)).alloc (by simp) (.cells #[.int .i64 0] 3)
  have r2 := row3 w2 (.int .i64 0) (.int .i64 0) (.slice none 0 0)
  have r2' := (((Below.refl _ (w2.alloc (.cells #[.int .i64 0, .int .i64 0, .slice none 0 0] 40))).alloc (Nat.le_refl _) (.cells #[.int .i64 0] 3)).block w2.heap.size (by simp)).trans r2
  have r3 := heap_alloc_new (w2.alloc (.cells #[.int .i64 0, .int .i64 0, .slice none 0 0] 40)) (.cells #[.int .i64 0] 3)
  rw [show (w2.alloc (.cells #[.int .i64 0, .int .i64 0, .slice none 0 0] 40)).heap.size = w2.heap.size + 1 by simp] at r3
  obtain ⟨wB, eB⟩ : ∃ wB, (w2.alloc (.cells #[.int .i64 0, .int .i64 0, .slice none 0 0] 40)).alloc (.cells #[.int .i64 0] 3) = wB := ⟨_, rfl⟩
  rw [eB] at bB r2' r3
  have BB : Hid (Below w.heap.size w wB) := (BA.out.trans (b2.mono BA.out.size)).trans (bB.mono (BA.out.trans (b2.mono BA.out.size)).size)
  have lt1 := (Array.getElem?_eq_some_iff.1 R1.out).1
  have R1B : Hid (wB.heap[P1]? = some (.cells #[.int .i64 0, .int .i64 0, .slice none 0 0] 40 (0, 0))) := by
    show _ = _
    rw [bB.block P1 (Nat.lt_of_lt_of_le lt1 b2.size), b2.block P1 lt1]
    exact R1.out
  obtain ⟨P2, eP2⟩ : ∃ P2, w2.heap.size = P2 := ⟨_, rfl⟩
  rw [eP2] at r2' r3
  have R2B : Hid (wB.heap[P2]? = some (.cells #[.int .i64 0, .int .i64 0, .slice none 0 0] 40 (0, 0)) ∧ wB.heap[P2 + 1]? = some (.cells #[.int .i64 0] 3 (0, 0))) := ⟨r2', r3⟩
  have HAl := all_nilN wB
  have EB : Hid _ := eB
  have EP2 : Hid _ := eP2
  clear bB r2 r2' r3 lt1 b2 R1 BA eB eP2
  go_wp2_with fail
  rw [show _ = wB from EB.out]
  try rw [show w2.heap.size = P2 from EP2.out]
  refine HAl.mono ?_
  rintro e w3 ⟨rfl, hw3⟩
  clear HAl EB EP2
  have bC := (Below.refl _ wB).alloc (Nat.le_refl _) (.cells #[.slice none 0 0] 68)
  have q3 := heap_alloc_new wB (.cells #[.slice none 0 0] 68)
  rw [← hw3] at bC q3
  have c3 : w3.cell? ⟨wB.heap.size, 0, none⟩ = some (.slice none 0 0) := by unfold World.cell?; simp only [q3]; rfl
  have C3 : Hid _ := c3
  have BC : Hid (Below w.heap.size w w3) := BB.out.trans (bC.mono BB.out.size)
  have R1C : Hid (w3.heap[P1]? = some (.cells #[.int .i64 0, .int .i64 0, .slice none 0 0] 40 (0, 0))) := (bC.block P1 (Array.getElem?_eq_some_iff.1 R1B.out).1).trans R1B.out
  have R2C : Hid (w3.heap[P2]? = some (.cells #[.int .i64 0, .int .i64 0, .slice none 0 0] 40 (0, 0)) ∧ w3.heap[P2 + 1]? = some (.cells #[.int .i64 0] 3 (0, 0))) := ⟨(bC.block P2 (Array.getElem?_eq_some_iff.1 R2B.out.1).1).trans R2B.out.1, (bC.block (P2 + 1) (Array.getElem?_eq_some_iff.1 R2B.out.2).1).trans R2B.out.2⟩
  obtain ⟨P3, eP3⟩ : ∃ P3, wB.heap.size = P3 := ⟨_, rfl⟩
  rw [eP3] at C3
  rw [eP3]
  clear bC q3 c3 hw3 R1B R2B BB eP3
  go_wp2_with fail
  refine (wpIn_wide (n := 5)).1 ?_
  refine range_R (n := 5) (gf := 38) (lb := #[.pointer (some ⟨P3, 0, none⟩)]) (w0 := w3) rfl (enters_of Try.func38 (by kernel_rfl) rfl) (all1_nil 4 P3 w3 C3.out) (fun _ _ => trivial) (fun _ _ _ _ _ _ => trivial) (Below.refl _ _) (fun _ => rfl)
    (fun _ X => Below w3.heap.size w3 X) (fun _ _ _ => False) (fun _ X Y h b => h.trans b) (fun _ _ _ _ h _ => h) (Below.refl _ _) (fun _ _ _ _ => False) (fun _ _ _ _ _ _ _ h _ _ => h) (fun _ _ _ _ _ _ h _ => h.elim) (fun _ _ _ _ _ _ h => h.elim) ?done (fun _ _ _ _ _ h _ _ => h.elim)
  intro D xs X hD hS hX hK
  have HK : Hid (X.heap[D]? = some (.deferred (some []))) := hK
  have HX : Hid (Below w.heap.size w X) := BC.out.trans (hX.mono BC.out.size)
  have HD : Hid (w3.heap.size ≤ D) := hD
  have R1X : Hid (X.heap[P1]? = some (.cells #[.int .i64 0, .int .i64 0, .slice none 0 0] 40 (0, 0))) := (hX.block P1 (Array.getElem?_eq_some_iff.1 R1C.out).1).trans R1C.out
  have R2X : Hid (X.heap[P2]? = some (.cells #[.int .i64 0, .int .i64 0, .slice none 0 0] 40 (0, 0)) ∧ X.heap[P2 + 1]? = some (.cells #[.int .i64 0] 3 (0, 0))) := ⟨(hX.block P2 (Array.getElem?_eq_some_iff.1 R2C.out.1).1).trans R2C.out.1, (hX.block (P2 + 1) (Array.getElem?_eq_some_iff.1 R2C.out.2).1).trans R2C.out.2⟩
  clear hS hX hK hD R1C R2C C3
  go_wp2_with (first | (refine wpList_load_row rfl 40 (.tmp 6) rfl P1 rfl 40 #[.int .i64 0, .int .i64 0, .slice none 0 0] (0, 0) _ R1X.out Try.underlying40 rfl (by kernel_rfl) ?_) | fail)
  refine (as_any 0 0 none 0 0 X).mono ?_
  rintro e x1 ⟨rfl, y1⟩
  have sn : ∀ W : World, Seen W none ([] : List (BitVec 8)).length [] := fun W => ⟨rfl, by simp, .inl rfl⟩
  have SM : ∀ W : World, Calls Try.prog 17 #[.agg #[.int .i64 0, .int .i64 0, .slice none 0 0], .agg #[.int .i64 0, .int .i64 0, .slice none 0 0]] W fun e w' => e = .returned (.bool true) ∧ Below W.heap.size W w' := fun W => same_same 0 0 none none 0 0 [] W (sn W) (sn W)
  clear sn
  go_wp2_with fail
  refine (SM x1).mono ?_
  rintro e x2 ⟨rfl, y2⟩
  have b2 := y1.trans (y2.mono y1.size)
  have R2Y : Hid (x2.heap[P2]? = some (.cells #[.int .i64 0, .int .i64 0, .slice none 0 0] 40 (0, 0))) := (b2.block P2 (Array.getElem?_eq_some_iff.1 R2X.out.1).1).trans R2X.out.1
  have Z2 : Hid (Below X.heap.size X x2) := b2
  have z0 : x2.cell? ⟨P2, 0, none⟩ = some (.int .i64 0) := by have := R2Y.out; unfold World.cell?; simp only [this]; rfl
  have z1 : x2.cell? ⟨P2, 1, none⟩ = some (.int .i64 0) := by have := R2Y.out; unfold World.cell?; simp only [this]; rfl
  have z2 : x2.cell? ⟨P2, 2, none⟩ = some (.slice none 0 0) := by have := R2Y.out; unfold World.cell?; simp only [this]; rfl
  clear b2 y1 y2
  go_wp2_with fail
  refine (as_any 0 0 none 0 0 x2).mono ?_
  rintro e x3 ⟨rfl, y3⟩
  clear z0 z1 z2 R2Y
  go_wp2_with fail
  refine (SM x3).mono ?_
  rintro e x4 ⟨rfl, y4⟩
  have Z4 : Hid (Below X.heap.size X x4) := (Z2.out.trans (y3.mono Z2.out.size)).trans (y4.mono (Z2.out.trans (y3.mono Z2.out.size)).size)
  clear y3 y4 Z2 SM
  go_wp2_with fail
  refine (send_nilN 0 1 a n c x4).mono ?_
  rintro e x5 ⟨rfl, hx⟩
  subst x5
  go_wp2_with fail
  refine (drop_nilN k x4).mono ?_
  rintro e x5 ⟨rfl, y5⟩
  go_wp2_with fail
  refine (double_nilN k x5).mono ?_
  rintro e x6 ⟨rfl, y6⟩
  have Z6 : Hid (Below X.heap.size X x6) := (Z4.out.trans (y5.mono Z4.out.size)).trans (y6.mono (Z4.out.trans (y5.mono Z4.out.size)).size)
  clear y5 y6 Z4
  go_wp2_with fail
  refine (len_nilN x6).mono ?_
  rintro e x7 ⟨rfl, hx⟩
  subst x7
  go_wp2_with fail
  refine (to_nilN k x6).mono ?_
  rintro e x7 ⟨rfl, hx⟩
  subst x7
  have z0 : x6.cell? ⟨P2 + 1, 0, none⟩ = some (.int .i64 0) := by have := (Z6.out.block (P2 + 1) (Array.getElem?_eq_some_iff.1 R2X.out.2).1).trans R2X.out.2; unfold World.cell?; simp only [this]; rfl
  go_wp2_with fail
  refine (knownN_any x6).mono ?_
  rintro e x7 ⟨rfl, y7⟩
  have Z7 := Z6.out.trans (y7.mono Z6.out.size)
  have K7 : Hid (x7.heap[D]? = some (.deferred (some []))) := (Z7.block D (Array.getElem?_eq_some_iff.1 HK.out).1).trans HK.out
  have B7 : Hid (Below w.heap.size w x7) := HX.out.trans (Z7.mono HX.out.size)
  have DD : Hid (w.heap.size ≤ D) := Nat.le_trans BC.out.size HD.out
  clear z0 y7 Z6 Z7 HX
  go_wp2
  refine ⟨by simp, .inl ⟨_, _, rfl, run_takeDeferred K7.out, ?_⟩⟩
  refine ⟨_, results_tmp rfl _ _ _, rfl, B7.out.grown (grownBy_putObj' x7 D _) B7.out.size (fun j e => by cases e; exact DD.out)⟩
end Go.Proofs.Ytginkikkenegkaa
