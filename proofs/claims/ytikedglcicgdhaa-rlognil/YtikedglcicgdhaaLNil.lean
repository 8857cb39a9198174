/- RlogNil: the walk. -/
import Derived.Test.YtikedglcicgdhaaLKnown
import Derived.Test.YtikedglcicgdhaaRanges
namespace Go.Proofs.Ytikedglcicgdhaa
open Go.RowKit Go.Shelf
attribute [local go_sem] Oper.semAt_some
set_option linter.unusedVariables false

theorem neq_func (f : Fn) (first caps : Array Value) (w : World) : (binOp .neq 41 (.func f first caps) .nilFunc).run Try.prog w = .ok (.bool true) w := by
  have hu := run_underlying (P := Try.prog) (w := w) Try.underlying41
  have h : ∀ d, (Op.equalIn (d + 1) 41 (.func f first caps) .nilFunc).run Try.prog w = .ok false w := fun d => by
    simp [Op.equalIn, hu]
  simp only [binOp]
  simp [Op.equal, Op.maxDepth, h 9999]
set_option maxRecDepth 100000 in
set_option maxHeartbeats 1600000 in
theorem each1_nil (n Bk : Nat) (w : World) (hc : w.cell? ⟨Bk, 0, none⟩ = some (.pointer none)) : SeqR n Try.prog 33 #[.pointer (some ⟨Bk, 0, none⟩)] (fun _ : Unit => #[.int .i64 0, .agg #[]]) (fun _ _ => True) (fun _ _ _ => False) (fun xs => xs = []) (fun _ => False) w := by
  intro l J Jx W hW hJ hJx hY h0
  have cW : W.cell? ⟨Bk, 0, none⟩ = some (.pointer none) := by rw [hW.cell (p := ⟨Bk, 0, none⟩) (World.block_lt_of_cell? w _ hc)]; exact hc
  have H0 : Hid (J [] W) := h0
  refine (callsIn_wide (n := n)).2 ?_
  clear hW hJ hJx hY h0 hc
  show Calls Try.prog 33 #[.func (.yield l) #[] #[], .pointer (some ⟨Bk, 0, none⟩)] W _
  go_enter Try.func33, Try.ntmps33
  go_wp2
  exact bodyPost_ret (results_none rfl _ _ _) rfl ⟨⟨_, rfl⟩, .inl ⟨[], rfl, H0.out⟩⟩
set_option maxRecDepth 100000 in
set_option maxHeartbeats 4000000 in
theorem rlogNil_any (k : Int) (w : World) : Calls Try.prog 5 #[.int .i64 k] w fun e w' => e = .returned (.bool true) ∧ Below w.heap.size w w' := by
  refine (callsIn_wide (n := 5)).1 ?_
  refine callsIn_of_wp_marks Try.func5 rfl trivial ?_ rfl
  refine wpIn_wide.2 ?_
  simp only [Try.ntmps5, List.size_toArray, List.length_cons, List.length_nil, Nat.reduceAdd, Nat.reduceSub, Array.replicate_succ, Array.replicate_zero, List.push_toArray, List.append_toArray, List.nil_append, List.cons_append]
  have hnf := neq_func
  go_wp2_with fail
  refine (base_nil w).mono ?_
  rintro e w1 ⟨rfl, rfl⟩
  go_wp2_with fail
  refine (last_nil w1).mono ?_
  rintro e w2 ⟨rfl, rfl⟩
  go_wp2_with fail
  refine (term_nil w2 k).mono ?_
  rintro e w3 ⟨rfl, rfl⟩
  go_wp2_with fail
  refine (match_nil w3 k k).mono ?_
  rintro e w4 ⟨rfl, rfl⟩
  have bA := (Below.refl _ w4).alloc (Nat.le_refl _) (.cells #[.int .i64 0] 3)
  have r1 := heap_alloc_new w4 (.cells #[.int .i64 0] 3)
  obtain ⟨wA, eA⟩ : ∃ wA, w4.alloc (.cells #[.int .i64 0] 3) = wA := ⟨_, rfl⟩
  rw [eA] at bA r1
  have BA : Hid (Below w4.heap.size w4 wA) := bA
  obtain ⟨P1, eP1⟩ : ∃ P1, w4.heap.size = P1 := ⟨_, rfl⟩
  rw [eP1] at r1
  have R1 : Hid (wA.heap[P1]? = some (.cells #[.int .i64 0] 3 (0, 0))) := r1
  have EA : Hid _ := eA
  have EP1 : Hid _ := eP1
  clear bA r1 eA eP1
  go_wp2_with fail
  rw [show _ = wA from EA.out]
  try rw [show w4.heap.size = P1 from EP1.out]
  refine (each_nil wA).mono ?_
  rintro e w5 ⟨rfl, hw5⟩
  clear EA
  have bC := (Below.refl _ wA).alloc (Nat.le_refl _) (.cells #[.pointer none] 23)
  have q3 := heap_alloc_new wA (.cells #[.pointer none] 23)
  rw [← hw5] at bC q3
  have c3 : w5.cell? ⟨wA.heap.size, 0, none⟩ = some (.pointer none) := by unfold World.cell?; simp only [q3]; rfl
  have C3 : Hid _ := c3
  have BC : Hid (Below w4.heap.size w4 w5) := BA.out.trans (bC.mono BA.out.size)
  have R1C : Hid (w5.heap[P1]? = some (.cells #[.int .i64 0] 3 (0, 0))) := (bC.block P1 (Array.getElem?_eq_some_iff.1 R1.out).1).trans R1.out
  obtain ⟨P3, eP3⟩ : ∃ P3, wA.heap.size = P3 := ⟨_, rfl⟩
  rw [eP3] at C3
  rw [eP3]
  clear bC q3 c3 hw5 R1 BA eP3
  go_wp2_with fail
  refine (wpIn_wide (n := 5)).1 ?_
  refine range_R (n := 5) (gf := 33) (lb := #[.pointer (some ⟨P3, 0, none⟩)]) (w0 := w5) rfl (enters_of Try.func33 (by kernel_rfl) rfl) (each1_nil 4 P3 w5 C3.out) (fun _ _ => trivial) (fun _ _ _ _ _ _ => trivial) (Below.refl _ _) (fun _ => rfl)
    (fun _ X => Below w5.heap.size w5 X) (fun _ _ _ => False) (fun _ X Y h b => h.trans b) (fun _ _ _ _ h _ => h) (Below.refl _ _) (fun _ _ _ _ => False) (fun _ _ _ _ _ _ _ h _ _ => h) (fun _ _ _ _ _ _ h _ => h.elim) (fun _ _ _ _ _ _ h => h.elim) ?done (fun _ _ _ _ _ h _ _ => h.elim)
  intro D xs X hD hS hX hK
  have HK : Hid (X.heap[D]? = some (.deferred (some []))) := hK
  have HX : Hid (Below w4.heap.size w4 X) := BC.out.trans (hX.mono BC.out.size)
  have HD : Hid (w5.heap.size ≤ D) := hD
  have R1X : Hid (X.heap[P1]? = some (.cells #[.int .i64 0] 3 (0, 0))) := (hX.block P1 (Array.getElem?_eq_some_iff.1 R1C.out).1).trans R1C.out
  have z0 : X.cell? ⟨P1, 0, none⟩ = some (.int .i64 0) := by have := R1X.out; unfold World.cell?; simp only [this]; rfl
  clear hS hX hK hD R1C C3
  go_wp2_with fail
  refine (append_nil X).mono ?_
  rintro e x1 ⟨rfl, rfl⟩
  go_wp2_with fail
  refine (cut_nil x1 k).mono ?_
  rintro e x2 ⟨rfl, rfl⟩
  go_wp2_with fail
  refine (compact_nil x2 k).mono ?_
  rintro e x3 ⟨rfl, rfl⟩
  go_wp2_with fail
  refine (len_nil x3).mono ?_
  rintro e x4 ⟨rfl, rfl⟩
  go_wp2_with fail
  refine (part_nil x4 k 1).mono ?_
  rintro e x5 ⟨rfl, rfl⟩
  go_wp2_with fail
  refine (newer_nil x5 k k).mono ?_
  rintro e x6 ⟨rfl, rfl⟩
  go_wp2_with fail
  refine (copy_nil x6).mono ?_
  rintro e x7 ⟨rfl, rfl⟩
  go_wp2_with fail
  refine (knownL_any x7).mono ?_
  rintro e x8 ⟨rfl, y8⟩
  have K8 : Hid (x8.heap[D]? = some (.deferred (some []))) := (y8.block D (Array.getElem?_eq_some_iff.1 HK.out).1).trans HK.out
  have B8 : Hid (Below w4.heap.size w4 x8) := HX.out.trans (y8.mono HX.out.size)
  have DD : Hid (w4.heap.size ≤ D) := Nat.le_trans BC.out.size HD.out
  clear z0 y8 HX
  go_wp2
  refine ⟨by simp, .inl ⟨_, _, rfl, run_takeDeferred K8.out, ?_⟩⟩
  refine ⟨_, results_tmp rfl _ _ _, rfl, B8.out.grown (grownBy_putObj' x8 D _) B8.out.size (fun j e => by cases e; exact DD.out)⟩
end Go.Proofs.Ytikedglcicgdhaa
