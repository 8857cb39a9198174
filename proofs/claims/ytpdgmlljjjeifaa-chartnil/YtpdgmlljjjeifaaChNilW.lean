/- ChartNil: the walk. -/
import Derived.Test.YtpdgmlljjjeifaaChLaw
namespace Go.Proofs.Ytpdgmlljjjeifaa
open Go.RowKit
attribute [local go_sem] Oper.semAt_some
set_option linter.unusedVariables false
set_option maxRecDepth 100000 in
set_option maxHeartbeats 4000000 in
theorem chartNil_any (k s h n p : Int) (w : World) : Calls Try.prog 6 #[.agg #[.int .i64 k, .int .i64 s, .int .i64 h, .int .i64 n, .int .i64 p]] w fun e w' => e = .returned (.bool true) ∧ Below w.heap.size w w' := by
  have p1 := ((Blk.new w #[.int .i64 k, .int .i64 s, .int .i64 h, .int .i64 n, .int .i64 p] 46).alloc (.cells #[.int .i64 2, .bool false, .int .i64 0] 62)).alloc (.cells #[.int .i64 0, .int .i64 0, .int .i64 0, .int .i64 0, .int .i64 0, .int .i64 0] 42)
  have p2 := (Blk.new (w.alloc (.cells #[.int .i64 k, .int .i64 s, .int .i64 h, .int .i64 n, .int .i64 p] 46)) #[.int .i64 2, .bool false, .int .i64 0] 62).alloc (.cells #[.int .i64 0, .int .i64 0, .int .i64 0, .int .i64 0, .int .i64 0, .int .i64 0] 42)
  have p3 := Blk.new ((w.alloc (.cells #[.int .i64 k, .int .i64 s, .int .i64 h, .int .i64 n, .int .i64 p] 46)).alloc (.cells #[.int .i64 2, .bool false, .int .i64 0] 62)) #[.int .i64 0, .int .i64 0, .int .i64 0, .int .i64 0, .int .i64 0, .int .i64 0] 42
  have b0 : Below w.heap.size w (((w.alloc (.cells #[.int .i64 k, .int .i64 s, .int .i64 h, .int .i64 n, .int .i64 p] 46)).alloc (.cells #[.int .i64 2, .bool false, .int .i64 0] 62)).alloc (.cells #[.int .i64 0, .int .i64 0, .int .i64 0, .int .i64 0, .int .i64 0, .int .i64 0] 42)) := (((Below.refl _ w).alloc (Nat.le_refl _) _).alloc (by simp) _).alloc (by simp; omega) _
  rw [show (w.alloc (.cells #[.int .i64 k, .int .i64 s, .int .i64 h, .int .i64 n, .int .i64 p] 46)).heap.size = w.heap.size + 1 by simp] at p2
  rw [show ((w.alloc (.cells #[.int .i64 k, .int .i64 s, .int .i64 h, .int .i64 n, .int .i64 p] 46)).alloc (.cells #[.int .i64 2, .bool false, .int .i64 0] 62)).heap.size = w.heap.size + 1 + 1 by simp] at p3
  obtain ⟨wA, eA⟩ : ∃ wA, (((w.alloc (.cells #[.int .i64 k, .int .i64 s, .int .i64 h, .int .i64 n, .int .i64 p] 46)).alloc (.cells #[.int .i64 2, .bool false, .int .i64 0] 62)).alloc (.cells #[.int .i64 0, .int .i64 0, .int .i64 0, .int .i64 0, .int .i64 0, .int .i64 0] 42)) = wA := ⟨_, rfl⟩
  rw [eA] at p1 p2 p3 b0
  obtain ⟨P, eP⟩ : ∃ P, w.heap.size = P := ⟨_, rfl⟩
  rw [eP] at p1 p2 p3
  have EA : Hid _ := eA
  have EP : Hid (w.heap.size = P) := eP
  have B0 : Hid (Below w.heap.size w wA) := b0
  have MK : Hid (∀ W, Below wA.heap.size wA W → (Below wA.heap.size wA W ∧ W.cell? ⟨P, 0, none⟩ = some (.int .i64 k) ∧ W.cell? ⟨P, 1, none⟩ = some (.int .i64 s) ∧ W.cell? ⟨P, 2, none⟩ = some (.int .i64 h) ∧ W.cell? ⟨P, 3, none⟩ = some (.int .i64 n) ∧ W.cell? ⟨P, 4, none⟩ = some (.int .i64 p) ∧
    W.cell? ⟨P + 1, 0, none⟩ = some (.int .i64 2) ∧ W.cell? ⟨P + 1, 1, none⟩ = some (.bool false) ∧ W.cell? ⟨P + 1, 2, none⟩ = some (.int .i64 0) ∧
    W.cell? ⟨P + 1 + 1, 0, none⟩ = some (.int .i64 0) ∧ W.cell? ⟨P + 1 + 1, 1, none⟩ = some (.int .i64 0) ∧ W.cell? ⟨P + 1 + 1, 2, none⟩ = some (.int .i64 0) ∧ W.cell? ⟨P + 1 + 1, 3, none⟩ = some (.int .i64 0) ∧ W.cell? ⟨P + 1 + 1, 4, none⟩ = some (.int .i64 0) ∧ W.cell? ⟨P + 1 + 1, 5, none⟩ = some (.int .i64 0))) := fun W hb =>
    ⟨hb, (p1.below hb).cell 0, (p1.below hb).cell 1, (p1.below hb).cell 2, (p1.below hb).cell 3, (p1.below hb).cell 4, (p2.below hb).cell 0, (p2.below hb).cell 1, (p2.below hb).cell 2, (p3.below hb).cell 0, (p3.below hb).cell 1, (p3.below hb).cell 2, (p3.below hb).cell 3, (p3.below hb).cell 4, (p3.below hb).cell 5⟩
  have bb := Below.refl wA.heap.size wA
  have C1 : Hid (∀ W, Below wA.heap.size wA W → Calls Try.prog 17 #[.agg #[.int .i64 k, .int .i64 s, .int .i64 h, .int .i64 n, .int .i64 p]] W fun e w' => e = .returned (.agg #[.int .i64 k, .int .i64 s, .int .i64 h, .int .i64 n, .int .i64 p]) ∧ Below wA.heap.size wA w') := fun W hb => (given_any k s h n p W).mono fun e w' ⟨he, hb'⟩ => ⟨he, hb.trans (hb'.mono hb.size)⟩
  have C2 : Hid (∀ W, Below wA.heap.size wA W → Calls Try.prog 15 #[.pointer none, .agg #[.int .i64 k, .int .i64 s, .int .i64 h, .int .i64 n, .int .i64 p]] W fun e w' => e = .returned (.agg #[.int .i64 2, .bool false, .int .i64 0]) ∧ Below wA.heap.size wA w') := fun W hb => (do_nil k s h n p W).mono fun e w' ⟨he, hb'⟩ => ⟨he, hb.trans (hb'.mono hb.size)⟩
  have C3 : Hid (∀ W, Below wA.heap.size wA W → Calls Try.prog 25 #[.agg #[.int .i64 2, .bool false, .int .i64 0]] W fun e w' => e = .returned (.agg #[.int .i64 2, .bool false, .int .i64 0]) ∧ Below wA.heap.size wA w') := fun W hb => (taken_any 2 false 0 W).mono fun e w' ⟨he, hb'⟩ => ⟨he, hb.trans (hb'.mono hb.size)⟩
  have C4 : Hid (∀ W, Below wA.heap.size wA W → Calls Try.prog 21 #[.pointer none, .int .i64 0] W fun e w' => e = .returned (.int .i64 0) ∧ Below wA.heap.size wA w') := fun W hb => (owner_nil 0 W).mono fun e w' ⟨he, hb'⟩ => ⟨he, hb.trans (hb'.mono hb.size)⟩
  have C5 : Hid (∀ W, Below wA.heap.size wA W → Calls Try.prog 22 #[.pointer none, .int .i64 0] W fun e w' => e = .returned (.int .i64 0) ∧ Below wA.heap.size wA w') := fun W hb => (epoch_nil 0 W).mono fun e w' ⟨he, hb'⟩ => ⟨he, hb.trans (hb'.mono hb.size)⟩
  have C6 : Hid (∀ W, Below wA.heap.size wA W → Calls Try.prog 24 #[.pointer none] W fun e w' => e = .returned (.agg #[.int .i64 0, .int .i64 0, .int .i64 0, .int .i64 0, .int .i64 0, .int .i64 0]) ∧ Below wA.heap.size wA w') := fun W hb => (move_nil W).mono fun e w' ⟨he, hb'⟩ => ⟨he, hb.trans (hb'.mono hb.size)⟩
  have C7 : Hid (∀ W, Below wA.heap.size wA W → Calls Try.prog 26 #[.agg #[.int .i64 0, .int .i64 0, .int .i64 0, .int .i64 0, .int .i64 0, .int .i64 0]] W fun e w' => e = .returned (.agg #[.int .i64 0, .int .i64 0, .int .i64 0, .int .i64 0, .int .i64 0, .int .i64 0]) ∧ Below wA.heap.size wA w') := fun W hb => (moving_any 0 0 0 0 0 0 W).mono fun e w' ⟨he, hb'⟩ => ⟨he, hb.trans (hb'.mono hb.size)⟩
  have C8 : Hid (∀ W, Below wA.heap.size wA W → Calls Try.prog 27 #[.pointer none] W fun e w' => e = .returned (.int .i64 0) ∧ Below wA.heap.size wA w') := fun W hb => (shards_nil W).mono fun e w' ⟨he, hb'⟩ => ⟨he, by rw [hb']; exact hb⟩
  have C9 : Hid (∀ W, Below wA.heap.size wA W → Calls Try.prog 28 #[.pointer none] W fun e w' => e = .returned (.slice none 0 0) ∧ Below wA.heap.size wA w') := fun W hb => (image_nil W).mono fun e w' ⟨he, hb'⟩ => ⟨he, by rw [hb']; exact hb⟩
  have C10 : Hid (∀ W, Below wA.heap.size wA W → Calls Try.prog 13 #[.pointer none] W fun e w' => e = .returned (.pointer none) ∧ Below wA.heap.size wA w') := fun W hb => (copyC_nil W).mono fun e w' ⟨he, hb'⟩ => ⟨he, by rw [hb']; exact hb⟩
  have C11 : Hid (∀ W, Below wA.heap.size wA W → Calls Try.prog 11 #[] W fun e w' => e = .returned (.bool true) ∧ Below wA.heap.size wA w') := fun W hb => (knownC_any W).mono fun e w' ⟨he, hb'⟩ => ⟨he, hb.trans (hb'.mono hb.size)⟩
  clear p1 p2 p3 b0 eA eP
  go_enter Try.func6, Try.ntmps6
  go_wp2_with fail
  refine (audit_nil _).mono ?_
  rintro e w1 ⟨rfl, rfl⟩
  go_wp2_with fail
  rw [EA.out, EP.out]
  go_region_held3 (fun W => (Below wA.heap.size wA W ∧ W.cell? ⟨P, 0, none⟩ = some (.int .i64 k) ∧ W.cell? ⟨P, 1, none⟩ = some (.int .i64 s) ∧ W.cell? ⟨P, 2, none⟩ = some (.int .i64 h) ∧ W.cell? ⟨P, 3, none⟩ = some (.int .i64 n) ∧ W.cell? ⟨P, 4, none⟩ = some (.int .i64 p) ∧
    W.cell? ⟨P + 1, 0, none⟩ = some (.int .i64 2) ∧ W.cell? ⟨P + 1, 1, none⟩ = some (.bool false) ∧ W.cell? ⟨P + 1, 2, none⟩ = some (.int .i64 0) ∧
    W.cell? ⟨P + 1 + 1, 0, none⟩ = some (.int .i64 0) ∧ W.cell? ⟨P + 1 + 1, 1, none⟩ = some (.int .i64 0) ∧ W.cell? ⟨P + 1 + 1, 2, none⟩ = some (.int .i64 0) ∧ W.cell? ⟨P + 1 + 1, 3, none⟩ = some (.int .i64 0) ∧ W.cell? ⟨P + 1 + 1, 4, none⟩ = some (.int .i64 0) ∧ W.cell? ⟨P + 1 + 1, 5, none⟩ = some (.int .i64 0)))
    (first | assumption | exact MK.out _ (by assumption) | exact MK.out _ (Below.drew (by assumption)))
    (first
      | (go_at_call 17; refine (C1.out _ (by first | assumption | exact Below.drew (by assumption))).mono ?_; rintro e x1 ⟨rfl, hb1⟩)
      | (go_at_call 15; refine (C2.out _ (by first | assumption | exact Below.drew (by assumption))).mono ?_; rintro e x2 ⟨rfl, hb2⟩)
      | (go_at_call 25; refine (C3.out _ (by first | assumption | exact Below.drew (by assumption))).mono ?_; rintro e x3 ⟨rfl, hb3⟩)
      | (go_at_call 21; refine (C4.out _ (by first | assumption | exact Below.drew (by assumption))).mono ?_; rintro e x4 ⟨rfl, hb4⟩)
      | (go_at_call 22; refine (C5.out _ (by first | assumption | exact Below.drew (by assumption))).mono ?_; rintro e x5 ⟨rfl, hb5⟩)
      | (go_at_call 24; refine (C6.out _ (by first | assumption | exact Below.drew (by assumption))).mono ?_; rintro e x6 ⟨rfl, hb6⟩)
      | (go_at_call 26; refine (C7.out _ (by first | assumption | exact Below.drew (by assumption))).mono ?_; rintro e x7 ⟨rfl, hb7⟩)
      | (go_at_call 27; refine (C8.out _ (by first | assumption | exact Below.drew (by assumption))).mono ?_; rintro e x8 ⟨rfl, hb8⟩)
      | (go_at_call 28; refine (C9.out _ (by first | assumption | exact Below.drew (by assumption))).mono ?_; rintro e x9 ⟨rfl, hb9⟩)
      | (go_at_call 13; refine (C10.out _ (by first | assumption | exact Below.drew (by assumption))).mono ?_; rintro e x10 ⟨rfl, hb10⟩)
      | (go_at_call 11; refine (C11.out _ (by first | assumption | exact Below.drew (by assumption))).mono ?_; rintro e x11 ⟨rfl, hb11⟩))
  go_wp2
  go_ret
  exact ⟨rfl, B0.out.trans (hb11.mono B0.out.size)⟩
end Go.Proofs.Ytpdgmlljjjeifaa
