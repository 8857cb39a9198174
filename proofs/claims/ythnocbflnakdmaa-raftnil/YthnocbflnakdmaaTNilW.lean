/- RaftNil: the walk. -/
import Derived.Test.YthnocbflnakdmaaTKnown
import Derived.Test.YthnocbflnakdmaaTNil
namespace Go.Proofs.Ythnocbflnakdmaa
open Go.RowKit
attribute [local go_sem] Oper.semAt_some
set_option linter.unusedVariables false
set_option maxRecDepth 100000 in
set_option maxHeartbeats 4000000 in
theorem raftNil_any (c0 c1 c2 c3 c4 c5 c6 c7 c8 c9 c10 v : Value) (w : World) : Calls Try.prog 6 #[.agg #[c0, c1, c2, c3, c4, c5, c6, c7, c8, c9, c10], v] w fun e w' => e = .returned (.bool true) ∧ Below w.heap.size w w' := by
  have bA := (Below.refl _ w).alloc (Nat.le_refl _) (.cells #[c0, c1, c2, c3, c4, c5, c6, c7, c8, c9, c10] 62)
  have mA := heap_alloc_new w (.cells #[c0, c1, c2, c3, c4, c5, c6, c7, c8, c9, c10] 62)
  obtain ⟨wA, eA⟩ : ∃ wA, w.alloc (.cells #[c0, c1, c2, c3, c4, c5, c6, c7, c8, c9, c10] 62) = wA := ⟨_, rfl⟩
  obtain ⟨P, eP⟩ : ∃ P, w.heap.size = P := ⟨_, rfl⟩
  rw [eA] at bA mA
  rw [eP] at mA
  have BA : Hid (Below w.heap.size w wA) := bA
  have MA : Hid (wA.heap[P]? = some (.cells #[c0, c1, c2, c3, c4, c5, c6, c7, c8, c9, c10] 62)) := mA
  have EA : Hid _ := eA
  have EP : Hid (w.heap.size = P) := eP
  clear bA mA eA eP
  go_enter Try.func6, Try.ntmps6
  go_wp2_with fail
  rw [show _ = wA from EA.out]
  rw [show w.heap.size = P from EP.out]
  rw [show w.heap.size = P from EP.out] at BA
  have EPP : Hid (P ≤ w.heap.size) := Nat.le_of_eq EP.out.symm
  have EQ : Hid (w.heap.size = P) := EP.out
  clear EA EP
  refine (new_nilR wA).mono ?_
  rintro e w1 ⟨rfl, rfl⟩
  go_wp2_with fail
  refine (draw_nilR w1 5).mono ?_
  rintro e w2 ⟨rfl, rfl⟩
  go_wp2_with fail
  refine (propose_nilR w2 v).mono ?_
  rintro e w3 ⟨rfl, rfl⟩
  go_wp2_with fail
  refine (installed_nilR w3).mono ?_
  rintro e w4 ⟨rfl, rfl⟩
  go_wp2_with fail
  refine (info_nilR w4).mono ?_
  rintro e w5 ⟨rfl, b5⟩
  have M5 : Hid (w5.heap[P]? = some (.cells #[c0, c1, c2, c3, c4, c5, c6, c7, c8, c9, c10] 62) ∧ Below P w w5) := ⟨(b5.block P (Array.getElem?_eq_some_iff.1 MA.out).1).trans MA.out, BA.out.trans (b5.mono (Nat.le_of_lt (Array.getElem?_eq_some_iff.1 MA.out).1))⟩
  clear b5
  go_wp2_with fail
  refine (none_R w5).mono ?_
  rintro e w6 ⟨rfl, b6⟩
  have M6 : Hid (w6.heap[P]? = some (.cells #[c0, c1, c2, c3, c4, c5, c6, c7, c8, c9, c10] 62) ∧ Below P w w6) := ⟨(b6.block P (Array.getElem?_eq_some_iff.1 M5.out.1).1).trans M5.out.1, M5.out.2.trans (b6.mono (Nat.le_of_lt (Array.getElem?_eq_some_iff.1 M5.out.1).1))⟩
  clear b6
  go_wp2_with fail
  refine (log_nilR w6).mono ?_
  rintro e w7 ⟨rfl, rfl⟩
  go_wp2_with fail
  refine (tick_nilR w7).mono ?_
  rintro e w8 ⟨rfl, rfl⟩
  have y0 : w8.cell? ⟨P, 0, none⟩ = some c0 := by have := M6.out.1; unfold World.cell?; simp only [this]; rfl
  have y1 : w8.cell? ⟨P, 1, none⟩ = some c1 := by have := M6.out.1; unfold World.cell?; simp only [this]; rfl
  have y2 : w8.cell? ⟨P, 2, none⟩ = some c2 := by have := M6.out.1; unfold World.cell?; simp only [this]; rfl
  have y3 : w8.cell? ⟨P, 3, none⟩ = some c3 := by have := M6.out.1; unfold World.cell?; simp only [this]; rfl
  have y4 : w8.cell? ⟨P, 4, none⟩ = some c4 := by have := M6.out.1; unfold World.cell?; simp only [this]; rfl
  have y5 : w8.cell? ⟨P, 5, none⟩ = some c5 := by have := M6.out.1; unfold World.cell?; simp only [this]; rfl
  have y6 : w8.cell? ⟨P, 6, none⟩ = some c6 := by have := M6.out.1; unfold World.cell?; simp only [this]; rfl
  have y7 : w8.cell? ⟨P, 7, none⟩ = some c7 := by have := M6.out.1; unfold World.cell?; simp only [this]; rfl
  have y8 : w8.cell? ⟨P, 8, none⟩ = some c8 := by have := M6.out.1; unfold World.cell?; simp only [this]; rfl
  have y9 : w8.cell? ⟨P, 9, none⟩ = some c9 := by have := M6.out.1; unfold World.cell?; simp only [this]; rfl
  have y10 : w8.cell? ⟨P, 10, none⟩ = some c10 := by have := M6.out.1; unfold World.cell?; simp only [this]; rfl
  go_wp2_with fail
  refine (step_nilR w8 #[c0, c1, c2, c3, c4, c5, c6, c7, c8, c9, c10]).mono ?_
  rintro e w9 ⟨rfl, b9⟩
  have B9 : Hid (Below P w w9) := M6.out.2.trans (b9.mono (Nat.le_of_lt (Array.getElem?_eq_some_iff.1 M6.out.1).1))
  clear b9 y0 y1 y2 y3 y4 y5 y6 y7 y8 y9 y10
  go_wp2_with fail
  refine (snap_nilR w9 0 v).mono ?_
  rintro e x1 ⟨rfl, rfl⟩
  go_wp2_with fail
  refine (knownR_any x1).mono ?_
  rintro e x2 ⟨rfl, b2⟩
  have B2 : Hid (Below P w x2) := B9.out.trans (b2.mono (Nat.le_trans EPP.out B9.out.size))
  clear b2
  go_wp2
  go_ret
  exact ⟨rfl, by rw [EQ.out]; exact B2.out⟩
end Go.Proofs.Ythnocbflnakdmaa
