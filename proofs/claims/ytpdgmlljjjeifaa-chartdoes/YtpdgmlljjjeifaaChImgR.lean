/- Package chart's reference: a chart as bytes. Written by gen_ri.py. -/
import Derived.Test.YtpdgmlljjjeifaaChImg
namespace Go.Proofs.Ytpdgmlljjjeifaa
open Go.RowKit Cod
attribute [local go_sem] Oper.semAt_some
set_option linter.unusedVariables false
section
variable {w w' : World} {base Q O E cO cE : Nat} {L : List Int}
set_option maxRecDepth 100000 in
set_option maxHeartbeats 4000000 in
theorem rImage_any (h : RC w base Q O E cO cE L) (hA : AllIn L) : Calls Try.prog 31 #[.pointer (some ⟨Q, 0, none⟩)] w fun e w' => ∃ v, e = .returned v ∧ Got w' v (imgB L) ∧ Below w.heap.size w w' := by
  have c0 : w.cell? ⟨Q, 0, none⟩ = some (.int .i64 (at_ L 0)) := h.cell 0
  have hO := h.hO
  have hE := h.hE
  have H : Hid (RC w base Q O E cO cE L ∧ AllIn L) := ⟨h, hA⟩
  have HI := refInt_got (got_nil w) (at_ L 0) (hA 0) (by simp)
  clear h hA
  go_enter Try.func31, Try.ntmps31
  go_wp2_with fail
  refine HI.mono ?_
  clear HI c0
  rintro e w1 ⟨v1, rfl, g1, b1⟩
  have C1 : Hid (RC w1 base Q O E cO cE L ∧ Got w1 v1 (imgP L 1) ∧ Below w.heap.size w w1) := ⟨H.out.1.below b1, g1, b1⟩
  clear g1 b1
  go_wp2_with fail
  go_loopw [3, 4] (fun v i wr => ∃ j : Nat, j ≤ 16 ∧ i = .int .i64 (j : Int) ∧ Hid (RC wr base Q O E cO cE L ∧ Got wr v (imgP L (1 + j * 2)) ∧ Below w.heap.size w wr)) (fun _ i _ => 16 - (intOf i).toNat)
  case atStart => exact ⟨0, by omega, rfl, C1⟩
  case round =>
    obtain ⟨j, hj, rfl, HH⟩ := hrel
    clear C1
    have q1 : wr.cell? ⟨Q, 1, none⟩ = some (.slice (some ⟨O, 0, none⟩) 16 cO) := HH.out.1.cell 1
    by_cases hj16 : j < 16
    · have s1 := (HH.out.1.co j hj16).1
      obtain ⟨o1, eo1⟩ : ∃ x, at_ L (1 + j * 2) = x := ⟨_, rfl⟩
      obtain ⟨o2, eo2⟩ : ∃ x, at_ L (2 + j * 2) = x := ⟨_, rfl⟩
      have EO : Hid (at_ L (1 + j * 2) = o1 ∧ at_ L (2 + j * 2) = o2) := ⟨eo1, eo2⟩
      rw [eo1] at s1
      have HI := refInt_got HH.out.2.1 o1 (by rw [← eo1]; exact H.out.2 _) (by have := imgP_len H.out.2 (1 + j * 2); omega)
      clear hj eo1 eo2
      go_wp2_with fail
      refine HI.mono ?_
      clear HI s1 q1
      rintro e w3 ⟨v3, rfl, g3, b3⟩
      have H3 : Hid (RC w3 base Q O E cO cE L ∧ Below w.heap.size w w3) := ⟨HH.out.1.below b3, HH.out.2.2.trans (b3.mono HH.out.2.2.size)⟩
      have q2 : w3.cell? ⟨Q, 2, none⟩ = some (.slice (some ⟨E, 0, none⟩) 16 cE) := H3.out.1.cell 2
      have s2 := (H3.out.1.ce j hj16).1
      rw [EO.out.2] at s2
      have HI := refInt_got g3 o2 (by rw [← EO.out.2]; exact H.out.2 _) (by have := imgP_len H.out.2 (1 + j * 2); have e9 := enc_zig (n := o1) (by rw [← EO.out.1]; exact H.out.2 _); simp only [List.length_append]; omega)
      clear g3 b3 HH
      go_wp2_with fail
      refine HI.mono ?_
      clear HI s2 q2
      rintro e w4 ⟨v4, rfl, g4, b4⟩
      have H4 : Hid (RC w4 base Q O E cO cE L ∧ Got w4 v4 (imgP L (1 + (j + 1) * 2)) ∧ Below w.heap.size w w4) := ⟨H3.out.1.below b4, by
        rw [show 1 + (j + 1) * 2 = 1 + j * 2 + 1 + 1 by omega]
        show Got w4 v4 ((imgP L (1 + j * 2) ++ enc (zig (at_ L (1 + j * 2)))) ++ enc (zig (at_ L (1 + j * 2 + 1))))
        rw [show 1 + j * 2 + 1 = 2 + j * 2 by omega, EO.out.1, EO.out.2]
        exact g4, H3.out.2.trans (b4.mono H3.out.2.size)⟩
      clear g4 b4 H3
      go_wp2
      go_roundw
      case rel => exact ⟨j + 1, by omega, by go_num, H4⟩
      case measure => simp only [intOf]; omega
    · obtain rfl : j = 16 := by omega
      rw [show ((16 : Nat) : Int) = 16 from rfl]
      have H33 : Hid (RC wr base Q O E cO cE L ∧ Got wr u3 (imgP L 33) ∧ Below w.heap.size w wr) := HH.out
      have c33 : wr.cell? ⟨Q, 3, none⟩ = some (.int .i64 (at_ L 33)) := H33.out.1.cell 3
      clear HH hj hj16
      have HI := refInt_got H33.out.2.1 (at_ L 33) (H.out.2 _) (by have := imgP_len H.out.2 33; omega)
      go_wp2_with fail
      refine HI.mono ?_
      clear HI c33
      rintro e y33 ⟨v33, rfl, g33, b33⟩
      have H34 : Hid (RC y33 base Q O E cO cE L ∧ Got y33 v33 (imgP L 34) ∧ Below w.heap.size w y33) := ⟨H33.out.1.below b33, g33, H33.out.2.2.trans (b33.mono H33.out.2.2.size)⟩
      have c34 : y33.cell? ⟨Q, 4, none⟩ = some (.int .i64 (at_ L 34)) := H34.out.1.cell 4
      clear g33 b33 H33 q1
      have HI := refInt_got H34.out.2.1 (at_ L 34) (H.out.2 _) (by have := imgP_len H.out.2 34; omega)
      go_wp2_with fail
      refine HI.mono ?_
      clear HI c34
      rintro e y34 ⟨v34, rfl, g34, b34⟩
      have H35 : Hid (RC y34 base Q O E cO cE L ∧ Got y34 v34 (imgP L 35) ∧ Below w.heap.size w y34) := ⟨H34.out.1.below b34, g34, H34.out.2.2.trans (b34.mono H34.out.2.2.size)⟩
      have c35 : y34.cell? ⟨Q, 5, none⟩ = some (.int .i64 (at_ L 35)) := H35.out.1.cell 5
      clear g34 b34 H34
      have HI := refInt_got H35.out.2.1 (at_ L 35) (H.out.2 _) (by have := imgP_len H.out.2 35; omega)
      go_wp2_with fail
      refine HI.mono ?_
      clear HI c35
      rintro e y35 ⟨v35, rfl, g35, b35⟩
      have H36 : Hid (RC y35 base Q O E cO cE L ∧ Got y35 v35 (imgP L 36) ∧ Below w.heap.size w y35) := ⟨H35.out.1.below b35, g35, H35.out.2.2.trans (b35.mono H35.out.2.2.size)⟩
      have c36 : y35.cell? ⟨Q, 6, none⟩ = some (.int .i64 (at_ L 36)) := H36.out.1.cell 6
      clear g35 b35 H35
      have HI := refInt_got H36.out.2.1 (at_ L 36) (H.out.2 _) (by have := imgP_len H.out.2 36; omega)
      go_wp2_with fail
      refine HI.mono ?_
      clear HI c36
      rintro e y36 ⟨v36, rfl, g36, b36⟩
      have H37 : Hid (RC y36 base Q O E cO cE L ∧ Got y36 v36 (imgP L 37) ∧ Below w.heap.size w y36) := ⟨H36.out.1.below b36, g36, H36.out.2.2.trans (b36.mono H36.out.2.2.size)⟩
      have c37 : y36.cell? ⟨Q, 7, none⟩ = some (.int .i64 (at_ L 37)) := H37.out.1.cell 7
      clear g36 b36 H36
      have HI := refInt_got H37.out.2.1 (at_ L 37) (H.out.2 _) (by have := imgP_len H.out.2 37; omega)
      go_wp2_with fail
      refine HI.mono ?_
      clear HI c37
      rintro e y37 ⟨v37, rfl, g37, b37⟩
      have H38 : Hid (RC y37 base Q O E cO cE L ∧ Got y37 v37 (imgP L 38) ∧ Below w.heap.size w y37) := ⟨H37.out.1.below b37, g37, H37.out.2.2.trans (b37.mono H37.out.2.2.size)⟩
      have c38 : y37.cell? ⟨Q, 8, none⟩ = some (.int .i64 (at_ L 38)) := H38.out.1.cell 8
      clear g37 b37 H37
      have HI := refInt_got H38.out.2.1 (at_ L 38) (H.out.2 _) (by have := imgP_len H.out.2 38; omega)
      go_wp2_with fail
      refine HI.mono ?_
      clear HI c38
      rintro e y38 ⟨v38, rfl, g38, b38⟩
      have H39 : Hid (RC y38 base Q O E cO cE L ∧ Got y38 v38 (imgP L 39) ∧ Below w.heap.size w y38) := ⟨H38.out.1.below b38, g38, H38.out.2.2.trans (b38.mono H38.out.2.2.size)⟩
      have c39 : y38.cell? ⟨Q, 9, none⟩ = some (.int .i64 (at_ L 39)) := H39.out.1.cell 9
      clear g38 b38 H38
      have HI := refInt_got H39.out.2.1 (at_ L 39) (H.out.2 _) (by have := imgP_len H.out.2 39; omega)
      go_wp2_with fail
      refine HI.mono ?_
      clear HI c39
      rintro e y39 ⟨v39, rfl, g39, b39⟩
      have H40 : Hid (RC y39 base Q O E cO cE L ∧ Got y39 v39 (imgP L 40) ∧ Below w.heap.size w y39) := ⟨H39.out.1.below b39, g39, H39.out.2.2.trans (b39.mono H39.out.2.2.size)⟩
      have c40 : y39.cell? ⟨Q, 10, none⟩ = some (.int .i64 (at_ L 40)) := H40.out.1.cell 10
      clear g39 b39 H39
      have HI := refInt_got H40.out.2.1 (at_ L 40) (H.out.2 _) (by have := imgP_len H.out.2 40; omega)
      go_wp2_with fail
      refine HI.mono ?_
      clear HI c40
      rintro e y40 ⟨v40, rfl, g40, b40⟩
      have H41 : Hid (RC y40 base Q O E cO cE L ∧ Got y40 v40 (imgP L 41) ∧ Below w.heap.size w y40) := ⟨H40.out.1.below b40, g40, H40.out.2.2.trans (b40.mono H40.out.2.2.size)⟩
      have c41 : y40.cell? ⟨Q, 11, none⟩ = some (.int .i64 (at_ L 41)) := H41.out.1.cell 11
      clear g40 b40 H40
      have HI := refInt_got H41.out.2.1 (at_ L 41) (H.out.2 _) (by have := imgP_len H.out.2 41; omega)
      go_wp2_with fail
      refine HI.mono ?_
      clear HI c41
      rintro e y41 ⟨v41, rfl, g41, b41⟩
      have H42 : Hid (RC y41 base Q O E cO cE L ∧ Got y41 v41 (imgP L 42) ∧ Below w.heap.size w y41) := ⟨H41.out.1.below b41, g41, H41.out.2.2.trans (b41.mono H41.out.2.2.size)⟩
      clear g41 b41 H41
      go_wp2
      go_ret
      exact ⟨_, rfl, H42.out.2.1, H42.out.2.2⟩
end
end Go.Proofs.Ytpdgmlljjjeifaa
