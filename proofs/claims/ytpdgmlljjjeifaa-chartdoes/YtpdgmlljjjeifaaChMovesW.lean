/- ChartMoves: the walk. -/
import Derived.Test.YtpdgmlljjjeifaaChMvP
namespace Go.Proofs.Ytpdgmlljjjeifaa
open Go.RowKit
attribute [local go_sem] Oper.semAt_some
set_option linter.unusedVariables false
theorem fldR0 (a : Int) (b : Bool) (c : Int) (w : World) : (Instr.field 35 (.agg #[.int .i64 a, .bool b, .int .i64 c]) 0).run Try.prog w = .ok (.int .i64 a) w := by kernel_rfl
theorem fldR1 (a : Int) (b : Bool) (c : Int) (w : World) : (Instr.field 35 (.agg #[.int .i64 a, .bool b, .int .i64 c]) 1).run Try.prog w = .ok (.bool b) w := by kernel_rfl
theorem fldM4 (a b c d e f : Int) (w : World) : (Instr.field 60 (.agg #[.int .i64 a, .int .i64 b, .int .i64 c, .int .i64 d, .int .i64 e, .int .i64 f]) 4).run Try.prog w = .ok (.int .i64 e) w := by kernel_rfl
section
set_option maxRecDepth 100000 in
set_option maxHeartbeats 4000000 in
/-- No chart. -/
theorem chartMoves_no (n s t : Int) (h : ¬ (1 ≤ n ∧ n ≤ 3)) (w : World) : Calls Try.prog 7 #[.int .i64 n, .int .i64 s, .int .i64 t] w fun e w' => e = .returned (.bool true) ∧ Below w.heap.size w w' := by
  have HN := new_no n h w
  clear h
  go_enter Try.func7, Try.ntmps7
  go_wp2_with fail
  refine HN.mono ?_
  rintro e w1 ⟨rfl, rfl⟩
  go_wp2_with fail
  refine (knownC_any w1).mono ?_
  rintro e w2 ⟨rfl, b2⟩
  go_wp2
  go_ret
  exact ⟨rfl, b2⟩
set_option maxRecDepth 100000 in
set_option maxHeartbeats 4000000 in
/-- A slot or a shard that is not there. -/
theorem chartMoves_off (n s t : Int) (h : 1 ≤ n ∧ n ≤ 3) (ho : ¬ ((0 ≤ s ∧ s < 16) ∧ (1 ≤ t ∧ t ≤ n))) (w : World) : Calls Try.prog 7 #[.int .i64 n, .int .i64 s, .int .i64 t] w fun e w' => e = .returned (.bool true) ∧ Below w.heap.size w w' := by
  have HN := my_new n h w w (Below.refl _ w)
  have fin : ∀ w1, Below w.heap.size w w1 → Calls Try.prog 11 #[] w1 fun e w' => e = .returned (.bool true) ∧ Below w.heap.size w w' := fun w1 b1 => (knownC_any w1).mono fun e w' ⟨he, hb⟩ => ⟨he, b1.trans (hb.mono b1.size)⟩
  have FIN : Hid _ := fin
  obtain ⟨R, eR⟩ : ∃ R, w.heap.size = R := ⟨_, rfl⟩
  rw [eR] at HN
  clear eR fin
  by_cases h1 : s < 0
  · clear ho h
    go_enter Try.func7, Try.ntmps7
    go_wp2_with fail
    refine HN.mono ?_
    rintro e w1 ⟨rfl, h1, _⟩
    have B1 : Hid (Below w.heap.size w w1) := h1.b
    clear h1 HN
    go_wp2_with fail
    refine (FIN.out _ B1.out).mono ?_
    rintro e w2 ⟨rfl, b2⟩
    go_wp2
    go_ret
    exact ⟨rfl, b2⟩
  · by_cases h2 : 16 ≤ s
    · clear ho h
      go_enter Try.func7, Try.ntmps7
      go_wp2_with fail
      refine HN.mono ?_
      rintro e w1 ⟨rfl, h1, _⟩
      have B1 : Hid (Below w.heap.size w w1) := h1.b
      clear h1 HN
      go_wp2_with fail
      refine (FIN.out _ B1.out).mono ?_
      rintro e w2 ⟨rfl, b2⟩
      go_wp2
      go_ret
      exact ⟨rfl, b2⟩
    · by_cases h3 : t < 1
      · clear ho h
        go_enter Try.func7, Try.ntmps7
        go_wp2_with fail
        refine HN.mono ?_
        rintro e w1 ⟨rfl, h1, _⟩
        have B1 : Hid (Below w.heap.size w w1) := h1.b
        clear h1 HN
        go_wp2_with fail
        refine (FIN.out _ B1.out).mono ?_
        rintro e w2 ⟨rfl, b2⟩
        go_wp2
        go_ret
        exact ⟨rfl, b2⟩
      · have h4 : n < t := by omega
        clear ho h
        go_enter Try.func7, Try.ntmps7
        go_wp2_with fail
        refine HN.mono ?_
        rintro e w1 ⟨rfl, h1, _⟩
        have B1 : Hid (Below w.heap.size w w1) := h1.b
        clear h1 HN
        go_wp2_with fail
        refine (FIN.out _ B1.out).mono ?_
        rintro e w2 ⟨rfl, b2⟩
        go_wp2
        go_ret
        exact ⟨rfl, b2⟩
set_option maxRecDepth 100000 in
set_option maxHeartbeats 4000000 in
/-- The shard has the slot already. -/
theorem chartMoves_same (n s t : Int) (h : 1 ≤ n ∧ n ≤ 3) (hs : 0 ≤ s ∧ s < 16) (ht : 1 ≤ t ∧ t ≤ n) (ho : own_ (newL n 16) s = t) (hd : doC (newL n 16) 1 s t 0 0 = (⟨0, false, 0⟩, newL n 16)) (w : World) : Calls Try.prog 7 #[.int .i64 n, .int .i64 s, .int .i64 t] w fun e w' => e = .returned (.bool true) ∧ Below w.heap.size w w' := by
  have HN := my_new n h w w (Below.refl _ w)
  obtain ⟨R, eR⟩ : ∃ R, w.heap.size = R := ⟨_, rfl⟩
  rw [eR] at HN
  have q1 : ¬ s < 0 := by omega
  have q2 : ¬ 16 ≤ s := by omega
  have q3 : ¬ t < 1 := by omega
  have q4 : ¬ n < t := by omega
  have HO : Hid (own_ (newL n 16) s = t) := ho
  have HD : Hid (doC (newL n 16) 1 s t 0 0 = (⟨0, false, 0⟩, newL n 16)) := hd
  have H38 : Hid (at_ (newL n 16) 38 = 0) := by show at_ (newL n 16) 38 = 0; rw [newL_at n 16 38 (by omega), if_neg (by omega), if_neg (by omega)]
  have f4 := fldM4
  clear eR h hs ht ho hd
  go_enter Try.func7, Try.ntmps7
  go_wp2_with fail
  refine HN.mono ?_
  clear HN
  rintro e w1 ⟨rfl, h1, _⟩
  have H1 : Hid (MyC w w1 R (newL n 16) 0) := h1
  have HW := owner_any h1.c s
  rw [HO.out] at HW
  clear h1
  go_wp2_with fail
  refine HW.mono ?_
  clear HW
  rintro e w2 ⟨rfl, b2⟩
  have H2 : Hid (MyC w w2 R (newL n 16) 0) := H1.out.below b2
  have HX := my_do H2.out (by omega) 1 s t 0 0
  rw [HD.out] at HX
  dsimp only [Rs.v] at HX
  clear b2 H1
  go_wp2_with fail
  refine HX.mono ?_
  clear HX
  rintro e w3 ⟨rfl, h3, _⟩
  have H3 : Hid (MyC w ((w3.alloc (.cells #[.int .i64 0, .bool false, .int .i64 0] 35)).alloc (.cells #[.int .i64 0, .bool false, .int .i64 0] 35)) R (newL n 16) 1) := (h3.alloc _).alloc _
  have HM := move_any H3.out.c
  unfold moveV at HM
  rw [H38.out] at HM
  clear h3 H2
  go_wp2_with fail
  refine HM.mono ?_
  clear HM
  rintro e w4 ⟨rfl, b4⟩
  have H4 : Hid (MyC w w4 R (newL n 16) 1) := H3.out.below b4
  have HK := knownC_any w4
  clear b4 H3
  go_wp2_with fail
  refine HK.mono ?_
  rintro e w5 ⟨rfl, b5⟩
  go_wp2
  go_ret
  exact ⟨rfl, H4.out.b.trans (b5.mono H4.out.b.size)⟩
end
end Go.Proofs.Ytpdgmlljjjeifaa
