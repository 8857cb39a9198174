/- ChartMoves: a move goes through its steps. -/
import Derived.Test.YtpdgmlljjjeifaaChMovesW
namespace Go.Proofs.Ytpdgmlljjjeifaa
open Go.RowKit
attribute [local go_sem] Oper.semAt_some
set_option linter.unusedVariables false
theorem Good.own {L : List Int} {N : Nat} (h : Good L N) {s : Int} (hs : 0 ≤ s ∧ s < 16) : 1 ≤ own_ L s ∧ own_ L s ≤ at_ L 0 := by
  obtain ⟨sn, rfl⟩ : ∃ sn : Nat, s = (sn : Int) := ⟨s.toNat, by omega⟩
  rw [own_at (by omega)]
  exact h.ow sn (by omega)
theorem StL.own_i {L : List Int} {sh s fr to : Int} {p : Nat} (h : StL L sh s fr to p) (i : Nat) (hi : i < 16) : epo_ L (i : Int) = if (i : Int) = s ∧ 3 ≤ p then 1 else 0 := by
  rw [epo_at hi]; exact h.ep i hi
/-- A new audit behind it. -/
theorem StL.fin {L : List Int} {sh s fr to : Int} (h : StL L sh s fr to 4) : (doC L 3 0 0 0 0).1 = ⟨0, true, 2⟩ := by
  have hm : may_ L = true := by
    unfold may_
    rw [h.ph, h.au, h.bg]
    decide
  unfold doC auC
  rw [if_neg (by omega), if_neg (by omega), if_pos rfl, if_neg (by rw [hm]; decide), h.bg]
  rfl
section
set_option maxRecDepth 100000 in
set_option maxHeartbeats 8000000 in
theorem chartMoves_go (n s t : Int) (h : 1 ≤ n ∧ n ≤ 3) (hs : 0 ≤ s ∧ s < 16) (ht : 1 ≤ t ∧ t ≤ n) (ho : own_ (newL n 16) s ≠ t) (hd : (doC (newL n 16) 1 s t 0 0).1 = ⟨0, true, 1⟩) (hst : StL (doC (newL n 16) 1 s t 0 0).2 n s (own_ (newL n 16) s) t 1) (w : World) : Calls Try.prog 7 #[.int .i64 n, .int .i64 s, .int .i64 t] w fun e w' => e = .returned (.bool true) ∧ Below w.heap.size w w' := by
  have HN := my_new n h w w (Below.refl _ w)
  obtain ⟨R, eR⟩ : ∃ R, w.heap.size = R := ⟨_, rfl⟩
  rw [eR] at HN
  have hfr := (good_new n h).own hs
  rw [newL_at n 16 0 (by omega), if_pos rfl] at hfr
  have q1 : ¬ s < 0 := by omega
  have q2 : ¬ 16 ≤ s := by omega
  have q3 : ¬ t < 1 := by omega
  have q4 : ¬ n < t := by omega
  obtain ⟨fr, efr⟩ : ∃ fr, own_ (newL n 16) s = fr := ⟨_, rfl⟩
  rw [efr] at ho hst hfr
  have EF : Hid (own_ (newL n 16) s = fr) := efr
  have HD : Hid ((doC (newL n 16) 1 s t 0 0).1 = ⟨0, true, 1⟩) := hd
  have HST : Hid (StL (doC (newL n 16) 1 s t 0 0).2 n s fr t 1) := hst
  have q5 : ¬ fr = t := ho
  have q6 : (fr == t) = false := by simpa using ho
  have f4 := fldM4
  have f0 := fldR0
  have f1 := fldR1
  have HS : Hid (0 ≤ s ∧ s < 16) := hs
  have HF : Hid (1 ≤ fr ∧ fr ≤ n) := hfr
  clear eR h hs ht ho hd hst efr hfr
  go_enter Try.func7, Try.ntmps7
  go_wp2_with fail
  refine HN.mono ?_
  clear HN
  rintro e w1 ⟨rfl, h1, _⟩
  have H1 : Hid (MyC w w1 R (newL n 16) 0) := h1
  have HW := owner_any h1.c s
  rw [EF.out] at HW
  clear h1
  go_wp2_with fail
  refine HW.mono ?_
  clear HW
  rintro e w2 ⟨rfl, b2⟩
  have H2 : Hid (MyC w w2 R (newL n 16) 0) := H1.out.below b2
  have HX := my_do H2.out (by omega) 1 s t 0 0
  rw [HD.out] at HX
  dsimp only [Rs.v] at HX
  clear b2 H1
  go_wp2_with fail
  refine HX.mono ?_
  clear HX
  rintro e w3 ⟨rfl, h3, _⟩
  have H3 : Hid (∃ L N, MyC w (w3.alloc (.cells #[.int .i64 0, .bool true, .int .i64 1] 35)) R L N ∧ N ≤ 3 * 1 + 1 ∧ StL L n s fr t 1) := ⟨_, _, h3.alloc _, by omega, HST.out⟩
  clear h3 H2 HST HD EF
  go_wp2_with fail
  go_loopw [12] (fun i wr => ∃ p : Nat, (1 ≤ p ∧ p ≤ 4) ∧ i = .int .i64 (p : Int) ∧ Hid (∃ L N, MyC w wr R L N ∧ N ≤ 3 * p + 1 ∧ StL L n s fr t p)) (fun i _ => 5 - (intOf i).toNat)
  case atStart => exact ⟨1, by omega, rfl, H3⟩
  case round =>
    obtain ⟨p, hp, rfl, HH⟩ := hrel
    clear H3
    by_cases hp3 : p < 4
    · have q0 : decide ((p : Int) ≤ 3) = true := decide_eq_true (by omega)
      obtain ⟨L, N, hm, hN, hst⟩ := HH.out
      obtain ⟨m34, m35, m36, m37, m39⟩ := hst.mv hp3
      have ph := hst.ph
      rw [if_neg (by omega)] at ph
      have HM := move_any hm.c
      unfold moveV at HM
      rw [m35, m36, m37, ph] at HM
      have HA : Hid (doC L 3 0 0 0 0 = (⟨50, false, 0⟩, L)) := hst.audit ⟨hp.1, hp3⟩
      have HG : Hid (doC L 1 s fr 0 0 = (⟨50, false, 0⟩, L)) := hst.again ⟨hp.1, hp3⟩ HS.out HF.out
      have HT : Hid ((doC L 2 0 0 1 (p : Int)).1 = ⟨0, false, 1⟩ ∧ StL (doC L 2 0 0 1 (p : Int)).2 n s fr t (p + 1)) := hst.step hm.c.len ⟨hp.1, hp3⟩ HS.out
      have H4 : Hid (MyC w wr R L N ∧ N ≤ 3 * p + 1 ∧ 1 ≤ p ∧ p < 4) := ⟨hm, hN, hp.1, hp3⟩
      generalize at_ L 34 = c34 at *
      generalize at_ L 39 = c39 at *
      clear hm hN hst m34 m35 m36 m37 m39 ph HH hp hp3
      go_wp2_with fail
      refine HM.mono ?_
      clear HM
      rintro e w4 ⟨rfl, b4⟩
      have H5 : Hid (MyC w (w4.alloc (.cells #[.int .i64 c34, .int .i64 fr, .int .i64 t, .int .i64 1, .int .i64 (p : Int), .int .i64 c39] 60)) R L N) := (H4.out.1.below b4).alloc _
      have HX := my_do H5.out (by have := H4.out; omega) 3 0 0 0 0
      rw [HA.out] at HX
      dsimp only [Rs.v] at HX
      clear b4
      go_wp2_with fail
      refine HX.mono ?_
      clear HX H5
      rintro e w5 ⟨rfl, h5, _⟩
      have H6 : Hid (MyC w w5 R L (N + 1)) := h5
      have HX := my_do H6.out (by have := H4.out; omega) 1 s fr 0 0
      rw [HG.out] at HX
      dsimp only [Rs.v] at HX
      clear h5
      go_wp2_with fail
      refine HX.mono ?_
      clear HX H6
      rintro e w6 ⟨rfl, h6, _⟩
      have H7 : Hid (MyC w w6 R L (N + 1 + 1)) := h6
      have HX := my_do H7.out (by have := H4.out; omega) 2 0 0 1 (p : Int)
      rw [HT.out.1] at HX
      dsimp only [Rs.v] at HX
      clear h6
      go_wp2_with fail
      refine HX.mono ?_
      clear HX H7
      rintro e w7 ⟨rfl, h7, _⟩
      have H8 : Hid (∃ L N, MyC w w7 R L N ∧ N ≤ 3 * (p + 1) + 1 ∧ StL L n s fr t (p + 1)) := ⟨_, _, h7, by have := H4.out; omega, HT.out.2⟩
      have HP : Hid (1 ≤ p ∧ p < 4) := H4.out.2.2
      clear h7 HT HA HG H4 q0
      have hp4 : p < 4 := HP.out.2
      go_wp2
      go_roundw
      case rel => exact ⟨p + 1, by have := HP.out; omega, by go_num, H8⟩
      case measure => have := HP.out; simp only [intOf]; omega
    · obtain rfl : p = 4 := by omega
      have H4 : Hid (∃ L N, MyC w wr R L N ∧ N ≤ 13 ∧ StL L n s fr t 4) := by obtain ⟨L, N, a, b, c⟩ := HH.out; exact ⟨L, N, a, by omega, c⟩
      clear HH hp hp3
      rw [show ((4 : Nat) : Int) = 4 from rfl]
      go_wp2_with fail
      go_loopw [14] (fun i wr => ∃ j : Nat, j ≤ 16 ∧ i = .int .i64 (j : Int) ∧ Hid (∃ L N, MyC w wr R L N ∧ N ≤ 13 ∧ StL L n s fr t 4)) (fun i _ => 16 - (intOf i).toNat)
      case atStart => exact ⟨0, by omega, rfl, H4⟩
      case round =>
        obtain ⟨j, hj, rfl, HH⟩ := hrel
        clear H4
        obtain ⟨L, N, hm, hN, hst⟩ := HH.out
        by_cases hj16 : j < 16
        · have HE := epoch_any hm.c (j : Int)
          rw [hst.own_i j hj16] at HE
          by_cases hjs : (j : Int) = s
          · have HO := owner_any hm.c (j : Int)
            rw [hjs, hst.ow, if_pos (by omega)] at HO
            rw [if_pos ⟨hjs, by omega⟩] at HE
            have HE' : Hid (∀ W, Below wr.heap.size wr W → Calls Try.prog 22 #[.pointer (some ⟨R, 0, none⟩), .int .i64 s] W fun e w' => e = .returned (.int .i64 1) ∧ Below wr.heap.size wr w') := fun W hb => by
              have := epoch_any (hm.c.below hb) (j : Int)
              rw [hst.own_i j hj16, if_pos ⟨hjs, by omega⟩, hjs] at this
              exact this.mono fun e w' ⟨he, hb'⟩ => ⟨he, hb.trans (hb'.mono hb.size)⟩
            have H4 : Hid (MyC w wr R L N ∧ N ≤ 13 ∧ StL L n s fr t 4) := ⟨hm, hN, hst⟩
            have HJ : Hid ((j : Int) = s) := hjs
            rw [hjs]
            have hs16 : s < 16 := by omega
            have hs0 : 0 ≤ s := by omega
            clear hm hN hst HH hj HE hjs
            go_wp2_with fail
            refine HO.mono ?_
            clear HO
            rintro e w4 ⟨rfl, b4⟩
            go_wp2_with fail
            refine (HE'.out _ b4).mono ?_
            clear HE'
            rintro e w5 ⟨rfl, b5⟩
            have H5 : Hid (∃ L N, MyC w w5 R L N ∧ N ≤ 13 ∧ StL L n s fr t 4) := ⟨L, N, H4.out.1.below b5, H4.out.2⟩
            clear b4 b5 H4
            go_wp2
            go_roundw
            case rel => exact ⟨j + 1, by omega, by rw [← HJ.out]; go_num, H5⟩
            case measure => have := HJ.out; simp only [intOf]; omega
          · rw [if_neg (fun x => hjs x.1)] at HE
            have hjs' : ((j : Int) == s) = false := by simpa using hjs
            have hjs2 : ((j : Int) != s) = true := by simpa using hjs
            have H4 : Hid (MyC w wr R L N ∧ N ≤ 13 ∧ StL L n s fr t 4) := ⟨hm, hN, hst⟩
            clear hm hN hst HH hj
            go_wp2_with fail
            refine HE.mono ?_
            clear HE
            rintro e w5 ⟨rfl, b5⟩
            have H5 : Hid (∃ L N, MyC w w5 R L N ∧ N ≤ 13 ∧ StL L n s fr t 4) := ⟨L, N, H4.out.1.below b5, H4.out.2⟩
            clear b5 H4
            go_wp2
            go_roundw
            case rel => exact ⟨j + 1, by omega, by go_num, H5⟩
            case measure => simp only [intOf]; omega
        · obtain rfl : j = 16 := by omega
          have HM := move_any hm.c
          unfold moveV at HM
          rw [show at_ L 38 = 0 by rw [hst.ph]; rfl] at HM
          have HF2 : Hid ((doC L 3 0 0 0 0).1 = ⟨0, true, 2⟩) := hst.fin
          have H4 : Hid (MyC w wr R L N ∧ N ≤ 13) := ⟨hm, hN⟩
          clear hm hN hst HH hj hj16
          go_wp2_with fail
          refine HM.mono ?_
          clear HM
          rintro e w4 ⟨rfl, b4⟩
          have H5 : Hid (MyC w w4 R L N) := H4.out.1.below b4
          have HX := my_do H5.out (by have := H4.out; omega) 3 0 0 0 0
          rw [HF2.out] at HX
          dsimp only [Rs.v] at HX
          clear b4
          go_wp2_with fail
          refine HX.mono ?_
          clear HX H5 H4 HF2
          rintro e w5 ⟨rfl, h5, _⟩
          have H6 : Hid (Below w.heap.size w w5) := h5.b
          have HK := knownC_any w5
          clear h5
          go_wp2_with fail
          refine HK.mono ?_
          rintro e w6 ⟨rfl, b6⟩
          go_wp2
          go_ret
          exact ⟨rfl, H6.out.trans (b6.mono H6.out.size)⟩
theorem chartMoves_any (n s t : Int) (w : World) : Calls Try.prog 7 #[.int .i64 n, .int .i64 s, .int .i64 t] w fun e w' => e = .returned (.bool true) ∧ Below w.heap.size w w' := by
  by_cases h : 1 ≤ n ∧ n ≤ 3
  · by_cases ho : (0 ≤ s ∧ s < 16) ∧ (1 ≤ t ∧ t ≤ n)
    · rcases new_move h ho.1 ho.2 with ⟨h1, h2⟩ | ⟨h1, h2, h3⟩
      · exact chartMoves_same n s t h ho.1 ho.2 h1 h2 w
      · exact chartMoves_go n s t h ho.1 ho.2 h1 h2 h3 w
    · exact chartMoves_off n s t h ho w
  · exact chartMoves_no n s t h w
end
end Go.Proofs.Ytpdgmlljjjeifaa
