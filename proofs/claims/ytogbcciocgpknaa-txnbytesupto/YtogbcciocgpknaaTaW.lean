/- An ask read: the program. Written by gen_xtp.py. -/
import Derived.Test.YtogbcciocgpknaaTaS
import Derived.Test.YtogbcciocgpknaaXPs
import Derived.Great.BuildSlice
import Derived.WalkSmall
import Derived.Test.YtogbcciocgpknaaTaT
namespace Go.Proofs.Ytogbcciocgpknaa
open Go.RowKit Cod
attribute [local go_sem] Oper.semAt_some
set_option linter.unusedVariables false
set_option maxRecDepth 100000 in
set_option maxHeartbeats 4000000 in
theorem tParse_any {v : Value} {l : List (BitVec 8)} {w : World} (h : Got w v l) (hm : l.length ≤ 140737488355328) : Calls Try.prog 11 #[v] w fun e w' => TParsed w w' l e := by
  obtain ⟨a, cap, rfl, h, hnil⟩ := h
  have Q0 := heap_alloc_new w (.cells #[.int .i64 0, .int .i64 0, .int .i64 0, .string ⟨#[]⟩, .string ⟨#[]⟩, .int .i64 0, .string ⟨#[]⟩, .int .i64 0, .int .i64 0, .string ⟨#[]⟩, .string ⟨#[]⟩, .int .i64 0, .int .i64 0, .int .i64 0, .int .i64 0, .int .i64 0, .bool false, .slice none 0 0] 40)
  by_cases h1 : 65536 < l.length
  · have e1 : tpW l = 3 := by unfold tpW; rw [if_pos h1]
    have HE : Hid (tpW l = 3) := e1
    have q0 : (65536 : Int) < (l.length : Int) := by omega
    have q1 : decide ((65536 : Int) < (l.length : Int)) = true := decide_eq_true q0
    have QQ : Hid _ := Q0
    clear h hnil hm h1 Q0 e1
    generalize l.length = n at *
    go_enter Try.func11, Try.ntmps11
    go_wp2_with (first
        | (refine wpList_buildTo rfl 40 _ rfl (some 13) rfl #[.int .i64 0, .int .i64 0, .int .i64 0, .string ⟨#[]⟩, .string ⟨#[]⟩, .int .i64 0, .string ⟨#[]⟩, .int .i64 0, .int .i64 0, .string ⟨#[]⟩, .string ⟨#[]⟩, .int .i64 0, .int .i64 0, .int .i64 0, .int .i64 0, .int .i64 0, .bool false, .slice none 0 0] (by kernel_rfl) ?_)
        | (refine wpList_store_row rfl 40 (.tmp 2) (.tmp 13) rfl w.heap.size #[.int .i64 0, .int .i64 0, .int .i64 0, .string ⟨#[]⟩, .string ⟨#[]⟩, .int .i64 0, .string ⟨#[]⟩, .int .i64 0, .int .i64 0, .string ⟨#[]⟩, .string ⟨#[]⟩, .int .i64 0, .int .i64 0, .int .i64 0, .int .i64 0, .int .i64 0, .bool false, .slice none 0 0] rfl rfl 40 _ QQ.out (by kernel_rfl) rfl (by simp [Value.oneCell']) ?_))
    exact bodyPost_ret (results_ct (p := 2) (u := 3) rfl _ _ w.heap.size 40 _ _ _ rfl (setRow_selfX QQ.out) Try.underlying40 rfl (by kernel_rfl)) rfl (tparsed_no 3 (by rw [HE.out]; decide) (by rw [HE.out]) (below_rowX ((Below.refl _ w).alloc (Nat.le_refl _) _) (Nat.le_refl _) _))
  have bA : Below w.heap.size w (w.alloc (.cells #[.int .i64 0, .int .i64 0, .int .i64 0, .string ⟨#[]⟩, .string ⟨#[]⟩, .int .i64 0, .string ⟨#[]⟩, .int .i64 0, .int .i64 0, .string ⟨#[]⟩, .string ⟨#[]⟩, .int .i64 0, .int .i64 0, .int .i64 0, .int .i64 0, .int .i64 0, .bool false, .slice none 0 0] 40)) := (Below.refl _ w).alloc (Nat.le_refl _) _
  have qA := BlX.new w #[.int .i64 0, .int .i64 0, .int .i64 0, .string ⟨#[]⟩, .string ⟨#[]⟩, .int .i64 0, .string ⟨#[]⟩, .int .i64 0, .int .i64 0, .string ⟨#[]⟩, .string ⟨#[]⟩, .int .i64 0, .int .i64 0, .int .i64 0, .int .i64 0, .int .i64 0, .bool false, .slice none 0 0] 40
  have HN := newReader_any a l.length cap l (w.alloc (.cells #[.int .i64 0, .int .i64 0, .int .i64 0, .string ⟨#[]⟩, .string ⟨#[]⟩, .int .i64 0, .string ⟨#[]⟩, .int .i64 0, .int .i64 0, .string ⟨#[]⟩, .string ⟨#[]⟩, .int .i64 0, .int .i64 0, .int .i64 0, .int .i64 0, .int .i64 0, .bool false, .slice none 0 0] 40)) (h.below bA) hnil hm
  have H1 : Hid (¬ 65536 < l.length) := h1
  obtain ⟨wA, eA⟩ : ∃ x, w.alloc (.cells #[.int .i64 0, .int .i64 0, .int .i64 0, .string ⟨#[]⟩, .string ⟨#[]⟩, .int .i64 0, .string ⟨#[]⟩, .int .i64 0, .int .i64 0, .string ⟨#[]⟩, .string ⟨#[]⟩, .int .i64 0, .int .i64 0, .int .i64 0, .int .i64 0, .int .i64 0, .bool false, .slice none 0 0] 40) = x := ⟨_, rfl⟩
  obtain ⟨Q, eQ⟩ : ∃ x, w.heap.size = x := ⟨_, rfl⟩
  rw [eA] at HN bA qA
  rw [eQ] at qA
  have EA : Hid _ := eA
  have EQ : Hid (w.heap.size = Q) := eQ
  have HA : Hid (Below w.heap.size w wA ∧ BlX wA Q #[.int .i64 0, .int .i64 0, .int .i64 0, .string ⟨#[]⟩, .string ⟨#[]⟩, .int .i64 0, .string ⟨#[]⟩, .int .i64 0, .int .i64 0, .string ⟨#[]⟩, .string ⟨#[]⟩, .int .i64 0, .int .i64 0, .int .i64 0, .int .i64 0, .int .i64 0, .bool false, .slice none 0 0] 40) := ⟨bA, qA⟩
  have q0 : ¬ (65536 : Int) < (l.length : Int) := by omega
  have q1 : decide ((65536 : Int) < (l.length : Int)) = false := decide_eq_false q0
  clear h hnil hm h1 bA qA eA eQ Q0
  obtain ⟨ln, en⟩ : ∃ n, l.length = n := ⟨_, rfl⟩
  rw [en] at HN q0 q1
  rw [en]
  clear en
  go_enter Try.func11, Try.ntmps11
  go_wp2_with fail
  rw [EA.out, EQ.out]
  refine HN.mono ?_
  clear HN
  rintro e w1 ⟨R, rfl, hR, r1, b1⟩
  have hz : Q < wA.heap.size := HA.out.2.lt
  have hq : w.heap.size ≤ Q := Nat.le_of_eq EQ.out
  have hr : w.heap.size ≤ R := by omega
  have RQ : Hid (Q ≠ R ∧ w.heap.size ≤ R ∧ w.heap.size ≤ Q) := ⟨by omega, hr, hq⟩
  have K1 : Hid (BlX w1 Q #[.int .i64 0, .int .i64 0, .int .i64 0, .string ⟨#[]⟩, .string ⟨#[]⟩, .int .i64 0, .string ⟨#[]⟩, .int .i64 0, .int .i64 0, .string ⟨#[]⟩, .string ⟨#[]⟩, .int .i64 0, .int .i64 0, .int .i64 0, .int .i64 0, .int .i64 0, .bool false, .slice none 0 0] 40 ∧ Below w.heap.size w w1) := ⟨HA.out.2.below b1, HA.out.1.trans (b1.mono HA.out.1.size)⟩
  have HX := rInt_any R l 0 0 w1 r1
  rw [show zag (rU l 0 0).1 = pcI0 l from rfl, show (rU l 0 0).2.1 = (pX1 l).1 from rfl, show (rU l 0 0).2.2 = (pX1 l).2 from rfl] at HX
  clear r1 b1 hR HA hz hq hr EA EQ
  go_wp2_with fail
  refine HX.mono ?_
  clear HX
  rintro e w2 ⟨rfl, r2, g2⟩
  have K2 : Hid (BlX w2 Q #[.int .i64 0, .int .i64 0, .int .i64 0, .string ⟨#[]⟩, .string ⟨#[]⟩, .int .i64 0, .string ⟨#[]⟩, .int .i64 0, .int .i64 0, .string ⟨#[]⟩, .string ⟨#[]⟩, .int .i64 0, .int .i64 0, .int .i64 0, .int .i64 0, .int .i64 0, .bool false, .slice none 0 0] 40 ∧ Below w.heap.size w w2) := ⟨K1.out.1.grown g2 RQ.out.1, K1.out.2.trans (below_toX g2 RQ.out.2.1 K1.out.2.size)⟩
  have HX := rBytes_any R l (pX1 l).1 (pX1 l).2 w2 r2
  skip
  rw [tpX_is, tpB_is] at HX
  clear r2 g2 K1
  go_wp2_with fail
  refine HX.mono ?_
  clear HX
  rintro e w3 ⟨dv, rfl, od, ld, r3, g3⟩
  have GD : Hid (Got w3 dv (tpB l) ∧ (tpB l).length ≤ 65536) := ⟨got_owned od (by unfold maxLen; omega), ld⟩
  have K3 : Hid (BlX w3 Q #[.int .i64 0, .int .i64 0, .int .i64 0, .string ⟨#[]⟩, .string ⟨#[]⟩, .int .i64 0, .string ⟨#[]⟩, .int .i64 0, .int .i64 0, .string ⟨#[]⟩, .string ⟨#[]⟩, .int .i64 0, .int .i64 0, .int .i64 0, .int .i64 0, .int .i64 0, .bool false, .slice none 0 0] 40 ∧ Below w.heap.size w w3) := ⟨K2.out.1.grown g3 RQ.out.1, K2.out.2.trans (below_toX g3 RQ.out.2.1 K2.out.2.size)⟩
  have HX := rEnd_any R l (tpX l).2.1 (tpX l).2.2 w3 r3
  rw [tpE_is] at HX
  clear r3 g3 K2 od ld
  go_wp2_with fail
  refine HX.mono ?_
  clear HX
  rintro e y1 ⟨rfl, nq, rfl⟩
  have K4 : Hid (BlX (w3.drewN nq) Q #[.int .i64 0, .int .i64 0, .int .i64 0, .string ⟨#[]⟩, .string ⟨#[]⟩, .int .i64 0, .string ⟨#[]⟩, .int .i64 0, .int .i64 0, .string ⟨#[]⟩, .string ⟨#[]⟩, .int .i64 0, .int .i64 0, .int .i64 0, .int .i64 0, .int .i64 0, .bool false, .slice none 0 0] 40 ∧ Below w.heap.size w (w3.drewN nq) ∧ Got (w3.drewN nq) dv (tpB l)) := ⟨K3.out.1, below_drewN' K3.out.2 nq, GD.out.1.below (below_drewN' (Below.refl _ w3) nq)⟩
  have GL : Hid ((tpB l).length ≤ 65536) := GD.out.2
  clear K3 GD
  generalize w3.drewN nq = w4 at *
  by_cases he : tpE l = 0
  case neg =>
    have HE : Hid (tpE l ≠ 0) := he
    have WE : Hid (tpW l = (tpE l : Int)) := by show tpW l = _; unfold tpW; rw [if_neg H1.out, if_pos HE.out]
    have he1 : ¬ ((tpE l : Int) = 0) := by omega
    have he2 : ((tpE l : Int) != 0) = true := by simpa using he
    have QQ : Hid _ := K4.out.1
    clear he
    go_wp2_with (first
        | (refine wpList_buildTo rfl 40 _ rfl (some 24) rfl #[.int .i64 0, .int .i64 0, .int .i64 0, .string ⟨#[]⟩, .string ⟨#[]⟩, .int .i64 0, .string ⟨#[]⟩, .int .i64 0, .int .i64 0, .string ⟨#[]⟩, .string ⟨#[]⟩, .int .i64 0, .int .i64 0, .int .i64 0, .int .i64 0, .int .i64 0, .bool false, .slice none 0 0] (by kernel_rfl) ?_)
        | (refine wpList_store_row rfl 40 (.tmp 2) (.tmp 24) rfl Q #[.int .i64 0, .int .i64 0, .int .i64 0, .string ⟨#[]⟩, .string ⟨#[]⟩, .int .i64 0, .string ⟨#[]⟩, .int .i64 0, .int .i64 0, .string ⟨#[]⟩, .string ⟨#[]⟩, .int .i64 0, .int .i64 0, .int .i64 0, .int .i64 0, .int .i64 0, .bool false, .slice none 0 0] rfl rfl 40 _ QQ.out (by kernel_rfl) rfl (by simp [Value.oneCell']) ?_))
    exact bodyPost_ret (results_ct (p := 2) (u := 3) rfl _ _ Q 40 _ _ _ rfl (setRow_selfX QQ.out) Try.underlying40 rfl (by kernel_rfl)) rfl (tparsed_no (tpE l : Nat) (by rw [WE.out]; have := HE.out; omega) (by rw [WE.out]) (below_rowX K4.out.2.1 RQ.out.2.2 _))
  have HE : Hid (tpE l = 0) := he
  have HX := sParse_any K4.out.2.2 (Nat.le_trans GL.out (by omega))
  rw [he]
  rw [show ((0 : Nat) : Int) = 0 from rfl]
  clear he
  go_wp2_with fail
  refine HX.mono ?_
  clear HX
  intro e w5 hp
  obtain ⟨k, ok, of_, ot, oa, oy, os, oh, id, nm, n, why, slot, ep, at_, last, da, dn, dc, rfl, hC, gC, lC, b5⟩ := hp.open
  have W5 : Hid (((⟨k, ok, of_, ot, oa, oy, os, oh, id, nm, n, why, slot, ep, at_, last, .slice da dn dc⟩ : CmdV) = psC (tpB l) (.slice da dn dc)) ∧ (psD (tpB l)).length ≤ 65536) := ⟨hC, lC⟩
  have k5 : BlX w5 Q #[.int .i64 0, .int .i64 0, .int .i64 0, .string ⟨#[]⟩, .string ⟨#[]⟩, .int .i64 0, .string ⟨#[]⟩, .int .i64 0, .int .i64 0, .string ⟨#[]⟩, .string ⟨#[]⟩, .int .i64 0, .int .i64 0, .int .i64 0, .int .i64 0, .int .i64 0, .bool false, .slice none 0 0] 40 := K4.out.1.below b5
  have b6 : Below w.heap.size w w5 := K4.out.2.1.trans (b5.mono K4.out.2.1.size)
  have S6 := heap_alloc_new w5 (.cells #[.int .i64 0, .int .i64 0, .string ⟨#[]⟩, .string ⟨#[]⟩, .int .i64 0, .string ⟨#[]⟩, .int .i64 0, .int .i64 0, .string ⟨#[]⟩, .string ⟨#[]⟩, .int .i64 0, .int .i64 0, .int .i64 0, .int .i64 0, .int .i64 0, .bool false, .slice none 0 0] 37)
  have K6 : Hid (BlX (w5.alloc (.cells #[.int .i64 0, .int .i64 0, .string ⟨#[]⟩, .string ⟨#[]⟩, .int .i64 0, .string ⟨#[]⟩, .int .i64 0, .int .i64 0, .string ⟨#[]⟩, .string ⟨#[]⟩, .int .i64 0, .int .i64 0, .int .i64 0, .int .i64 0, .int .i64 0, .bool false, .slice none 0 0] 37)) Q #[.int .i64 0, .int .i64 0, .int .i64 0, .string ⟨#[]⟩, .string ⟨#[]⟩, .int .i64 0, .string ⟨#[]⟩, .int .i64 0, .int .i64 0, .string ⟨#[]⟩, .string ⟨#[]⟩, .int .i64 0, .int .i64 0, .int .i64 0, .int .i64 0, .int .i64 0, .bool false, .slice none 0 0] 40 ∧ Below w.heap.size w (w5.alloc (.cells #[.int .i64 0, .int .i64 0, .string ⟨#[]⟩, .string ⟨#[]⟩, .int .i64 0, .string ⟨#[]⟩, .int .i64 0, .int .i64 0, .string ⟨#[]⟩, .string ⟨#[]⟩, .int .i64 0, .int .i64 0, .int .i64 0, .int .i64 0, .int .i64 0, .bool false, .slice none 0 0] 37)) ∧ Far (w5.alloc (.cells #[.int .i64 0, .int .i64 0, .string ⟨#[]⟩, .string ⟨#[]⟩, .int .i64 0, .string ⟨#[]⟩, .int .i64 0, .int .i64 0, .string ⟨#[]⟩, .string ⟨#[]⟩, .int .i64 0, .int .i64 0, .int .i64 0, .int .i64 0, .int .i64 0, .bool false, .slice none 0 0] 37)) w4.heap.size (.slice da dn dc) (psD (tpB l))) := ⟨k5.alloc _, b6.alloc b6.size _, gC.below ((Below.refl _ w5).alloc (Nat.le_refl _) _)⟩
  have hQS : Q < w5.heap.size := k5.lt
  have hSz : w.heap.size ≤ w5.heap.size := b6.size
  obtain ⟨S, eS⟩ : ∃ S, w5.heap.size = S := ⟨_, rfl⟩
  obtain ⟨w6, e6⟩ : ∃ x, w5.alloc (.cells #[.int .i64 0, .int .i64 0, .string ⟨#[]⟩, .string ⟨#[]⟩, .int .i64 0, .string ⟨#[]⟩, .int .i64 0, .int .i64 0, .string ⟨#[]⟩, .string ⟨#[]⟩, .int .i64 0, .int .i64 0, .int .i64 0, .int .i64 0, .int .i64 0, .bool false, .slice none 0 0] 37) = x := ⟨_, rfl⟩
  rw [e6] at S6 K6
  rw [eS] at S6 hQS hSz
  have E6 : Hid _ := e6
  have ES : Hid (w5.heap.size = S) := eS
  have SS : Hid _ := S6
  have HS : Hid (Q < S ∧ w.heap.size ≤ S) := ⟨hQS, hSz⟩
  have K7 : Hid (BlX (w6.setRow S #[.int .i64 k, .int .i64 ok, .string of_, .string ot, .int .i64 oa, .string oy, .int .i64 os, .int .i64 oh, .string id, .string nm, .int .i64 n, .int .i64 why, .int .i64 slot, .int .i64 ep, .int .i64 at_, .bool last, .slice da dn dc]) Q #[.int .i64 0, .int .i64 0, .int .i64 0, .string ⟨#[]⟩, .string ⟨#[]⟩, .int .i64 0, .string ⟨#[]⟩, .int .i64 0, .int .i64 0, .string ⟨#[]⟩, .string ⟨#[]⟩, .int .i64 0, .int .i64 0, .int .i64 0, .int .i64 0, .int .i64 0, .bool false, .slice none 0 0] 40 ∧ Below w.heap.size w (w6.setRow S #[.int .i64 k, .int .i64 ok, .string of_, .string ot, .int .i64 oa, .string oy, .int .i64 os, .int .i64 oh, .string id, .string nm, .int .i64 n, .int .i64 why, .int .i64 slot, .int .i64 ep, .int .i64 at_, .bool last, .slice da dn dc]) ∧ (w6.setRow S #[.int .i64 k, .int .i64 ok, .string of_, .string ot, .int .i64 oa, .string oy, .int .i64 os, .int .i64 oh, .string id, .string nm, .int .i64 n, .int .i64 why, .int .i64 slot, .int .i64 ep, .int .i64 at_, .bool last, .slice da dn dc]).heap[S]? = some (.cells #[.int .i64 k, .int .i64 ok, .string of_, .string ot, .int .i64 oa, .string oy, .int .i64 os, .int .i64 oh, .string id, .string nm, .int .i64 n, .int .i64 why, .int .i64 slot, .int .i64 ep, .int .i64 at_, .bool last, .slice da dn dc] 37 (0, 0)) ∧ Far (w6.setRow S #[.int .i64 k, .int .i64 ok, .string of_, .string ot, .int .i64 oa, .string oy, .int .i64 os, .int .i64 oh, .string id, .string nm, .int .i64 n, .int .i64 why, .int .i64 slot, .int .i64 ep, .int .i64 at_, .bool last, .slice da dn dc]) w4.heap.size (.slice da dn dc) (psD (tpB l)) ∧ Q < w4.heap.size) := by
    refine ⟨(setRow_other _ _ _ _ (by have := HS.out; omega)).trans K6.out.1, below_rowX K6.out.2.1 HS.out.2 _, setRow_selfX S6, ?_, K4.out.1.lt⟩
    have b7 : Below w5.heap.size w5 (w6.setRow S #[.int .i64 k, .int .i64 ok, .string of_, .string ot, .int .i64 oa, .string oy, .int .i64 os, .int .i64 oh, .string id, .string nm, .int .i64 n, .int .i64 why, .int .i64 slot, .int .i64 ep, .int .i64 at_, .bool last, .slice da dn dc]) := below_rowX (by rw [← e6]; exact (Below.refl _ w5).alloc (Nat.le_refl _) _) (Nat.le_of_eq eS) _
    exact gC.below b7
  clear hC gC lC b5 k5 b6 S6 hQS hSz e6 eS K6 K4 hp
  by_cases hw : psW (tpB l) = 0
  case neg =>
    have HW : Hid (psW (tpB l) ≠ 0) := hw
    have WE : Hid (tpW l = (psW (tpB l) : Int)) := by show tpW l = _; unfold tpW; rw [if_neg H1.out, if_neg (fun x => x HE.out), if_pos HW.out]
    have he1 : ¬ ((psW (tpB l) : Int) = 0) := by omega
    have he2 : ((psW (tpB l) : Int) != 0) = true := by simpa using hw
    clear hw
    go_wp2_with (first
        | (refine wpList_store_row rfl 37 (.tmp 8) (.tmp 29) rfl S #[.int .i64 k, .int .i64 ok, .string of_, .string ot, .int .i64 oa, .string oy, .int .i64 os, .int .i64 oh, .string id, .string nm, .int .i64 n, .int .i64 why, .int .i64 slot, .int .i64 ep, .int .i64 at_, .bool last, .slice da dn dc] rfl rfl 37 _ SS.out (by kernel_rfl) (by simp) (by simp [Value.oneCell']) ?_)
        | (refine wpList_buildTo rfl 40 _ rfl (some 34) rfl #[.int .i64 0, .int .i64 0, .int .i64 0, .string ⟨#[]⟩, .string ⟨#[]⟩, .int .i64 0, .string ⟨#[]⟩, .int .i64 0, .int .i64 0, .string ⟨#[]⟩, .string ⟨#[]⟩, .int .i64 0, .int .i64 0, .int .i64 0, .int .i64 0, .int .i64 0, .bool false, .slice none 0 0] (by kernel_rfl) ?_)
        | (refine wpList_store_row rfl 40 (.tmp 2) (.tmp 34) rfl Q #[.int .i64 0, .int .i64 0, .int .i64 0, .string ⟨#[]⟩, .string ⟨#[]⟩, .int .i64 0, .string ⟨#[]⟩, .int .i64 0, .int .i64 0, .string ⟨#[]⟩, .string ⟨#[]⟩, .int .i64 0, .int .i64 0, .int .i64 0, .int .i64 0, .int .i64 0, .bool false, .slice none 0 0] rfl rfl 40 _ K7.out.1 (by kernel_rfl) rfl (by simp [Value.oneCell']) ?_)
        | (rw [E6.out, ES.out]))
    exact bodyPost_ret (results_ct (p := 2) (u := 3) rfl _ _ Q 40 _ _ _ rfl (setRow_selfX K7.out.1) Try.underlying40 rfl (by kernel_rfl)) rfl (tparsed_no (psW (tpB l) : Nat) (by rw [WE.out]; have := HW.out; omega) (by rw [WE.out]) (below_rowX K7.out.2.1 RQ.out.2.2 _))
  have HW : Hid (psW (tpB l) = 0) := hw
  have RG : Hid ((w6.setRow S #[.int .i64 k, .int .i64 ok, .string of_, .string ot, .int .i64 oa, .string oy, .int .i64 os, .int .i64 oh, .string id, .string nm, .int .i64 n, .int .i64 why, .int .i64 slot, .int .i64 ep, .int .i64 at_, .bool last, .slice da dn dc]).rangeAt S 0 [.int .i64 k, .int .i64 ok, .string of_, .string ot, .int .i64 oa, .string oy, .int .i64 os, .int .i64 oh, .string id, .string nm, .int .i64 n, .int .i64 why, .int .i64 slot, .int .i64 ep, .int .i64 at_, .bool last, .slice da dn dc]) := BlX.range (P := S) (t := 37) (cs := #[.int .i64 k, .int .i64 ok, .string of_, .string ot, .int .i64 oa, .string oy, .int .i64 os, .int .i64 oh, .string id, .string nm, .int .i64 n, .int .i64 why, .int .i64 slot, .int .i64 ep, .int .i64 at_, .bool last, .slice da dn dc]) K7.out.2.2.1
  have GK : Hid (Got ((w6.setRow S #[.int .i64 k, .int .i64 ok, .string of_, .string ot, .int .i64 oa, .string oy, .int .i64 os, .int .i64 oh, .string id, .string nm, .int .i64 n, .int .i64 why, .int .i64 slot, .int .i64 ep, .int .i64 at_, .bool last, .slice da dn dc]).setRow Q #[.int .i64 (pcI0 l), .int .i64 k, .int .i64 ok, .string of_, .string ot, .int .i64 oa, .string oy, .int .i64 os, .int .i64 oh, .string id, .string nm, .int .i64 n, .int .i64 why, .int .i64 slot, .int .i64 ep, .int .i64 at_, .bool last, .slice da dn dc]) (.slice da dn dc) (psD (tpB l))) := (Far.since K7.out.2.2.2.1 (fun q hq => setRow_other _ _ _ _ (by have := K7.out.2.2.2.2; omega))).got
  rw [hw]
  rw [show ((0 : Nat) : Int) = 0 from rfl]
  clear hw
  by_cases hb : pcI0 l < 0 ∨ 3 < pcI0 l
  case pos =>
    have WE : Hid (tpW l = 1) := by show tpW l = _; unfold tpW; rw [if_neg H1.out, if_neg (fun x => x HE.out), if_neg (fun x => x HW.out), if_pos hb]
    have PK : (decide (pcI0 l < 0) = true ∧ decide (3 < pcI0 l) = false) ∨ (decide (pcI0 l < 0) = false ∧ decide (3 < pcI0 l) = true) := by
      by_cases hx : pcI0 l < 0
      · exact .inl ⟨decide_eq_true hx, decide_eq_false (by omega)⟩
      · exact .inr ⟨decide_eq_false hx, decide_eq_true (by omega)⟩
    clear hb
    generalize pcI0 l = gp at PK ⊢
    rcases PK with ⟨d1, d2⟩ | ⟨d1, d2⟩
    all_goals
      have d3 := d1
      have d4 := d2
      simp only [decide_eq_true_eq, decide_eq_false_iff_not] at d3 d4
      go_wp2_with (first
        | (refine wpList_store_row rfl 37 (.tmp 8) (.tmp 29) rfl S #[.int .i64 k, .int .i64 ok, .string of_, .string ot, .int .i64 oa, .string oy, .int .i64 os, .int .i64 oh, .string id, .string nm, .int .i64 n, .int .i64 why, .int .i64 slot, .int .i64 ep, .int .i64 at_, .bool last, .slice da dn dc] rfl rfl 37 _ SS.out (by kernel_rfl) (by simp) (by simp [Value.oneCell']) ?_)
        | (refine wpList_buildTo rfl 40 _ rfl (some 43) rfl #[.int .i64 0, .int .i64 0, .int .i64 0, .string ⟨#[]⟩, .string ⟨#[]⟩, .int .i64 0, .string ⟨#[]⟩, .int .i64 0, .int .i64 0, .string ⟨#[]⟩, .string ⟨#[]⟩, .int .i64 0, .int .i64 0, .int .i64 0, .int .i64 0, .int .i64 0, .bool false, .slice none 0 0] (by kernel_rfl) ?_)
        | (refine wpList_store_row rfl 40 (.tmp 2) (.tmp 43) rfl Q #[.int .i64 0, .int .i64 0, .int .i64 0, .string ⟨#[]⟩, .string ⟨#[]⟩, .int .i64 0, .string ⟨#[]⟩, .int .i64 0, .int .i64 0, .string ⟨#[]⟩, .string ⟨#[]⟩, .int .i64 0, .int .i64 0, .int .i64 0, .int .i64 0, .int .i64 0, .bool false, .slice none 0 0] rfl rfl 40 _ K7.out.1 (by kernel_rfl) rfl (by simp [Value.oneCell']) ?_)
        | (rw [E6.out, ES.out]))
      exact bodyPost_ret (results_ct (p := 2) (u := 3) rfl _ _ Q 40 _ _ _ rfl (setRow_selfX K7.out.1) Try.underlying40 rfl (by kernel_rfl)) rfl (tparsed_no 1 (by rw [WE.out]; decide) (by rw [WE.out]) (below_rowX K7.out.2.1 RQ.out.2.2 _))
  have WE : Hid (tpW l = 0) := by show tpW l = _; unfold tpW; rw [if_neg H1.out, if_neg (fun x => x HE.out), if_neg (fun x => x HW.out), if_neg hb]
  have FQ : Hid (TParsed w ((w6.setRow S #[.int .i64 k, .int .i64 ok, .string of_, .string ot, .int .i64 oa, .string oy, .int .i64 os, .int .i64 oh, .string id, .string nm, .int .i64 n, .int .i64 why, .int .i64 slot, .int .i64 ep, .int .i64 at_, .bool last, .slice da dn dc]).setRow Q #[.int .i64 (pcI0 l), .int .i64 k, .int .i64 ok, .string of_, .string ot, .int .i64 oa, .string oy, .int .i64 os, .int .i64 oh, .string id, .string nm, .int .i64 n, .int .i64 why, .int .i64 slot, .int .i64 ep, .int .i64 at_, .bool last, .slice da dn dc]) l (.returned (.tuple #[.agg #[.int .i64 (pcI0 l), .int .i64 k, .int .i64 ok, .string of_, .string ot, .int .i64 oa, .string oy, .int .i64 os, .int .i64 oh, .string id, .string nm, .int .i64 n, .int .i64 why, .int .i64 slot, .int .i64 ep, .int .i64 at_, .bool last, .slice da dn dc], .int .i64 0]))) := tparsed_yes k ok of_ ot oa oy os oh id nm n why slot ep at_ last da dn dc WE.out W5.out.1 GK.out W5.out.2 (below_rowX K7.out.2.1 RQ.out.2.2 _)
  have d3 : ¬ pcI0 l < 0 := by omega
  have d4 : ¬ 3 < pcI0 l := by omega
  have d1 : decide (pcI0 l < 0) = false := decide_eq_false d3
  have d2 : decide (3 < pcI0 l) = false := decide_eq_false d4
  clear hb WE GK W5
  obtain ⟨gp, egp⟩ : ∃ g, pcI0 l = g := ⟨_, rfl⟩
  rw [egp] at d1 d2 d3 d4 FQ ⊢
  clear egp
  go_wp2_with (first
    | (refine wpList_store_row rfl 37 (.tmp 8) (.tmp 29) rfl S #[.int .i64 k, .int .i64 ok, .string of_, .string ot, .int .i64 oa, .string oy, .int .i64 os, .int .i64 oh, .string id, .string nm, .int .i64 n, .int .i64 why, .int .i64 slot, .int .i64 ep, .int .i64 at_, .bool last, .slice da dn dc] rfl rfl 37 _ SS.out (by kernel_rfl) (by simp) (by simp [Value.oneCell']) ?_)
    | (refine wpList_load_mid rfl 37 (.tmp 8) rfl S 0 rfl [.int .i64 k, .int .i64 ok, .string of_, .string ot, .int .i64 oa, .string oy, .int .i64 os, .int .i64 oh, .string id, .string nm, .int .i64 n, .int .i64 why, .int .i64 slot, .int .i64 ep, .int .i64 at_, .bool last, .slice da dn dc] _ RG.out Try.underlying37 rfl (by kernel_rfl) ?_)
    | (refine wpList_buildTo rfl 40 _ rfl (some 46) rfl #[.int .i64 gp, .int .i64 k, .int .i64 ok, .string of_, .string ot, .int .i64 oa, .string oy, .int .i64 os, .int .i64 oh, .string id, .string nm, .int .i64 n, .int .i64 why, .int .i64 slot, .int .i64 ep, .int .i64 at_, .bool last, .slice da dn dc] (by kernel_rfl) ?_)
    | (refine wpList_store_row rfl 40 (.tmp 2) (.tmp 46) rfl Q #[.int .i64 gp, .int .i64 k, .int .i64 ok, .string of_, .string ot, .int .i64 oa, .string oy, .int .i64 os, .int .i64 oh, .string id, .string nm, .int .i64 n, .int .i64 why, .int .i64 slot, .int .i64 ep, .int .i64 at_, .bool last, .slice da dn dc] rfl rfl 40 _ K7.out.1 (by kernel_rfl) (by simp) (by simp [Value.oneCell']) ?_)
    | (rw [E6.out, ES.out]))
  exact bodyPost_ret (results_ct (p := 2) (u := 3) rfl _ _ Q 40 _ _ _ rfl (setRow_selfX K7.out.1) Try.underlying40 rfl (by kernel_rfl)) rfl FQ.out
end Go.Proofs.Ytogbcciocgpknaa

namespace Go.Proofs.Ytogbcciocgpknaa
open Go.RowKit Cod
set_option linter.unusedVariables false

def tpQ (l : List (BitVec 8)) : CmdV := tpC l (.slice none 0 0)
theorem pcC_data (l : List (BitVec 8)) (d : Value) : pcC l d = { pcC l (.slice none 0 0) with data := d } := by
  unfold pcC
  generalize pcI0 l = x0
  generalize pcI4 l = x4
  generalize pcI5 l = x5
  generalize pcI6 l = x6
  generalize pcI7 l = x7
  generalize pcI8 l = x8
  generalize pcO l = xo
  generalize pcT2 l = t2
  generalize pcT3 l = t3
  generalize pcL l = xl
  rfl
theorem psC_data (l : List (BitVec 8)) (d : Value) : ∃ d', psC l d = { psC l (.slice none 0 0) with data := d' } := by
  by_cases h : psW l = 0
  · rw [psC_yes h, psC_yes h]; exact ⟨d, pcC_data l d⟩
  · rw [psC_no h, psC_no h]; exact ⟨.slice none 0 0, rfl⟩
theorem tpQ_data (l : List (BitVec 8)) (d : Value) : ∃ d', tpC l d = { tpQ l with data := d' } := by
  unfold tpQ tpC
  by_cases h : tpW l = 0
  · rw [if_pos h, if_pos h]; exact psC_data (tpB l) d
  · rw [if_neg h, if_neg h]; exact ⟨.slice none 0 0, rfl⟩
theorem TParsed.same {w w' : World} {l : List (BitVec 8)} {e : Ending} (h : TParsed w w' l e) : ∃ a c, e = .returned (.tuple #[.agg #[.int .i64 (tpG l), .int .i64 (tpQ l).k, .int .i64 (tpQ l).ok, .string (tpQ l).of_, .string (tpQ l).ot, .int .i64 (tpQ l).oa, .string (tpQ l).oy, .int .i64 (tpQ l).os, .int .i64 (tpQ l).oh, .string (tpQ l).id, .string (tpQ l).nm, .int .i64 (tpQ l).n, .int .i64 (tpQ l).why, .int .i64 (tpQ l).slot, .int .i64 (tpQ l).ep, .int .i64 (tpQ l).at_, .bool (tpQ l).last, .slice a (tpD l).length c], .int .i64 (tpW l)]) ∧ Seen w' a (tpD l).length (tpD l) ∧ Below w.heap.size w w' := by
  obtain ⟨k', ok', of_', ot', oa', oy', os', oh', id', nm', n', why', slot', ep', at_', last', a, n, c, rfl, hc, gd, _, b⟩ := h
  obtain ⟨d', hd⟩ := tpQ_data l (.slice a n c)
  rw [hd] at hc
  obtain ⟨_, _, eq, sn, _⟩ := gd
  cases eq
  simp only [CmdV.mk.injEq] at hc
  obtain ⟨e0, e1, e2, e3, e4, e5, e6, e7, e8, e9, e10, e11, e12, e13, e14, e15, _⟩ := hc
  exact ⟨a, c, by rw [e0, e1, e2, e3, e4, e5, e6, e7, e8, e9, e10, e11, e12, e13, e14, e15], sn, b⟩
theorem TParsed.back {w w' : World} {g : Int} {k ok : Int} {of_ ot : ByteArray} {oa : Int} {oy : ByteArray} {os oh : Int} {id nm : ByteArray} {n why slot ep at_ : Int} {last : Bool} {da : Option Addr} {dc : Nat} {dl : List (BitVec 8)} {C : CmdV} {e : Ending} (h : TParsed w w' (askL g C dl) e) (hC : C = ⟨k, ok, of_, ot, oa, oy, os, oh, id, nm, n, why, slot, ep, at_, last, .slice da dl.length dc⟩) (hg : i64ok g) (hc : C.In) (hw : askW g C dl = 0) (h0 : 0 ≤ g) (h3 : g ≤ 3) :
    ∃ a c, e = .returned (.tuple #[.agg #[.int .i64 g, .int .i64 k, .int .i64 ok, .string of_, .string ot, .int .i64 oa, .string oy, .int .i64 os, .int .i64 oh, .string id, .string nm, .int .i64 n, .int .i64 why, .int .i64 slot, .int .i64 ep, .int .i64 at_, .bool last, .slice a dl.length c], .int .i64 0]) ∧ Seen w' a dl.length dl ∧ Below w.heap.size w w' := by
  obtain ⟨a, c, rfl, sn, b⟩ := h.same
  obtain ⟨b1, b2, b3, b4⟩ := ask_back hg hc hw h0 h3 (.slice none 0 0)
  have e1 : tpQ (askL g C dl) = { C with data := .slice none 0 0 } := b3
  rw [b4] at sn
  refine ⟨a, c, ?_, sn, b⟩
  rw [b1, b2, b4, e1, hC]
end Go.Proofs.Ytogbcciocgpknaa
