/- An ask read: the reference. Written by gen_xtp.py. -/
import Derived.Test.YtogbcciocgpknaaTaS
import Derived.Test.YtogbcciocgpknaaXPr
import Derived.Great.BuildSlice
import Derived.WalkSmall
import Derived.Test.YtogbcciocgpknaaXGa
import Derived.Test.YtogbcciocgpknaaTaK
import Derived.Test.YtogbcciocgpknaaTaM
import Derived.Test.YtogbcciocgpknaaTaL
import Derived.Test.YtogbcciocgpknaaTaR
namespace Go.Proofs.Ytogbcciocgpknaa
open Go.RowKit Cod
attribute [local go_sem] Oper.semAt_some
set_option linter.unusedVariables false
set_option maxRecDepth 100000 in
set_option maxHeartbeats 4000000 in
theorem rtParse_any {v : Value} {l : List (BitVec 8)} {w : World} (h : Got w v l) (hm : l.length ≤ 140737488355328) : Calls Try.prog 12 #[v] w fun e w' => TParsed w w' l e := by
  obtain ⟨a, cap, rfl, h, hnil⟩ := h
  have Q0 := heap_alloc_new w (.cells #[.int .i64 0, .int .i64 0, .int .i64 0, .string ⟨#[]⟩, .string ⟨#[]⟩, .int .i64 0, .string ⟨#[]⟩, .int .i64 0, .int .i64 0, .string ⟨#[]⟩, .string ⟨#[]⟩, .int .i64 0, .int .i64 0, .int .i64 0, .int .i64 0, .int .i64 0, .bool false, .slice none 0 0] 29)
  by_cases h1 : 65536 < l.length
  · have e1 : tpW l = 3 := by unfold tpW; rw [if_pos h1]
    have HE : Hid (tpW l = 3) := e1
    have q0 : (65536 : Int) < (l.length : Int) := by omega
    have q1 : decide ((65536 : Int) < (l.length : Int)) = true := decide_eq_true q0
    have QQ : Hid _ := Q0
    clear h hnil hm h1 Q0 e1
    generalize l.length = n at *
    go_enter Try.func12, Try.ntmps12
    go_wp2_with (first
        | (refine wpList_buildTo rfl 29 _ rfl (some 13) rfl #[.int .i64 0, .int .i64 0, .int .i64 0, .string ⟨#[]⟩, .string ⟨#[]⟩, .int .i64 0, .string ⟨#[]⟩, .int .i64 0, .int .i64 0, .string ⟨#[]⟩, .string ⟨#[]⟩, .int .i64 0, .int .i64 0, .int .i64 0, .int .i64 0, .int .i64 0, .bool false, .slice none 0 0] (by kernel_rfl) ?_)
        | (refine wpList_store_row rfl 29 (.tmp 2) (.tmp 13) rfl w.heap.size #[.int .i64 0, .int .i64 0, .int .i64 0, .string ⟨#[]⟩, .string ⟨#[]⟩, .int .i64 0, .string ⟨#[]⟩, .int .i64 0, .int .i64 0, .string ⟨#[]⟩, .string ⟨#[]⟩, .int .i64 0, .int .i64 0, .int .i64 0, .int .i64 0, .int .i64 0, .bool false, .slice none 0 0] rfl rfl 29 _ QQ.out (by kernel_rfl) rfl (by simp [Value.oneCell']) ?_))
    exact bodyPost_ret (results_ct (p := 2) (u := 3) rfl _ _ w.heap.size 29 _ _ _ rfl (setRow_selfX QQ.out) Try.underlying29 rfl (by kernel_rfl)) rfl (tparsed_no 3 (by rw [HE.out]; decide) (by rw [HE.out]) (below_rowX ((Below.refl _ w).alloc (Nat.le_refl _) _) (Nat.le_refl _) _))
  have bA : Below w.heap.size w (w.alloc (.cells #[.int .i64 0, .int .i64 0, .int .i64 0, .string ⟨#[]⟩, .string ⟨#[]⟩, .int .i64 0, .string ⟨#[]⟩, .int .i64 0, .int .i64 0, .string ⟨#[]⟩, .string ⟨#[]⟩, .int .i64 0, .int .i64 0, .int .i64 0, .int .i64 0, .int .i64 0, .bool false, .slice none 0 0] 29)) := (Below.refl _ w).alloc (Nat.le_refl _) _
  have qA := BlX.new w #[.int .i64 0, .int .i64 0, .int .i64 0, .string ⟨#[]⟩, .string ⟨#[]⟩, .int .i64 0, .string ⟨#[]⟩, .int .i64 0, .int .i64 0, .string ⟨#[]⟩, .string ⟨#[]⟩, .int .i64 0, .int .i64 0, .int .i64 0, .int .i64 0, .int .i64 0, .bool false, .slice none 0 0] 29
  have HN := refOf_any a l.length cap l (w.alloc (.cells #[.int .i64 0, .int .i64 0, .int .i64 0, .string ⟨#[]⟩, .string ⟨#[]⟩, .int .i64 0, .string ⟨#[]⟩, .int .i64 0, .int .i64 0, .string ⟨#[]⟩, .string ⟨#[]⟩, .int .i64 0, .int .i64 0, .int .i64 0, .int .i64 0, .int .i64 0, .bool false, .slice none 0 0] 29)) (h.below bA) hnil hm
  have H1 : Hid (¬ 65536 < l.length) := h1
  obtain ⟨wA, eA⟩ : ∃ x, w.alloc (.cells #[.int .i64 0, .int .i64 0, .int .i64 0, .string ⟨#[]⟩, .string ⟨#[]⟩, .int .i64 0, .string ⟨#[]⟩, .int .i64 0, .int .i64 0, .string ⟨#[]⟩, .string ⟨#[]⟩, .int .i64 0, .int .i64 0, .int .i64 0, .int .i64 0, .int .i64 0, .bool false, .slice none 0 0] 29) = x := ⟨_, rfl⟩
  obtain ⟨Q, eQ⟩ : ∃ x, w.heap.size = x := ⟨_, rfl⟩
  rw [eA] at HN bA qA
  rw [eQ] at qA
  have EA : Hid _ := eA
  have EQ : Hid (w.heap.size = Q) := eQ
  have HA : Hid (Below w.heap.size w wA ∧ BlX wA Q #[.int .i64 0, .int .i64 0, .int .i64 0, .string ⟨#[]⟩, .string ⟨#[]⟩, .int .i64 0, .string ⟨#[]⟩, .int .i64 0, .int .i64 0, .string ⟨#[]⟩, .string ⟨#[]⟩, .int .i64 0, .int .i64 0, .int .i64 0, .int .i64 0, .int .i64 0, .bool false, .slice none 0 0] 29) := ⟨bA, qA⟩
  have q0 : ¬ (65536 : Int) < (l.length : Int) := by omega
  have q1 : decide ((65536 : Int) < (l.length : Int)) = false := decide_eq_false q0
  clear h hnil hm h1 bA qA eA eQ Q0
  obtain ⟨ln, en⟩ : ∃ n, l.length = n := ⟨_, rfl⟩
  rw [en] at HN q0 q1
  rw [en]
  clear en
  go_enter Try.func12, Try.ntmps12
  go_wp2_with fail
  rw [EA.out, EQ.out]
  refine HN.mono ?_
  clear HN
  rintro e w1 ⟨R, rfl, hR, r1, b1⟩
  have hz : Q < wA.heap.size := HA.out.2.lt
  obtain ⟨A, eqA⟩ : ∃ A, wA.heap.size = A := ⟨_, rfl⟩
  obtain ⟨B, eqB⟩ : ∃ B, w1.heap.size = B := ⟨_, rfl⟩
  rw [eqA, eqB] at r1
  clear eqA eqB
  have hq : w.heap.size ≤ Q := Nat.le_of_eq EQ.out
  have hr : w.heap.size ≤ R := by omega
  have RQ : Hid (Q ≠ R ∧ w.heap.size ≤ R ∧ w.heap.size ≤ Q) := ⟨by omega, hr, hq⟩
  have K1 : Hid (BlX w1 Q #[.int .i64 0, .int .i64 0, .int .i64 0, .string ⟨#[]⟩, .string ⟨#[]⟩, .int .i64 0, .string ⟨#[]⟩, .int .i64 0, .int .i64 0, .string ⟨#[]⟩, .string ⟨#[]⟩, .int .i64 0, .int .i64 0, .int .i64 0, .int .i64 0, .int .i64 0, .bool false, .slice none 0 0] 29 ∧ Below w.heap.size w w1) := ⟨HA.out.2.below b1, HA.out.1.trans (b1.mono HA.out.1.size)⟩
  have HX := refRInt_any R A B l 0 0 w1 r1
  rw [show zag (rU l 0 0).1 = pcI0 l from rfl, show (rU l 0 0).2.1 = (pX1 l).1 from rfl, show (rU l 0 0).2.2 = (pX1 l).2 from rfl] at HX
  clear r1 b1 hR HA hz hq hr EA EQ
  go_wp2_with fail
  refine HX.mono ?_
  clear HX
  rintro e w2 ⟨rfl, r2, g2⟩
  have K2 : Hid (BlX w2 Q #[.int .i64 0, .int .i64 0, .int .i64 0, .string ⟨#[]⟩, .string ⟨#[]⟩, .int .i64 0, .string ⟨#[]⟩, .int .i64 0, .int .i64 0, .string ⟨#[]⟩, .string ⟨#[]⟩, .int .i64 0, .int .i64 0, .int .i64 0, .int .i64 0, .int .i64 0, .bool false, .slice none 0 0] 29 ∧ Below w.heap.size w w2) := ⟨K1.out.1.grown g2 RQ.out.1, K1.out.2.trans (below_toX g2 RQ.out.2.1 K1.out.2.size)⟩
  have HX := refRBytes_any R A B l (pX1 l).1 (pX1 l).2 w2 r2
  unfold RBT at HX
  rw [tpX_is, tpB_is] at HX
  clear r2 g2 K1
  go_wp2_with fail
  refine HX.mono ?_
  clear HX
  rintro e w3 ⟨dv, rfl, od, ld, r3, g3⟩
  have GD : Hid (Got w3 dv (tpB l) ∧ (tpB l).length ≤ 65536) := ⟨got_owned od (by unfold maxLen; omega), ld⟩
  have K3 : Hid (BlX w3 Q #[.int .i64 0, .int .i64 0, .int .i64 0, .string ⟨#[]⟩, .string ⟨#[]⟩, .int .i64 0, .string ⟨#[]⟩, .int .i64 0, .int .i64 0, .string ⟨#[]⟩, .string ⟨#[]⟩, .int .i64 0, .int .i64 0, .int .i64 0, .int .i64 0, .int .i64 0, .bool false, .slice none 0 0] 29 ∧ Below w.heap.size w w3) := ⟨K2.out.1.grown g3 RQ.out.1, K2.out.2.trans (below_toX g3 RQ.out.2.1 K2.out.2.size)⟩
  have HX := refREnd_any R A B l (tpX l).2.1 (tpX l).2.2 w3 r3
  rw [tpE_is] at HX
  clear r3 g3 K2 od ld
  go_wp2_with fail
  refine HX.mono ?_
  clear HX
  rintro e y1 ⟨rfl, nq, rfl⟩
  have K4 : Hid (BlX (w3.drewN nq) Q #[.int .i64 0, .int .i64 0, .int .i64 0, .string ⟨#[]⟩, .string ⟨#[]⟩, .int .i64 0, .string ⟨#[]⟩, .int .i64 0, .int .i64 0, .string ⟨#[]⟩, .string ⟨#[]⟩, .int .i64 0, .int .i64 0, .int .i64 0, .int .i64 0, .int .i64 0, .bool false, .slice none 0 0] 29 ∧ Below w.heap.size w (w3.drewN nq) ∧ Got (w3.drewN nq) dv (tpB l)) := ⟨K3.out.1, below_drewN' K3.out.2 nq, GD.out.1.below (below_drewN' (Below.refl _ w3) nq)⟩
  have GL : Hid ((tpB l).length ≤ 65536) := GD.out.2
  clear K3 GD
  generalize w3.drewN nq = w4 at *
  by_cases he : tpE l = 0
  case neg =>
    have HE : Hid (tpE l ≠ 0) := he
    have WE : Hid (tpW l = (tpE l : Int)) := by show tpW l = _; unfold tpW; rw [if_neg H1.out, if_pos HE.out]
    have he1 : ¬ ((tpE l : Int) = 0) := by omega
    have he2 : ((tpE l : Int) != 0) = true := by simpa using he
    have QQ : Hid _ := K4.out.1
    clear he
    go_wp2_with (first
        | (refine wpList_buildTo rfl 29 _ rfl (some 24) rfl #[.int .i64 0, .int .i64 0, .int .i64 0, .string ⟨#[]⟩, .string ⟨#[]⟩, .int .i64 0, .string ⟨#[]⟩, .int .i64 0, .int .i64 0, .string ⟨#[]⟩, .string ⟨#[]⟩, .int .i64 0, .int .i64 0, .int .i64 0, .int .i64 0, .int .i64 0, .bool false, .slice none 0 0] (by kernel_rfl) ?_)
        | (refine wpList_store_row rfl 29 (.tmp 2) (.tmp 24) rfl Q #[.int .i64 0, .int .i64 0, .int .i64 0, .string ⟨#[]⟩, .string ⟨#[]⟩, .int .i64 0, .string ⟨#[]⟩, .int .i64 0, .int .i64 0, .string ⟨#[]⟩, .string ⟨#[]⟩, .int .i64 0, .int .i64 0, .int .i64 0, .int .i64 0, .int .i64 0, .bool false, .slice none 0 0] rfl rfl 29 _ QQ.out (by kernel_rfl) rfl (by simp [Value.oneCell']) ?_))
    exact bodyPost_ret (results_ct (p := 2) (u := 3) rfl _ _ Q 29 _ _ _ rfl (setRow_selfX QQ.out) Try.underlying29 rfl (by kernel_rfl)) rfl (tparsed_no (tpE l : Nat) (by rw [WE.out]; have := HE.out; omega) (by rw [WE.out]) (below_rowX K4.out.2.1 RQ.out.2.2 _))
  have HE : Hid (tpE l = 0) := he
  have HX := rsParse_any K4.out.2.2 (Nat.le_trans GL.out (by omega))
  rw [he]
  rw [show ((0 : Nat) : Int) = 0 from rfl]
  clear he
  go_wp2_with fail
  refine HX.mono ?_
  clear HX
  intro e w5 hp
  obtain ⟨k, ok, of_, ot, oa, oy, os, oh, id, nm, n, why, slot, ep, at_, last, da, dn, dc, rfl, hC, gC, lC, b5⟩ := hp.open
  have W5 : Hid (((⟨k, ok, of_, ot, oa, oy, os, oh, id, nm, n, why, slot, ep, at_, last, .slice da dn dc⟩ : CmdV) = psC (tpB l) (.slice da dn dc)) ∧ (psD (tpB l)).length ≤ 65536) := ⟨hC, lC⟩
  have k5 : BlX w5 Q #[.int .i64 0, .int .i64 0, .int .i64 0, .string ⟨#[]⟩, .string ⟨#[]⟩, .int .i64 0, .string ⟨#[]⟩, .int .i64 0, .int .i64 0, .string ⟨#[]⟩, .string ⟨#[]⟩, .int .i64 0, .int .i64 0, .int .i64 0, .int .i64 0, .int .i64 0, .bool false, .slice none 0 0] 29 := K4.out.1.below b5
  have b6 : Below w.heap.size w w5 := K4.out.2.1.trans (b5.mono K4.out.2.1.size)
  have S6 := heap_alloc_new w5 (.cells #[.int .i64 0, .int .i64 0, .string ⟨#[]⟩, .string ⟨#[]⟩, .int .i64 0, .string ⟨#[]⟩, .int .i64 0, .int .i64 0, .string ⟨#[]⟩, .string ⟨#[]⟩, .int .i64 0, .int .i64 0, .int .i64 0, .int .i64 0, .int .i64 0, .bool false, .slice none 0 0] 27)
  have K6 : Hid (BlX (w5.alloc (.cells #[.int .i64 0, .int .i64 0, .string ⟨#[]⟩, .string ⟨#[]⟩, .int .i64 0, .string ⟨#[]⟩, .int .i64 0, .int .i64 0, .string ⟨#[]⟩, .string ⟨#[]⟩, .int .i64 0, .int .i64 0, .int .i64 0, .int .i64 0, .int .i64 0, .bool false, .slice none 0 0] 27)) Q #[.int .i64 0, .int .i64 0, .int .i64 0, .string ⟨#[]⟩, .string ⟨#[]⟩, .int .i64 0, .string ⟨#[]⟩, .int .i64 0, .int .i64 0, .string ⟨#[]⟩, .string ⟨#[]⟩, .int .i64 0, .int .i64 0, .int .i64 0, .int .i64 0, .int .i64 0, .bool false, .slice none 0 0] 29 ∧ Below w.heap.size w (w5.alloc (.cells #[.int .i64 0, .int .i64 0, .string ⟨#[]⟩, .string ⟨#[]⟩, .int .i64 0, .string ⟨#[]⟩, .int .i64 0, .int .i64 0, .string ⟨#[]⟩, .string ⟨#[]⟩, .int .i64 0, .int .i64 0, .int .i64 0, .int .i64 0, .int .i64 0, .bool false, .slice none 0 0] 27)) ∧ Far (w5.alloc (.cells #[.int .i64 0, .int .i64 0, .string ⟨#[]⟩, .string ⟨#[]⟩, .int .i64 0, .string ⟨#[]⟩, .int .i64 0, .int .i64 0, .string ⟨#[]⟩, .string ⟨#[]⟩, .int .i64 0, .int .i64 0, .int .i64 0, .int .i64 0, .int .i64 0, .bool false, .slice none 0 0] 27)) w4.heap.size (.slice da dn dc) (psD (tpB l))) := ⟨k5.alloc _, b6.alloc b6.size _, gC.below ((Below.refl _ w5).alloc (Nat.le_refl _) _)⟩
  have hQS : Q < w5.heap.size := k5.lt
  have hSz : w.heap.size ≤ w5.heap.size := b6.size
  obtain ⟨S, eS⟩ : ∃ S, w5.heap.size = S := ⟨_, rfl⟩
  obtain ⟨w6, e6⟩ : ∃ x, w5.alloc (.cells #[.int .i64 0, .int .i64 0, .string ⟨#[]⟩, .string ⟨#[]⟩, .int .i64 0, .string ⟨#[]⟩, .int .i64 0, .int .i64 0, .string ⟨#[]⟩, .string ⟨#[]⟩, .int .i64 0, .int .i64 0, .int .i64 0, .int .i64 0, .int .i64 0, .bool false, .slice none 0 0] 27) = x := ⟨_, rfl⟩
  rw [e6] at S6 K6
  rw [eS] at S6 hQS hSz
  have E6 : Hid _ := e6
  have ES : Hid (w5.heap.size = S) := eS
  have SS : Hid _ := S6
  have HS : Hid (Q < S ∧ w.heap.size ≤ S) := ⟨hQS, hSz⟩
  have K7 : Hid (BlX (w6.setRow S #[.int .i64 k, .int .i64 ok, .string of_, .string ot, .int .i64 oa, .string oy, .int .i64 os, .int .i64 oh, .string id, .string nm, .int .i64 n, .int .i64 why, .int .i64 slot, .int .i64 ep, .int .i64 at_, .bool last, .slice da dn dc]) Q #[.int .i64 0, .int .i64 0, .int .i64 0, .string ⟨#[]⟩, .string ⟨#[]⟩, .int .i64 0, .string ⟨#[]⟩, .int .i64 0, .int .i64 0, .string ⟨#[]⟩, .string ⟨#[]⟩, .int .i64 0, .int .i64 0, .int .i64 0, .int .i64 0, .int .i64 0, .bool false, .slice none 0 0] 29 ∧ Below w.heap.size w (w6.setRow S #[.int .i64 k, .int .i64 ok, .string of_, .string ot, .int .i64 oa, .string oy, .int .i64 os, .int .i64 oh, .string id, .string nm, .int .i64 n, .int .i64 why, .int .i64 slot, .int .i64 ep, .int .i64 at_, .bool last, .slice da dn dc]) ∧ (w6.setRow S #[.int .i64 k, .int .i64 ok, .string of_, .string ot, .int .i64 oa, .string oy, .int .i64 os, .int .i64 oh, .string id, .string nm, .int .i64 n, .int .i64 why, .int .i64 slot, .int .i64 ep, .int .i64 at_, .bool last, .slice da dn dc]).heap[S]? = some (.cells #[.int .i64 k, .int .i64 ok, .string of_, .string ot, .int .i64 oa, .string oy, .int .i64 os, .int .i64 oh, .string id, .string nm, .int .i64 n, .int .i64 why, .int .i64 slot, .int .i64 ep, .int .i64 at_, .bool last, .slice da dn dc] 27 (0, 0)) ∧ Far (w6.setRow S #[.int .i64 k, .int .i64 ok, .string of_, .string ot, .int .i64 oa, .string oy, .int .i64 os, .int .i64 oh, .string id, .string nm, .int .i64 n, .int .i64 why, .int .i64 slot, .int .i64 ep, .int .i64 at_, .bool last, .slice da dn dc]) w4.heap.size (.slice da dn dc) (psD (tpB l)) ∧ Q < w4.heap.size) := by
    refine ⟨(setRow_other _ _ _ _ (by have := HS.out; omega)).trans K6.out.1, below_rowX K6.out.2.1 HS.out.2 _, setRow_selfX S6, ?_, K4.out.1.lt⟩
    have b7 : Below w5.heap.size w5 (w6.setRow S #[.int .i64 k, .int .i64 ok, .string of_, .string ot, .int .i64 oa, .string oy, .int .i64 os, .int .i64 oh, .string id, .string nm, .int .i64 n, .int .i64 why, .int .i64 slot, .int .i64 ep, .int .i64 at_, .bool last, .slice da dn dc]) := below_rowX (by rw [← e6]; exact (Below.refl _ w5).alloc (Nat.le_refl _) _) (Nat.le_of_eq eS) _
    exact gC.below b7
  clear hC gC lC b5 k5 b6 S6 hQS hSz e6 eS K6 K4 hp
  by_cases hw : psW (tpB l) = 0
  case neg =>
    have HW : Hid (psW (tpB l) ≠ 0) := hw
    have WE : Hid (tpW l = (psW (tpB l) : Int)) := by show tpW l = _; unfold tpW; rw [if_neg H1.out, if_neg (fun x => x HE.out), if_pos HW.out]
    have he1 : ¬ ((psW (tpB l) : Int) = 0) := by omega
    have he2 : ((psW (tpB l) : Int) != 0) = true := by simpa using hw
    clear hw
    go_wp2_with (first
        | (refine wpList_store_row rfl 27 (.tmp 8) (.tmp 29) rfl S #[.int .i64 k, .int .i64 ok, .string of_, .string ot, .int .i64 oa, .string oy, .int .i64 os, .int .i64 oh, .string id, .string nm, .int .i64 n, .int .i64 why, .int .i64 slot, .int .i64 ep, .int .i64 at_, .bool last, .slice da dn dc] rfl rfl 27 _ SS.out (by kernel_rfl) (by simp) (by simp [Value.oneCell']) ?_)
        | (refine wpList_buildTo rfl 29 _ rfl (some 33) rfl #[.int .i64 0, .int .i64 0, .int .i64 0, .string ⟨#[]⟩, .string ⟨#[]⟩, .int .i64 0, .string ⟨#[]⟩, .int .i64 0, .int .i64 0, .string ⟨#[]⟩, .string ⟨#[]⟩, .int .i64 0, .int .i64 0, .int .i64 0, .int .i64 0, .int .i64 0, .bool false, .slice none 0 0] (by kernel_rfl) ?_)
        | (refine wpList_store_row rfl 29 (.tmp 2) (.tmp 33) rfl Q #[.int .i64 0, .int .i64 0, .int .i64 0, .string ⟨#[]⟩, .string ⟨#[]⟩, .int .i64 0, .string ⟨#[]⟩, .int .i64 0, .int .i64 0, .string ⟨#[]⟩, .string ⟨#[]⟩, .int .i64 0, .int .i64 0, .int .i64 0, .int .i64 0, .int .i64 0, .bool false, .slice none 0 0] rfl rfl 29 _ K7.out.1 (by kernel_rfl) rfl (by simp [Value.oneCell']) ?_)
        | (rw [E6.out, ES.out]))
    exact bodyPost_ret (results_ct (p := 2) (u := 3) rfl _ _ Q 29 _ _ _ rfl (setRow_selfX K7.out.1) Try.underlying29 rfl (by kernel_rfl)) rfl (tparsed_no (psW (tpB l) : Nat) (by rw [WE.out]; have := HW.out; omega) (by rw [WE.out]) (below_rowX K7.out.2.1 RQ.out.2.2 _))
  have HW : Hid (psW (tpB l) = 0) := hw
  have RG : Hid ((w6.setRow S #[.int .i64 k, .int .i64 ok, .string of_, .string ot, .int .i64 oa, .string oy, .int .i64 os, .int .i64 oh, .string id, .string nm, .int .i64 n, .int .i64 why, .int .i64 slot, .int .i64 ep, .int .i64 at_, .bool last, .slice da dn dc]).rangeAt S 0 [.int .i64 k, .int .i64 ok, .string of_, .string ot, .int .i64 oa, .string oy, .int .i64 os, .int .i64 oh, .string id, .string nm, .int .i64 n, .int .i64 why, .int .i64 slot, .int .i64 ep, .int .i64 at_, .bool last, .slice da dn dc]) := BlX.range (P := S) (t := 27) (cs := #[.int .i64 k, .int .i64 ok, .string of_, .string ot, .int .i64 oa, .string oy, .int .i64 os, .int .i64 oh, .string id, .string nm, .int .i64 n, .int .i64 why, .int .i64 slot, .int .i64 ep, .int .i64 at_, .bool last, .slice da dn dc]) K7.out.2.2.1
  have GK : Hid (Got ((w6.setRow S #[.int .i64 k, .int .i64 ok, .string of_, .string ot, .int .i64 oa, .string oy, .int .i64 os, .int .i64 oh, .string id, .string nm, .int .i64 n, .int .i64 why, .int .i64 slot, .int .i64 ep, .int .i64 at_, .bool last, .slice da dn dc]).setRow Q #[.int .i64 (pcI0 l), .int .i64 k, .int .i64 ok, .string of_, .string ot, .int .i64 oa, .string oy, .int .i64 os, .int .i64 oh, .string id, .string nm, .int .i64 n, .int .i64 why, .int .i64 slot, .int .i64 ep, .int .i64 at_, .bool last, .slice da dn dc]) (.slice da dn dc) (psD (tpB l))) := (Far.since K7.out.2.2.2.1 (fun q hq => setRow_other _ _ _ _ (by have := K7.out.2.2.2.2; omega))).got
  rw [hw]
  rw [show ((0 : Nat) : Int) = 0 from rfl]
  clear hw
  by_cases hb : pcI0 l < 0 ∨ 3 < pcI0 l
  case pos =>
    have WE : Hid (tpW l = 1) := by show tpW l = _; unfold tpW; rw [if_neg H1.out, if_neg (fun x => x HE.out), if_neg (fun x => x HW.out), if_pos hb]
    have PK : (decide (pcI0 l < 0) = true ∧ decide (3 < pcI0 l) = false) ∨ (decide (pcI0 l < 0) = false ∧ decide (3 < pcI0 l) = true) := by
      by_cases hx : pcI0 l < 0
      · exact .inl ⟨decide_eq_true hx, decide_eq_false (by omega)⟩
      · exact .inr ⟨decide_eq_false hx, decide_eq_true (by omega)⟩
    clear hb
    generalize pcI0 l = gp at PK ⊢
    rcases PK with ⟨d1, d2⟩ | ⟨d1, d2⟩
    all_goals
      have d3 := d1
      have d4 := d2
      simp only [decide_eq_true_eq, decide_eq_false_iff_not] at d3 d4
      go_wp2_with (first
        | (refine wpList_store_row rfl 27 (.tmp 8) (.tmp 29) rfl S #[.int .i64 k, .int .i64 ok, .string of_, .string ot, .int .i64 oa, .string oy, .int .i64 os, .int .i64 oh, .string id, .string nm, .int .i64 n, .int .i64 why, .int .i64 slot, .int .i64 ep, .int .i64 at_, .bool last, .slice da dn dc] rfl rfl 27 _ SS.out (by kernel_rfl) (by simp) (by simp [Value.oneCell']) ?_)
        | (refine wpList_buildTo rfl 29 _ rfl (some 41) rfl #[.int .i64 0, .int .i64 0, .int .i64 0, .string ⟨#[]⟩, .string ⟨#[]⟩, .int .i64 0, .string ⟨#[]⟩, .int .i64 0, .int .i64 0, .string ⟨#[]⟩, .string ⟨#[]⟩, .int .i64 0, .int .i64 0, .int .i64 0, .int .i64 0, .int .i64 0, .bool false, .slice none 0 0] (by kernel_rfl) ?_)
        | (refine wpList_store_row rfl 29 (.tmp 2) (.tmp 41) rfl Q #[.int .i64 0, .int .i64 0, .int .i64 0, .string ⟨#[]⟩, .string ⟨#[]⟩, .int .i64 0, .string ⟨#[]⟩, .int .i64 0, .int .i64 0, .string ⟨#[]⟩, .string ⟨#[]⟩, .int .i64 0, .int .i64 0, .int .i64 0, .int .i64 0, .int .i64 0, .bool false, .slice none 0 0] rfl rfl 29 _ K7.out.1 (by kernel_rfl) rfl (by simp [Value.oneCell']) ?_)
        | (rw [E6.out, ES.out]))
      exact bodyPost_ret (results_ct (p := 2) (u := 3) rfl _ _ Q 29 _ _ _ rfl (setRow_selfX K7.out.1) Try.underlying29 rfl (by kernel_rfl)) rfl (tparsed_no 1 (by rw [WE.out]; decide) (by rw [WE.out]) (below_rowX K7.out.2.1 RQ.out.2.2 _))
  have WE : Hid (tpW l = 0) := by show tpW l = _; unfold tpW; rw [if_neg H1.out, if_neg (fun x => x HE.out), if_neg (fun x => x HW.out), if_neg hb]
  have FQ : Hid (TParsed w ((w6.setRow S #[.int .i64 k, .int .i64 ok, .string of_, .string ot, .int .i64 oa, .string oy, .int .i64 os, .int .i64 oh, .string id, .string nm, .int .i64 n, .int .i64 why, .int .i64 slot, .int .i64 ep, .int .i64 at_, .bool last, .slice da dn dc]).setRow Q #[.int .i64 (pcI0 l), .int .i64 k, .int .i64 ok, .string of_, .string ot, .int .i64 oa, .string oy, .int .i64 os, .int .i64 oh, .string id, .string nm, .int .i64 n, .int .i64 why, .int .i64 slot, .int .i64 ep, .int .i64 at_, .bool last, .slice da dn dc]) l (.returned (.tuple #[.agg #[.int .i64 (pcI0 l), .int .i64 k, .int .i64 ok, .string of_, .string ot, .int .i64 oa, .string oy, .int .i64 os, .int .i64 oh, .string id, .string nm, .int .i64 n, .int .i64 why, .int .i64 slot, .int .i64 ep, .int .i64 at_, .bool last, .slice da dn dc], .int .i64 0]))) := tparsed_yes k ok of_ ot oa oy os oh id nm n why slot ep at_ last da dn dc WE.out W5.out.1 GK.out W5.out.2 (below_rowX K7.out.2.1 RQ.out.2.2 _)
  have d3 : ¬ pcI0 l < 0 := by omega
  have d4 : ¬ 3 < pcI0 l := by omega
  have d1 : decide (pcI0 l < 0) = false := decide_eq_false d3
  have d2 : decide (3 < pcI0 l) = false := decide_eq_false d4
  clear hb WE GK W5
  obtain ⟨gp, egp⟩ : ∃ g, pcI0 l = g := ⟨_, rfl⟩
  rw [egp] at d1 d2 d3 d4 FQ ⊢
  clear egp
  go_wp2_with (first
    | (refine wpList_store_row rfl 27 (.tmp 8) (.tmp 29) rfl S #[.int .i64 k, .int .i64 ok, .string of_, .string ot, .int .i64 oa, .string oy, .int .i64 os, .int .i64 oh, .string id, .string nm, .int .i64 n, .int .i64 why, .int .i64 slot, .int .i64 ep, .int .i64 at_, .bool last, .slice da dn dc] rfl rfl 27 _ SS.out (by kernel_rfl) (by simp) (by simp [Value.oneCell']) ?_)
    | (refine wpList_load_mid rfl 27 (.tmp 8) rfl S 0 rfl [.int .i64 k, .int .i64 ok, .string of_, .string ot, .int .i64 oa, .string oy, .int .i64 os, .int .i64 oh, .string id, .string nm, .int .i64 n, .int .i64 why, .int .i64 slot, .int .i64 ep, .int .i64 at_, .bool last, .slice da dn dc] _ RG.out Try.underlying27 rfl (by kernel_rfl) ?_)
    | (refine wpList_buildTo rfl 29 _ rfl (some 44) rfl #[.int .i64 gp, .int .i64 k, .int .i64 ok, .string of_, .string ot, .int .i64 oa, .string oy, .int .i64 os, .int .i64 oh, .string id, .string nm, .int .i64 n, .int .i64 why, .int .i64 slot, .int .i64 ep, .int .i64 at_, .bool last, .slice da dn dc] (by kernel_rfl) ?_)
    | (refine wpList_store_row rfl 29 (.tmp 2) (.tmp 44) rfl Q #[.int .i64 gp, .int .i64 k, .int .i64 ok, .string of_, .string ot, .int .i64 oa, .string oy, .int .i64 os, .int .i64 oh, .string id, .string nm, .int .i64 n, .int .i64 why, .int .i64 slot, .int .i64 ep, .int .i64 at_, .bool last, .slice da dn dc] rfl rfl 29 _ K7.out.1 (by kernel_rfl) (by simp) (by simp [Value.oneCell']) ?_)
    | (rw [E6.out, ES.out]))
  exact bodyPost_ret (results_ct (p := 2) (u := 3) rfl _ _ Q 29 _ _ _ rfl (setRow_selfX K7.out.1) Try.underlying29 rfl (by kernel_rfl)) rfl FQ.out
end Go.Proofs.Ytogbcciocgpknaa

namespace Go.Proofs.Ytogbcciocgpknaa
open Go.RowKit Cod
attribute [local go_sem] Oper.semAt_some
set_option linter.unusedVariables false
set_option maxRecDepth 100000 in
set_option maxHeartbeats 4000000 in
theorem rtGet_any {v : Value} {l : List (BitVec 8)} {w : World} (h : Got w v l) (hm : l.length ≤ 140737488355328) : Calls Try.prog 14 #[v] w fun e w' => Gotten w w' l e := by
  obtain ⟨a, cap, rfl, h, hnil⟩ := h
  have Q0 := heap_alloc_new w (.cells #[.int .i64 0, .bool false, .int .i64 0, .int .i64 0, .slice none 0 0, .slice none 0 0] 34)
  by_cases h1 : 1048576 < l.length
  · have e1 : grW l = 3 := by unfold grW; rw [if_pos h1]
    have HE : Hid (grW l = 3) := e1
    have q0 : (1048576 : Int) < (l.length : Int) := by omega
    have q1 : decide ((1048576 : Int) < (l.length : Int)) = true := decide_eq_true q0
    have Q1 : Hid _ := Q0
    clear h hnil hm h1 Q0 e1
    generalize l.length = n at *
    go_enter Try.func14, Try.ntmps14
    go_wp2_with (first
      | (refine wpList_buildTo rfl 34 _ rfl (some 10) rfl #[.int .i64 0, .bool false, .int .i64 0, .int .i64 0, .slice none 0 0, .slice none 0 0] (by kernel_rfl) ?_)
      | (refine wpList_store_row rfl 34 (.tmp 2) (.tmp 10) rfl w.heap.size #[.int .i64 0, .bool false, .int .i64 0, .int .i64 0, .slice none 0 0, .slice none 0 0] rfl rfl 34 _ Q1.out (by kernel_rfl) rfl (by simp [Value.oneCell']) ?_))
    exact bodyPost_ret (results_ct (p := 2) (u := 3) rfl _ _ w.heap.size 34 _ _ _ rfl (setRow_selfX Q1.out) Try.underlying34 rfl (by kernel_rfl)) rfl (gottenZ 3 (by rw [HE.out]; decide) (by rw [HE.out]; rfl) (below_rowX ((Below.refl _ w).alloc (Nat.le_refl _) _) (Nat.le_refl _) _))
  have e1 : grW l = gcE l := by unfold grW; rw [if_neg h1]
  have HE1 : Hid (grW l = gcE l) := e1
  have bA : Below w.heap.size w (w.alloc (.cells #[.int .i64 0, .bool false, .int .i64 0, .int .i64 0, .slice none 0 0, .slice none 0 0] 34)) := (Below.refl _ w).alloc (Nat.le_refl _) _
  have qA := BlX.new w #[.int .i64 0, .bool false, .int .i64 0, .int .i64 0, .slice none 0 0, .slice none 0 0] 34
  have HN := refOf_any a l.length cap l (w.alloc (.cells #[.int .i64 0, .bool false, .int .i64 0, .int .i64 0, .slice none 0 0, .slice none 0 0] 34)) (h.below bA) hnil hm
  obtain ⟨wA, eA⟩ : ∃ x, w.alloc (.cells #[.int .i64 0, .bool false, .int .i64 0, .int .i64 0, .slice none 0 0, .slice none 0 0] 34) = x := ⟨_, rfl⟩
  obtain ⟨Q, eQ⟩ : ∃ x, w.heap.size = x := ⟨_, rfl⟩
  rw [eA] at HN bA qA
  rw [eQ] at qA
  have EA : Hid _ := eA
  have EQ : Hid (w.heap.size = Q) := eQ
  have HA : Hid (Below w.heap.size w wA ∧ BlX wA Q #[.int .i64 0, .bool false, .int .i64 0, .int .i64 0, .slice none 0 0, .slice none 0 0] 34) := ⟨bA, qA⟩
  have q0 : ¬ (1048576 : Int) < (l.length : Int) := by omega
  have q1 : decide ((1048576 : Int) < (l.length : Int)) = false := decide_eq_false q0
  clear h hnil hm h1 bA qA eA eQ e1 Q0
  obtain ⟨n, en⟩ : ∃ n, l.length = n := ⟨_, rfl⟩
  rw [en] at HN q0 q1
  rw [en]
  clear en
  go_enter Try.func14, Try.ntmps14
  go_wp2_with fail
  rw [EA.out, EQ.out]
  refine HN.mono ?_
  clear HN
  rintro e w1 ⟨R, rfl, hR, r1, b1⟩
  have hz : Q < wA.heap.size := HA.out.2.lt
  have hz1 : wA.heap.size ≤ w1.heap.size := b1.size
  have hz2 : R < w1.heap.size := r1.lt
  obtain ⟨A, eqA⟩ : ∃ A, wA.heap.size = A := ⟨_, rfl⟩
  obtain ⟨B, eqB⟩ : ∃ B, w1.heap.size = B := ⟨_, rfl⟩
  rw [eqA, eqB] at r1
  have P0 : Hid (HSx w (w1.alloc (.cells #[.int .i64 0, .bool false, .int .i64 0, .int .i64 0, .slice none 0 0, .slice none 0 0] 34)) 34 Q R w1.heap.size l #[.int .i64 0, .bool false, .int .i64 0, .int .i64 0, .slice none 0 0, .slice none 0 0] (pX0 l) A B) :=
    ⟨(HA.out.2.below b1).alloc _, BlX.new w1 _ _, r1.since (((Below.refl _ w1).alloc (Nat.le_refl _) _).block _ r1.lt) (fun k _ hk => ((Below.refl _ w1).alloc (Nat.le_refl _) _).block _ hk), (HA.out.1.trans (b1.mono HA.out.1.size)).alloc (Nat.le_trans HA.out.1.size b1.size) _, Nat.le_of_eq EQ.out, Nat.le_trans HA.out.1.size b1.size, Nat.le_trans HA.out.1.size hR, by omega, by omega, hz2, by omega, by omega⟩
  clear eqA eqB
  obtain ⟨w2, e2⟩ : ∃ x, w1.alloc (.cells #[.int .i64 0, .bool false, .int .i64 0, .int .i64 0, .slice none 0 0, .slice none 0 0] 34) = x := ⟨_, rfl⟩
  obtain ⟨S, eS⟩ : ∃ x, w1.heap.size = x := ⟨_, rfl⟩
  have E2 : Hid _ := e2
  have ES : Hid (w1.heap.size = S) := eS
  rw [e2, eS] at P0
  clear e2 eS r1 b1 hR HA hz hz1 hz2
  have HX := refRInt_any R A B l (pX0 l).1 (pX0 l).2 _ P0.out.r
  rw [pcI0_is, pX1_a, pX1_b] at HX
  go_wp2_with fail
  rw [E2.out, ES.out]
  clear E2 ES
  refine HX.mono ?_
  clear HX
  rintro e x0 ⟨rfl, r0, g0⟩
  have J0 : Hid (HSx w x0 34 Q R S l #[.int .i64 0, .bool false, .int .i64 0, .int .i64 0, .slice none 0 0, .slice none 0 0] (pX1 l) A B) := P0.out.read g0 r0
  have c0 : x0.cell? ⟨S, 0, none⟩ = some (.int .i64 0) := J0.out.s.cell 0
  have f0 := J0.out.s.fz 0
  clear r0 g0 P0
  have P1 : Hid (HSx w (x0.setCell ⟨S, 0, none⟩ (.int .i64 (pcI0 l))) 34 Q R S l #[.int .i64 (pcI0 l), .bool false, .int .i64 0, .int .i64 0, .slice none 0 0, .slice none 0 0] (pX1 l) A B) := J0.out.put 0 _
  clear J0
  have HX := refRBool_any R A B l (pX1 l).1 (pX1 l).2 _ P1.out.r
  rw [gcL_is, gX2_a, gX2_b] at HX
  go_wp2_with fail
  refine HX.mono ?_
  clear HX c0 f0
  rintro e x1 ⟨rfl, r1, g1⟩
  have J1 : Hid (HSx w x1 34 Q R S l #[.int .i64 (pcI0 l), .bool false, .int .i64 0, .int .i64 0, .slice none 0 0, .slice none 0 0] (gX2 l) A B) := P1.out.read g1 r1
  have c1 : x1.cell? ⟨S, 1, none⟩ = some (.bool false) := J1.out.s.cell 1
  have f1 := J1.out.s.fz 1
  clear r1 g1 P1
  have P2 : Hid (HSx w (x1.setCell ⟨S, 1, none⟩ (.bool (gcL l))) 34 Q R S l #[.int .i64 (pcI0 l), .bool (gcL l), .int .i64 0, .int .i64 0, .slice none 0 0, .slice none 0 0] (gX2 l) A B) := J1.out.put 1 _
  clear J1
  have HX := refGetReply_own R A B l (gX2 l).1 (gX2 l).2 _ P2.out.r (Nat.le_of_lt (Nat.lt_of_le_of_lt P2.out.rs.2.2 P2.out.s.lt))
  rw [gcY_is, gcM_is, gcR_is, gX3_a, gX3_b] at HX
  go_wp2_with fail
  refine HX.mono ?_
  clear HX c1 f1
  rintro e x2 ⟨qa, qn, qc, rfl, hq6, hqn, oR, r2, g2⟩
  subst hqn
  have QL : Hid ((gcR l).length ≤ 600) := hq6
  have sz1 : S < (x1.setCell ⟨S, 1, none⟩ (.bool (gcL l))).heap.size := P2.out.s.lt
  obtain ⟨BR, eBR⟩ : ∃ BR, (x1.setCell ⟨S, 1, none⟩ (.bool (gcL l))).heap.size = BR := ⟨_, rfl⟩
  rw [eBR] at oR sz1
  have SB : Hid (S < BR) := sz1
  have OR0 : Hid (x2.ownsRow BR 62 2 (.slice qa (gcR l).length qc) (gcR l).length (rowCells (gcR l))) := oR
  clear oR hq6 eBR sz1
  have J2 : Hid (HSx w x2 34 Q R S l #[.int .i64 (pcI0 l), .bool (gcL l), .int .i64 0, .int .i64 0, .slice none 0 0, .slice none 0 0] (gX3 l) A B) := P2.out.read g2 r2
  have TT : Hid (x2.there S 2 3) := J2.out.s.there (by simp)
  have OR1' : Hid ((x2.setCells S 2 [.int .i64 (gcY l), .int .i64 (gcM l), .slice qa (gcR l).length qc]).ownsRow BR 62 2 (.slice qa (gcR l).length qc) (gcR l).length (rowCells (gcR l))) := owns_set (owns_set (owns_set OR0.out ⟨S, 2, none⟩ _ SB.out) ⟨S, 3, none⟩ _ SB.out) ⟨S, 4, none⟩ _ SB.out
  have P3' : Hid (HSx w (x2.setCells S 2 [.int .i64 (gcY l), .int .i64 (gcM l), .slice qa (gcR l).length qc]) 34 Q R S l #[.int .i64 (pcI0 l), .bool (gcL l), .int .i64 (gcY l), .int .i64 (gcM l), .slice qa (gcR l).length qc, .slice none 0 0] (gX3 l) A B) := J2.out.puts [.int .i64 (gcY l), .int .i64 (gcM l), .slice qa (gcR l).length qc] 2
  obtain ⟨wX, eX⟩ : ∃ wX, x2.setCells S 2 (#[.int .i64 (gcY l), .int .i64 (gcM l), .slice qa (gcR l).length qc] : Array Value).toList = wX := ⟨_, rfl⟩
  have P3 : Hid (HSx w wX 34 Q R S l #[.int .i64 (pcI0 l), .bool (gcL l), .int .i64 (gcY l), .int .i64 (gcM l), .slice qa (gcR l).length qc, .slice none 0 0] (gX3 l) A B) := by rw [← eX]; exact P3'.out
  have OR1 : Hid (wX.ownsRow BR 62 2 (.slice qa (gcR l).length qc) (gcR l).length (rowCells (gcR l))) := by rw [← eX]; exact OR1'.out
  have EX : Hid (x2.setCells S 2 (#[.int .i64 (gcY l), .int .i64 (gcM l), .slice qa (gcR l).length qc] : Array Value).toList = wX) := eX
  clear r2 g2 P2 P3' eX J2 OR0 OR1'
  have HX := refRBytes_any R A B l (gX3 l).1 (gX3 l).2 _ P3.out.r
  unfold RBT at HX
  rw [gcD_is, gX4_a, gX4_b] at HX
  go_wp2_with (first
    | (refine wpList_store_mid rfl 32 (.tmp 21) (.tmp 20) rfl S 2 #[.int .i64 (gcY l), .int .i64 (gcM l), .slice qa (gcR l).length qc] rfl rfl TT.out (by kernel_rfl) (by simp [Value.oneCell']) ?_; rw [EX.out]))
  refine HX.mono ?_
  clear HX
  rintro e x3 ⟨dv, rfl, od, ld, r3, g3⟩
  have FD : Hid (Far x3 wX.heap.size dv (gcD l) ∧ (gcD l).length ≤ 65536) := ⟨far_owned od (by unfold maxLen; omega), ld⟩
  have fd := FD.out.1
  obtain ⟨da, dc, rfl, _⟩ := fd
  have sz0 : S < wX.heap.size := P3.out.s.lt
  have SD : Hid (S < wX.heap.size) := sz0
  clear od ld sz0
  have J3 : Hid (HSx w x3 34 Q R S l #[.int .i64 (pcI0 l), .bool (gcL l), .int .i64 (gcY l), .int .i64 (gcM l), .slice qa (gcR l).length qc, .slice none 0 0] (gX4 l) A B) := P3.out.read g3 r3
  have OR2 : Hid (x3.ownsRow BR 62 2 (.slice qa (gcR l).length qc) (gcR l).length (rowCells (gcR l))) := owns_far OR1.out g3 (by have := SB.out; have := P3.out.rs.1; omega)
  have c3 : x3.cell? ⟨S, 5, none⟩ = some (.slice none 0 0) := J3.out.s.cell 5
  have f3 := J3.out.s.fz 5
  clear r3 g3 P3
  have P4 : Hid (HSx w (x3.setCell ⟨S, 5, none⟩ (.slice da (gcD l).length dc)) 34 Q R S l #[.int .i64 (pcI0 l), .bool (gcL l), .int .i64 (gcY l), .int .i64 (gcM l), .slice qa (gcR l).length qc, .slice da (gcD l).length dc] (gX4 l) A B) := J3.out.put 5 _
  clear J3
  have FE : Hid (Far (x3.setCell ⟨S, 5, none⟩ (.slice da (gcD l).length dc)) wX.heap.size (.slice da (gcD l).length dc) (gcD l)) := FD.out.1.since (fun q hq => Below.heap_setCell _ _ _ _ (by have := SD.out; show q ≠ S; omega))
  have FRw : Hid (FarR (x3.setCell ⟨S, 5, none⟩ (.slice da (gcD l).length dc)) BR qa (gcR l)) := farR_owned (owns_set OR2.out ⟨S, 5, none⟩ _ SB.out) rfl (by have := QL.out; omega)
  clear OR1 OR2
  have HX := refREnd_any R A B l (gX4 l).1 (gX4 l).2 _ P4.out.r
  rw [gcE_is] at HX
  go_wp2_with fail
  refine HX.mono ?_
  clear HX c3 f3
  rintro e y1 ⟨rfl, nq, rfl⟩
  have H7 : Hid (HSx w ((x3.setCell ⟨S, 5, none⟩ (.slice da (gcD l).length dc)).drewN nq) 34 Q R S l #[.int .i64 (pcI0 l), .bool (gcL l), .int .i64 (gcY l), .int .i64 (gcM l), .slice qa (gcR l).length qc, .slice da (gcD l).length dc] (gX4 l) A B) := P4.out.drewN nq
  have F7 : Hid (Far ((x3.setCell ⟨S, 5, none⟩ (.slice da (gcD l).length dc)).drewN nq) wX.heap.size (.slice da (gcD l).length dc) (gcD l)) := FE.out.since (fun _ _ => rfl)
  have F8 : Hid (FarR ((x3.setCell ⟨S, 5, none⟩ (.slice da (gcD l).length dc)).drewN nq) BR qa (gcR l)) := FRw.out.since (fun _ _ => rfl)
  obtain ⟨bs, ebs⟩ : ∃ b, wX.heap.size = b := ⟨_, rfl⟩
  rw [ebs] at F7 SD
  clear P4 FE FRw ebs
  generalize (x3.setCell ⟨S, 5, none⟩ (.slice da (gcD l).length dc)).drewN nq = y2 at *
  by_cases he : gcE l = 0
  · have HE : Hid (gcE l = 0) := he
    have RG : Hid (y2.rangeAt S 0 [.int .i64 (pcI0 l), .bool (gcL l), .int .i64 (gcY l), .int .i64 (gcM l), .slice qa (gcR l).length qc, .slice da (gcD l).length dc]) := H7.out.s.range
    have QQ : Hid _ := H7.out.q
    rw [he]
    rw [show ((0 : Nat) : Int) = 0 from rfl]
    clear he
    go_wp2_with (first
      | (refine wpList_load_mid rfl 34 (.tmp 5) rfl S 0 rfl [.int .i64 (pcI0 l), .bool (gcL l), .int .i64 (gcY l), .int .i64 (gcM l), .slice qa (gcR l).length qc, .slice da (gcD l).length dc] _ RG.out Try.underlying34 rfl (by kernel_rfl) ?_)
      | (refine wpList_store_row rfl 34 (.tmp 2) (.tmp 31) rfl Q #[.int .i64 (pcI0 l), .bool (gcL l), .int .i64 (gcY l), .int .i64 (gcM l), .slice qa (gcR l).length qc, .slice da (gcD l).length dc] rfl rfl 34 _ QQ.out (by kernel_rfl) (by simp) (by simp [Value.oneCell']) ?_))
    have FR : Far (y2.setRow Q #[.int .i64 (pcI0 l), .bool (gcL l), .int .i64 (gcY l), .int .i64 (gcM l), .slice qa (gcR l).length qc, .slice da (gcD l).length dc]) bs (.slice da (gcD l).length dc) (gcD l) := F7.out.since (fun k hk => setRow_other _ _ _ _ (by have := SD.out; have := H7.out.qs; omega))
    have FQR : FarR (y2.setRow Q #[.int .i64 (pcI0 l), .bool (gcL l), .int .i64 (gcY l), .int .i64 (gcM l), .slice qa (gcR l).length qc, .slice da (gcD l).length dc]) BR qa (gcR l) := F8.out.since (fun k hk => setRow_other _ _ _ _ (by have := SB.out; have := H7.out.qs; omega))
    have FQ : Hid (Gotten w (y2.setRow Q #[.int .i64 (pcI0 l), .bool (gcL l), .int .i64 (gcY l), .int .i64 (gcM l), .slice qa (gcR l).length qc, .slice da (gcD l).length dc]) l (.returned (.tuple #[.agg #[.int .i64 (pcI0 l), .bool (gcL l), .int .i64 (gcY l), .int .i64 (gcM l), .slice qa (gcR l).length qc, .slice da (gcD l).length dc], .int .i64 0]))) := gottenY (HE1.out.trans HE.out) (FQR.mono (by have := SB.out; have := H7.out.hs; omega)) QL.out (FR.mono (by have := SD.out; have := H7.out.hs; omega)) FD.out.2 (below_rowX H7.out.b H7.out.hq _)
    clear FR FQR
    exact bodyPost_ret (results_ct (p := 2) (u := 3) rfl _ _ Q 34 _ _ _ rfl (setRow_selfX QQ.out) Try.underlying34 rfl (by kernel_rfl)) rfl FQ.out
  · have HE : Hid (gcE l ≠ 0) := he
    have he1 : ¬ ((gcE l : Int) = 0) := by omega
    have he2 : ((gcE l : Int) != 0) = true := by simpa using he
    have QQ : Hid _ := H7.out.q
    clear he
    go_wp2_with (first
      | (refine wpList_buildTo rfl 34 _ rfl (some 29) rfl #[.int .i64 0, .bool false, .int .i64 0, .int .i64 0, .slice none 0 0, .slice none 0 0] (by kernel_rfl) ?_)
      | (refine wpList_store_row rfl 34 (.tmp 2) (.tmp 29) rfl Q #[.int .i64 0, .bool false, .int .i64 0, .int .i64 0, .slice none 0 0, .slice none 0 0] rfl rfl 34 _ QQ.out (by kernel_rfl) rfl (by simp [Value.oneCell']) ?_))
    exact bodyPost_ret (results_ct (p := 2) (u := 3) rfl _ _ Q 34 _ _ _ rfl (setRow_selfX QQ.out) Try.underlying34 rfl (by kernel_rfl)) rfl (gottenZ (gcE l : Nat) (by rw [HE1.out]; exact HE.out) (by rw [HE1.out]) (below_rowX H7.out.b H7.out.hq _))
end Go.Proofs.Ytogbcciocgpknaa

namespace Go.Proofs.Ytogbcciocgpknaa
open Go.RowKit
attribute [local go_sem] Oper.semAt_some
set_option linter.unusedVariables false
set_option maxRecDepth 100000 in
set_option maxHeartbeats 4000000 in
theorem resultY_any (y : Int) (wt : Bool) (r1 r2 : Int) (qa : Option Addr) (qc : Nat) (rows : List (ByteArray × Int)) (ea : Option Addr) (ec : Nat) (el : List (BitVec 8)) (w : World) (hr : RowsX w qa rows.length rows) (hq : qa = none → qc = 0) (hz : rows.length * 24 ≤ 140737488355328) (hs : Seen w ea el.length el) (he : ea = none → ec = 0) (hm : el.length ≤ 140737488351232) :
    Calls Try.prog 8 #[.agg #[.int .i64 y, .bool wt, .int .i64 r1, .int .i64 r2, .slice qa rows.length qc, .slice ea el.length ec]] w fun e w' => ∃ a4 c4 a6 c6, e = .returned (.agg #[.int .i64 y, .bool wt, .int .i64 r1, .int .i64 r2, .slice a4 rows.length c4, .slice a6 el.length c6]) ∧ RowsAt w' a4 rows.length rows ∧ Far w' w.heap.size (.slice a6 el.length c6) el ∧ Below w.heap.size w w' := by
  have b3 : Below w.heap.size w (((w.alloc (.cells #[.int .i64 y, .bool wt, .int .i64 r1, .int .i64 r2, .slice qa rows.length qc, .slice ea el.length ec] 34)).alloc (.cells #[.int .i64 0, .bool false, .int .i64 0, .int .i64 0, .slice none 0 0, .slice none 0 0] 43)).alloc (.cells #[.int .i64 y, .bool wt, .int .i64 r1, .int .i64 r2, .slice none 0 0, .slice none 0 0] 43)) := (((Below.refl _ w).alloc (Nat.le_refl _) _).alloc (by simp) _).alloc (by simp; omega) _
  have q1 : (((w.alloc (.cells #[.int .i64 y, .bool wt, .int .i64 r1, .int .i64 r2, .slice qa rows.length qc, .slice ea el.length ec] 34)).alloc (.cells #[.int .i64 0, .bool false, .int .i64 0, .int .i64 0, .slice none 0 0, .slice none 0 0] 43)).alloc (.cells #[.int .i64 y, .bool wt, .int .i64 r1, .int .i64 r2, .slice none 0 0, .slice none 0 0] 43)).heap[w.heap.size]? = some (.cells #[.int .i64 y, .bool wt, .int .i64 r1, .int .i64 r2, .slice qa rows.length qc, .slice ea el.length ec] 34 (0, 0)) := by rw [Below.heap_alloc _ _ _ (by simp; omega), Below.heap_alloc _ _ _ (by simp), heap_alloc_new]
  have q2 : (((w.alloc (.cells #[.int .i64 y, .bool wt, .int .i64 r1, .int .i64 r2, .slice qa rows.length qc, .slice ea el.length ec] 34)).alloc (.cells #[.int .i64 0, .bool false, .int .i64 0, .int .i64 0, .slice none 0 0, .slice none 0 0] 43)).alloc (.cells #[.int .i64 y, .bool wt, .int .i64 r1, .int .i64 r2, .slice none 0 0, .slice none 0 0] 43)).heap[w.heap.size + 1]? = some (.cells #[.int .i64 0, .bool false, .int .i64 0, .int .i64 0, .slice none 0 0, .slice none 0 0] 43 (0, 0)) := by rw [Below.heap_alloc _ _ _ (by simp), heap_two]
  have q3 : (((w.alloc (.cells #[.int .i64 y, .bool wt, .int .i64 r1, .int .i64 r2, .slice qa rows.length qc, .slice ea el.length ec] 34)).alloc (.cells #[.int .i64 0, .bool false, .int .i64 0, .int .i64 0, .slice none 0 0, .slice none 0 0] 43)).alloc (.cells #[.int .i64 y, .bool wt, .int .i64 r1, .int .i64 r2, .slice none 0 0, .slice none 0 0] 43)).heap[w.heap.size + 2]? = some (.cells #[.int .i64 y, .bool wt, .int .i64 r1, .int .i64 r2, .slice none 0 0, .slice none 0 0] 43 (0, 0)) := heap_three w _ _ _
  obtain ⟨v4, w4, hrun, hown, hb4⟩ := run_append_rowsX (((w.alloc (.cells #[.int .i64 y, .bool wt, .int .i64 r1, .int .i64 r2, .slice qa rows.length qc, .slice ea el.length ec] 34)).alloc (.cells #[.int .i64 0, .bool false, .int .i64 0, .int .i64 0, .slice none 0 0, .slice none 0 0] 43)).alloc (.cells #[.int .i64 y, .bool wt, .int .i64 r1, .int .i64 r2, .slice none 0 0, .slice none 0 0] 43)) qa rows.length qc rows (hr.below b3) hq hz
  obtain ⟨a4, c4, rfl⟩ := one_cell_own hown
  have l3 := (Array.getElem?_eq_some_iff.1 q3).1
  have p1 := (hb4.block _ (by omega)).trans q1
  have p2 := (hb4.block _ (by omega)).trans q2
  have p3 := (hb4.block _ l3).trans q3
  have bw4 : Below w.heap.size w w4 := b3.trans (hb4.mono b3.size)
  have b5 : Below w.heap.size w (w4.setCell ⟨w.heap.size + 2, 4, none⟩ (.slice a4 rows.length c4)) := bw4.setCell (by show _ ≤ w.heap.size + 2; omega) _
  have s1 := (Below.heap_setCell w4 ⟨w.heap.size + 2, 4, none⟩ (.slice a4 rows.length c4) w.heap.size (by show w.heap.size ≠ w.heap.size + 2; omega)).trans p1
  have s2 := (Below.heap_setCell w4 ⟨w.heap.size + 2, 4, none⟩ (.slice a4 rows.length c4) (w.heap.size + 1) (by show w.heap.size + 1 ≠ w.heap.size + 2; omega)).trans p2
  have s3 : (w4.setCell ⟨w.heap.size + 2, 4, none⟩ (.slice a4 rows.length c4)).heap[w.heap.size + 2]? = some (.cells #[.int .i64 y, .bool wt, .int .i64 r1, .int .i64 r2, .slice a4 rows.length c4, .slice none 0 0] 43 (0, 0)) := set_of3 p3
  obtain ⟨v6, w6, hrun6, hown6, hb6⟩ := run_append_nilX (w4.setCell ⟨w.heap.size + 2, 4, none⟩ (.slice a4 rows.length c4)) ea el.length ec el (hs.below b5) he (by omega)
  obtain ⟨a6, c6, rfl⟩ := one_cell_own hown6
  have l5 := (Array.getElem?_eq_some_iff.1 s3).1
  have t2 := (hb6.block _ (by omega)).trans s2
  have t3 := (hb6.block _ l5).trans s3
  have b6 : Below w.heap.size w w6 := b5.trans (hb6.mono b5.size)
  have b7 : Below w.heap.size w (w6.setCell ⟨w.heap.size + 2, 5, none⟩ (.slice a6 el.length c6)) := b6.setCell (by show _ ≤ w.heap.size + 2; omega) _
  have u2 := (Below.heap_setCell w6 ⟨w.heap.size + 2, 5, none⟩ (.slice a6 el.length c6) (w.heap.size + 1) (by show w.heap.size + 1 ≠ w.heap.size + 2; omega)).trans t2
  have u3 : (w6.setCell ⟨w.heap.size + 2, 5, none⟩ (.slice a6 el.length c6)).heap[w.heap.size + 2]? = some (.cells #[.int .i64 y, .bool wt, .int .i64 r1, .int .i64 r2, .slice a4 rows.length c4, .slice a6 el.length c6] 43 (0, 0)) := set_of3 t3
  obtain ⟨V3, eV3⟩ : ∃ V3, (((w.alloc (.cells #[.int .i64 y, .bool wt, .int .i64 r1, .int .i64 r2, .slice qa rows.length qc, .slice ea el.length ec] 34)).alloc (.cells #[.int .i64 0, .bool false, .int .i64 0, .int .i64 0, .slice none 0 0, .slice none 0 0] 43)).alloc (.cells #[.int .i64 y, .bool wt, .int .i64 r1, .int .i64 r2, .slice none 0 0, .slice none 0 0] 43)) = V3 := ⟨_, rfl⟩
  rw [eV3] at q1 q2 q3 hrun
  have EV3 : Hid (_ = V3) := eV3
  have c34 : V3.cell? ⟨w.heap.size + 2, 4, none⟩ = some (.slice none 0 0) := by simp only [World.cell?, q3]; rfl
  have c14 : V3.cell? ⟨w.heap.size, 4, none⟩ = some (.slice qa rows.length qc) := by simp only [World.cell?, q1]; rfl
  have d4 : w4.cell? ⟨w.heap.size + 2, 4, none⟩ = some (.slice none 0 0) := by simp only [World.cell?, p3]; rfl
  have f4 : w4.frozen? ⟨w.heap.size + 2, 4, none⟩ = false := by simp only [World.frozen?, p3]; rfl
  have c55 : (w4.setCell ⟨w.heap.size + 2, 4, none⟩ (.slice a4 rows.length c4)).cell? ⟨w.heap.size + 2, 5, none⟩ = some (.slice none 0 0) := by simp only [World.cell?, s3]; rfl
  have c15 : (w4.setCell ⟨w.heap.size + 2, 4, none⟩ (.slice a4 rows.length c4)).cell? ⟨w.heap.size, 5, none⟩ = some (.slice ea el.length ec) := by simp only [World.cell?, s1]; rfl
  have d6 : w6.cell? ⟨w.heap.size + 2, 5, none⟩ = some (.slice none 0 0) := by simp only [World.cell?, t3]; rfl
  have f6 : w6.frozen? ⟨w.heap.size + 2, 5, none⟩ = false := by simp only [World.frozen?, t3]; rfl
  have HR : Hid _ := hrun
  have HR6 : Hid _ := hrun6
  have U2 : Hid _ := u2
  have U3 : Hid _ := u3
  have B7 : Hid _ := b7
  clear eV3
  have FR4 := (farR_owned hown rfl (by omega)).since (w' := w4.setCell ⟨w.heap.size + 2, 4, none⟩ (.slice a4 rows.length c4)) (fun k hk => Below.heap_setCell _ _ _ _ (by have := l3; show k ≠ w.heap.size + 2; have e := hk; simp at e; omega))
  have FR6 := (FR4.below hb6).since (w' := w6.setCell ⟨w.heap.size + 2, 5, none⟩ (.slice a6 el.length c6)) (fun k hk => Below.heap_setCell _ _ _ _ (by show k ≠ w.heap.size + 2; have e := hk; simp at e; omega))
  have FD6 := (far_owned hown6 (by unfold maxLen; omega)).since (w' := w6.setCell ⟨w.heap.size + 2, 5, none⟩ (.slice a6 el.length c6)) (fun k hk => Below.heap_setCell _ _ _ _ (by show k ≠ w.heap.size + 2; have := (Array.getElem?_eq_some_iff.1 s3).1; omega))
  have FIN : Hid (RowsAt ((w6.setCell ⟨w.heap.size + 2, 5, none⟩ (.slice a6 el.length c6)).setRow (w.heap.size + 1) #[.int .i64 y, .bool wt, .int .i64 r1, .int .i64 r2, .slice a4 rows.length c4, .slice a6 el.length c6]) a4 rows.length rows ∧ Far ((w6.setCell ⟨w.heap.size + 2, 5, none⟩ (.slice a6 el.length c6)).setRow (w.heap.size + 1) #[.int .i64 y, .bool wt, .int .i64 r1, .int .i64 r2, .slice a4 rows.length c4, .slice a6 el.length c6]) w.heap.size (.slice a6 el.length c6) el) :=
    ⟨(FR6.since (fun k hk => setRow_other _ _ _ _ (by have e := hk; simp at e; omega))).1, (FD6.since (fun k hk => setRow_other _ _ _ _ (by have := (Array.getElem?_eq_some_iff.1 s3).1; omega))).mono (by have := (Array.getElem?_eq_some_iff.1 s3).1; omega)⟩
  clear FR4 FR6 FD6
  clear b3 q1 q2 q3 hrun hown hb4 l3 p1 p2 p3 bw4 b5 s1 s2 s3 hrun6 hown6 hb6 l5 t2 t3 b6 b7 u2 u3 hr hq hz hs he hm
  generalize rows.length = rn at *
  generalize el.length = en at *
  go_enter Try.func8, Try.ntmps8
  repeat
    (fail_if_success (guard_target =~ (Code.region 2 _ _).wp _ _ _ _)
     first | go_values | go_skip | go_guarded | go_step | go_upon | go_back)
  rw [show _ = V3 from EV3.out]
  simp only [show w.heap.size + 1 + 1 = w.heap.size + 2 from rfl]
  clear EV3
  go_wp2_with (first
    | (refine wpList_append_known rfl (.tmp 18) (.tmp 21) 30 30 rfl (.slice none 0 0) (.slice qa rn qc) rfl rfl (.slice a4 rn c4) w4 HR.out ?_)
    | (refine wpList_append_known rfl (.tmp 26) (.tmp 28) 25 25 rfl (.slice none 0 0) (.slice ea en ec) rfl rfl (.slice a6 en c6) w6 HR6.out ?_)
    | (refine wpList_load_row rfl 43 (.tmp 3) rfl (w.heap.size + 2) rfl 43 #[.int .i64 y, .bool wt, .int .i64 r1, .int .i64 r2, .slice a4 rn c4, .slice a6 en c6] (0, 0) _ U3.out Try.underlying43 rfl (by kernel_rfl) ?_)
    | (refine wpList_store_row rfl 43 (.tmp 2) (.tmp 31) rfl (w.heap.size + 1) #[.int .i64 y, .bool wt, .int .i64 r1, .int .i64 r2, .slice a4 rn c4, .slice a6 en c6] rfl rfl 43 _ U2.out (by kernel_rfl) rfl (by simp [Value.oneCell']) ?_))
  exact bodyPost_ret (results_cell_row rfl _ _ (w.heap.size + 1) 43 _ _ _ rfl (setRow_selfX U2.out) Try.underlying43 rfl (by kernel_rfl)) rfl ⟨_, _, _, _, rfl, FIN.out.1, FIN.out.2, below_rowX B7.out (by omega) _⟩
end Go.Proofs.Ytogbcciocgpknaa
