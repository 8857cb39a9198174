/- AuditorMerges: the walk. -/
import Derived.Test.YtckldjiabalgbaaARefW
import Derived.Test.YtckldjiabalgbaaASame
import Derived.Test.YtckldjiabalgbaaAKnown
import Derived.Deep.Cut
namespace Go.Proofs.Ytckldjiabalgbaa
open Go.RowKit Go.Sort
attribute [local go_sem] Oper.semAt_some
set_option linter.unusedVariables false

theorem lists_three {w : World} {a0 a1 a2 : Option Addr} {c0 c1 c2 : Nat} {l0 l1 l2 : List RowV} (r0 : RowsX w a0 l0.length l0) (r1 : RowsX w a1 l1.length l1) (r2 : RowsX w a2 l2.length l2) (z0 : a0 = none → c0 = 0) (z1 : a1 = none → c1 = 0) (z2 : a2 = none → c2 = 0) (t : TypeId) :
    ListsX (w.alloc (.cells #[.slice a0 l0.length c0, .slice a1 l1.length c1, .slice a2 l2.length c2] t)) (some ⟨w.heap.size, 0, none⟩) 3 [l0, l1, l2] := by
  have b : Below w.heap.size w (w.alloc (.cells #[.slice a0 l0.length c0, .slice a1 l1.length c1, .slice a2 l2.length c2] t)) := (Below.refl _ w).alloc (Nat.le_refl _) _
  have q := heap_alloc_new w (.cells #[.slice a0 l0.length c0, .slice a1 l1.length c1, .slice a2 l2.length c2] t)
  refine ⟨rfl, .inr ⟨w.heap.size, 0, rfl, fun j hj => ?_⟩⟩
  rcases (by simp at hj; omega : j = 0 ∨ j = 1 ∨ j = 2) with rfl | rfl | rfl
  · exact ⟨a0, c0, by simp only [World.cell?, q]; rfl, r0.below b, z0⟩
  · exact ⟨a1, c1, by simp only [World.cell?, q]; rfl, r1.below b, z1⟩
  · exact ⟨a2, c2, by simp only [World.cell?, q]; rfl, r2.below b, z2⟩
theorem tot_three (l0 l1 l2 : List RowV) : totL [l0, l1, l2] = l0.length + l1.length + l2.length := by
  unfold totL
  simp only [List.flatten_cons, List.flatten_nil, List.append_nil, List.length_append]
  omega
theorem lists_none (w : World) : ListsX w none 0 [] := ⟨rfl, .inl rfl⟩
set_option maxRecDepth 100000 in
set_option maxHeartbeats 8000000 in
theorem auditorMerges_any (a0 a1 a2 : Option Addr) (c0 c1 c2 : Nat) (l0 l1 l2 : List RowV) (w : World) (r0 : RowsX w a0 l0.length l0) (r1 : RowsX w a1 l1.length l1) (r2 : RowsX w a2 l2.length l2) (z0 : a0 = none → c0 = 0) (z1 : a1 = none → c1 = 0) (z2 : a2 = none → c2 = 0) (hz : (l0.length + l1.length + l2.length + 1) * 24 ≤ 140737488355328) :
    Calls Try.prog 3 #[.slice a0 l0.length c0, .slice a1 l1.length c1, .slice a2 l2.length c2] w fun e w' => e = .returned (.bool true) ∧ Below w.heap.size w w' := by
  have bA : Below w.heap.size w (w.alloc (.cells #[.slice a0 l0.length c0, .slice a1 l1.length c1, .slice a2 l2.length c2] 22)) := (Below.refl _ w).alloc (Nat.le_refl _) _
  have HM := mergeX_any (c := 3) (lists_three r0 r1 r2 z0 z1 z2 22) (by rw [tot_three]; omega) (by omega)
  have HG : Hid (∀ W, Below w.heap.size w W → ListsX (W.alloc (.cells #[.slice a0 l0.length c0, .slice a1 l1.length c1, .slice a2 l2.length c2] 22)) (some ⟨W.heap.size, 0, none⟩) 3 [l0, l1, l2]) := fun W b => lists_three (r0.below b) (r1.below b) (r2.below b) z0 z1 z2 _
  have HT : Hid (totL [l0, l1, l2] = l0.length + l1.length + l2.length) := tot_three _ _ _
  have HZ : Hid ((l0.length + l1.length + l2.length + 1) * 24 ≤ 140737488355328) := hz
  have HMs : Hid ((mergeL [l0, l1, l2]).Pairwise (fun a b => ltOf cfR b a = false) ∧ (mergeL [l0, l1, l2]).length = totL [l0, l1, l2]) := ⟨srt_is_sorted swoR _, srt_len _⟩
  obtain ⟨M, eM⟩ : ∃ M, M = mergeL [l0, l1, l2] := ⟨_, rfl⟩
  obtain ⟨T, eT⟩ : ∃ T, T = totL [l0, l1, l2] := ⟨_, rfl⟩
  have EM : Hid (M = mergeL [l0, l1, l2]) := eM
  have ET : Hid (T = totL [l0, l1, l2]) := eT
  rw [← eM, ← eT] at HM HMs
  rw [← eT] at HT
  have BA : Hid _ := bA
  have hT0 : T = l0.length + l1.length + l2.length := HT.out
  have n0 : l0.length < 1152921504606846976 := by omega
  have n1 : l1.length < 1152921504606846976 := by omega
  have n2 : l2.length < 1152921504606846976 := by omega
  generalize l0.length = k0 at *
  generalize l1.length = k1 at *
  generalize l2.length = k2 at *
  have HTz : Hid (((T : Int) == (k0 : Int) + (k1 : Int) + (k2 : Int)) = true) := (show _ = _ by simp; omega)
  have hTb : T < 4611686018427387904 := by omega
  clear r0 r1 r2 z0 z1 z2 hz eM eT bA hT0
  go_enter Try.func3, Try.ntmps3
  go_wp2_with (go_at_call 5; refine HM.mono ?_; rintro e w1 ⟨v1, rfl, o1, b1⟩)
  have B1 : Hid (Below w.heap.size w w1) := BA.out.trans (b1.mono BA.out.size)
  obtain ⟨ax, cx, rfl, rst1⟩ := row_form o1
  clear rst1
  have X1 : Hid (RowsX w1 ax T M) := (rows_own o1 HMs.out.2.symm (by have := HMs.out.2; have := HT.out; have := HZ.out; omega)).1
  have bB : Below w1.heap.size w1 (w1.alloc (.cells #[.slice a0 k0 c0, .slice a1 k1 c1, .slice a2 k2 c2] 22)) := (Below.refl _ w1).alloc (Nat.le_refl _) _
  have HR := refMerge_any (c := 3) (HG.out w1 B1.out) (by rw [← ET.out, HT.out]; exact HZ.out) (by omega)
  rw [← EM.out, ← ET.out] at HR
  have BB : Hid _ := bB
  clear HM o1 b1 bB
  go_wp2_with fail
  refine HR.mono ?_
  rintro e w2 ⟨v2, rfl, o2, b2⟩
  obtain ⟨ay, cy, rfl, rst2⟩ := row_form o2
  clear rst2
  have hMT : T ≤ 140737488355328 := by have := HT.out; have := HZ.out; omega
  have X2 : RowsX w2 ay T M := (rows_own o2 HMs.out.2.symm (by rw [HMs.out.2]; exact hMT)).1
  have X3 : Hid (RowsX w2 ax T M) := (X1.out.below BB.out).below b2
  have B2 : Hid (Below w.heap.size w w2) := (B1.out.trans (BB.out.mono B1.out.size)).trans (b2.mono (Nat.le_trans B1.out.size BB.out.size))
  have HSm := sameRowsX_any ax ay T cx T cy M M w2 X3.out X2
  rw [decide_eq_true (rfl : M = M)] at HSm
  clear HR o2 b2 X2 X1 BB B1 hMT
  go_wp2_with fail
  refine HSm.mono ?_
  rintro e w3 ⟨rfl, q3, rfl⟩
  have HNo := mergeX_any (c := 0) (lists_none (w2.drewN q3)) (by decide) (by decide)
  have X4 : Hid (RowsX (w2.drewN q3) ax T M) := X3.out.below (below_drewN (Below.refl _ _) q3)
  have B3 : Hid (Below w.heap.size w (w2.drewN q3)) := below_drewN B2.out q3
  clear HSm X3 B2
  go_wp2_with fail
  refine HNo.mono ?_
  rintro e w4 ⟨v4, rfl, o4, b4⟩
  obtain ⟨a4, c4, e4, rst4⟩ := row_form o4
  clear rst4
  have e5 : v4 = .slice a4 0 c4 := e4
  subst e5
  have X5 : Hid (RowsX w4 ax T M) := X4.out.below b4
  have B4 : Hid (Below w.heap.size w w4) := B3.out.trans (b4.mono B3.out.size)
  clear HNo o4 b4 e4 X4 B3
  generalize w2.drewN q3 = w3 at *
  go_wp2_with fail
  go_loopg [8] T (fun kx s8 wr => ∃ (i q : Nat), w4.drewN q = wr ∧ s8 = .int .i64 i ∧ 1 ≤ i ∧ T - i ≤ kx)
  case atStart => exact ⟨1, 0, rfl, rfl, Nat.le_refl _, Nat.sub_le _ _⟩
  case round =>
    obtain ⟨i, q, rfl, rfl, hi1, hkx⟩ := hrel
    by_cases hlt : i < T
    · obtain ⟨o, eo1⟩ : ∃ p, i = p + 1 := ⟨i - 1, (Nat.sub_add_cancel hi1).symm⟩
      have hiM : i < M.length := HMs.out.2 ▸ hlt
      have hoM : o < M.length := by omega
      obtain ⟨bo, oo, eo, p1, p1'⟩ := rowsX_at X5.out hiM
      subst eo
      obtain ⟨bo', oo', eo', p2, p2'⟩ := rowsX_at X5.out hoM
      cases eo'
      have hnot : Op.bytesLess (M[i]'hiM).1.toList (M[o]'hoM).1.toList = false := by
        have := (List.pairwise_iff_getElem.1 HMs.out.1) o i hoM hiM (by omega)
        rw [ltR] at this
        rw [bytesLessA]
        exact this
      generalize (M[i]'hiM).1 = s1 at p1 hnot
      generalize (M[o]'hoM).1 = s0 at p2 hnot
      have hltz : (i : Int) < (T : Int) := by omega
      have hltz2 : (o : Int) < (T : Int) := by omega
      have hoz : (0 : Int) ≤ (o : Int) := Int.natCast_nonneg o
      have evz : (i : Int) - 1 = (o : Int) := by omega
      have evw : IntKind.i64.wrap ((i : Int) - 1) = (o : Int) := by rw [IntKind.wrap_i64]; omega
      have evo : IntKind.i64.wrap (o : Int) = (o : Int) := by rw [IntKind.wrap_i64]; omega
      clear p1' p2' eo1 hiM hoM
      go_wp2_with fail
      go_quiet (fail)
      go_wp2_with fail
      go_roundg (T - (i + 1))
      case measure => exact num_m hlt hkx
      case rel => exact ⟨i + 1, q + nq, by simp [World.drewN], by go_num, Nat.le_add_left _ _, Nat.le_refl _⟩
    · have hltz : ¬ (i : Int) < (T : Int) := fun h => hlt (Int.ofNat_lt.1 h)
      have HKn := knownA_any (w4.drewN q)
      have hTz := HTz.out
      have B5 : Hid (Below w.heap.size w (w4.drewN q)) := below_drewN B4.out q
      go_wp2_with fail
      refine HKn.mono ?_
      rintro e w6 ⟨rfl, b6⟩
      have B6 : Hid (Below w.heap.size w w6) := B5.out.trans (b6.mono B5.out.size)
      clear HKn b6 B5
      go_wp2
      go_ret
      exact ⟨rfl, B6.out⟩
end Go.Proofs.Ytckldjiabalgbaa
