/- What past and Join do. -/
import Derived.Test.YtdohclbkdifafaaDoorTimes
namespace Go.Proofs.YtdohclbkdifafaaDoor
open Go.RowKit Go.Shelf
attribute [local go_sem] Oper.semAt_some
set_option linter.unusedVariables false

theorem boxed_below {W W' : World} {B n : Nat} {t : TypeId} {v : Value} (h : Boxed W B t v) (hb : Below n W W') (hB : B < n) : Boxed W' B t v := (hb.block B hB).trans h
theorem keeps_below {W W' : World} (hb : Below W.heap.size W W') : KeepsOthers W W' := ⟨hb.size, fun k o hk ho => (hb.block k (Array.getElem?_eq_some_iff.1 hk).1).trans hk⟩
/-- The sum and the power behind some rounds. -/
def pastSt (s : Crc.W) (pre : List (Nat × Bool)) : Crc.W × Crc.W := pre.foldl (fun st x => (if x.2 then Crc.mul st.1 st.2 else st.1, Crc.mul st.2 st.2)) (s, Crc.pow8 0)
theorem pastSt_snoc (s : Crc.W) (pre : List (Nat × Bool)) (x : Nat × Bool) : pastSt s (pre ++ [x]) = (if x.2 then Crc.mul (pastSt s pre).1 (pastSt s pre).2 else (pastSt s pre).1, Crc.mul (pastSt s pre).2 (pastSt s pre).2) := by simp [pastSt]
theorem pastSt_upto (s : Crc.W) (n k : Nat) : pastSt s (upto (placeOf n) k) = (Crc.pastTo s n k, Crc.pow8 k) := by
  induction k with
  | zero => rfl
  | succ k ih =>
    rw [upto_succ, pastSt_snoc, ih, Crc.pastTo, Crc.pow8]
    rfl
theorem lt_of_div {n k : Nat} (h : n / 2 ^ k = 0) : n < 2 ^ k := by
  rcases Nat.lt_or_ge n (2 ^ k) with h' | h'
  · exact h'
  · have := Nat.div_pos h' (Nat.two_pow_pos k); omega

set_option maxRecDepth 100000 in
set_option maxHeartbeats 2000000 in
theorem past_any (s : Crc.W) (n : Nat) (hn : n < 18446744073709551616) (w : World) : Calls Tryd.prog 21 #[.int .u32 (U s), .int .u64 (n : Int)] w fun e W' => e = .returned (.int .u32 (U (Crc.past s n))) ∧ Below w.heap.size w W' := by
  refine (callsIn_wide (n := 4)).1 ?_
  refine callsIn_of_wp_marks Tryd.func21 rfl trivial ?_ rfl
  simp only [Tryd.ntmps21, List.size_toArray, List.length_cons, List.length_nil, Nat.reduceAdd, Nat.reduceSub, Array.replicate_succ, Array.replicate_zero, List.push_toArray, List.append_toArray, List.nil_append, List.cons_append]
  gi_wp2
  refine wpIn_scope_wide ?_
  gi_wp2_with fail
  refine wpIn_label ?_
  gi_wp2_with fail
  refine ⟨trivial, (places_in Fence.wide _ trivial rfl _ _).mono ?_⟩
  rintro e w' ⟨rfl, rfl⟩
  gi_wp2_with fail
  have bS := (((Boxed.new w 23 (.int .u32 (U s))).alloc (.cells #[.int .u64 (n : Int)] 41)).alloc (.cells #[.int .u32 8388608] 23)).alloc (.cells #[.int .u64 (n : Int)] 41)
  have bR := ((Boxed.new (w.alloc (.cells #[.int .u32 (U s)] 23)) 41 (.int .u64 (n : Int))).alloc (.cells #[.int .u32 8388608] 23)).alloc (.cells #[.int .u64 (n : Int)] 41)
  have bP := (Boxed.new ((w.alloc (.cells #[.int .u32 (U s)] 23)).alloc (.cells #[.int .u64 (n : Int)] 41)) 23 (.int .u32 8388608)).alloc (.cells #[.int .u64 (n : Int)] 41)
  have bN := Boxed.new (((w.alloc (.cells #[.int .u32 (U s)] 23)).alloc (.cells #[.int .u64 (n : Int)] 41)).alloc (.cells #[.int .u32 8388608] 23)) 41 (.int .u64 (n : Int))
  simp only [World.size_alloc] at bR bP bN
  have hB0 : Below w.heap.size w ((((w.alloc (.cells #[.int .u32 (U s)] 23)).alloc (.cells #[.int .u64 (n : Int)] 41)).alloc (.cells #[.int .u32 8388608] 23)).alloc (.cells #[.int .u64 (n : Int)] 41)) := ((((Below.refl _ w).alloc (Nat.le_refl _) _).alloc (by simp) _).alloc (by simp; omega) _).alloc (by simp; omega) _
  have hsz : ((((w.alloc (.cells #[.int .u32 (U s)] 23)).alloc (.cells #[.int .u64 (n : Int)] 41)).alloc (.cells #[.int .u32 8388608] 23)).alloc (.cells #[.int .u64 (n : Int)] 41)).heap.size = w.heap.size + 4 := by simp
  obtain ⟨W0, hW0⟩ : ∃ W0, (((w.alloc (.cells #[.int .u32 (U s)] 23)).alloc (.cells #[.int .u64 (n : Int)] 41)).alloc (.cells #[.int .u32 8388608] 23)).alloc (.cells #[.int .u64 (n : Int)] 41) = W0 := ⟨_, rfl⟩
  rw [hW0] at bS bR bP bN hB0 hsz ⊢
  clear hW0
  refine wpIn_rangeFunc_ownG rfl (by omega) (gf := 27) (lb := #[.pointer (some ⟨w.heap.size + 1 + 1 + 1, 0, none⟩)]) rfl trivial (enters_of Tryd.func27 (by kernel_rfl) rfl)
    (places_stops Fence.wide 3 trivial rfl (by omega) (w.heap.size + 1 + 1 + 1) n hn W0 (by omega) bN.cell) Kp.tr (Kp.bk (by omega)) (Below.refl _ _) (fun _ => rfl)
    (fun pre W => ((Boxed W w.heap.size 23 (.int .u32 (U (pastSt s pre).1)) ∧ Boxed W (w.heap.size + 1) 41 (.int .u64 (n : Int))) ∧ Boxed W (w.heap.size + 1 + 1) 23 (.int .u32 (U (pastSt s pre).2))) ∧ (Below w.heap.size w W ∧ KeepsFrom W0.heap.size W0 W))
    (fun c pre W => (c = .exit 0 ∧ ∃ ini last, pre = ini ++ [last] ∧ n / 2 ^ (min last.1 64) = 0 ∧ Boxed W w.heap.size 23 (.int .u32 (U (pastSt s ini).1))) ∧ Below w.heap.size w W)
    (OwnFrom.and (OwnFrom.and (OwnFrom.and (Own.from (boxed_own _ _ _) _) (Own.from (boxed_own _ _ _) _)) (Own.from (boxed_own _ _ _) _)) (OwnFrom.and (ownFrom_below (Nat.le_refl _) (by omega)) (ownFrom_keepsFrom (Nat.le_refl _))))
    (fun c => OwnFrom.and (Own.from (fun p X Y row hs hg hr => by obtain ⟨hc, ini, last, e1, e2, e3⟩ := hs; exact ⟨hc, ini, last, e1, e2, boxed_own w.heap.size 23 (fun (_ : Unit) => Value.int .u32 (U (pastSt s ini).1)) () X Y row e3 hg hr⟩) _) (ownFrom_below (Nat.le_refl _) (by omega)))
    ⟨⟨⟨bS, bR⟩, bP⟩, hB0, KeepsFrom.refl _ _⟩
    (fun x => { tmps := #[.int .u32 (U s), .int .u64 (n : Int), .pointer (some ⟨w.heap.size, 0, none⟩), .pointer (some ⟨w.heap.size + 1, 0, none⟩), .int .u32 0, .pointer (some ⟨w.heap.size + 1 + 1, 0, none⟩), .int .i64 (x.1 : Int), .bool x.2, .int .u64 (n : Int), .func (.func 27) #[] #[.pointer (some ⟨w.heap.size + 1 + 1 + 1, 0, none⟩)], .int .i64 (x.1 : Int), .bool x.2, undef, undef, undef, undef, undef, undef, undef, undef, undef, undef, undef, undef, undef, undef], defers := [] }) ?assign ?body ?done ?stop
  case assign =>
    intro l x W K hK
    gi_wp2
    exact hK
  case body =>
    rintro l pre ⟨k, set⟩ W ⟨⟨⟨b1, b2⟩, b3⟩, hB, hKF⟩ _
    have c1 := b1.cell
    have f1 := b1.frozen
    have c2 := b2.cell
    have c3 := b3.cell
    have f3 := b3.frozen
    have hsn : Hid _ := pastSt_snoc s pre (k, set)
    have hu : (n : Int) / 2 ^ (min k 64) = ((n / 2 ^ (min k 64) : Nat) : Int) := by simp
    have hs : Hid (W0.heap.size = w.heap.size + 4) := hsz
    have B1 : Hid _ := b1
    have B2 : Hid _ := b2
    have B3 : Hid _ := b3
    have BB : Hid _ := hB
    have KF : Hid _ := hKF
    have hlt : Hid (w.heap.size + 4 ≤ W.heap.size) := by have := hKF.size; show _ ≤ _; omega
    clear hsz bN bP bR bS hB0 b1 b2 b3 hB hKF
    by_cases hz : n / 2 ^ (min k 64) = 0
    · have hz1 : ((n : Int) / 2 ^ (min k 64) == 0) = true := by rw [hu, hz]; rfl
      have HZ : Hid _ := hz
      clear hu hz hsn
      gi_wp2
      exact ⟨KeepsFrom.refl _ _, ⟨rfl, pre, (k, set), rfl, HZ.out, B1.out⟩, BB.out⟩
    · have hz1 : ((n : Int) / 2 ^ (min k 64) == 0) = false := by rw [hu]; exact beq_eq_false_iff_ne.2 (by omega)
      clear hu hz
      generalize (pastSt s pre).2 = q at *
      generalize (pastSt s pre).1 = p at *
      cases set
      · gi_wp2
        refine ⟨trivial, (CallsIn.inRound l (callsIn_wide.2 (times_any q q _))).mono ?_⟩
        rintro e w' ⟨rfl, hb⟩
        have hL := hlt.out
        have H1 : Hid _ := boxed_below B1.out hb (by omega)
        have H2 : Hid _ := boxed_below B2.out hb (by omega)
        have b3 := boxed_below B3.out hb (by omega)
        have H3 : Hid _ := b3
        have g3 := b3.cell
        have k3 := b3.frozen
        have HB : Hid _ := hb
        have hz4 : Hid (w.heap.size ≤ W.heap.size) := by show _ ≤ _; omega
        clear hb b3 hL
        gi_wp2
        have hL := hlt.out
        refine ⟨((keeps_below HB.out).trans (KeepsOthers.setCell _ _ _)).from _, ?_, ⟨⟨?_, ?_⟩, ?_⟩, ?_, ?_⟩
        · exact (Kp.of_below HB.out (by omega)).tr (Kp.set _ _ (by omega))
        · rw [hsn.out]; exact Boxed.other H1.out (by omega) _
        · exact Boxed.other H2.out (by omega) _
        · rw [hsn.out]; exact Boxed.set _ H3.out
        · exact Below.setCell (Below.trans BB.out (Below.mono HB.out (by omega))) (p := ⟨w.heap.size + 1 + 1, 0, none⟩) (by simp; omega) _
        · exact KeepsFrom.trans KF.out (((keeps_below HB.out).trans (KeepsOthers.setCell _ _ _)).from _)
      · gi_wp2
        refine ⟨trivial, (CallsIn.inRound l (callsIn_wide.2 (times_any p q _))).mono ?_⟩
        rintro e w1 ⟨rfl, hb⟩
        have hL := hlt.out
        have b1 := boxed_below B1.out hb (by omega)
        have g1 := b1.cell
        have k1 := b1.frozen
        have H1 : Hid _ := b1
        have H2 : Hid _ := boxed_below B2.out hb (by omega)
        have b3 := boxed_below B3.out hb (by omega)
        have H3 : Hid _ := b3
        have g3 := b3.cell
        have HB : Hid _ := hb
        clear hb b1 b3 hL
        gi_wp2
        obtain ⟨W2, hW2⟩ : ∃ W2, w1.setCell ⟨w.heap.size, 0, none⟩ (.int .u32 (U (Crc.mul p q))) = W2 := ⟨_, rfl⟩
        have hL := hlt.out
        have hsz2 : w1.heap.size ≤ W2.heap.size := by rw [← hW2]; exact (KeepsOthers.setCell w1 _ _).size
        have hsz1 := HB.out.size
        have D1 : Boxed W2 w.heap.size 23 (.int .u32 (U (Crc.mul p q))) := by rw [← hW2]; exact Boxed.set _ H1.out
        have D2 : Boxed W2 (w.heap.size + 1) 41 (.int .u64 (n : Int)) := by rw [← hW2]; exact Boxed.other H2.out (by omega) _
        have D3 : Boxed W2 (w.heap.size + 1 + 1) 23 (.int .u32 (U q)) := by rw [← hW2]; exact Boxed.other H3.out (by omega) _
        have DB : Below w.heap.size w W2 := by rw [← hW2]; exact Below.setCell (Below.trans BB.out (Below.mono HB.out (by omega))) (p := ⟨w.heap.size, 0, none⟩) (by simp) _
        have DK : KeepsOthers W W2 := by rw [← hW2]; exact (keeps_below HB.out).trans (KeepsOthers.setCell _ _ _)
        have DP : Kp (w.heap.size + 1 + 1 + 1) W W2 := by rw [← hW2]; exact (Kp.of_below HB.out (by omega)).tr (Kp.set _ _ (by omega))
        rw [hW2]
        clear hW2 H1 H2 H3 g1 g3 k1 HB
        refine ⟨trivial, (CallsIn.inRound l (callsIn_wide.2 (times_any q q _))).mono ?_⟩
        rintro e w3 ⟨rfl, hb⟩
        have H1 : Hid _ := boxed_below D1 hb (by omega)
        have H2 : Hid _ := boxed_below D2 hb (by omega)
        have b3 := boxed_below D3 hb (by omega)
        have H3 : Hid _ := b3
        have g3 := b3.cell
        have k3 := b3.frozen
        have HB : Hid _ := hb
        have HD : Hid _ := DB
        have HK : Hid _ := DK
        have HP : Hid _ := DP
        have hz4 : Hid (w.heap.size + 4 ≤ W2.heap.size) := by show _ ≤ _; omega
        clear hb b3 hL D1 D2 D3 DB DK DP hsz1 hsz2
        gi_wp2
        have hL := hz4.out
        refine ⟨(HK.out.trans ((keeps_below HB.out).trans (KeepsOthers.setCell _ _ _))).from _, ?_, ⟨⟨?_, ?_⟩, ?_⟩, ?_, ?_⟩
        · exact Kp.tr HP.out ((Kp.of_below HB.out (by omega)).tr (Kp.set _ _ (by omega)))
        · rw [hsn.out]; exact Boxed.other H1.out (by omega) _
        · exact Boxed.other H2.out (by omega) _
        · rw [hsn.out]; exact Boxed.set _ H3.out
        · exact Below.setCell (Below.trans HD.out (Below.mono HB.out (by omega))) (p := ⟨w.heap.size + 1 + 1, 0, none⟩) (by simp; omega) _
        · exact KeepsFrom.trans KF.out ((HK.out.trans ((keeps_below HB.out).trans (KeepsOthers.setCell _ _ _))).from _)
  case done =>
    rintro D ys W hD rfl ⟨⟨⟨b1, b2⟩, b3⟩, hB, hKF⟩ hK
    have c1 := b1.cell
    have hr : Hid ((pastSt s (upto (placeOf n) 64)).1 = Crc.past s n) := by rw [pastSt_upto]; exact Crc.pastTo_end s n 64 (by omega)
    generalize (pastSt s (upto (placeOf n) 64)) = st at *
    clear bN bP bR bS hB0 b1 b2 b3 hKF
    gi_wp2
    rw [Exit.noGoto_ret]
    refine ⟨by simp, .inl ⟨_, _, rfl, run_takeDeferred hK, ?_⟩⟩
    exact ⟨_, results_tmp rfl _ _ _, by rw [← hr.out]; rfl, hB.trans (belowK_b (w := w) (Nat.le_refl _) W D _ _ (by omega) hK rfl rfl)⟩
  case stop =>
    rintro D c pre W hD ⟨k, hk, rfl⟩ ⟨⟨rfl, ini, last, e1, e2, b3⟩, hB⟩ hK
    have c3 := b3.cell
    obtain ⟨k', rfl⟩ : ∃ k', k = k' + 1 := by
      cases k with
      | zero => simp [upto] at e1
      | succ k' => exact ⟨k', rfl⟩
    rw [upto_succ] at e1
    obtain ⟨rfl, e5⟩ := List.append_inj' e1 rfl
    obtain rfl : placeOf n k' = last := by simpa using e5
    have hr : Hid ((pastSt s (upto (placeOf n) k')).1 = Crc.past s n) := by
      rw [pastSt_upto]
      have h2 : min (placeOf n k').1 64 = k' := by show min k' 64 = k'; omega
      rw [h2] at e2
      exact Crc.pastTo_end s n k' (lt_of_div e2)
    clear bN bP bR bS hB0 e1 e5 e2 b3
    generalize (pastSt s (upto (placeOf n) k')) = st at *
    gi_wp2
    rw [Exit.noGoto_ret]
    refine ⟨by simp, .inl ⟨_, _, rfl, run_takeDeferred hK, ?_⟩⟩
    exact ⟨_, results_tmp rfl _ _ _, by rw [← hr.out]; rfl, hB.trans (belowK_b (w := w) (Nat.le_refl _) W D _ _ (by omega) hK rfl rfl)⟩
end Go.Proofs.YtdohclbkdifafaaDoor
