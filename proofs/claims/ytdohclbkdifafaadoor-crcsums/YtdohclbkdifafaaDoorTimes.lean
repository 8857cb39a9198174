/- What times, past and Join do. -/
import Derived.Test.YtdohclbkdifafaaDoorBits
import Derived.Scope
import Derived.WalkMore
import Derived.RangeFuncBox
namespace Go.Proofs.YtdohclbkdifafaaDoor
open Go.RowKit Go.Shelf
attribute [local go_sem] Oper.semAt_some
set_option linter.unusedVariables false

theorem wpIn_scope_wide {n : Nat} {P : Program} {c : Code} {Q : Exit → Act → World → Prop} {a : Act} {w : World} (h : c.wpIn Fence.wide n P (Exit.noGoto Q) a w) : (Code.scope c).wpIn Fence.wide n P Q a w :=
  wpIn_wide.2 (wp_scope_straight (wpIn_wide.1 h))

theorem Kp.set {B b : Nat} (W : World) (v : Value) (h : b ≠ B) : Kp B W (W.setCell ⟨b, 0, none⟩ v) := by
  show (W.setCell ⟨b, 0, none⟩ v).cell? ⟨B, 0, none⟩ = _
  rw [World.cell?_setCell_other]
  exact fun e => h (congrArg Addr.block e)
/-- The product and the factor behind some rounds. -/
def mulSt (b : Crc.W) (pre : List (Nat × Bool)) : Crc.W × Crc.W := pre.foldl (fun s x => (if x.2 then s.1 ^^^ s.2 else s.1, Crc.T s.2)) (0#32, b)
theorem mulSt_snoc (b : Crc.W) (pre : List (Nat × Bool)) (x : Nat × Bool) : mulSt b (pre ++ [x]) = (if x.2 then (mulSt b pre).1 ^^^ (mulSt b pre).2 else (mulSt b pre).1, Crc.T (mulSt b pre).2) := by simp [mulSt]
theorem mulSt_upto (a b : Crc.W) (k : Nat) (hk : k ≤ 64) : mulSt b (upto (placeOf (rev a).toNat) k) = (Crc.opn (min k 32) a b, Crc.Tn k b) := by
  induction k with
  | zero => rfl
  | succ k ih =>
    rw [upto_succ, mulSt_snoc, ih (by omega), Crc.Tn_succ']
    by_cases h : k < 32
    · have h1 : min (k + 1) 32 = k + 1 := by omega
      have h2 : min k 32 = k := by omega
      have hb : (placeOf (rev a).toNat k).2 = a.getLsbD (31 - k) := rev_bit a k h
      rw [h1, h2, Crc.opn, hb]
      cases a.getLsbD (31 - k) <;> simp
    · have h1 : min (k + 1) 32 = 32 := by omega
      have h2 : min k 32 = 32 := by omega
      have hb : (placeOf (rev a).toNat k).2 = false := BitVec.getLsbD_of_ge (rev a) k (by omega)
      rw [h1, h2, hb]
      simp
theorem mulSt_end (a b : Crc.W) (k : Nat) (h : (rev a).toNat / 2 ^ k = 0) : Crc.opn (min k 32) a b = Crc.mul a b := by
  by_cases hk : k < 32
  · have hlt : (rev a).toNat < 2 ^ k := by
      rcases Nat.lt_or_ge (rev a).toNat (2 ^ k) with h' | h'
      · exact h'
      · have := Nat.div_pos h' (Nat.two_pow_pos k); omega
    have he := Crc.opn_end a b k (32 - k) (fun i h1 h2 => by
      rw [← rev_bit a i h2]
      exact Nat.testBit_lt_two_pow (Nat.lt_of_lt_of_le hlt (Nat.pow_le_pow_right (by decide) h1))) (by omega)
    rw [show k + (32 - k) = 32 by omega] at he
    rw [show min k 32 = k by omega, ← he]
    rfl
  · rw [show min k 32 = 32 by omega]; rfl

set_option maxRecDepth 100000 in
set_option maxHeartbeats 2000000 in
theorem times_any (a b : Crc.W) (w : World) : Calls Tryd.prog 26 #[.int .u32 (U a), .int .u32 (U b)] w fun e W' => e = .returned (.int .u32 (U (Crc.mul a b))) ∧ Below w.heap.size w W' := by
  refine (callsIn_wide (n := 4)).1 ?_
  refine callsIn_of_wp_marks Tryd.func26 rfl trivial ?_ rfl
  simp only [Tryd.ntmps26, List.size_toArray, List.length_cons, List.length_nil, Nat.reduceAdd, Nat.reduceSub, Array.replicate_succ, Array.replicate_zero, List.push_toArray, List.append_toArray, List.nil_append, List.cons_append]
  have hR := U_nn (rev a)
  have hR2 := U_lt (rev a)
  gi_wp2
  refine wpIn_scope_wide ?_
  gi_wp2_with fail
  refine ⟨trivial, (callsIn_wide.2 (reverse_any a _)).mono ?_⟩
  rintro e w' ⟨rfl, rfl⟩
  gi_wp2_with fail
  refine wpIn_label ?_
  gi_wp2_with fail
  refine ⟨trivial, (places_in Fence.wide _ trivial rfl _ _).mono ?_⟩
  rintro e w' ⟨rfl, rfl⟩
  gi_wp2_with fail
  have bB := (((Boxed.new w 23 (.int .u32 (U b))).alloc (.cells #[.int .u64 (U (rev a))] 41)).alloc (.cells #[.int .u32 0] 23)).alloc (.cells #[.int .u64 (U (rev a))] 41)
  have bR := ((Boxed.new (w.alloc (.cells #[.int .u32 (U b)] 23)) 41 (.int .u64 (U (rev a)))).alloc (.cells #[.int .u32 0] 23)).alloc (.cells #[.int .u64 (U (rev a))] 41)
  have bP := (Boxed.new ((w.alloc (.cells #[.int .u32 (U b)] 23)).alloc (.cells #[.int .u64 (U (rev a))] 41)) 23 (.int .u32 0)).alloc (.cells #[.int .u64 (U (rev a))] 41)
  have bN := Boxed.new (((w.alloc (.cells #[.int .u32 (U b)] 23)).alloc (.cells #[.int .u64 (U (rev a))] 41)).alloc (.cells #[.int .u32 0] 23)) 41 (.int .u64 (U (rev a)))
  simp only [World.size_alloc] at bR bP bN
  have hB0 : Below w.heap.size w ((((w.alloc (.cells #[.int .u32 (U b)] 23)).alloc (.cells #[.int .u64 (U (rev a))] 41)).alloc (.cells #[.int .u32 0] 23)).alloc (.cells #[.int .u64 (U (rev a))] 41)) := ((((Below.refl _ w).alloc (Nat.le_refl _) _).alloc (by simp) _).alloc (by simp; omega) _).alloc (by simp; omega) _
  have hsz : ((((w.alloc (.cells #[.int .u32 (U b)] 23)).alloc (.cells #[.int .u64 (U (rev a))] 41)).alloc (.cells #[.int .u32 0] 23)).alloc (.cells #[.int .u64 (U (rev a))] 41)).heap.size = w.heap.size + 4 := by simp
  obtain ⟨W0, hW0⟩ : ∃ W0, (((w.alloc (.cells #[.int .u32 (U b)] 23)).alloc (.cells #[.int .u64 (U (rev a))] 41)).alloc (.cells #[.int .u32 0] 23)).alloc (.cells #[.int .u64 (U (rev a))] 41) = W0 := ⟨_, rfl⟩
  rw [hW0] at bB bR bP bN hB0 hsz ⊢
  clear hW0
  refine wpIn_rangeFunc_ownG rfl (by omega) (gf := 27) (lb := #[.pointer (some ⟨w.heap.size + 1 + 1 + 1, 0, none⟩)]) rfl trivial (enters_of Tryd.func27 (by kernel_rfl) rfl)
    (places_stops Fence.wide 3 trivial rfl (by omega) (w.heap.size + 1 + 1 + 1) (rev a).toNat (by have := (rev a).isLt; omega) W0 (by omega) bN.cell) Kp.tr (Kp.bk (by omega)) (Below.refl _ _) (fun _ => rfl)
    (fun pre W => ((Boxed W w.heap.size 23 (.int .u32 (U (mulSt b pre).2)) ∧ Boxed W (w.heap.size + 1) 41 (.int .u64 (U (rev a)))) ∧ Boxed W (w.heap.size + 1 + 1) 23 (.int .u32 (U (mulSt b pre).1))) ∧ Below w.heap.size w W)
    (fun c pre W => (c = .exit 0 ∧ ∃ ini last, pre = ini ++ [last] ∧ (rev a).toNat / 2 ^ (min last.1 64) = 0 ∧ Boxed W (w.heap.size + 1 + 1) 23 (.int .u32 (U (mulSt b ini).1))) ∧ Below w.heap.size w W)
    (OwnFrom.and (OwnFrom.and (OwnFrom.and (Own.from (boxed_own _ _ _) _) (Own.from (boxed_own _ _ _) _)) (Own.from (boxed_own _ _ _) _)) (ownFrom_below (Nat.le_refl _) (by omega)))
    (fun c => OwnFrom.and (Own.from (fun s X Y row hs hg hr => by obtain ⟨hc, ini, last, e1, e2, e3⟩ := hs; exact ⟨hc, ini, last, e1, e2, boxed_own (w.heap.size + 1 + 1) 23 (fun (_ : Unit) => Value.int .u32 (U (mulSt b ini).1)) () X Y row e3 hg hr⟩) _) (ownFrom_below (Nat.le_refl _) (by omega)))
    ⟨⟨⟨bB, bR⟩, bP⟩, hB0⟩
    (fun x => { tmps := #[.int .u32 (U a), .int .u32 (U b), undef, .pointer (some ⟨w.heap.size, 0, none⟩), .int .u32 0, .pointer (some ⟨w.heap.size + 1, 0, none⟩), .pointer (some ⟨w.heap.size + 1 + 1, 0, none⟩), .int .i64 (x.1 : Int), .bool x.2, .int .u32 (U a), .int .u32 (U (rev a)), .int .u64 (U (rev a)), .int .u64 (U (rev a)), .func (.func 27) #[] #[.pointer (some ⟨w.heap.size + 1 + 1 + 1, 0, none⟩)], .int .i64 (x.1 : Int), .bool x.2, undef, undef, undef, undef, undef, undef, undef, undef, undef, undef, undef, undef, undef], defers := [] }) ?assign ?body ?done ?stop
  case assign =>
    intro l x W K hK
    gi_wp2
    exact hK
  case body =>
    rintro l pre ⟨k, s⟩ W ⟨⟨⟨b1, b2⟩, b3⟩, hB⟩ _
    have c1 := b1.cell
    have f1 := b1.frozen
    have c2 := b2.cell
    have c3 := b3.cell
    have f3 := b3.frozen
    have hsn : Hid _ := mulSt_snoc b pre (k, s)
    have hu : U (rev a) / 2 ^ (min k 64) = (((rev a).toNat / 2 ^ (min k 64) : Nat) : Int) := by unfold U; simp
    have hs : Hid (W0.heap.size = w.heap.size + 4) := hsz
    have B1 : Hid _ := b1
    have B2 : Hid _ := b2
    have B3 : Hid _ := b3
    have BB : Hid _ := hB
    have hx := u32_xor_U
    clear hsz bN bP bR bB hB0 b1 b2 b3 hB hR hR2
    by_cases hz : (rev a).toNat / 2 ^ (min k 64) = 0
    · have hz1 : (U (rev a) / 2 ^ (min k 64) == 0) = true := by rw [hu, hz]; rfl
      have HZ : Hid _ := hz
      clear hu hz hsn
      gi_wp2
      exact ⟨KeepsFrom.refl _ _, ⟨rfl, pre, (k, s), rfl, HZ.out, B3.out⟩, BB.out⟩
    · have hz1 : (U (rev a) / 2 ^ (min k 64) == 0) = false := by rw [hu]; exact beq_eq_false_iff_ne.2 (by omega)
      clear hu hz
      generalize (mulSt b pre).2 = q at *
      generalize (mulSt b pre).1 = p at *
      cases s
      · gi_wp2
        refine ⟨trivial, (CallsIn.inRound l (callsIn_wide.2 (timesX_any q _))).mono ?_⟩
        rintro e w' ⟨rfl, rfl⟩
        gi_wp2
        refine ⟨(KeepsOthers.setCell _ _ _).from _, ?_, ⟨⟨?_, ?_⟩, ?_⟩, ?_⟩
        · exact Kp.set _ _ (by omega)
        · rw [hsn.out]; exact Boxed.set _ B1.out
        · exact Boxed.other B2.out (by omega) _
        · rw [hsn.out]; exact Boxed.other B3.out (by omega) _
        · exact Below.setCell BB.out (p := ⟨w.heap.size, 0, none⟩) (by simp) _
      · gi_wp2
        refine ⟨trivial, (CallsIn.inRound l (callsIn_wide.2 (timesX_any q _))).mono ?_⟩
        rintro e w' ⟨rfl, rfl⟩
        gi_wp2
        refine ⟨((KeepsOthers.setCell _ _ _).trans (KeepsOthers.setCell _ _ _)).from _, ?_, ⟨⟨?_, ?_⟩, ?_⟩, ?_⟩
        · exact (Kp.set _ _ (by omega)).tr (Kp.set _ _ (by omega))
        · rw [hsn.out]; exact Boxed.set _ (Boxed.other B1.out (by omega) _)
        · exact Boxed.other (Boxed.other B2.out (by omega) _) (by omega) _
        · rw [hsn.out]; exact Boxed.other (Boxed.set _ B3.out) (by omega) _
        · exact (Below.setCell BB.out (p := ⟨w.heap.size + 1 + 1, 0, none⟩) (by simp; omega) _).setCell (p := ⟨w.heap.size, 0, none⟩) (by simp) _
  case done =>
    rintro D ys W hD rfl ⟨⟨⟨b1, b2⟩, b3⟩, hB⟩ hK
    have c3 := b3.cell
    have hr : Hid ((mulSt b (upto (placeOf (rev a).toNat) 64)).1 = Crc.mul a b) := by rw [mulSt_upto a b 64 (by omega)]; rfl
    generalize (mulSt b (upto (placeOf (rev a).toNat) 64)) = st at *
    clear bN bP bR bB hB0 b1 b2 b3 hR hR2
    gi_wp2
    rw [Exit.noGoto_ret]
    refine ⟨by simp, .inl ⟨_, _, rfl, run_takeDeferred hK, ?_⟩⟩
    exact ⟨_, results_tmp rfl _ _ _, by rw [← hr.out]; rfl, hB.trans (belowK_b (w := w) (Nat.le_refl _) W D _ _ (by omega) hK rfl rfl)⟩
  case stop =>
    rintro D c pre W hD ⟨k, hk, rfl⟩ ⟨⟨rfl, ini, last, e1, e2, b3⟩, hB⟩ hK
    have c3 := b3.cell
    obtain ⟨k', rfl⟩ : ∃ k', k = k' + 1 := by
      cases k with
      | zero => simp [upto] at e1
      | succ k' => exact ⟨k', rfl⟩
    rw [upto_succ] at e1
    obtain ⟨rfl, e5⟩ := List.append_inj' e1 rfl
    obtain rfl : placeOf (rev a).toNat k' = last := by simpa using e5
    have hr : Hid ((mulSt b (upto (placeOf (rev a).toNat) k')).1 = Crc.mul a b) := by
      rw [mulSt_upto a b k' (by omega)]
      have h2 : min (placeOf (rev a).toNat k').1 64 = k' := by show min k' 64 = k'; omega
      rw [h2] at e2
      exact mulSt_end a b k' e2
    clear bN bP bR bB hB0 hR hR2 e1 e5 e2 b3
    generalize (mulSt b (upto (placeOf (rev a).toNat) k')) = st at *
    gi_wp2
    rw [Exit.noGoto_ret]
    refine ⟨by simp, .inl ⟨_, _, rfl, run_takeDeferred hK, ?_⟩⟩
    exact ⟨_, results_tmp rfl _ _ _, by rw [← hr.out]; rfl, hB.trans (belowK_b (w := w) (Nat.le_refl _) W D _ _ (by omega) hK rfl rfl)⟩
end Go.Proofs.YtdohclbkdifafaaDoor
