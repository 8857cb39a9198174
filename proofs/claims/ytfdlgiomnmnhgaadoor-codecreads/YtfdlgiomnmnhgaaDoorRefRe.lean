/- What the reference's Reader does: Int, Bool, End. -/
import Derived.Test.YtfdlgiomnmnhgaaDoorRefRd
namespace Go.Proofs.YtfdlgiomnmnhgaaDoor
open Go.RowKit Cod
set_option linter.unusedVariables false
set_option linter.unusedSimpArgs false

theorem num_small : ∀ (l : List (BitVec 8)) (k acc : Nat), acc < 128 ^ k → k ≤ 9 → (num k acc l).1 < 18446744073709551616
  | [], _, _, _, _ => by simp [num]
  | c :: r, k, acc, ha, hk => by
    have hc := c.isLt
    unfold num
    split
    · show 0 < _; omega
    · rename_i h1
      split
      · rename_i h2
        show acc + c.toNat * 128 ^ k < _
        by_cases e : k = 9
        · subst e
          have h3 : c.toNat ≤ 1 := by omega
          have : c.toNat * 128 ^ 9 ≤ 1 * 128 ^ 9 := Nat.mul_le_mul_right _ h3
          have : (128 : Nat) ^ 9 = 9223372036854775808 := by decide
          omega
        · have h4 : 128 ^ k ≤ 128 ^ 8 := Nat.pow_le_pow_right (by omega) (by omega)
          have h5 : c.toNat * 128 ^ k ≤ 127 * 128 ^ 8 := Nat.mul_le_mul h2 h4
          have : (128 : Nat) ^ 8 = 72057594037927936 := by decide
          omega
      · have h9 : k ≠ 9 := by omega
        exact num_small r (k + 1) _ (on_lt ha) (by omega)
theorem rU_small (l : List (BitVec 8)) (at_ why : Nat) : (rU l at_ why).1 < 18446744073709551616 := by
  unfold rU
  split
  · exact num_small _ 0 0 (by decide) (by omega)
  · show 0 < _; omega
set_option maxRecDepth 100000 in
theorem refRInt_any (R A B : Nat) (l : List (BitVec 8)) (at_ why : Nat) (w : World) (h : RRd w R A B l at_ why) :
    Calls Tryd.prog 62 #[.pointer (some ⟨R, 0, none⟩)] w fun e w' => e = .returned (.int .i64 (zag (rU l at_ why).1)) ∧ RRd w' R A B l (rU l at_ why).2.1 (rU l at_ why).2.2 ∧ w.grownBy w' (some R) := by
  have HC := refRUint_any R A B l at_ why w h
  have hlt := rU_small l at_ why
  have HZ : Hid (zag (rU l at_ why).1 = if (rU l at_ why).1 % 2 = 1 then -(((rU l at_ why).1 / 2 : Nat) : Int) - 1 else (((rU l at_ why).1 / 2 : Nat) : Int)) := (rfl : _ = _)
  rw [HZ.out]
  generalize (rU l at_ why).1 = n at *
  clear h HZ
  have w2 : IntKind.u64.wrap ((n : Int) / 2) = (n : Int) / 2 := by rw [IntKind.wrap_u64]; omega
  have w1 : wrap64 ((n : Int) / 2) = (n : Int) / 2 := by unfold wrap64; omega
  by_cases hp : n % 2 = 1
  · have h1 : ((n : Int) % 2 == 1) = true := by simp; omega
    have w3 : wrap64 (-((n : Int) / 2)) = -((n : Int) / 2) := by unfold wrap64; omega
    have w4 : wrap64 (-((n : Int) / 2) - 1) = -((n : Int) / 2) - 1 := by unfold wrap64; omega
    rw [if_pos hp]
    clear hp hlt
    go_enter Tryd.func62, Tryd.ntmps62
    go_wp2_with fail
    refine HC.mono ?_
    rintro e w' ⟨rfl, r1, g1⟩
    have R1 : Hid (RRd w' R A B l (rU l at_ why).2.1 (rU l at_ why).2.2) := r1
    have G1 : Hid (w.grownBy w' (some R)) := g1
    clear r1 g1
    go_wp2
    go_ret
    exact ⟨by simp [w1, w3, w4], R1.out, G1.out⟩
  · have h1 : ((n : Int) % 2 == 1) = false := by simp; omega
    rw [if_neg hp]
    clear hp hlt
    go_enter Tryd.func62, Tryd.ntmps62
    go_wp2_with fail
    refine HC.mono ?_
    rintro e w' ⟨rfl, r1, g1⟩
    have R1 : Hid (RRd w' R A B l (rU l at_ why).2.1 (rU l at_ why).2.2) := r1
    have G1 : Hid (w.grownBy w' (some R)) := g1
    clear r1 g1
    go_wp2
    go_ret
    exact ⟨by simp [w1], R1.out, G1.out⟩
set_option maxRecDepth 100000 in
theorem refREnd_any (R A B : Nat) (l : List (BitVec 8)) (at_ why : Nat) (w : World) (h : RRd w R A B l at_ why) :
    Calls Tryd.prog 33 #[.pointer (some ⟨R, 0, none⟩)] w fun e w' => e = .returned (.int .i64 (rEnd l at_ why)) ∧ ∃ n, w' = w.drewN n := by
  obtain ⟨a, cap, c0, c1, c2, hfr, _, _, _, _, hat, hm⟩ := h.cells
  clear h
  by_cases h0 : why = 0
  · subst h0
    have hz : ((0 : Int) == 0) = true := rfl
    by_cases h1 : at_ < l.length
    · have e : rEnd l at_ 0 = 11 := by simp [rEnd, h1]
      have h1' : (at_ : Int) < (l.length : Int) := by omega
      rw [e]
      go_enter Tryd.func33, Tryd.ntmps33
      go_wp2_with fail
      go_quiet (fail)
      go_wp2
      go_ret
      exact ⟨rfl, _, rfl⟩
    · have e : rEnd l at_ 0 = 0 := by simp [rEnd, h1]
      have h1' : ¬ (at_ : Int) < (l.length : Int) := by omega
      rw [e]
      go_enter Tryd.func33, Tryd.ntmps33
      go_wp2_with fail
      go_quiet (fail)
      go_wp2
      go_ret
      exact ⟨rfl, _, rfl⟩
  · have e : rEnd l at_ why = why := by simp [rEnd, h0]
    have h0' : ((why : Int) == 0) = false := by simp; omega
    rw [e]
    go_enter Tryd.func33, Tryd.ntmps33
    go_wp2_with fail
    go_quiet (fail)
    go_wp2
    go_ret
    exact ⟨rfl, _, rfl⟩
set_option maxRecDepth 100000 in
set_option maxHeartbeats 800000 in
theorem refRBool_any (R A B : Nat) (l : List (BitVec 8)) (at_ why : Nat) (w : World) (h : RRd w R A B l at_ why) :
    Calls Tryd.prog 65 #[.pointer (some ⟨R, 0, none⟩)] w fun e w' => e = .returned (.bool (rB l at_ why).1) ∧ RRd w' R A B l (rB l at_ why).2.1 (rB l at_ why).2.2 ∧ w.grownBy w' (some R) := by
  obtain ⟨a, cap, c0, c1, c2, hfr, hs, hn, hk, hne, hat, hm⟩ := h.cells
  have HR : Hid (RRd w R A B l at_ why) := h
  clear h hn hne
  by_cases h0 : why = 0
  · subst h0
    by_cases h1 : at_ = l.length
    · have e : rB l at_ 0 = (false, at_, 10) := by simp [rB, h1]
      have h1' : (l.length : Int) ≤ (at_ : Int) := by omega
      rw [e]
      clear hs h1 e
      go_enter Tryd.func65, Tryd.ntmps65
      go_wp2_with fail
      go_quiet (fail)
      go_wp2
      go_ret
      exact ⟨rfl, RRd.put (show RRd (w.drewN nq) R A B l at_ 0 from HR.out) 10, grown_own w nq R 2 _⟩
    · obtain ⟨b, off, rfl, hc⟩ : ∃ b off, a = some ⟨b, off, none⟩ ∧ ∀ j, j < l.length → w.cell? ⟨b, off + j, none⟩ = some (.int .u8 (V (l.getD j 0#8))) := by
        rcases hs.2.2 with h3 | h3
        · omega
        · exact h3
      have hck := hc at_ (by omega)
      have HB : Hid (rB l at_ 0 = if 1 < (l.getD at_ 0#8).toNat then (false, at_, 11) else (decide ((l.getD at_ 0#8).toNat = 1), at_ + 1, 0)) := by show _ = _; simp [rB, h1]
      rw [HB.out]
      have h1' : ¬ (l.length : Int) ≤ (at_ : Int) := by omega
      have h2' : (at_ : Int) < (l.length : Int) := by omega
      generalize l.getD at_ 0#8 = c at *
      have HL : Hid (at_ + 1 ≤ l.length) := by show _ ≤ _; omega
      obtain ⟨T, hT⟩ : ∃ T : Bool × Nat × Nat, (if 1 < c.toNat then (false, at_, 11) else (decide (c.toNat = 1), at_ + 1, 0)) = T := ⟨_, rfl⟩
      rw [hT]
      have HT : Hid _ := hT
      clear hc hs HB h1 hT
      go_enter Tryd.func65, Tryd.ntmps65
      go_wp2_with fail
      go_quiet (fail)
      go_wp2_with fail
      obtain ⟨x, hx⟩ : ∃ x, w.drewN nq = x := ⟨_, rfl⟩
      have d0 : x.cell? ⟨R, 0, none⟩ = some (.slice (some ⟨b, off, none⟩) l.length cap) := by rw [← hx]; exact c0
      have d1 : x.cell? ⟨R, 1, none⟩ = some (.int .i64 at_) := by rw [← hx]; exact c1
      have d2 : x.cell? ⟨R, 2, none⟩ = some (.int .i64 (0 : Nat)) := by rw [← hx]; exact c2
      have dc : x.cell? ⟨b, off + at_, none⟩ = some (.int .u8 (V c)) := by rw [← hx]; exact hck
      have dfr : ∀ i, x.frozen? ⟨R, i, none⟩ = false := fun i => by rw [← hx]; exact hfr i
      have HX : Hid (∃ q', x = w.drewN q') := ⟨_, hx.symm⟩
      rw [hx]
      clear hx c0 c1 c2 hfr hck
      go_quiet (fail)
      obtain ⟨y, hy⟩ : ∃ y, x.drewN nq = y := ⟨_, rfl⟩
      have f1 : y.cell? ⟨R, 1, none⟩ = some (.int .i64 at_) := by rw [← hy]; exact d1
      have f2 : y.cell? ⟨R, 2, none⟩ = some (.int .i64 (0 : Nat)) := by rw [← hy]; exact d2
      have ffr : ∀ i, y.frozen? ⟨R, i, none⟩ = false := fun i => by rw [← hy]; exact dfr i
      have RY : Hid (RRd y R A B l at_ 0) := by obtain ⟨q', hq'⟩ := HX.out; rw [← hy, hq']; exact HR.out
      have GY : Hid (∀ i v, w.grownBy (y.setCell ⟨R, i, none⟩ v) (some R)) := fun i v => by
        obtain ⟨q', hq'⟩ := HX.out
        have := grown_own w (q' + nq) R i v
        rw [← hy, hq']
        exact ⟨this.os, this.tape, this.output, this.size, this.block⟩
      rw [hy]
      clear hy d0 d1 d2 dc dfr HX
      by_cases h3 : 1 < c.toNat
      · have h3' : 1 < V c := by unfold V; omega
        have H3 : Hid (1 < c.toNat) := h3
        clear h3
        go_wp2
        go_ret
        rw [← HT.out, if_pos H3.out]
        exact ⟨rfl, RY.out.put 11, GY.out _ _⟩
      · have h3' : ¬ 1 < V c := by unfold V; omega
        have hw : IntKind.i64.wrap ((at_ : Int) + 1) = (at_ : Int) + 1 := by rw [IntKind.wrap_i64]; omega
        have HV : Hid (decide (c.toNat = 1) = (V c == 1)) := by
          show _ = _
          unfold V
          by_cases e : c.toNat = 1
          · simp [e]
          · simp [e]; omega
        have H3 : Hid (¬ 1 < c.toNat) := h3
        clear h3
        go_wp2
        go_ret
        rw [← HT.out, if_neg H3.out]
        refine ⟨by rw [HV.out]; rfl, ?_, GY.out _ _⟩
        have h1 := RY.out.go (at_ + 1) HL.out
        rw [show (((at_ + 1 : Nat)) : Int) = (at_ : Int) + 1 by omega] at h1
        exact h1
  · have e : rB l at_ why = (false, at_, why) := by simp [rB, h0]
    have h0' : ((why : Int) != 0) = true := by simp; omega
    rw [e]
    clear hs e h0
    go_enter Tryd.func65, Tryd.ntmps65
    go_wp2
    go_ret
    exact ⟨rfl, HR.out, ⟨rfl, rfl, rfl, Nat.le_refl _, fun _ _ _ => rfl⟩⟩
end Go.Proofs.YtfdlgiomnmnhgaaDoor
