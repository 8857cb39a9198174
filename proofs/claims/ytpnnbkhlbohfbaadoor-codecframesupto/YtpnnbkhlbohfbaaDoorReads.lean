/- What the Reader's other calls do: Int, Bool, Count, Bytes, Text. -/
import Derived.Test.YtpnnbkhlbohfbaaDoorReader
import Derived.Test.YtpnnbkhlbohfbaaDoorText
namespace Go.Proofs.YtpnnbkhlbohfbaaDoor
open Go.RowKit Cod
set_option linter.unusedVariables false

theorem i64_xor_ones (a : Nat) (ha : a < 9223372036854775808) : bits .xor .i64 (a : Int) (-1) = -1 - (a : Int) := by
  show IntKind.i64.wrap ((BitVec.ofInt 64 (a : Int) ^^^ BitVec.ofInt 64 (-1)).toNat : Int) = _
  have h1 : BitVec.ofInt 64 (-1) = BitVec.allOnes 64 := by decide
  rw [h1, BitVec.xor_allOnes, BitVec.toNat_not, ofInt_u64 a (by omega)]
  simp [IntKind.wrap, IntKind.bits, IntKind.signed]
  omega
theorem i64_xor_none (a : Nat) (ha : a < 9223372036854775808) : bits .xor .i64 (a : Int) 0 = (a : Int) := by
  show IntKind.i64.wrap ((BitVec.ofInt 64 (a : Int) ^^^ BitVec.ofInt 64 0).toNat : Int) = _
  have h1 : BitVec.ofInt 64 0 = 0#64 := by decide
  rw [h1, BitVec.xor_zero, ofInt_u64 a (by omega)]
  simp [IntKind.wrap, IntKind.bits, IntKind.signed]
  omega
theorem zag_bits (n : Nat) (h : n < 18446744073709551616) : bits BinOp.xor IntKind.i64 (wrap64 ((n : Int) / 2)) (wrap64 (-wrap64 (bits BinOp.and IntKind.u64 (n : Int) 1))) = zag n := by
  have e1 : bits BinOp.and IntKind.u64 (n : Int) 1 = ((n % 2 : Nat) : Int) := by
    rw [show (1 : Int) = ((1 : Nat) : Int) from rfl, u64_and_nat _ _ h (by decide), Nat.and_one_is_mod]
  have e2 : wrap64 ((n : Int) / 2) = ((n / 2 : Nat) : Int) := by unfold wrap64; omega
  rw [e1, e2]
  unfold zag
  by_cases hp : n % 2 = 1
  · rw [hp, if_pos rfl, show wrap64 (-wrap64 ((1 : Nat) : Int)) = -1 from by unfold wrap64; omega, i64_xor_ones _ (by omega)]
    omega
  · have h0 : n % 2 = 0 := by omega
    rw [h0, if_neg (by omega), show wrap64 (-wrap64 ((0 : Nat) : Int)) = 0 from by unfold wrap64; omega, i64_xor_none _ (by omega)]
theorem num_lt : ∀ (l : List (BitVec 8)) (k acc : Nat), k ≤ 9 → acc < 128 ^ k → (num k acc l).1 < 18446744073709551616
  | [], k, acc, _, _ => by simp [num]
  | c :: r, k, acc, hk, ha => by
    unfold num
    split
    · simp
    · rename_i h1
      split
      · rename_i h2
        show acc + c.toNat * 128 ^ k < _
        by_cases e : k = 9
        · subst e
          have h3 : c.toNat ≤ 1 := by omega
          have h4 : c.toNat * 128 ^ 9 ≤ 1 * 128 ^ 9 := Nat.mul_le_mul_right _ h3
          omega
        · have h5 : 128 ^ k ≤ 128 ^ 8 := Nat.pow_le_pow_right (by omega) (by omega)
          have h4 : c.toNat * 128 ^ k ≤ 127 * 128 ^ 8 := Nat.mul_le_mul h2 h5
          omega
      · rename_i h2
        exact num_lt r (k + 1) _ (by omega) (on_lt ha)
theorem rU_lt (l : List (BitVec 8)) (at_ why : Nat) : (rU l at_ why).1 < 18446744073709551616 := by
  unfold rU
  split
  · exact num_lt _ 0 0 (by omega) (by simp)
  · simp
theorem rInt_any (R : Nat) (l : List (BitVec 8)) (at_ why : Nat) (w : World) (h : Rdr w R l at_ why) :
    Calls Tryd.prog 48 #[.pointer (some ⟨R, 0, none⟩)] w fun e w' => e = .returned (.int .i64 (zag (rU l at_ why).1)) ∧ Rdr w' R l (rU l at_ why).2.1 (rU l at_ why).2.2 ∧ w.grownBy w' (some R) := by
  have HC := rUint_any R l at_ why w h
  have hlt := rU_lt l at_ why
  obtain ⟨n, a1, y1, hr⟩ : ∃ n a1 y1, rU l at_ why = (n, a1, y1) := ⟨_, _, _, rfl⟩
  rw [hr] at HC hlt ⊢
  have HZ : Hid _ := zag_bits n hlt
  clear h hlt hr
  go_enter Tryd.func48, Tryd.ntmps48
  go_wp2_with fail
  refine HC.mono ?_
  rintro e w1 ⟨rfl, r1, g1⟩
  have R1 : Hid (Rdr w1 R l a1 y1) := r1
  have G1 : Hid _ := g1
  clear r1 g1 HC
  go_wp2
  go_ret
  exact ⟨by rw [← HZ.out]; rfl, R1.out, G1.out⟩
/-- A Reader's error is written, its place put back. -/
theorem refuse_any (R : Nat) (l : List (BitVec 8)) (at_ why at' why' : Nat) (w : World) (h : Rdr w R l at_ why) (hat : at' ≤ l.length) :
    Calls Tryd.prog 52 #[.pointer (some ⟨R, 0, none⟩), .int .i64 at', .int .i64 why'] w fun e w' => e = .returned (.tuple #[]) ∧ Rdr w' R l at' why' ∧ w.grownBy w' (some R) := by
  have HP : Hid _ := h.put at' why' hat
  obtain ⟨a, cap, c0, c1, c2, f1, f2⟩ := h.cells
  have g1 : ∀ v, (w.setCell ⟨R, 1, none⟩ v).cell? ⟨R, 2, none⟩ = some (.int .i64 why) := fun v => by rw [cell_set_far _ _ _ _ (by simp)]; exact c2
  have g2 : ∀ v, (w.setCell ⟨R, 1, none⟩ v).frozen? ⟨R, 2, none⟩ = false := fun v => by rw [frozen_set]; exact f2
  clear h
  go_enter Tryd.func52, Tryd.ntmps52
  go_wp2
  refine bodyPost_end (results_none rfl _ _ _) rfl ?_
  exact ⟨rfl, HP.out⟩
/-- Reading a truth. -/
def rB (l : List (BitVec 8)) (at_ why : Nat) : Bool × Nat × Nat :=
  if why ≠ 0 then (false, at_, why) else if at_ = l.length then (false, at_, 10) else if 1 < (l.getD at_ 0#8).toNat then (false, at_, 11) else (decide ((l.getD at_ 0#8).toNat = 1), at_ + 1, 0)
/-- Reading how many there are. -/
def rC (l : List (BitVec 8)) (most : Int) (at_ why : Nat) : Nat × Nat × Nat :=
  if (rU l at_ why).2.2 ≠ 0 then (0, (rU l at_ why).2.1, (rU l at_ why).2.2) else if most < 0 ∨ most < (rU l at_ why).1 then (0, at_, 3) else if l.length - (rU l at_ why).2.1 < (rU l at_ why).1 then (0, at_, 10) else rU l at_ why
/-- Reading bytes behind their length. -/
def rS (l : List (BitVec 8)) (at_ why : Nat) : List (BitVec 8) × Nat × Nat :=
  if (rC l 65536 at_ why).2.2 ≠ 0 then ([], (rC l 65536 at_ why).2.1, (rC l 65536 at_ why).2.2) else ((l.drop (rC l 65536 at_ why).2.1).take (rC l 65536 at_ why).1, (rC l 65536 at_ why).2.1 + (rC l 65536 at_ why).1, 0)
/-- What a walk asks of a Reader that stands ahead of its last byte. -/
theorem Rdr.byte {w : World} {R : Nat} {l : List (BitVec 8)} {at_ why : Nat} (h : Rdr w R l at_ why) (hlt : at_ < l.length) :
    ∃ b off cap, b ≠ R ∧ w.cell? ⟨R, 0, none⟩ = some (.slice (some ⟨b, off, none⟩) l.length cap) ∧ w.cell? ⟨b, off + at_, none⟩ = some (.int .u8 (V (l.getD at_ 0#8))) := by
  obtain ⟨a, cap, hh, hs, hn, hk, hne, hat, hm⟩ := h
  have hl : l ≠ [] := fun e => by subst e; simp at hlt
  rcases hs.2.2 with h3 | ⟨b, off, rfl, hc⟩
  · omega
  · exact ⟨b, off, cap, Nat.ne_of_lt (hne hl _ rfl), by simp [World.cell?, hh], hc at_ hlt⟩
theorem Rdr.put1 {w : World} {R : Nat} {l : List (BitVec 8)} {at_ why : Nat} (h : Rdr w R l at_ why) (n at' : Nat) (hat : at' ≤ l.length) :
    Rdr ((w.drewN n).setCell ⟨R, 1, none⟩ (.int .i64 at')) R l at' why ∧ w.grownBy ((w.drewN n).setCell ⟨R, 1, none⟩ (.int .i64 at')) (some R) := by
  obtain ⟨a, cap, hh, hs, hn, hk, hne, hat0, hm⟩ := h
  have hg : w.grownBy ((w.drewN n).setCell ⟨R, 1, none⟩ (.int .i64 at')) (some R) := by
    have := grown_set (w.drewN n) ⟨R, 1, none⟩ (.int .i64 at')
    exact ⟨this.os, this.tape, this.output, this.size, this.block⟩
  exact ⟨⟨a, cap, set_block (w := w.drewN n) hh 1 (.int .i64 at'), hs.grown hg hne, hn, hk, hne, hat, hm⟩, hg⟩
theorem Rdr.put2 {w : World} {R : Nat} {l : List (BitVec 8)} {at_ why : Nat} (h : Rdr w R l at_ why) (n why' : Nat) :
    Rdr ((w.drewN n).setCell ⟨R, 2, none⟩ (.int .i64 why')) R l at_ why' ∧ w.grownBy ((w.drewN n).setCell ⟨R, 2, none⟩ (.int .i64 why')) (some R) := by
  obtain ⟨a, cap, hh, hs, hn, hk, hne, hat0, hm⟩ := h
  have hg : w.grownBy ((w.drewN n).setCell ⟨R, 2, none⟩ (.int .i64 why')) (some R) := by
    have := grown_set (w.drewN n) ⟨R, 2, none⟩ (.int .i64 why')
    exact ⟨this.os, this.tape, this.output, this.size, this.block⟩
  exact ⟨⟨a, cap, set_block (w := w.drewN n) hh 2 (.int .i64 why'), hs.grown hg hne, hn, hk, hne, hat0, hm⟩, hg⟩
theorem grown_drewN {w w' : World} {row : Option Nat} (h : w.grownBy w' row) (n : Nat) : w.grownBy (w'.drewN n) row := ⟨h.os, h.tape, h.output, h.size, h.block⟩
theorem Rdr.drew' {w : World} {R : Nat} {l : List (BitVec 8)} {at_ why : Nat} (h : Rdr w R l at_ why) (n : Nat) : Rdr (w.drewN n) R l at_ why := h
set_option maxHeartbeats 400000 in
theorem rBool_any (R : Nat) (l : List (BitVec 8)) (at_ why : Nat) (w : World) (h : Rdr w R l at_ why) :
    Calls Tryd.prog 49 #[.pointer (some ⟨R, 0, none⟩)] w fun e w' => e = .returned (.bool (rB l at_ why).1) ∧ Rdr w' R l (rB l at_ why).2.1 (rB l at_ why).2.2 ∧ w.grownBy w' (some R) := by
  have HR := reads_any R l at_ why w h
  have HH : Hid (Rdr w R l at_ why) := h
  obtain ⟨a, cap, c0, c1, c2, f1, f2⟩ := h.cells
  have hle := h.le
  by_cases hy : why = 0
  · subst hy
    by_cases hlt : at_ < l.length
    · obtain ⟨b, off, cap', hbR, c0', cb⟩ := h.byte hlt
      have hcx : (l.getD at_ 0#8).toNat = (l.getD at_ 0#8).toNat := rfl
      by_cases hc : 1 < (l.getD at_ 0#8).toNat
      · have hv : Hid (rB l at_ 0 = (false, at_, 11)) := by
          show rB l at_ 0 = _
          rw [rB, if_neg (by simp), if_neg (by omega), if_pos hc]
        have hc' : 1 < V (l.getD at_ 0#8) := by unfold V; omega
        rw [hv.out]
        have hne : ¬ ((at_ : Int) = l.length) := by omega
        generalize l.getD at_ 0#8 = c at *
        clear h c0 hcx hc
        go_enter Tryd.func49, Tryd.ntmps49
        go_wp2_with fail
        refine HR.mono ?_
        rintro e w1 ⟨rfl, rfl⟩
        go_wp2
        go_quiet (fail)
        go_wp2
        go_quiet (fail)
        go_wp2
        go_ret
        exact ⟨rfl, Rdr.put2 HH.out _ 11⟩
      · have hv : Hid (rB l at_ 0 = (decide ((l.getD at_ 0#8).toNat = 1), at_ + 1, 0)) := by
          show rB l at_ 0 = _
          rw [rB, if_neg (by simp), if_neg (by omega), if_neg hc]
        have hc' : V (l.getD at_ 0#8) ≤ 1 := by unfold V; omega
        have hv1 : Hid (decide ((l.getD at_ 0#8).toNat = 1) = (V (l.getD at_ 0#8) == 1)) := by
          show decide ((l.getD at_ 0#8).toNat = 1) = (V (l.getD at_ 0#8) == 1)
          unfold V
          by_cases e : (l.getD at_ 0#8).toNat = 1
          · rw [e]; rfl
          · rw [decide_eq_false e]; symm; rw [beq_eq_false_iff_ne]; omega
        rw [hv.out, hv1.out]
        have hne : ¬ ((at_ : Int) = l.length) := by omega
        have cb2 : ∀ n v, ((w.drewN n).setCell ⟨R, 1, none⟩ v).cell? ⟨b, off + at_, none⟩ = some (.int .u8 (V (l.getD at_ 0#8))) := fun n v => by rw [cell_set_far _ _ _ _ (fun e => hbR (congrArg Addr.block e).symm)]; exact cb
        have cb3 : ∀ n v, ((w.drewN n).setCell ⟨R, 1, none⟩ v).cell? ⟨R, 0, none⟩ = some (.slice (some ⟨b, off, none⟩) l.length cap') := fun n v => by rw [cell_set_far _ _ _ _ (by simp)]; exact c0'
        generalize l.getD at_ 0#8 = c at *
        clear h c0 hcx hc
        go_enter Tryd.func49, Tryd.ntmps49
        go_wp2_with fail
        refine HR.mono ?_
        rintro e w1 ⟨rfl, rfl⟩
        go_wp2
        go_quiet (fail)
        go_wp2
        go_quiet (fail)
        go_wp2
        go_quiet (fail)
        go_wp2
        go_ret
        rw [show ((at_ : Int) + 1) = ((at_ + 1 : Nat) : Int) from rfl]
        exact ⟨rfl, (Rdr.put1 HH.out _ (at_ + 1) hlt).1, grown_drewN (Rdr.put1 HH.out _ (at_ + 1) hlt).2 _⟩
    · have hat : at_ = l.length := by omega
      have hv : Hid (rB l at_ 0 = (false, at_, 10)) := by
        show rB l at_ 0 = _
        rw [rB, if_neg (by simp), if_pos hat]
      rw [hv.out]
      have hat' : (at_ : Int) = l.length := by omega
      clear h hlt hat
      go_enter Tryd.func49, Tryd.ntmps49
      go_wp2_with fail
      refine HR.mono ?_
      rintro e w1 ⟨rfl, rfl⟩
      go_wp2
      go_quiet (fail)
      go_wp2
      go_ret
      exact ⟨rfl, Rdr.put2 HH.out _ 10⟩
  · have hv : Hid (rB l at_ why = (false, at_, why)) := by
      show rB l at_ why = _
      rw [rB, if_pos hy]
    rw [hv.out]
    have hy' : ((why : Int) == 0) = false := by simp; omega
    rw [hy'] at HR
    clear h hy
    go_enter Tryd.func49, Tryd.ntmps49
    go_wp2_with fail
    refine HR.mono ?_
    rintro e w1 ⟨rfl, rfl⟩
    go_wp2
    go_ret
    exact ⟨rfl, HH.out, grown_refl _ _⟩
theorem rU_zero {l : List (BitVec 8)} {at_ why : Nat} (h : (rU l at_ why).2.2 ≠ 0) : (rU l at_ why).1 = 0 ∧ (rU l at_ why).2.1 = at_ := by
  unfold rU at h ⊢
  split
  · rename_i hy
    rw [if_pos hy] at h
    have := num_short (l.drop at_) 0 0 h
    exact ⟨this.1, by simp [this.2]⟩
  · exact ⟨rfl, rfl⟩
set_option maxHeartbeats 800000 in
theorem rCount_any (R : Nat) (l : List (BitVec 8)) (most : Int) (hmost : most < 9223372036854775808) (at_ why : Nat) (w : World) (h : Rdr w R l at_ why) :
    Calls Tryd.prog 21 #[.pointer (some ⟨R, 0, none⟩), .int .i64 most] w fun e w' => e = .returned (.int .i64 (rC l most at_ why).1) ∧ Rdr w' R l (rC l most at_ why).2.1 (rC l most at_ why).2.2 ∧ w.grownBy w' (some R) := by
  have HA := rAt_any R l at_ why w h
  have HU := rUint_any R l at_ why w h
  have hlt := rU_lt l at_ why
  have hle := h.le
  have hat2 := rU_at l at_ why hle.1
  obtain ⟨n, a1, y1, hr⟩ : ∃ n a1 y1, rU l at_ why = (n, a1, y1) := ⟨_, _, _, rfl⟩
  rw [hr] at HU hlt hat2
  simp only at HU hlt hat2
  have HLE : Hid _ := hle.1
  have hmx := hle.2
  by_cases hy : y1 = 0
  · subst hy
    by_cases hm : most < 0
    · have hv : Hid (rC l most at_ why = (0, at_, 3)) := by
        show rC l most at_ why = _
        simp [rC, hr, hm]
      rw [hv.out]
      clear h hle hlt hat2 hmx hr
      go_enter Tryd.func21, Tryd.ntmps21
      go_wp2_with fail
      refine HA.mono ?_
      rintro e w1 ⟨rfl, rfl⟩
      go_wp2_with fail
      refine HU.mono ?_
      rintro e w2 ⟨rfl, r2, g2⟩
      have R2 : Hid (Rdr w2 R l a1 0) := r2
      have G2 : Hid _ := g2
      clear r2 g2
      go_wp2_with fail
      refine (reads_any R l a1 0 w2 R2.out).mono ?_
      rintro e w3 ⟨rfl, rfl⟩
      go_wp2_with fail
      refine (refuse_any R l a1 0 at_ 3 _ R2.out HLE.out).mono ?_
      rintro e w4 ⟨rfl, r4, g4⟩
      have R4 : Hid (Rdr w4 R l at_ 3) := r4
      have G4 : Hid _ := G2.out.trans g4
      clear r4 g4
      go_wp2
      go_ret
      exact ⟨rfl, R4.out, G4.out⟩
    · have hwm : IntKind.u64.wrap most = most := by rw [IntKind.wrap_u64]; omega
      have hwl : IntKind.u64.wrap ((l.length : Int) - a1) = (l.length : Int) - a1 := by rw [IntKind.wrap_u64]; omega
      have hnn : ¬ (most < 0) := hm
      by_cases hgt : most < n
      · have hv : Hid (rC l most at_ why = (0, at_, 3)) := by
          show rC l most at_ why = _
          simp [rC, hr, hgt]
        rw [hv.out]
        clear h hle hr hlt hat2 hmx hmost
        go_enter Tryd.func21, Tryd.ntmps21
        go_wp2_with fail
        refine HA.mono ?_
        rintro e w1 ⟨rfl, rfl⟩
        go_wp2_with fail
        refine HU.mono ?_
        rintro e w2 ⟨rfl, r2, g2⟩
        have R2 : Hid (Rdr w2 R l a1 0) := r2
        have G2 : Hid _ := g2
        obtain ⟨a, cap, c0, c1, c2, f1, f2⟩ := r2.cells
        clear r2 g2
        go_wp2_with fail
        refine (reads_any R l a1 0 w2 R2.out).mono ?_
        rintro e w3 ⟨rfl, rfl⟩
        go_wp2_with fail
        refine (refuse_any R l a1 0 at_ 3 _ R2.out HLE.out).mono ?_
        rintro e w4 ⟨rfl, r4, g4⟩
        have R4 : Hid (Rdr w4 R l at_ 3) := r4
        have G4 : Hid _ := G2.out.trans g4
        clear r4 g4
        go_wp2
        go_ret
        exact ⟨rfl, R4.out, G4.out⟩
      · by_cases hsh : l.length - a1 < n
        · have hv : Hid (rC l most at_ why = (0, at_, 10)) := by
            show rC l most at_ why = _
            simp only [rC, hr]
            rw [if_neg (by simp), if_neg (by omega), if_pos hsh]
          rw [hv.out]
          have hsh' : (l.length : Int) - a1 < n := by omega
          clear h hle hr hlt hsh hmost
          go_enter Tryd.func21, Tryd.ntmps21
          go_wp2_with fail
          refine HA.mono ?_
          rintro e w1 ⟨rfl, rfl⟩
          go_wp2_with fail
          refine HU.mono ?_
          rintro e w2 ⟨rfl, r2, g2⟩
          have R2 : Hid (Rdr w2 R l a1 0) := r2
          have G2 : Hid _ := g2
          obtain ⟨a, cap, c0, c1, c2, f1, f2⟩ := r2.cells
          clear r2 g2
          go_wp2_with fail
          refine (reads_any R l a1 0 w2 R2.out).mono ?_
          rintro e w3 ⟨rfl, rfl⟩
          go_wp2
          go_quiet (fail)
          go_wp2_with fail
          refine (refuse_any R l a1 0 at_ 10 _ (Rdr.drew' R2.out _) HLE.out).mono ?_
          rintro e w4 ⟨rfl, r4, g4⟩
          have R4 : Hid (Rdr w4 R l at_ 10) := r4
          have G4 : Hid _ := (grown_drewN G2.out _).trans g4
          clear r4 g4
          go_wp2
          go_ret
          exact ⟨rfl, R4.out, G4.out⟩
        · have hv : Hid (rC l most at_ why = (n, a1, 0)) := by
            show rC l most at_ why = _
            simp only [rC, hr]
            rw [if_neg (by simp), if_neg (by omega), if_neg hsh]
          rw [hv.out]
          have hsh' : ¬ ((l.length : Int) - a1 < n) := by omega
          have hwn : wrap64 (n : Int) = n := by unfold wrap64; omega
          clear h hle hr hlt hsh hmost
          go_enter Tryd.func21, Tryd.ntmps21
          go_wp2_with fail
          refine HA.mono ?_
          rintro e w1 ⟨rfl, rfl⟩
          go_wp2_with fail
          refine HU.mono ?_
          rintro e w2 ⟨rfl, r2, g2⟩
          have R2 : Hid (Rdr w2 R l a1 0) := r2
          have G2 : Hid _ := g2
          obtain ⟨a, cap, c0, c1, c2, f1, f2⟩ := r2.cells
          clear r2 g2
          go_wp2_with fail
          refine (reads_any R l a1 0 w2 R2.out).mono ?_
          rintro e w3 ⟨rfl, rfl⟩
          go_wp2
          go_quiet (fail)
          go_wp2
          go_ret
          exact ⟨rfl, Rdr.drew' R2.out _, grown_drewN G2.out _⟩
  · have hv : Hid (rC l most at_ why = (0, a1, y1)) := by
      show rC l most at_ why = _
      simp [rC, hr, hy]
    rw [hv.out]
    have hy' : ((y1 : Int) == 0) = false := by simp; omega
    clear h hle hlt hat2 hmx hr hy
    go_enter Tryd.func21, Tryd.ntmps21
    go_wp2_with fail
    refine HA.mono ?_
    rintro e w1 ⟨rfl, rfl⟩
    go_wp2_with fail
    refine HU.mono ?_
    rintro e w2 ⟨rfl, r2, g2⟩
    have R2 : Hid (Rdr w2 R l a1 y1) := r2
    have G2 : Hid _ := g2
    clear r2 g2
    go_wp2_with fail
    refine (reads_any R l a1 y1 w2 R2.out).mono ?_
    rintro e w3 ⟨rfl, rfl⟩
    go_wp2
    go_ret
    exact ⟨rfl, R2.out, G2.out⟩
end Go.Proofs.YtpnnbkhlbohfbaaDoor
