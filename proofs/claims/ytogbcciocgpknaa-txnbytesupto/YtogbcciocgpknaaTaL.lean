/- What the reference's Reader does: Uint. -/
import Derived.Test.YtogbcciocgpknaaTaK
namespace Go.Proofs.Ytogbcciocgpknaa
open Go.RowKit Cod
set_option linter.unusedVariables false
set_option linter.unusedSimpArgs false

/-- A Reader of the reference. -/
def RRd (w : World) (R A B : Nat) (l : List (BitVec 8)) (at_ why : Nat) : Prop :=
  ∃ a cap, w.heap[R]? = some (.cells #[.slice a l.length cap, .int .i64 at_, .int .i64 why] 105 (0, 0)) ∧ Seen w a l.length l ∧ (a = none → cap = 0) ∧ l.length ≤ cap ∧ (l ≠ [] → ∀ x, a = some x → x.block ≠ R ∧ A ≤ x.block ∧ x.block < B) ∧ at_ ≤ l.length ∧ l.length ≤ 140737488355328
theorem RRd.cells {w : World} {R A B : Nat} {l : List (BitVec 8)} {at_ why : Nat} (h : RRd w R A B l at_ why) : ∃ a cap, w.cell? ⟨R, 0, none⟩ = some (.slice a l.length cap) ∧ w.cell? ⟨R, 1, none⟩ = some (.int .i64 at_) ∧ w.cell? ⟨R, 2, none⟩ = some (.int .i64 why) ∧ (∀ i, w.frozen? ⟨R, i, none⟩ = false) ∧ Seen w a l.length l ∧ (a = none → cap = 0) ∧ l.length ≤ cap ∧ (l ≠ [] → ∀ x, a = some x → x.block ≠ R ∧ A ≤ x.block ∧ x.block < B) ∧ at_ ≤ l.length ∧ l.length ≤ 140737488355328 := by
  obtain ⟨a, cap, hh, h2⟩ := h
  exact ⟨a, cap, by simp [World.cell?, hh], by simp [World.cell?, hh], by simp [World.cell?, hh], fun i => by simp [World.frozen?, hh], h2⟩
theorem seen_far {w : World} {a : Option Addr} {n R A B : Nat} {l : List (BitVec 8)} (h : Seen w a n l) (hne : l ≠ [] → ∀ x, a = some x → x.block ≠ R ∧ A ≤ x.block ∧ x.block < B) (i : Nat) (v : Value) : Seen (w.setCell ⟨R, i, none⟩ v) a n l :=
  h.since (fun hl x hx => Below.heap_setCell _ _ _ _ (fun e => (hne hl x hx).1 e))
theorem RRd.put {w : World} {R A B : Nat} {l : List (BitVec 8)} {at_ why : Nat} (h : RRd w R A B l at_ why) (why' : Nat) : RRd (w.setCell ⟨R, 2, none⟩ (.int .i64 why')) R A B l at_ why' := by
  obtain ⟨a, cap, hh, hs, hn, hk, hne, hat, hm⟩ := h
  exact ⟨a, cap, by have := set_block hh 2 (.int .i64 why'); simpa using this, seen_far hs hne _ _, hn, hk, hne, hat, hm⟩
theorem RRd.go {w : World} {R A B : Nat} {l : List (BitVec 8)} {at_ why : Nat} (h : RRd w R A B l at_ why) (at' : Nat) (ha : at' ≤ l.length) : RRd (w.setCell ⟨R, 1, none⟩ (.int .i64 at')) R A B l at' why := by
  obtain ⟨a, cap, hh, hs, hn, hk, hne, hat, hm⟩ := h
  exact ⟨a, cap, by have := set_block hh 1 (.int .i64 at'); simpa using this, seen_far hs hne _ _, hn, hk, hne, ha, hm⟩
theorem RRd.lt {w : World} {R A B : Nat} {l : List (BitVec 8)} {at_ why : Nat} (h : RRd w R A B l at_ why) : R < w.heap.size := by
  obtain ⟨a, cap, h, _⟩ := h
  exact (Array.getElem?_eq_some_iff.1 h).1
theorem grown_own (w : World) (q R i : Nat) (v : Value) : w.grownBy ((w.drewN q).setCell ⟨R, i, none⟩ v) (some R) :=
  ⟨rfl, rfl, rfl, by simp [World.setCell], fun k hk hr => by rw [Below.heap_setCell _ _ _ k (fun e => hr (congrArg some e))]; rfl⟩
theorem ref_val {k acc : Nat} {c : BitVec 8} (ha : acc < 128 ^ k) (hk : k ≤ 9) (h9 : k ≠ 9) (p : Int) (hp : p = ((128 ^ k : Nat) : Int)) :
    bits BinOp.or IntKind.u64 (acc : Int) (IntKind.u64.wrap (V c % 128 * p)) = ((acc + (c.toNat % 128) * 128 ^ k : Nat) : Int) := by
  have e : IntKind.u64.wrap ((c.toNat % 128 : Nat) : Int) = ((c.toNat % 128 : Nat) : Int) := by rw [IntKind.wrap_u64]; omega
  have e2 : V c % 128 = IntKind.u64.wrap ((c.toNat % 128 : Nat) : Int) := by rw [e]; unfold V; omega
  rw [e2]
  refine or_place acc k _ ha ?_ hk p hp
  have h1 : 128 ^ k ≤ 128 ^ 8 := Nat.pow_le_pow_right (by omega) (by omega)
  calc (c.toNat % 128) * 128 ^ k ≤ 127 * 128 ^ 8 := Nat.mul_le_mul (by omega) h1
    _ < 18446744073709551616 := by decide
theorem ref_low {k acc : Nat} {c : BitVec 8} (h : V c < 128) : acc + (c.toNat % 128) * 128 ^ k = acc + c.toNat * 128 ^ k := by
  unfold V at h
  rw [Nat.mod_eq_of_lt (by omega)]
theorem ref_nine {acc : Nat} {c : BitVec 8} (ha : acc < 128 ^ 9) (h : V c ≤ 1) : bits BinOp.or IntKind.u64 (acc : Int) (V c % 128 * 9223372036854775808) = ((acc + c.toNat * 128 ^ 9 : Nat) : Int) := by
  unfold V at h
  have e : IntKind.u64.wrap ((c.toNat : Nat) : Int) = ((c.toNat : Nat) : Int) := by rw [IntKind.wrap_u64]; omega
  have e3 : IntKind.u64.wrap (IntKind.u64.wrap ((c.toNat : Nat) : Int) * 9223372036854775808) = V c % 128 * 9223372036854775808 := by
    rw [e, IntKind.wrap_u64]; unfold V; omega
  rw [← e3]
  refine or_place acc 9 c.toNat ha ?_ (by omega) _ (by decide)
  have h2 : c.toNat ≤ 1 := by omega
  calc c.toNat * 128 ^ 9 ≤ 1 * 128 ^ 9 := Nat.mul_le_mul_right _ h2
    _ < 18446744073709551616 := by decide
set_option maxRecDepth 100000 in
set_option maxHeartbeats 3200000 in
theorem refRUint_any (R A B : Nat) (l : List (BitVec 8)) (at_ why : Nat) (w : World) (h : RRd w R A B l at_ why) :
    Calls Try.prog 66 #[.pointer (some ⟨R, 0, none⟩)] w fun e w' => e = .returned (.int .u64 (rU l at_ why).1) ∧ RRd w' R A B l (rU l at_ why).2.1 (rU l at_ why).2.2 ∧ w.grownBy w' (some R) := by
  obtain ⟨a, cap, c0, c1, c2, hfr, hs, hn, hk, hne, hat, hm⟩ := h.cells
  have HR : Hid (RRd w R A B l at_ why) := h
  by_cases h0 : why = 0
  · subst h0
    have HS : Hid (Seen w a l.length l) := hs
    have HAT : Hid (at_ ≤ l.length) := hat
    have HU : Hid (rU l at_ 0 = ((num 0 0 (l.drop at_)).1, at_ + (num 0 0 (l.drop at_)).2.1, (num 0 0 (l.drop at_)).2.2)) := by show _ = _; simp [rU]
    have K : Hid (∀ q, (w.drewN q).cell? ⟨R, 0, none⟩ = some (.slice a l.length cap) ∧ (w.drewN q).cell? ⟨R, 1, none⟩ = some (.int .i64 at_) ∧ (w.drewN q).cell? ⟨R, 2, none⟩ = some (.int .i64 0) ∧ ∀ i, (w.drewN q).frozen? ⟨R, i, none⟩ = false) := fun q => ⟨c0, c1, c2, hfr⟩
    rw [HU.out]
    clear h hs hn hne HU
    go_enter Try.func66, Try.ntmps66
    go_wp2
    go_loopw [3, 4] (fun r i wr => ∃ (k acc q : Nat), k ≤ 9 ∧ acc < 128 ^ k ∧ at_ + k ≤ l.length ∧ num 0 0 (l.drop at_) = num k acc (l.drop (at_ + k)) ∧ i = .int .i64 k ∧ r = .int .u64 acc ∧ wr = w.drewN q) (fun _ i _ => 10 - (intOf i).toNat)
    case atStart => exact ⟨0, 0, 0, by omega, by simp, by omega, by simp, rfl, rfl, rfl⟩
    case round =>
      obtain ⟨k, acc, q, hk9, ha, hkl, hnum, rfl, rfl, hwr⟩ := hrel
      have HWR : Hid (wr = w.drewN q) := hwr
      have HN : Hid _ := hnum
      have HA : Hid (acc < 128 ^ k) := ha
      clear hnum ha c0 c1 c2 hfr
      obtain ⟨c0, c1, c2, hfr⟩ := K.out q
      rw [← hwr] at c0 c1 c2 hfr
      clear hwr
      have hw1 : IntKind.i64.wrap ((at_ : Int) + (k : Int)) = (at_ : Int) + (k : Int) := by rw [IntKind.wrap_i64]; omega
      by_cases hlt : at_ + k < l.length
      · have hlt' : ¬ ((l.length : Nat) : Int) ≤ (at_ : Int) + (k : Int) := by omega
        have hk10 : (k : Int) < 10 := by omega
        obtain ⟨b, off, rfl, hc⟩ : ∃ b off, a = some ⟨b, off, none⟩ ∧ ∀ j, j < l.length → w.cell? ⟨b, off + j, none⟩ = some (.int .u8 (V (l.getD j 0#8))) := by
          rcases HS.out.2.2 with h3 | h3
          · omega
          · exact h3
        have hck : wr.cell? ⟨b, off + (at_ + k), none⟩ = some (.int .u8 (V (l.getD (at_ + k) 0#8))) := by rw [HWR.out]; exact hc _ hlt
        have hd : Hid (l.drop (at_ + k) = l.getD (at_ + k) 0#8 :: l.drop (at_ + (k + 1))) := by
          show l.drop (at_ + k) = _
          rw [List.drop_eq_getElem_cons hlt]; simp [hlt, Nat.add_assoc]
        generalize l.getD (at_ + k) 0#8 = c at *
        clear hc
        go_wp2_with fail
        go_quiet (fail)
        go_wp2_with fail
        obtain ⟨x, hx⟩ : ∃ x, wr.drewN nq = x := ⟨_, rfl⟩
        have c0' : x.cell? ⟨R, 0, none⟩ = some (.slice (some ⟨b, off, none⟩) l.length cap) := by rw [← hx]; exact c0
        have c1' : x.cell? ⟨R, 1, none⟩ = some (.int .i64 at_) := by rw [← hx]; exact c1
        have hck' : x.cell? ⟨b, off + (at_ + k), none⟩ = some (.int .u8 (V c)) := by rw [← hx]; exact hck
        have hfr' : ∀ i, x.frozen? ⟨R, i, none⟩ = false := fun i => by rw [← hx]; exact hfr i
        have c2' : x.cell? ⟨R, 2, none⟩ = some (.int .i64 0) := by rw [← hx]; exact c2
        have HX : Hid (∃ q', x = w.drewN q') := ⟨q + nq, by rw [← hx, HWR.out]; simp [World.drewN, Nat.add_assoc]⟩
        rw [hx]
        clear hx c0 c1 c2 hfr hck
        have htn : ((at_ : Int) + (k : Int)).toNat = at_ + k := by omega
        have hlt2 : (at_ : Int) + (k : Int) < (l.length : Int) := by omega
        have hge2 : (0 : Int) ≤ (at_ : Int) + (k : Int) := by omega
        go_quiet (fail)
        obtain ⟨y, hy⟩ : ∃ y, x.drewN nq = y := ⟨_, rfl⟩
        have d1 : y.cell? ⟨R, 1, none⟩ = some (.int .i64 at_) := by rw [← hy]; exact c1'
        have d2 : y.cell? ⟨R, 2, none⟩ = some (.int .i64 0) := by rw [← hy]; exact c2'
        have dfr : ∀ i, y.frozen? ⟨R, i, none⟩ = false := fun i => by rw [← hy]; exact hfr' i
        have HY : Hid (∃ q', y = w.drewN q') := by
          obtain ⟨q', hq'⟩ := HX.out
          exact ⟨q' + nq, by rw [← hy, hq']; simp [World.drewN, Nat.add_assoc]⟩
        rw [hy]
        clear hy c0' c1' c2' hck' hfr' HX
        have hVn : 0 ≤ V c := by unfold V; omega
        have hV8 : V c < 256 := by unfold V; have := c.isLt; omega
        have RY : Hid (RRd y R A B l at_ 0) := by obtain ⟨q', hq'⟩ := HY.out; rw [hq']; exact HR.out
        have GY : Hid (∀ i v, w.grownBy (y.setCell ⟨R, i, none⟩ v) (some R)) := fun i v => by obtain ⟨q', hq'⟩ := HY.out; rw [hq']; exact grown_own w q' R i v
        go_wp2
        all_goals first
          | (go_ret
             simp only [beq_iff_eq, beq_eq_false_iff_ne, ne_eq] at *
             rw [HN.out, hd.out, num_form (by omega)]
             exact ⟨rfl, RY.out.put 11, GY.out _ _⟩)
          | (go_ret
             simp only [beq_iff_eq, beq_eq_false_iff_ne, ne_eq] at *
             have hk9' : k ≠ 9 := by omega
             rw [HN.out, hd.out, num_stop (by omega) (by omega) (by omega), ref_val HA.out (by omega) (by omega) _ (place_pow k), ref_low (by omega)]
             refine ⟨rfl, ?_, GY.out _ _⟩
             have h1 := RY.out.go (at_ + (k + 1)) (by omega)
             rw [show (((at_ + (k + 1) : Nat)) : Int) = (at_ : Int) + (k : Int) + 1 by omega] at h1
             exact h1)
          | (go_ret
             simp only [beq_iff_eq, beq_eq_false_iff_ne, ne_eq] at *
             obtain rfl : k = 9 := by omega
             rw [HN.out, hd.out, num_stop (by omega) (by omega) (by omega), ref_nine HA.out (by omega)]
             refine ⟨rfl, ?_, GY.out _ _⟩
             have h1 := RY.out.go (at_ + (9 + 1)) (by omega)
             rw [show (((at_ + (9 + 1) : Nat)) : Int) = (at_ : Int) + 9 + 1 by omega] at h1
             exact h1)
          | skip
        all_goals
          go_roundw
          case rel =>
            obtain ⟨q', hq'⟩ := HY.out
            exact ⟨k + 1, acc + (c.toNat % 128) * 128 ^ k, q', by omega, on_lt HA.out, by omega, by rw [HN.out, hd.out, num_on (by omega) (by omega)], by go_num, by rw [ref_val HA.out (by omega) (by omega) _ (place_pow k)], hq'⟩
          case measure => simp only [intOf]; omega
      · have hd : l.drop (at_ + k) = [] := List.drop_eq_nil_of_le (by omega)
        rw [hd] at HN
        have hge : ((l.length : Nat) : Int) ≤ (at_ : Int) + (k : Int) := by omega
        have hk10 : (k : Int) < 10 := by omega
        have RZ : Hid (∀ q', RRd ((w.drewN q').setCell ⟨R, 2, none⟩ (.int .i64 (10 : Nat))) R A B l at_ 10) := fun q' => RRd.put (show RRd (w.drewN q') R A B l at_ 0 from HR.out) 10
        have NV : Hid (num 0 0 (l.drop at_) = (0, 0, 10)) := HN.out
        clear HN RZ hd hkl
        go_wp2_with fail
        go_quiet (fail)
        go_wp2
        go_ret
        rw [NV.out]
        refine ⟨rfl, ?_, ?_⟩
        · have h1 : RRd (wr.drewN nq) R A B l at_ 0 := by rw [HWR.out]; exact HR.out
          exact h1.put 10
        · have h2 := grown_own w (q + nq) R 2 (.int .i64 10)
          rw [HWR.out]
          exact ⟨h2.os, h2.tape, h2.output, h2.size, h2.block⟩
  · have hw : ((why : Int) != 0) = true := by simp; omega
    have HU : Hid (rU l at_ why = (0, at_, why)) := by show _ = _; simp [rU, h0]
    rw [HU.out]
    clear h hs hn hne h0
    go_enter Try.func66, Try.ntmps66
    go_wp2
    go_ret
    exact ⟨rfl, HR.out, ⟨rfl, rfl, rfl, Nat.le_refl _, fun _ _ _ => rfl⟩⟩
end Go.Proofs.Ytogbcciocgpknaa

namespace Go.Proofs.Ytogbcciocgpknaa
open Go.RowKit Cod
set_option linter.unusedVariables false
set_option linter.unusedSimpArgs false

theorem num_small : ∀ (l : List (BitVec 8)) (k acc : Nat), acc < 128 ^ k → k ≤ 9 → (num k acc l).1 < 18446744073709551616
  | [], _, _, _, _ => by simp [num]
  | c :: r, k, acc, ha, hk => by
    have hc := c.isLt
    unfold num
    split
    · show 0 < _; omega
    · rename_i h1
      split
      · rename_i h2
        show acc + c.toNat * 128 ^ k < _
        by_cases e : k = 9
        · subst e
          have h3 : c.toNat ≤ 1 := by omega
          have : c.toNat * 128 ^ 9 ≤ 1 * 128 ^ 9 := Nat.mul_le_mul_right _ h3
          have : (128 : Nat) ^ 9 = 9223372036854775808 := by decide
          omega
        · have h4 : 128 ^ k ≤ 128 ^ 8 := Nat.pow_le_pow_right (by omega) (by omega)
          have h5 : c.toNat * 128 ^ k ≤ 127 * 128 ^ 8 := Nat.mul_le_mul h2 h4
          have : (128 : Nat) ^ 8 = 72057594037927936 := by decide
          omega
      · have h9 : k ≠ 9 := by omega
        exact num_small r (k + 1) _ (on_lt ha) (by omega)
theorem rU_small (l : List (BitVec 8)) (at_ why : Nat) : (rU l at_ why).1 < 18446744073709551616 := by
  unfold rU
  split
  · exact num_small _ 0 0 (by decide) (by omega)
  · show 0 < _; omega
set_option maxRecDepth 100000 in
theorem refRInt_any (R A B : Nat) (l : List (BitVec 8)) (at_ why : Nat) (w : World) (h : RRd w R A B l at_ why) :
    Calls Try.prog 38 #[.pointer (some ⟨R, 0, none⟩)] w fun e w' => e = .returned (.int .i64 (zag (rU l at_ why).1)) ∧ RRd w' R A B l (rU l at_ why).2.1 (rU l at_ why).2.2 ∧ w.grownBy w' (some R) := by
  have HC := refRUint_any R A B l at_ why w h
  have hlt := rU_small l at_ why
  have HZ : Hid (zag (rU l at_ why).1 = if (rU l at_ why).1 % 2 = 1 then -(((rU l at_ why).1 / 2 : Nat) : Int) - 1 else (((rU l at_ why).1 / 2 : Nat) : Int)) := (rfl : _ = _)
  rw [HZ.out]
  generalize (rU l at_ why).1 = n at *
  clear h HZ
  have w2 : IntKind.u64.wrap ((n : Int) / 2) = (n : Int) / 2 := by rw [IntKind.wrap_u64]; omega
  have w1 : wrap64 ((n : Int) / 2) = (n : Int) / 2 := by unfold wrap64; omega
  by_cases hp : n % 2 = 1
  · have h1 : ((n : Int) % 2 == 1) = true := by simp; omega
    have w3 : wrap64 (-((n : Int) / 2)) = -((n : Int) / 2) := by unfold wrap64; omega
    have w4 : wrap64 (-((n : Int) / 2) - 1) = -((n : Int) / 2) - 1 := by unfold wrap64; omega
    rw [if_pos hp]
    clear hp hlt
    go_enter Try.func38, Try.ntmps38
    go_wp2_with fail
    refine HC.mono ?_
    rintro e w' ⟨rfl, r1, g1⟩
    have R1 : Hid (RRd w' R A B l (rU l at_ why).2.1 (rU l at_ why).2.2) := r1
    have G1 : Hid (w.grownBy w' (some R)) := g1
    clear r1 g1
    go_wp2
    go_ret
    exact ⟨by simp [w1, w3, w4], R1.out, G1.out⟩
  · have h1 : ((n : Int) % 2 == 1) = false := by simp; omega
    rw [if_neg hp]
    clear hp hlt
    go_enter Try.func38, Try.ntmps38
    go_wp2_with fail
    refine HC.mono ?_
    rintro e w' ⟨rfl, r1, g1⟩
    have R1 : Hid (RRd w' R A B l (rU l at_ why).2.1 (rU l at_ why).2.2) := r1
    have G1 : Hid (w.grownBy w' (some R)) := g1
    clear r1 g1
    go_wp2
    go_ret
    exact ⟨by simp [w1], R1.out, G1.out⟩
set_option maxRecDepth 100000 in
theorem refREnd_any (R A B : Nat) (l : List (BitVec 8)) (at_ why : Nat) (w : World) (h : RRd w R A B l at_ why) :
    Calls Try.prog 40 #[.pointer (some ⟨R, 0, none⟩)] w fun e w' => e = .returned (.int .i64 (rEnd l at_ why)) ∧ ∃ n, w' = w.drewN n := by
  obtain ⟨a, cap, c0, c1, c2, hfr, _, _, _, _, hat, hm⟩ := h.cells
  clear h
  by_cases h0 : why = 0
  · subst h0
    have hz : ((0 : Int) == 0) = true := rfl
    by_cases h1 : at_ < l.length
    · have e : rEnd l at_ 0 = 11 := by simp [rEnd, h1]
      have h1' : (at_ : Int) < (l.length : Int) := by omega
      rw [e]
      go_enter Try.func40, Try.ntmps40
      go_wp2_with fail
      go_quiet (fail)
      go_wp2
      go_ret
      exact ⟨rfl, _, rfl⟩
    · have e : rEnd l at_ 0 = 0 := by simp [rEnd, h1]
      have h1' : ¬ (at_ : Int) < (l.length : Int) := by omega
      rw [e]
      go_enter Try.func40, Try.ntmps40
      go_wp2_with fail
      go_quiet (fail)
      go_wp2
      go_ret
      exact ⟨rfl, _, rfl⟩
  · have e : rEnd l at_ why = why := by simp [rEnd, h0]
    have h0' : ((why : Int) == 0) = false := by simp; omega
    rw [e]
    go_enter Try.func40, Try.ntmps40
    go_wp2_with fail
    go_quiet (fail)
    go_wp2
    go_ret
    exact ⟨rfl, _, rfl⟩
set_option maxRecDepth 100000 in
set_option maxHeartbeats 800000 in
theorem refRBool_any (R A B : Nat) (l : List (BitVec 8)) (at_ why : Nat) (w : World) (h : RRd w R A B l at_ why) :
    Calls Try.prog 44 #[.pointer (some ⟨R, 0, none⟩)] w fun e w' => e = .returned (.bool (rB l at_ why).1) ∧ RRd w' R A B l (rB l at_ why).2.1 (rB l at_ why).2.2 ∧ w.grownBy w' (some R) := by
  obtain ⟨a, cap, c0, c1, c2, hfr, hs, hn, hk, hne, hat, hm⟩ := h.cells
  have HR : Hid (RRd w R A B l at_ why) := h
  clear h hn hne
  by_cases h0 : why = 0
  · subst h0
    by_cases h1 : at_ = l.length
    · have e : rB l at_ 0 = (false, at_, 10) := by simp [rB, h1]
      have h1' : (l.length : Int) ≤ (at_ : Int) := by omega
      rw [e]
      clear hs h1 e
      go_enter Try.func44, Try.ntmps44
      go_wp2_with fail
      go_quiet (fail)
      go_wp2
      go_ret
      exact ⟨rfl, RRd.put (show RRd (w.drewN nq) R A B l at_ 0 from HR.out) 10, grown_own w nq R 2 _⟩
    · obtain ⟨b, off, rfl, hc⟩ : ∃ b off, a = some ⟨b, off, none⟩ ∧ ∀ j, j < l.length → w.cell? ⟨b, off + j, none⟩ = some (.int .u8 (V (l.getD j 0#8))) := by
        rcases hs.2.2 with h3 | h3
        · omega
        · exact h3
      have hck := hc at_ (by omega)
      have HB : Hid (rB l at_ 0 = if 1 < (l.getD at_ 0#8).toNat then (false, at_, 11) else (decide ((l.getD at_ 0#8).toNat = 1), at_ + 1, 0)) := by show _ = _; simp [rB, h1]
      rw [HB.out]
      have h1' : ¬ (l.length : Int) ≤ (at_ : Int) := by omega
      have h2' : (at_ : Int) < (l.length : Int) := by omega
      generalize l.getD at_ 0#8 = c at *
      have HL : Hid (at_ + 1 ≤ l.length) := by show _ ≤ _; omega
      obtain ⟨T, hT⟩ : ∃ T : Bool × Nat × Nat, (if 1 < c.toNat then (false, at_, 11) else (decide (c.toNat = 1), at_ + 1, 0)) = T := ⟨_, rfl⟩
      rw [hT]
      have HT : Hid _ := hT
      clear hc hs HB h1 hT
      go_enter Try.func44, Try.ntmps44
      go_wp2_with fail
      go_quiet (fail)
      go_wp2_with fail
      obtain ⟨x, hx⟩ : ∃ x, w.drewN nq = x := ⟨_, rfl⟩
      have d0 : x.cell? ⟨R, 0, none⟩ = some (.slice (some ⟨b, off, none⟩) l.length cap) := by rw [← hx]; exact c0
      have d1 : x.cell? ⟨R, 1, none⟩ = some (.int .i64 at_) := by rw [← hx]; exact c1
      have d2 : x.cell? ⟨R, 2, none⟩ = some (.int .i64 (0 : Nat)) := by rw [← hx]; exact c2
      have dc : x.cell? ⟨b, off + at_, none⟩ = some (.int .u8 (V c)) := by rw [← hx]; exact hck
      have dfr : ∀ i, x.frozen? ⟨R, i, none⟩ = false := fun i => by rw [← hx]; exact hfr i
      have HX : Hid (∃ q', x = w.drewN q') := ⟨_, hx.symm⟩
      rw [hx]
      clear hx c0 c1 c2 hfr hck
      go_quiet (fail)
      obtain ⟨y, hy⟩ : ∃ y, x.drewN nq = y := ⟨_, rfl⟩
      have f1 : y.cell? ⟨R, 1, none⟩ = some (.int .i64 at_) := by rw [← hy]; exact d1
      have f2 : y.cell? ⟨R, 2, none⟩ = some (.int .i64 (0 : Nat)) := by rw [← hy]; exact d2
      have ffr : ∀ i, y.frozen? ⟨R, i, none⟩ = false := fun i => by rw [← hy]; exact dfr i
      have RY : Hid (RRd y R A B l at_ 0) := by obtain ⟨q', hq'⟩ := HX.out; rw [← hy, hq']; exact HR.out
      have GY : Hid (∀ i v, w.grownBy (y.setCell ⟨R, i, none⟩ v) (some R)) := fun i v => by
        obtain ⟨q', hq'⟩ := HX.out
        have := grown_own w (q' + nq) R i v
        rw [← hy, hq']
        exact ⟨this.os, this.tape, this.output, this.size, this.block⟩
      rw [hy]
      clear hy d0 d1 d2 dc dfr HX
      by_cases h3 : 1 < c.toNat
      · have h3' : 1 < V c := by unfold V; omega
        have H3 : Hid (1 < c.toNat) := h3
        clear h3
        go_wp2
        go_ret
        rw [← HT.out, if_pos H3.out]
        exact ⟨rfl, RY.out.put 11, GY.out _ _⟩
      · have h3' : ¬ 1 < V c := by unfold V; omega
        have hw : IntKind.i64.wrap ((at_ : Int) + 1) = (at_ : Int) + 1 := by rw [IntKind.wrap_i64]; omega
        have HV : Hid (decide (c.toNat = 1) = (V c == 1)) := by
          show _ = _
          unfold V
          by_cases e : c.toNat = 1
          · simp [e]
          · simp [e]; omega
        have H3 : Hid (¬ 1 < c.toNat) := h3
        clear h3
        go_wp2
        go_ret
        rw [← HT.out, if_neg H3.out]
        refine ⟨by rw [HV.out]; rfl, ?_, GY.out _ _⟩
        have h1 := RY.out.go (at_ + 1) HL.out
        rw [show (((at_ + 1 : Nat)) : Int) = (at_ : Int) + 1 by omega] at h1
        exact h1
  · have e : rB l at_ why = (false, at_, why) := by simp [rB, h0]
    have h0' : ((why : Int) != 0) = true := by simp; omega
    rw [e]
    clear hs e h0
    go_enter Try.func44, Try.ntmps44
    go_wp2
    go_ret
    exact ⟨rfl, HR.out, ⟨rfl, rfl, rfl, Nat.le_refl _, fun _ _ _ => rfl⟩⟩
end Go.Proofs.Ytogbcciocgpknaa

namespace Go.Proofs.Ytogbcciocgpknaa
open Go.RowKit Cod
set_option linter.unusedVariables false
set_option linter.unusedSimpArgs false

theorem num_err : ∀ (l : List (BitVec 8)) (k acc : Nat), (num k acc l).2.2 ≠ 0 → num k acc l = (0, 0, (num k acc l).2.2)
  | [], _, _, _ => rfl
  | c :: r, k, acc, h => by
    unfold num at h ⊢
    split
    · rfl
    · rename_i h1
      rw [if_neg h1] at h
      split
      · rename_i h2
        rw [if_pos h2] at h
        simp at h
      · rename_i h2
        rw [if_neg h2] at h
        exact num_err r _ _ h
theorem rU_err (l : List (BitVec 8)) (at_ why : Nat) (h : (rU l at_ why).2.2 ≠ 0) : rU l at_ why = (0, at_, (rU l at_ why).2.2) := by
  unfold rU at h ⊢
  split
  · rename_i h0
    rw [if_pos h0] at h
    rw [num_err _ 0 0 h]
    simp
  · rfl
set_option maxRecDepth 100000 in
set_option maxHeartbeats 800000 in
theorem refOf_any (a : Option Addr) (len cap : Nat) (l : List (BitVec 8)) (w : World) (h : Seen w a len l) (hnil : a = none → cap = 0) (hm : len ≤ 140737488355328) :
    Calls Try.prog 37 #[.slice a len cap] w fun e w' => ∃ R, e = .returned (.pointer (some ⟨R, 0, none⟩)) ∧ w.heap.size ≤ R ∧ RRd w' R w.heap.size w'.heap.size l 0 0 ∧ Below w.heap.size w w' := by
  obtain rfl : len = l.length := h.1
  generalize hw1 : w.alloc (.cells #[.slice none 0 0, .int .i64 0, .int .i64 0] 105) = w1
  have b1 : Below w.heap.size w w1 := by rw [← hw1]; exact (Below.refl _ w).alloc (Nat.le_refl _) _
  have hh : w1.heap[w.heap.size]? = some (.cells #[.slice none 0 0, .int .i64 0, .int .i64 0] 105 (0, 0)) := by rw [← hw1]; exact heap_alloc_new w _
  have s1 : w1.heap.size = w.heap.size + 1 := by rw [← hw1]; simp
  obtain ⟨v1, w2, hr, o1, g1⟩ := run_append_bytes 25 w1 w1.heap.size (.slice none 0 0) 0 [] (World.ownsRow_nil _ _ _ _) a l.length cap l (h.below b1) hnil (by omega) (Nat.le_refl _)
  rw [List.nil_append, Nat.zero_add] at o1
  have b2 : Below w1.heap.size w1 w2 := (Below.refl _ w1).grown g1 (Nat.le_refl _) (fun k e => by cases e)
  have hh2 : w2.heap[w.heap.size]? = some (.cells #[.slice none 0 0, .int .i64 0, .int .i64 0] 105 (0, 0)) := (b2.block _ (by omega)).trans hh
  obtain ⟨a', c', rfl, s', n', k'⟩ := owned_seen o1 (by unfold maxLen; omega)
  have c0 : w1.cell? ⟨w.heap.size, 0, none⟩ = some (.slice none 0 0) := by simp [World.cell?, hh]
  have e0 : w2.cell? ⟨w.heap.size, 0, none⟩ = some (.slice none 0 0) := by simp [World.cell?, hh2]
  have efr : w2.frozen? ⟨w.heap.size, 0, none⟩ = false := by simp [World.frozen?, hh2]
  have hne : l ≠ [] → ∀ x, a' = some x → x.block ≠ w.heap.size ∧ w.heap.size ≤ x.block ∧ x.block < w2.heap.size := fun hl x hx => by
    have hp := List.length_pos_iff.2 hl
    obtain ⟨g, c, e, hg, hg2⟩ := o1.form hp
    cases e
    cases hx
    exact ⟨by show g ≠ _; omega, by show _ ≤ g; omega, hg2⟩
  have RZ : Hid (RRd (w2.setCell ⟨w.heap.size, 0, none⟩ (.slice a' l.length c')) w.heap.size w.heap.size (w2.setCell ⟨w.heap.size, 0, none⟩ (.slice a' l.length c')).heap.size l 0 0) :=
    ⟨a', c', by have := set_block hh2 0 (.slice a' l.length c'); simpa using this, seen_far s' hne _ _, n', k', (by simpa [World.setCell] using hne), Nat.zero_le _, hm⟩
  have BZ : Hid (Below w.heap.size w (w2.setCell ⟨w.heap.size, 0, none⟩ (.slice a' l.length c'))) := (b1.trans (b2.mono b1.size)).setCell (Nat.le_refl _) _
  have HR : Hid _ := hr
  have HW : Hid _ := hw1
  clear h hnil hm hr o1 g1 b1 b2 hh hh2 s' n' k' hne hw1 s1
  go_enter Try.func37, Try.ntmps37
  go_wp2_with (first
    | (rw [HW.out]; at_builtin; refine wpList_append_known rfl (.tmp 10) (.tmp 11) 25 25 rfl _ _ rfl rfl _ _ HR.out ?_))
  go_ret
  exact ⟨_, rfl, Nat.le_refl _, RZ.out, BZ.out⟩
end Go.Proofs.Ytogbcciocgpknaa

namespace Go.Proofs.Ytogbcciocgpknaa
open Go.RowKit Cod
set_option linter.unusedVariables false
set_option linter.unusedSimpArgs false

theorem RRd.drawn {w : World} {R A B : Nat} {l : List (BitVec 8)} {at_ why : Nat} (h : RRd w R A B l at_ why) (q : Nat) : RRd (w.drewN q) R A B l at_ why := h
theorem grown_put {w w' : World} {R : Nat} (h : w.grownBy w' (some R)) (i : Nat) (v : Value) : w.grownBy (w'.setCell ⟨R, i, none⟩ v) (some R) :=
  ⟨h.os, h.tape, h.output, by simpa [World.setCell] using h.size, fun k hk hr => by rw [Below.heap_setCell _ _ _ k (fun e => hr (congrArg some e))]; exact h.block k hk hr⟩
theorem grown_drawn {w w' : World} {row : Option Nat} (h : w.grownBy w' row) (q : Nat) : w.grownBy (w'.drewN q) row := ⟨h.os, h.tape, h.output, h.size, h.block⟩
set_option maxRecDepth 100000 in
set_option maxHeartbeats 3200000 in
theorem refRCount_any (R A B : Nat) (l : List (BitVec 8)) (most : Int) (hl0 : -9223372036854775808 ≤ most) (hmost : most < 9223372036854775808) (at_ why : Nat) (w : World) (h : RRd w R A B l at_ why) :
    Calls Try.prog 72 #[.pointer (some ⟨R, 0, none⟩), .int .i64 most] w fun e w' => e = .returned (.int .i64 (rC l most at_ why).1) ∧ RRd w' R A B l (rC l most at_ why).2.1 (rC l most at_ why).2.2 ∧ w.grownBy w' (some R) := by
  have HU := refRUint_any R A B l at_ why w h
  obtain ⟨a, cap, c0, c1, c2, hfr, _⟩ := h.cells
  have hat0 : at_ ≤ l.length := by obtain ⟨_, _, _, _, _, _, _, h6, _⟩ := h; exact h6
  have HAT : Hid (at_ ≤ l.length) := hat0
  have HUS : Hid ((rU l at_ why).1 < 18446744073709551616) := rU_small l at_ why
  have HUA : Hid ((rU l at_ why).2.1 ≤ l.length) := rU_at l at_ why hat0
  have HL0 : Hid (-9223372036854775808 ≤ most ∧ most < 9223372036854775808) := ⟨hl0, hmost⟩
  have HC : Hid (rC l most at_ why = if (rU l at_ why).2.2 ≠ 0 then (0, (rU l at_ why).2.1, (rU l at_ why).2.2) else if most < 0 ∨ most < (rU l at_ why).1 then (0, at_, 3) else if l.length - (rU l at_ why).2.1 < (rU l at_ why).1 then (0, at_, 10) else rU l at_ why) := by show _ = _; rw [rC]
  have HE : Hid ((rU l at_ why).2.2 ≠ 0 → rU l at_ why = (0, at_, (rU l at_ why).2.2)) := rU_err l at_ why
  obtain ⟨T, hT⟩ : ∃ T, rC l most at_ why = T := ⟨_, rfl⟩
  rw [hT] at HC ⊢
  have HM : Hid (l.length ≤ 140737488355328) := by obtain ⟨_, _, _, _, _, _, _, _, h7⟩ := h; exact h7
  clear h hfr hT c0 c2 hat0 hl0 hmost
  generalize rU l at_ why = U at *
  obtain ⟨n, p, y⟩ := U
  simp only at HU HC HE HUS HUA
  by_cases hy : y = 0
  · subst hy
    have HC2 : Hid (T = if most < 0 ∨ most < n then (0, at_, 3) else if l.length - p < n then (0, at_, 10) else (n, p, 0)) := by show _ = _; rw [HC.out]; simp
    clear HC HE
    by_cases hA : most < 0 ∨ most < n
    · have HC3 : Hid (T = (0, at_, 3)) := by show _ = _; rw [HC2.out, if_pos hA]
      have hAA : (most < 0) ∨ (¬ most < 0 ∧ IntKind.u64.wrap most < (n : Int)) := by
        rcases hA with h1 | h1
        · exact .inl h1
        · by_cases h2 : most < 0
          · exact .inl h2
          · exact .inr ⟨h2, by have := HL0.out; rw [IntKind.wrap_u64]; omega⟩
      clear HC2 hA
      rcases hAA with hA | ⟨hA, hB⟩
      all_goals
        go_enter Try.func72, Try.ntmps72
        go_wp2_with fail
        refine HU.mono ?_
        rintro e w1 ⟨rfl, r1, g1⟩
        obtain ⟨a', cap', d0, d1, d2, dfr, _, _, _, _, _, _⟩ := r1.cells
        have R1 : Hid (RRd w1 R A B l p 0) := r1
        have G1 : Hid (w.grownBy w1 (some R)) := g1
        clear r1 g1 c1
        go_wp2_with fail
        obtain ⟨x, hx⟩ : ∃ x, w1.setCell ⟨R, 2, none⟩ (.int .i64 3) = x := ⟨_, rfl⟩
        have rx : RRd x R A B l p 3 := by rw [← hx]; exact R1.out.put 3
        have gx : w.grownBy x (some R) := by rw [← hx]; exact grown_put G1.out _ _
        obtain ⟨a2, cap2, f0, f1, f2, ffr, _, _, _, _, _, _⟩ := rx.cells
        have RX : Hid (RRd x R A B l p 3) := rx
        have GX : Hid (w.grownBy x (some R)) := gx
        rw [hx]
        clear hx rx gx d0 d1 d2 dfr
        have hz : ((3 : Int) == 0) = false := rfl
        go_quiet (fail)
        go_wp2
        go_ret
        rw [HC3.out]
        exact ⟨rfl, (RX.out.drawn nq).go at_ HAT.out, grown_put (grown_drawn GX.out nq) _ _⟩
    · have hA1 : ¬ most < 0 := fun e => hA (.inl e)
      have hw : IntKind.u64.wrap most = most := by have := HL0.out; rw [IntKind.wrap_u64]; omega
      have hA2 : ¬ most < (n : Int) := fun e => hA (.inr e)
      have hsub : IntKind.i64.wrap ((l.length : Int) - (p : Int)) = ((l.length - p : Nat) : Int) := by have := HM.out; have := HUA.out; rw [IntKind.wrap_i64]; omega
      have hsub2 : IntKind.u64.wrap ((l.length - p : Nat) : Int) = ((l.length - p : Nat) : Int) := by have := HM.out; rw [IntKind.wrap_u64]; omega
      by_cases hB : l.length - p < n
      · have HC3 : Hid (T = (0, at_, 10)) := by show _ = _; rw [HC2.out, if_neg hA, if_pos hB]
        have hB' : ((l.length - p : Nat) : Int) < (n : Int) := by omega
        clear HC2 hA hB
        go_enter Try.func72, Try.ntmps72
        go_wp2_with fail
        refine HU.mono ?_
        rintro e w1 ⟨rfl, r1, g1⟩
        obtain ⟨a', cap', d0, d1, d2, dfr, _, _, _, _, _, _⟩ := r1.cells
        have R1 : Hid (RRd w1 R A B l p 0) := r1
        have G1 : Hid (w.grownBy w1 (some R)) := g1
        clear r1 g1 c1
        go_wp2_with fail
        go_quiet (fail)
        go_wp2
        go_ret
        rw [HC3.out]
        exact ⟨rfl, ((R1.out.drawn nq).put 10).go at_ HAT.out, grown_put (grown_put (grown_drawn G1.out nq) _ _) _ _⟩
      · have HC3 : Hid (T = (n, p, 0)) := by show _ = _; rw [HC2.out, if_neg hA, if_neg hB]
        have hB' : ¬ ((l.length - p : Nat) : Int) < (n : Int) := by omega
        have hwn : wrap64 (n : Int) = n := by have := HM.out; have := HUA.out; unfold wrap64; omega
        clear HC2 hA hB
        go_enter Try.func72, Try.ntmps72
        go_wp2_with fail
        refine HU.mono ?_
        rintro e w1 ⟨rfl, r1, g1⟩
        obtain ⟨a', cap', d0, d1, d2, dfr, _, _, _, _, _, _⟩ := r1.cells
        have R1 : Hid (RRd w1 R A B l p 0) := r1
        have G1 : Hid (w.grownBy w1 (some R)) := g1
        clear r1 g1 c1
        go_wp2_with fail
        go_quiet (fail)
        go_wp2
        go_ret
        rw [HC3.out]
        exact ⟨rfl, R1.out.drawn nq, grown_drawn G1.out nq⟩
  · have HC2 : Hid (T = (0, at_, y)) := by
      have e := HE.out hy
      have e1 : n = 0 := by injection e
      have e2 : p = at_ := by injection e with _ e; injection e
      show _ = _
      rw [HC.out, if_pos hy, e2]
    have hy1 : ((y : Int) == 0) = false := by simp; omega
    have hy2 : ((y : Int) != 0) = true := by simp; omega
    clear HC HE hy
    go_enter Try.func72, Try.ntmps72
    go_wp2_with fail
    refine HU.mono ?_
    rintro e w1 ⟨rfl, r1, g1⟩
    obtain ⟨a', cap', d0, d1, d2, dfr, _, _, _, _, _, _⟩ := r1.cells
    have R1 : Hid (RRd w1 R A B l p y) := r1
    have G1 : Hid (w.grownBy w1 (some R)) := g1
    clear r1 g1 c1
    go_wp2_with fail
    go_quiet (fail)
    go_wp2
    go_ret
    rw [HC2.out]
    exact ⟨rfl, (R1.out.drawn nq).go at_ HAT.out, grown_put (grown_drawn G1.out nq) _ _⟩
end Go.Proofs.Ytogbcciocgpknaa

