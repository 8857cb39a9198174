/- What the reference's Reader does: Uint. -/
import Derived.Test.YtmcippolnekogaaGetOp
namespace Go.Proofs.Ytmcippolnekogaa
open Go.RowKit Cod
set_option linter.unusedVariables false
set_option linter.unusedSimpArgs false

/-- A Reader of the reference. -/
def RRd (w : World) (R A B : Nat) (l : List (BitVec 8)) (at_ why : Nat) : Prop :=
  ∃ a cap, w.heap[R]? = some (.cells #[.slice a l.length cap, .int .i64 at_, .int .i64 why] 88 (0, 0)) ∧ Seen w a l.length l ∧ (a = none → cap = 0) ∧ l.length ≤ cap ∧ (l ≠ [] → ∀ x, a = some x → x.block ≠ R ∧ A ≤ x.block ∧ x.block < B) ∧ at_ ≤ l.length ∧ l.length ≤ 140737488355328
theorem RRd.cells {w : World} {R A B : Nat} {l : List (BitVec 8)} {at_ why : Nat} (h : RRd w R A B l at_ why) : ∃ a cap, w.cell? ⟨R, 0, none⟩ = some (.slice a l.length cap) ∧ w.cell? ⟨R, 1, none⟩ = some (.int .i64 at_) ∧ w.cell? ⟨R, 2, none⟩ = some (.int .i64 why) ∧ (∀ i, w.frozen? ⟨R, i, none⟩ = false) ∧ Seen w a l.length l ∧ (a = none → cap = 0) ∧ l.length ≤ cap ∧ (l ≠ [] → ∀ x, a = some x → x.block ≠ R ∧ A ≤ x.block ∧ x.block < B) ∧ at_ ≤ l.length ∧ l.length ≤ 140737488355328 := by
  obtain ⟨a, cap, hh, h2⟩ := h
  exact ⟨a, cap, by simp [World.cell?, hh], by simp [World.cell?, hh], by simp [World.cell?, hh], fun i => by simp [World.frozen?, hh], h2⟩
theorem seen_far {w : World} {a : Option Addr} {n R A B : Nat} {l : List (BitVec 8)} (h : Seen w a n l) (hne : l ≠ [] → ∀ x, a = some x → x.block ≠ R ∧ A ≤ x.block ∧ x.block < B) (i : Nat) (v : Value) : Seen (w.setCell ⟨R, i, none⟩ v) a n l :=
  h.since (fun hl x hx => Below.heap_setCell _ _ _ _ (fun e => (hne hl x hx).1 e))
theorem RRd.put {w : World} {R A B : Nat} {l : List (BitVec 8)} {at_ why : Nat} (h : RRd w R A B l at_ why) (why' : Nat) : RRd (w.setCell ⟨R, 2, none⟩ (.int .i64 why')) R A B l at_ why' := by
  obtain ⟨a, cap, hh, hs, hn, hk, hne, hat, hm⟩ := h
  exact ⟨a, cap, by have := set_block hh 2 (.int .i64 why'); simpa using this, seen_far hs hne _ _, hn, hk, hne, hat, hm⟩
theorem RRd.go {w : World} {R A B : Nat} {l : List (BitVec 8)} {at_ why : Nat} (h : RRd w R A B l at_ why) (at' : Nat) (ha : at' ≤ l.length) : RRd (w.setCell ⟨R, 1, none⟩ (.int .i64 at')) R A B l at' why := by
  obtain ⟨a, cap, hh, hs, hn, hk, hne, hat, hm⟩ := h
  exact ⟨a, cap, by have := set_block hh 1 (.int .i64 at'); simpa using this, seen_far hs hne _ _, hn, hk, hne, ha, hm⟩
theorem RRd.lt {w : World} {R A B : Nat} {l : List (BitVec 8)} {at_ why : Nat} (h : RRd w R A B l at_ why) : R < w.heap.size := by
  obtain ⟨a, cap, h, _⟩ := h
  exact (Array.getElem?_eq_some_iff.1 h).1
theorem grown_own (w : World) (q R i : Nat) (v : Value) : w.grownBy ((w.drewN q).setCell ⟨R, i, none⟩ v) (some R) :=
  ⟨rfl, rfl, rfl, by simp [World.setCell], fun k hk hr => by rw [Below.heap_setCell _ _ _ k (fun e => hr (congrArg some e))]; rfl⟩
theorem ref_val {k acc : Nat} {c : BitVec 8} (ha : acc < 128 ^ k) (hk : k ≤ 9) (h9 : k ≠ 9) (p : Int) (hp : p = ((128 ^ k : Nat) : Int)) :
    bits BinOp.or IntKind.u64 (acc : Int) (IntKind.u64.wrap (V c % 128 * p)) = ((acc + (c.toNat % 128) * 128 ^ k : Nat) : Int) := by
  have e : IntKind.u64.wrap ((c.toNat % 128 : Nat) : Int) = ((c.toNat % 128 : Nat) : Int) := by rw [IntKind.wrap_u64]; omega
  have e2 : V c % 128 = IntKind.u64.wrap ((c.toNat % 128 : Nat) : Int) := by rw [e]; unfold V; omega
  rw [e2]
  refine or_place acc k _ ha ?_ hk p hp
  have h1 : 128 ^ k ≤ 128 ^ 8 := Nat.pow_le_pow_right (by omega) (by omega)
  calc (c.toNat % 128) * 128 ^ k ≤ 127 * 128 ^ 8 := Nat.mul_le_mul (by omega) h1
    _ < 18446744073709551616 := by decide
theorem ref_low {k acc : Nat} {c : BitVec 8} (h : V c < 128) : acc + (c.toNat % 128) * 128 ^ k = acc + c.toNat * 128 ^ k := by
  unfold V at h
  rw [Nat.mod_eq_of_lt (by omega)]
theorem ref_nine {acc : Nat} {c : BitVec 8} (ha : acc < 128 ^ 9) (h : V c ≤ 1) : bits BinOp.or IntKind.u64 (acc : Int) (V c % 128 * 9223372036854775808) = ((acc + c.toNat * 128 ^ 9 : Nat) : Int) := by
  unfold V at h
  have e : IntKind.u64.wrap ((c.toNat : Nat) : Int) = ((c.toNat : Nat) : Int) := by rw [IntKind.wrap_u64]; omega
  have e3 : IntKind.u64.wrap (IntKind.u64.wrap ((c.toNat : Nat) : Int) * 9223372036854775808) = V c % 128 * 9223372036854775808 := by
    rw [e, IntKind.wrap_u64]; unfold V; omega
  rw [← e3]
  refine or_place acc 9 c.toNat ha ?_ (by omega) _ (by decide)
  have h2 : c.toNat ≤ 1 := by omega
  calc c.toNat * 128 ^ 9 ≤ 1 * 128 ^ 9 := Nat.mul_le_mul_right _ h2
    _ < 18446744073709551616 := by decide
set_option maxRecDepth 100000 in
set_option maxHeartbeats 3200000 in
theorem refRUint_any (R A B : Nat) (l : List (BitVec 8)) (at_ why : Nat) (w : World) (h : RRd w R A B l at_ why) :
    Calls Try.prog 69 #[.pointer (some ⟨R, 0, none⟩)] w fun e w' => e = .returned (.int .u64 (rU l at_ why).1) ∧ RRd w' R A B l (rU l at_ why).2.1 (rU l at_ why).2.2 ∧ w.grownBy w' (some R) := by
  obtain ⟨a, cap, c0, c1, c2, hfr, hs, hn, hk, hne, hat, hm⟩ := h.cells
  have HR : Hid (RRd w R A B l at_ why) := h
  by_cases h0 : why = 0
  · subst h0
    have HS : Hid (Seen w a l.length l) := hs
    have HAT : Hid (at_ ≤ l.length) := hat
    have HU : Hid (rU l at_ 0 = ((num 0 0 (l.drop at_)).1, at_ + (num 0 0 (l.drop at_)).2.1, (num 0 0 (l.drop at_)).2.2)) := by show _ = _; simp [rU]
    have K : Hid (∀ q, (w.drewN q).cell? ⟨R, 0, none⟩ = some (.slice a l.length cap) ∧ (w.drewN q).cell? ⟨R, 1, none⟩ = some (.int .i64 at_) ∧ (w.drewN q).cell? ⟨R, 2, none⟩ = some (.int .i64 0) ∧ ∀ i, (w.drewN q).frozen? ⟨R, i, none⟩ = false) := fun q => ⟨c0, c1, c2, hfr⟩
    rw [HU.out]
    clear h hs hn hne HU
    go_enter Try.func69, Try.ntmps69
    go_wp2
    go_loopw [3, 4] (fun r i wr => ∃ (k acc q : Nat), k ≤ 9 ∧ acc < 128 ^ k ∧ at_ + k ≤ l.length ∧ num 0 0 (l.drop at_) = num k acc (l.drop (at_ + k)) ∧ i = .int .i64 k ∧ r = .int .u64 acc ∧ wr = w.drewN q) (fun _ i _ => 10 - (intOf i).toNat)
    case atStart => exact ⟨0, 0, 0, by omega, by simp, by omega, by simp, rfl, rfl, rfl⟩
    case round =>
      obtain ⟨k, acc, q, hk9, ha, hkl, hnum, rfl, rfl, hwr⟩ := hrel
      have HWR : Hid (wr = w.drewN q) := hwr
      have HN : Hid _ := hnum
      have HA : Hid (acc < 128 ^ k) := ha
      clear hnum ha c0 c1 c2 hfr
      obtain ⟨c0, c1, c2, hfr⟩ := K.out q
      rw [← hwr] at c0 c1 c2 hfr
      clear hwr
      have hw1 : IntKind.i64.wrap ((at_ : Int) + (k : Int)) = (at_ : Int) + (k : Int) := by rw [IntKind.wrap_i64]; omega
      by_cases hlt : at_ + k < l.length
      · have hlt' : ¬ ((l.length : Nat) : Int) ≤ (at_ : Int) + (k : Int) := by omega
        have hk10 : (k : Int) < 10 := by omega
        obtain ⟨b, off, rfl, hc⟩ : ∃ b off, a = some ⟨b, off, none⟩ ∧ ∀ j, j < l.length → w.cell? ⟨b, off + j, none⟩ = some (.int .u8 (V (l.getD j 0#8))) := by
          rcases HS.out.2.2 with h3 | h3
          · omega
          · exact h3
        have hck : wr.cell? ⟨b, off + (at_ + k), none⟩ = some (.int .u8 (V (l.getD (at_ + k) 0#8))) := by rw [HWR.out]; exact hc _ hlt
        have hd : Hid (l.drop (at_ + k) = l.getD (at_ + k) 0#8 :: l.drop (at_ + (k + 1))) := by
          show l.drop (at_ + k) = _
          rw [List.drop_eq_getElem_cons hlt]; simp [hlt, Nat.add_assoc]
        generalize l.getD (at_ + k) 0#8 = c at *
        clear hc
        go_wp2_with fail
        go_quiet (fail)
        go_wp2_with fail
        obtain ⟨x, hx⟩ : ∃ x, wr.drewN nq = x := ⟨_, rfl⟩
        have c0' : x.cell? ⟨R, 0, none⟩ = some (.slice (some ⟨b, off, none⟩) l.length cap) := by rw [← hx]; exact c0
        have c1' : x.cell? ⟨R, 1, none⟩ = some (.int .i64 at_) := by rw [← hx]; exact c1
        have hck' : x.cell? ⟨b, off + (at_ + k), none⟩ = some (.int .u8 (V c)) := by rw [← hx]; exact hck
        have hfr' : ∀ i, x.frozen? ⟨R, i, none⟩ = false := fun i => by rw [← hx]; exact hfr i
        have c2' : x.cell? ⟨R, 2, none⟩ = some (.int .i64 0) := by rw [← hx]; exact c2
        have HX : Hid (∃ q', x = w.drewN q') := ⟨q + nq, by rw [← hx, HWR.out]; simp [World.drewN, Nat.add_assoc]⟩
        rw [hx]
        clear hx c0 c1 c2 hfr hck
        have htn : ((at_ : Int) + (k : Int)).toNat = at_ + k := by omega
        have hlt2 : (at_ : Int) + (k : Int) < (l.length : Int) := by omega
        have hge2 : (0 : Int) ≤ (at_ : Int) + (k : Int) := by omega
        go_quiet (fail)
        obtain ⟨y, hy⟩ : ∃ y, x.drewN nq = y := ⟨_, rfl⟩
        have d1 : y.cell? ⟨R, 1, none⟩ = some (.int .i64 at_) := by rw [← hy]; exact c1'
        have d2 : y.cell? ⟨R, 2, none⟩ = some (.int .i64 0) := by rw [← hy]; exact c2'
        have dfr : ∀ i, y.frozen? ⟨R, i, none⟩ = false := fun i => by rw [← hy]; exact hfr' i
        have HY : Hid (∃ q', y = w.drewN q') := by
          obtain ⟨q', hq'⟩ := HX.out
          exact ⟨q' + nq, by rw [← hy, hq']; simp [World.drewN, Nat.add_assoc]⟩
        rw [hy]
        clear hy c0' c1' c2' hck' hfr' HX
        have hVn : 0 ≤ V c := by unfold V; omega
        have hV8 : V c < 256 := by unfold V; have := c.isLt; omega
        have RY : Hid (RRd y R A B l at_ 0) := by obtain ⟨q', hq'⟩ := HY.out; rw [hq']; exact HR.out
        have GY : Hid (∀ i v, w.grownBy (y.setCell ⟨R, i, none⟩ v) (some R)) := fun i v => by obtain ⟨q', hq'⟩ := HY.out; rw [hq']; exact grown_own w q' R i v
        go_wp2
        all_goals first
          | (go_ret
             simp only [beq_iff_eq, beq_eq_false_iff_ne, ne_eq] at *
             rw [HN.out, hd.out, num_form (by omega)]
             exact ⟨rfl, RY.out.put 11, GY.out _ _⟩)
          | (go_ret
             simp only [beq_iff_eq, beq_eq_false_iff_ne, ne_eq] at *
             have hk9' : k ≠ 9 := by omega
             rw [HN.out, hd.out, num_stop (by omega) (by omega) (by omega), ref_val HA.out (by omega) (by omega) _ (place_pow k), ref_low (by omega)]
             refine ⟨rfl, ?_, GY.out _ _⟩
             have h1 := RY.out.go (at_ + (k + 1)) (by omega)
             rw [show (((at_ + (k + 1) : Nat)) : Int) = (at_ : Int) + (k : Int) + 1 by omega] at h1
             exact h1)
          | (go_ret
             simp only [beq_iff_eq, beq_eq_false_iff_ne, ne_eq] at *
             obtain rfl : k = 9 := by omega
             rw [HN.out, hd.out, num_stop (by omega) (by omega) (by omega), ref_nine HA.out (by omega)]
             refine ⟨rfl, ?_, GY.out _ _⟩
             have h1 := RY.out.go (at_ + (9 + 1)) (by omega)
             rw [show (((at_ + (9 + 1) : Nat)) : Int) = (at_ : Int) + 9 + 1 by omega] at h1
             exact h1)
          | skip
        all_goals
          go_roundw
          case rel =>
            obtain ⟨q', hq'⟩ := HY.out
            exact ⟨k + 1, acc + (c.toNat % 128) * 128 ^ k, q', by omega, on_lt HA.out, by omega, by rw [HN.out, hd.out, num_on (by omega) (by omega)], by go_num, by rw [ref_val HA.out (by omega) (by omega) _ (place_pow k)], hq'⟩
          case measure => simp only [intOf]; omega
      · have hd : l.drop (at_ + k) = [] := List.drop_eq_nil_of_le (by omega)
        rw [hd] at HN
        have hge : ((l.length : Nat) : Int) ≤ (at_ : Int) + (k : Int) := by omega
        have hk10 : (k : Int) < 10 := by omega
        have RZ : Hid (∀ q', RRd ((w.drewN q').setCell ⟨R, 2, none⟩ (.int .i64 (10 : Nat))) R A B l at_ 10) := fun q' => RRd.put (show RRd (w.drewN q') R A B l at_ 0 from HR.out) 10
        have NV : Hid (num 0 0 (l.drop at_) = (0, 0, 10)) := HN.out
        clear HN RZ hd hkl
        go_wp2_with fail
        go_quiet (fail)
        go_wp2
        go_ret
        rw [NV.out]
        refine ⟨rfl, ?_, ?_⟩
        · have h1 : RRd (wr.drewN nq) R A B l at_ 0 := by rw [HWR.out]; exact HR.out
          exact h1.put 10
        · have h2 := grown_own w (q + nq) R 2 (.int .i64 10)
          rw [HWR.out]
          exact ⟨h2.os, h2.tape, h2.output, h2.size, h2.block⟩
  · have hw : ((why : Int) != 0) = true := by simp; omega
    have HU : Hid (rU l at_ why = (0, at_, why)) := by show _ = _; simp [rU, h0]
    rw [HU.out]
    clear h hs hn hne h0
    go_enter Try.func69, Try.ntmps69
    go_wp2
    go_ret
    exact ⟨rfl, HR.out, ⟨rfl, rfl, rfl, Nat.le_refl _, fun _ _ _ => rfl⟩⟩
end Go.Proofs.Ytmcippolnekogaa
