/- What the document's own functions do: Step, More, Sum of the reference; rows that a call owns. -/
import Derived.Test.YtpnnbkhlbohfbaaDoorWriters
namespace Go.Proofs.YtpnnbkhlbohfbaaDoor
open Go.RowKit
set_option linter.unusedVariables false

theorem shr_U (r : Crc.W) (k : Nat) (m : Int) (hm : m = 2 ^ k) : U r / m = U (r >>> k) := by
  subst hm
  unfold U
  rw [BitVec.toNat_ushiftRight, Nat.shiftRight_eq_div_pow]
  simp
theorem low_bit (p : Crc.W) : (bits BinOp.and IntKind.u32 (U p) 1 == 1) = p.getLsbD 0 := by
  have hb := p.isLt
  unfold U
  rw [show (1 : Int) = ((1 : Nat) : Int) from rfl, u32_and_nat _ _ (by omega) (by decide), nat_mask1]
  rw [show p.getLsbD 0 = p.toNat.testBit 0 from rfl, Nat.testBit_eq_decide_div_mod_eq]
  simp only [Nat.pow_zero, Nat.div_one]
  rcases Nat.mod_two_eq_zero_or_one p.toNat with h | h <;> rw [h] <;> rfl
def stepTo (r : Crc.W) (c : BitVec 8) : Nat → Crc.W
  | 0 => r
  | i + 1 => Crc.T (stepTo r c i ^^^ Crc.bitW (c.getLsbD i))
theorem stepTo_8 (r : Crc.W) (c : BitVec 8) : stepTo r c 8 = Crc.byteStep r c := by rw [← Crc.feed_byte]; rfl
theorem bitW_shift (b : Bool) : Crc.bitW b >>> 1 = 0#32 := by cases b <;> decide
theorem T_bit (r : Crc.W) (b : Bool) : Crc.T (r ^^^ Crc.bitW b) = (r >>> 1) ^^^ (if (r ^^^ Crc.bitW b).getLsbD 0 then Crc.poly else 0#32) := by
  unfold Crc.T Crc.bit0
  rw [BitVec.ushiftRight_xor_distrib, bitW_shift]
  simp
theorem step_bit (r : Crc.W) (c : BitVec 8) (i : Nat) (hi : i < 8) : (bits BinOp.and IntKind.u32 (bits BinOp.xor IntKind.u32 (U r) (V c / 2 ^ i % 4294967296)) 1 == 1) = (r ^^^ Crc.bitW (c.getLsbD i)).getLsbD 0 := by
  have hc := c.isLt
  have e : V c / 2 ^ i % 4294967296 = U (BitVec.ofNat 32 (c.toNat / 2 ^ i)) := by
    unfold V U
    rw [BitVec.toNat_ofNat]
    have : c.toNat / 2 ^ i ≤ c.toNat := Nat.div_le_self _ _
    rw [Nat.mod_eq_of_lt (by omega)]
    have h2 : (c.toNat : Int) / 2 ^ i = ((c.toNat / 2 ^ i : Nat) : Int) := by simp
    rw [h2]
    generalize c.toNat / 2 ^ i = m at *
    omega
  rw [e, u32_xor_U, low_bit, BitVec.getLsbD_xor, BitVec.getLsbD_xor]
  congr 1
  rw [BitVec.getLsbD_ofNat]
  have : (Crc.bitW (c.getLsbD i)).getLsbD 0 = c.getLsbD i := by cases c.getLsbD i <;> decide
  rw [this, show c.getLsbD i = c.toNat.testBit i from rfl, Nat.testBit_eq_decide_div_mod_eq, Nat.testBit_eq_decide_div_mod_eq]
  simp

set_option maxRecDepth 100000 in
set_option maxHeartbeats 400000 in
theorem step_any (r : Crc.W) (c : BitVec 8) (w : World) : Calls Tryd.prog 62 #[.int .u32 (U r), .int .u8 (V c)] w fun e w' => e = .returned (.int .u32 (U (Crc.byteStep r c))) ∧ w' = w := by
  have v0 := V_nn c
  have v1 := V_lt c
  go_enter Tryd.func62, Tryd.ntmps62
  go_wp2
  go_loop [0, 5] (fun v i => ∃ k : Nat, k ≤ 8 ∧ i = .int .i64 k ∧ v = .int .u32 (U (stepTo r c k))) (fun _ i => 8 - (intOf i).toNat)
  case atStart => exact ⟨0, by omega, rfl, rfl⟩
  case round =>
    obtain ⟨k, hk, rfl, rfl⟩ := hrel
    by_cases hlt : k < 8
    · have hb := step_bit (stepTo r c k) c k hlt
      have hT : Hid (stepTo r c (k + 1) = _) := T_bit (stepTo r c k) (c.getLsbD k)
      have hsh : U (stepTo r c k) / (2 : Int) = U (stepTo r c k >>> 1) := shr_U _ 1 2 rfl
      have hx : ∀ q : Crc.W, bits BinOp.xor IntKind.u32 (U q) 2197175160 = U (q ^^^ Crc.poly) := fun q => u32_xor_U q Crc.poly
      generalize (stepTo r c k ^^^ Crc.bitW (c.getLsbD k)).getLsbD 0 = t at *
      generalize stepTo r c k = q at *
      have e1 : (k : Int) < 8 := by omega
      clear hk v0 v1 hsh hx
      cases t
      · go_wp2
        go_round
        case rel => exact ⟨k + 1, by omega, by go_num, by rw [hT.out, shr_U q 1 2 rfl]; simp⟩
        case measure => simp [intOf]; omega
      · go_wp2
        go_round
        case rel => exact ⟨k + 1, by omega, by go_num, by rw [hT.out, shr_U q 1 2 rfl, show bits BinOp.xor IntKind.u32 (U (q >>> 1)) 2197175160 = U ((q >>> 1) ^^^ Crc.poly) from u32_xor_U _ Crc.poly]; simp⟩
        case measure => simp [intOf]; omega
    · obtain rfl : k = 8 := by omega
      go_wp2
      go_ret
      exact ⟨by rw [← stepTo_8]; rfl, rfl⟩

theorem rmore_cells (s : Crc.W) (b off cap : Nat) (l : List (BitVec 8)) (w : World) (hm : l.length ≤ maxLen)
    (hc : ∀ j, j < l.length → w.cell? ⟨b, off + j, none⟩ = some (.int .u8 (V (l.getD j 0#8)))) :
    Calls Tryd.prog 61 #[.int .u32 (U s), .slice (some ⟨b, off, none⟩) l.length cap] w fun e w' => e = .returned (.int .u32 (U (Crc.more s l))) ∧ w' = w := by
  unfold maxLen at hm
  have hsg : IntKind.u32.signed = false := rfl
  have hnot := u32_not
  go_enter Tryd.func61, Tryd.ntmps61
  go_wp2
  clear hnot
  go_loop [5, 6] (fun r i => ∃ k : Nat, k ≤ l.length ∧ i = .int .i64 k ∧ r = .int .u32 (U (Crc.run (~~~ s) (l.take k)))) (fun _ i => l.length - (intOf i).toNat)
  case atStart => exact ⟨0, Nat.zero_le _, rfl, rfl⟩
  case round =>
    obtain ⟨k, hk, rfl, rfl⟩ := hrel
    by_cases hlt : k < l.length
    · have hck := hc k hlt
      have hrun : Hid (Crc.run (~~~ s) (l.take (k + 1)) = Crc.byteStep (Crc.run (~~~ s) (l.take k)) (l.getD k 0#8)) := by
        show _ = _
        rw [List.take_add_one, ← Crc.run_snoc]; simp [hlt]
      generalize Crc.run (~~~ s) (l.take k) = r at *
      generalize l.getD k 0#8 = c at *
      clear hc
      go_wp2_with fail
      refine (step_any r c w).mono ?_
      rintro e w1 ⟨rfl, rfl⟩
      go_wp2
      go_round
      case rel => exact ⟨k + 1, by omega, by go_num, by rw [hrun.out]⟩
      case measure => simp [intOf]; omega
    · obtain rfl : k = l.length := by omega
      go_wp2
      go_ret
      refine ⟨?_, rfl⟩
      show Ending.returned (Value.int .u32 (bits .xor .u32 IntKind.u32.max (U (Crc.run (~~~ s) l)))) = _
      rw [u32_not]; rfl
theorem rmore_empty (s : Crc.W) (a : Option Addr) (cap : Nat) (w : World) :
    Calls Tryd.prog 61 #[.int .u32 (U s), .slice a 0 cap] w fun e w' => e = .returned (.int .u32 (U (Crc.more s []))) ∧ w' = w := by
  have hsg : IntKind.u32.signed = false := rfl
  have hnot := u32_not
  go_enter Tryd.func61, Tryd.ntmps61
  go_wp2
  go_loop [5, 6] (fun r i => i = .int .i64 0 ∧ r = .int .u32 (U (~~~ s))) (fun _ _ => 0)
  case atStart => exact ⟨rfl, rfl⟩
  case round =>
    obtain ⟨rfl, rfl⟩ := hrel
    clear hnot
    go_wp2
    go_ret
    refine ⟨?_, rfl⟩
    show Ending.returned (Value.int .u32 (bits .xor .u32 IntKind.u32.max (U (~~~ s)))) = _
    rw [u32_not]; rfl
theorem rmore_any (s : Crc.W) (a : Option Addr) (len cap : Nat) (l : List (BitVec 8)) (w : World) (h : Seen w a len l) :
    Calls Tryd.prog 61 #[.int .u32 (U s), .slice a len cap] w fun e w' => e = .returned (.int .u32 (U (Crc.more s l))) ∧ w' = w := by
  obtain ⟨rfl, hm, h⟩ := h
  rcases h with h | ⟨b, off, rfl, hc⟩
  · obtain rfl : l = [] := List.eq_nil_of_length_eq_zero h
    exact rmore_empty s a cap w
  · exact rmore_cells s b off cap l w hm hc
theorem rsum_any (a : Option Addr) (len cap : Nat) (l : List (BitVec 8)) (w : World) (h : Seen w a len l) :
    Calls Tryd.prog 47 #[.slice a len cap] w fun e w' => e = .returned (.int .u32 (U (Crc.more 0#32 l))) ∧ w' = w := by
  have hU : (0 : Int) = U 0#32 := rfl
  have HC := rmore_any 0#32 a len cap l w h
  go_enter Tryd.func47, Tryd.ntmps47
  go_wp2_with fail
  refine HC.mono ?_
  rintro e w' ⟨rfl, rfl⟩
  go_wp2
  go_ret
  exact ⟨rfl, rfl⟩
theorem row_form {w : World} {base n : Nat} {v : Value} {xs : List Value} {t : TypeId} {s : Nat} (h : w.ownsRow base t s v n xs) : ∃ a c, v = .slice a n c ∧ (a = none → c = 0) ∧ n ≤ c ∧ c ≤ maxLen ∧ (∀ x, a = some x → x = ⟨x.block, 0, none⟩ ∧ ∃ cur, w.heap[x.block]? = some (.cells cur t (0, 0)) ∧ cur.size = c * s) := by
  rcases h.2 with ⟨rfl, rfl⟩ | ⟨g, c, cur, rfl, hb, hg, hnc, hcm, hcs, _⟩
  · exact ⟨none, 0, rfl, fun _ => rfl, Nat.le_refl _, Nat.zero_le _, fun x e => by cases e⟩
  · exact ⟨_, c, rfl, (fun e => by cases e), hnc, hcm, fun x e => by cases e; exact ⟨rfl, cur, hg, hcs⟩⟩
theorem owns_kept {w w' : World} {base : Nat} {v : Value} {n : Nat} {xs : List Value} {t : TypeId} {s : Nat} (h : w.ownsRow base t s v n xs) (k : ∀ g, v.ownBlock = some g → w'.heap[g]? = w.heap[g]?) : w'.ownsRow base t s v n xs := by
  refine ⟨h.1, h.2.imp id ?_⟩
  rintro ⟨g, cap, cur, rfl, hb, hg, hr⟩
  exact ⟨g, cap, cur, rfl, hb, by rw [k g rfl]; exact hg, hr⟩
theorem row_kind {w : World} {base : Nat} {v : Value} {n : Nat} {xs : List Value} {t : TypeId} {s : Nat} (h : w.ownsRow base t s v n xs) {g : Nat} (e : v.ownBlock = some g) : base ≤ g ∧ g < w.heap.size ∧ ∃ cur, w.heap[g]? = some (.cells cur t (0, 0)) := by
  rcases h.2 with ⟨e1, _⟩ | ⟨g', c, cur, e1, hb, hg, _⟩
  · rw [e1] at e; cases e
  · rw [e1] at e
    obtain rfl : g' = g := by simpa [Value.ownBlock] using e
    exact ⟨hb, (Array.getElem?_eq_some_iff.1 hg).1, cur, hg⟩
end Go.Proofs.YtpnnbkhlbohfbaaDoor
