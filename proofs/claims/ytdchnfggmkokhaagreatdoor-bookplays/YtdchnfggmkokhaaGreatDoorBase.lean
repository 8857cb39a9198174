/- What the walks over package crc are told of memory: the two tables, a slice of bytes; and what More does. -/
import Derived.Test.YtdchnfggmkokhaaGreatDoorProg
import Derived.Test.YtdchnfggmkokhaaGreatDoorMath
import Derived.WalkKit
import Derived.WalkSpells
import Derived.WalkLawsBesides
import Derived.Deep.QuietTactic
import Derived.BigQuiet
import Derived.Laws.BitsAllLaws
import Derived.Laws.Bits64
namespace Go.Proofs.YtdchnfggmkokhaaGreatDoor
open Go.RowKit

/-- A register, a byte, as the walk's numbers. -/
def U (r : Crc.W) : Int := (r.toNat : Int)
def V (c : BitVec 8) : Int := (c.toNat : Int)
theorem U_nn (r : Crc.W) : 0 ≤ U r := by unfold U; omega
theorem U_lt (r : Crc.W) : U r < 4294967296 := by unfold U; have := r.isLt; omega
theorem V_nn (c : BitVec 8) : 0 ≤ V c := by unfold V; omega
theorem V_lt (c : BitVec 8) : V c < 256 := by unfold V; have := c.isLt; omega
theorem U_inj {r s : Crc.W} (h : U r = U s) : r = s := by
  unfold U at h; exact BitVec.eq_of_toNat_eq (by omega)
theorem u32_not (s : Crc.W) : bits BinOp.xor IntKind.u32 IntKind.u32.max (U s) = U (~~~ s) := by
  have h1 : (IntKind.u32.max : Int) = ((4294967295 : Nat) : Int) := by decide
  have := s.isLt
  unfold U
  rw [h1, u32_xor_nat _ _ (by decide) (by omega), ← BitVec.allOnes_xor (x := s), BitVec.toNat_xor]
  rfl
theorem u32_xor_U (a b : Crc.W) : bits BinOp.xor IntKind.u32 (U a) (U b) = U (a ^^^ b) := by
  have h1 := a.isLt
  have h2 := b.isLt
  unfold U
  rw [u32_xor_nat _ _ (by omega) (by omega), BitVec.toNat_xor]

/-- The byte that the tables are asked for. -/
def mixed (r : Crc.W) (c : BitVec 8) : Nat := (r ^^^ Crc.ext c).toNat % 256
theorem mixed_lt (r : Crc.W) (c : BitVec 8) : mixed r c < 256 := Nat.mod_lt _ (by decide)
theorem mixed_eq (r : Crc.W) (c : BitVec 8) : bits BinOp.xor IntKind.u8 (U r % 256) (V c) = (mixed r c : Int) := by
  unfold U V mixed
  have h1 : (r.toNat : Int) % 256 = ((r.toNat % 256 : Nat) : Int) := by omega
  have hc := c.isLt
  rw [h1, u8_xor_nat _ _ (by omega) (by omega), BitVec.toNat_xor]
  congr 1
  have h2 : (Crc.ext c).toNat = c.toNat := by simp [Crc.ext, BitVec.zeroExtend]; omega
  rw [h2, show (256 : Nat) = 2 ^ 8 from rfl, Nat.xor_mod_two_pow, Nat.mod_eq_of_lt (a := c.toNat) (by omega)]
theorem low4 (m : Nat) (h : m < 256) : bits BinOp.and IntKind.u8 (m : Int) 15 = ((m % 16 : Nat) : Int) := by
  rw [show (15 : Int) = ((15 : Nat) : Int) from rfl, u8_and_nat _ _ h (by decide), nat_mask4]
theorem lowU (i : Nat) (h : i < 16) : ((Crc.lows.getD i 0 : Nat) : Int) = U (Crc.low i) := by
  unfold U Crc.low
  have : ∀ j : Fin 16, Crc.lows.getD j.val 0 < 2 ^ 32 := by decide
  rw [BitVec.toNat_ofNat, Nat.mod_eq_of_lt (this ⟨i, h⟩)]
theorem highU (i : Nat) (h : i < 16) : ((Crc.highs.getD i 0 : Nat) : Int) = U (Crc.high i) := by
  unfold U Crc.high
  have : ∀ j : Fin 16, Crc.highs.getD j.val 0 < 2 ^ 32 := by decide
  rw [BitVec.toNat_ofNat, Nat.mod_eq_of_lt (this ⟨i, h⟩)]
theorem shr8 (r : Crc.W) : U r / (256 : Int) = U (r >>> 8) := by
  unfold U
  rw [BitVec.toNat_ushiftRight, Nat.shiftRight_eq_div_pow]
  omega

def Tabs (w : World) : Prop :=
  (∀ i, i < 16 → w.cell? ⟨1, i, none⟩ = some (.int .u32 (U (Crc.low i)))) ∧
  (∀ i, i < 16 → w.cell? ⟨2, i, none⟩ = some (.int .u32 (U (Crc.high i))))

set_option maxHeartbeats 400000 in
theorem more_cells (s : Crc.W) (b off cap : Nat) (l : List (BitVec 8)) (w : World) (hT : Tabs w) (hm : l.length ≤ maxLen)
    (hc : ∀ j, j < l.length → w.cell? ⟨b, off + j, none⟩ = some (.int .u8 (V (l.getD j 0#8)))) :
    Calls Tryz.prog 105 #[.int .u32 (U s), .slice (some ⟨b, off, none⟩) l.length cap] w fun e w' => e = .returned (.int .u32 (U (Crc.more s l))) ∧ ∃ n, w' = w.drewN n := by
  unfold maxLen at hm
  have hsg : IntKind.u32.signed = false := rfl
  have hnot := u32_not
  go_enter Tryz.func105, Tryz.ntmps105
  go_wp2
  clear hnot
  go_loopw [5, 13] (fun r i wr => ∃ k nq : Nat, k ≤ l.length ∧ i = .int .i64 k ∧ r = .int .u32 (U (Crc.run (~~~ s) (l.take k))) ∧ wr = w.drewN nq)
    (fun _ i _ => l.length - (intOf i).toNat)
  case atStart => exact ⟨0, 0, Nat.zero_le _, rfl, rfl, rfl⟩
  case round =>
    obtain ⟨k, nq, hk, rfl, rfl, rfl⟩ := hrel
    by_cases hlt : k < l.length
    · have hck := hc k hlt
      have hrun : Crc.run (~~~ s) (l.take (k + 1)) = Crc.byteStep (Crc.run (~~~ s) (l.take k)) (l.getD k 0#8) := by
        rw [List.take_add_one, ← Crc.run_snoc]; simp [hlt]
      have HR : Hid _ := hrun
      clear hrun
      generalize Crc.run (~~~ s) (l.take k) = r at *
      generalize l.getD k 0#8 = c at *
      have hmx := mixed_eq r c
      have hm1 := mixed_lt r c
      have hbs : Hid _ := Crc.byteStep_tabs r c _ (rfl : mixed r c = _)
      generalize mixed r c = m at *
      have hl4 := low4 m hm1
      have hc0 := hT.1 (m % 16) (by omega)
      have hc1 := hT.2 (m / 16) (by omega)
      have hx := u32_xor_U
      have hsh := shr8 r
      clear hc hT
      go_wp2
      go_quiet (fail)
      clear hx hl4 hmx hsh
      go_wp2
      go_roundw
      case rel => exact ⟨k + 1, _, by omega, by go_num, by rw [HR.out, hbs.out], rfl⟩
      case measure => simp [intOf]; omega
    · go_wp2
      go_ret
      obtain rfl : k = l.length := by omega
      refine ⟨?_, nq, rfl⟩
      show Ending.returned (Value.int .u32 (bits .xor .u32 IntKind.u32.max (U (Crc.run (~~~ s) (l.take l.length))))) = _
      rw [u32_not, List.take_length]; rfl

/-- A slice of bytes in memory: what it holds. -/
def Seen (w : World) (a : Option Addr) (len : Nat) (l : List (BitVec 8)) : Prop :=
  len = l.length ∧ l.length ≤ maxLen ∧ (len = 0 ∨ ∃ b off, a = some ⟨b, off, none⟩ ∧ ∀ j, j < l.length → w.cell? ⟨b, off + j, none⟩ = some (.int .u8 (V (l.getD j 0#8))))

theorem more_empty (s : Crc.W) (a : Option Addr) (cap : Nat) (w : World) :
    Calls Tryz.prog 105 #[.int .u32 (U s), .slice a 0 cap] w fun e w' => e = .returned (.int .u32 (U (Crc.more s []))) ∧ ∃ n, w' = w.drewN n := by
  have hsg : IntKind.u32.signed = false := rfl
  have hnot := u32_not
  go_enter Tryz.func105, Tryz.ntmps105
  go_wp2
  go_loop [5, 13] (fun r i => i = .int .i64 0 ∧ r = .int .u32 (U (~~~ s))) (fun _ _ => 0)
  case atStart => exact ⟨rfl, rfl⟩
  case round =>
    obtain ⟨rfl, rfl⟩ := hrel
    clear hnot
    go_wp2
    go_ret
    refine ⟨?_, 0, rfl⟩
    show Ending.returned (Value.int .u32 (bits .xor .u32 IntKind.u32.max (U (~~~ s)))) = _
    rw [u32_not]; rfl
/-- WHAT More DOES, at every slice of bytes. -/
theorem more_any (s : Crc.W) (a : Option Addr) (len cap : Nat) (l : List (BitVec 8)) (w : World) (hT : Tabs w) (h : Seen w a len l) :
    Calls Tryz.prog 105 #[.int .u32 (U s), .slice a len cap] w fun e w' => e = .returned (.int .u32 (U (Crc.more s l))) ∧ ∃ n, w' = w.drewN n := by
  obtain ⟨rfl, hm, h⟩ := h
  rcases h with h | ⟨b, off, rfl, hc⟩
  · obtain rfl : l = [] := List.eq_nil_of_length_eq_zero h
    exact more_empty s a cap w
  · exact more_cells s b off cap l w hT hm hc
theorem sum_any (a : Option Addr) (len cap : Nat) (l : List (BitVec 8)) (w : World) (hT : Tabs w) (h : Seen w a len l) :
    Calls Tryz.prog 100 #[.slice a len cap] w fun e w' => e = .returned (.int .u32 (U (Crc.more 0#32 l))) ∧ ∃ n, w' = w.drewN n := by
  have hU : (0 : Int) = U 0#32 := rfl
  have HC := more_any 0#32 a len cap l w hT h
  go_enter Tryz.func100, Tryz.ntmps100
  go_wp2_with fail
  refine HC.mono ?_
  rintro e w' ⟨rfl, n, rfl⟩
  go_wp2
  go_ret
  exact ⟨rfl, n, rfl⟩
end Go.Proofs.YtdchnfggmkokhaaGreatDoor
