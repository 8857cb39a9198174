/- What the walks over package crc are told of memory: the two tables, a slice of bytes; and what More does. -/
import Derived.Test.YtccmehbdnnelhaaProg
import Derived.Test.YtccmehbdnnelhaaMath
import Derived.WalkKit
import Derived.WalkSpells
import Derived.WalkLawsBesides
import Derived.Deep.QuietTactic
import Derived.BigQuiet
import Derived.Laws.BitsAllLaws
import Derived.Laws.Bits64
namespace Go.Proofs.Ytccmehbdnnelhaa
open Go.RowKit

/-- A register, a byte, as the walk's numbers. -/
def U (r : Crc.W) : Int := (r.toNat : Int)
def V (c : BitVec 8) : Int := (c.toNat : Int)
theorem U_nn (r : Crc.W) : 0 ≤ U r := by unfold U; omega
theorem U_lt (r : Crc.W) : U r < 4294967296 := by unfold U; have := r.isLt; omega
theorem V_nn (c : BitVec 8) : 0 ≤ V c := by unfold V; omega
theorem V_lt (c : BitVec 8) : V c < 256 := by unfold V; have := c.isLt; omega
theorem U_inj {r s : Crc.W} (h : U r = U s) : r = s := by
  unfold U at h; exact BitVec.eq_of_toNat_eq (by omega)
theorem u32_not (s : Crc.W) : bits BinOp.xor IntKind.u32 IntKind.u32.max (U s) = U (~~~ s) := by
  have h1 : (IntKind.u32.max : Int) = ((4294967295 : Nat) : Int) := by decide
  have := s.isLt
  unfold U
  rw [h1, u32_xor_nat _ _ (by decide) (by omega), ← BitVec.allOnes_xor (x := s), BitVec.toNat_xor]
  rfl
theorem u32_xor_U (a b : Crc.W) : bits BinOp.xor IntKind.u32 (U a) (U b) = U (a ^^^ b) := by
  have h1 := a.isLt
  have h2 := b.isLt
  unfold U
  rw [u32_xor_nat _ _ (by omega) (by omega), BitVec.toNat_xor]

/-- The byte that the tables are asked for. -/
def mixed (r : Crc.W) (c : BitVec 8) : Nat := (r ^^^ Crc.ext c).toNat % 256
theorem mixed_lt (r : Crc.W) (c : BitVec 8) : mixed r c < 256 := Nat.mod_lt _ (by decide)
theorem mixed_eq (r : Crc.W) (c : BitVec 8) : bits BinOp.xor IntKind.u8 (U r % 256) (V c) = (mixed r c : Int) := by
  unfold U V mixed
  have h1 : (r.toNat : Int) % 256 = ((r.toNat % 256 : Nat) : Int) := by omega
  have hc := c.isLt
  rw [h1, u8_xor_nat _ _ (by omega) (by omega), BitVec.toNat_xor]
  congr 1
  have h2 : (Crc.ext c).toNat = c.toNat := by simp [Crc.ext, BitVec.zeroExtend]; omega
  rw [h2, show (256 : Nat) = 2 ^ 8 from rfl, Nat.xor_mod_two_pow, Nat.mod_eq_of_lt (a := c.toNat) (by omega)]
theorem low4 (m : Nat) (h : m < 256) : bits BinOp.and IntKind.u8 (m : Int) 15 = ((m % 16 : Nat) : Int) := by
  rw [show (15 : Int) = ((15 : Nat) : Int) from rfl, u8_and_nat _ _ h (by decide), nat_mask4]
theorem lowU (i : Nat) (h : i < 16) : ((Crc.lows.getD i 0 : Nat) : Int) = U (Crc.low i) := by
  unfold U Crc.low
  have : ∀ j : Fin 16, Crc.lows.getD j.val 0 < 2 ^ 32 := by decide
  rw [BitVec.toNat_ofNat, Nat.mod_eq_of_lt (this ⟨i, h⟩)]
theorem highU (i : Nat) (h : i < 16) : ((Crc.highs.getD i 0 : Nat) : Int) = U (Crc.high i) := by
  unfold U Crc.high
  have : ∀ j : Fin 16, Crc.highs.getD j.val 0 < 2 ^ 32 := by decide
  rw [BitVec.toNat_ofNat, Nat.mod_eq_of_lt (this ⟨i, h⟩)]
theorem shr8 (r : Crc.W) : U r / (256 : Int) = U (r >>> 8) := by
  unfold U
  rw [BitVec.toNat_ushiftRight, Nat.shiftRight_eq_div_pow]
  omega

def Tabs (w : World) : Prop :=
  (∀ i, i < 16 → w.cell? ⟨0, i, none⟩ = some (.int .u32 (U (Crc.low i)))) ∧
  (∀ i, i < 16 → w.cell? ⟨1, i, none⟩ = some (.int .u32 (U (Crc.high i))))

/-- A slice of bytes in memory: what it holds. -/
def Seen (w : World) (a : Option Addr) (len : Nat) (l : List (BitVec 8)) : Prop :=
  len = l.length ∧ l.length ≤ maxLen ∧ (len = 0 ∨ ∃ b off, a = some ⟨b, off, none⟩ ∧ ∀ j, j < l.length → w.cell? ⟨b, off + j, none⟩ = some (.int .u8 (V (l.getD j 0#8))))

end Go.Proofs.Ytccmehbdnnelhaa
