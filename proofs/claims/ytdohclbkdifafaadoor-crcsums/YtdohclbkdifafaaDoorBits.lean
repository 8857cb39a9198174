/- What timesX and the library's Reverse32 do, and the iterator over a number's bits. -/
import Derived.Test.YtdohclbkdifafaaDoorKnown
import Derived.RangeFuncNested
import Derived.RangeFuncBound
import Derived.RangeFuncCalls
import Derived.RangeFuncLeaves
import Derived.Shelf.Abstract
import Derived.Shelf.RegionOpen
import Derived.OwnWalkIn
import Derived.TacticsInMore
import Derived.LoopNIn
import Derived.LoopIn
namespace Go.Proofs.YtdohclbkdifafaaDoor
open Go.RowKit Go.Shelf
attribute [local go_sem] Oper.semAt_some
set_option linter.unusedVariables false

theorem u32_and_U (a b : Crc.W) : bits BinOp.and IntKind.u32 (U a) (U b) = U (a &&& b) := by
  have h1 := a.isLt
  have h2 := b.isLt
  unfold U
  rw [u32_and_nat _ _ (by omega) (by omega), BitVec.toNat_and]
theorem u32_or_U (a b : Crc.W) : bits BinOp.or IntKind.u32 (U a) (U b) = U (a ||| b) := by
  have h1 := a.isLt
  have h2 := b.isLt
  unfold U
  rw [u32_or_nat _ _ (by omega) (by omega), BitVec.toNat_or]
theorem shr_U (r : Crc.W) (k : Nat) (m : Int) (hm : m = 2 ^ k) : U r / m = U (r >>> k) := by
  subst hm
  unfold U
  rw [BitVec.toNat_ushiftRight, Nat.shiftRight_eq_div_pow]
  simp
theorem shl_U (r : Crc.W) (k : Nat) (m : Int) (hm : m = 2 ^ k) : U r * m % (4294967296 : Int) = U (r <<< k) := by
  subst hm
  unfold U
  rw [BitVec.toNat_shiftLeft, Nat.shiftLeft_eq]
  have : ((r.toNat * 2 ^ k % 2 ^ 32 : Nat) : Int) = ((r.toNat * 2 ^ k : Nat) : Int) % 4294967296 := by
    rw [Int.natCast_emod]; rfl
  rw [this]
  simp
theorem low_bit (p : Crc.W) : (bits BinOp.and IntKind.u32 (U p) 1 == 1) = p.getLsbD 0 := by
  have hb := p.isLt
  unfold U
  rw [show (1 : Int) = ((1 : Nat) : Int) from rfl, u32_and_nat _ _ (by omega) (by decide), nat_mask1]
  rw [show p.getLsbD 0 = p.toNat.testBit 0 from rfl, Nat.testBit_eq_decide_div_mod_eq]
  simp only [Nat.pow_zero, Nat.div_one]
  rcases Nat.mod_two_eq_zero_or_one p.toNat with h | h <;> rw [h] <;> rfl
theorem timesX_any (p : Crc.W) (w : World) : Calls Tryd.prog 29 #[.int .u32 (U p)] w fun e w' => e = .returned (.int .u32 (U (Crc.T p))) ∧ w' = w := by
  have ht := low_bit p
  have hs : U p / (2 : Int) = U (p >>> 1) := shr_U p 1 2 rfl
  have hx : ∀ r, bits BinOp.xor IntKind.u32 (U r) 2197175160 = U (r ^^^ Crc.poly) := fun r => u32_xor_U r Crc.poly
  have hT : Hid (Crc.T p = (p >>> 1) ^^^ (if p.getLsbD 0 then Crc.poly else 0#32)) := rfl
  cases hb : p.getLsbD 0
  · rw [hb] at ht
    have hT' : Hid (Crc.T p = p >>> 1) := by rw [show Crc.T p = _ from hT.out, hb]; simp [Hid]
    clear hT hb
    go_enter Tryd.func29, Tryd.ntmps29
    go_wp2
    go_ret
    rw [hT'.out]
    exact ⟨rfl, rfl⟩
  · rw [hb] at ht
    have hT' : Hid (Crc.T p = (p >>> 1) ^^^ Crc.poly) := by rw [show Crc.T p = _ from hT.out, hb]; simp [Hid]
    clear hT hb
    go_enter Tryd.func29, Tryd.ntmps29
    go_wp2
    go_ret
    rw [hT'.out]
    exact ⟨rfl, rfl⟩

def swap (k : Nat) (m r : Crc.W) : Crc.W := ((r >>> k) &&& m) ||| ((r &&& m) <<< k)
def rev (p : Crc.W) : Crc.W :=
  let q := swap 8 0x00ff00ff#32 (swap 4 0x0f0f0f0f#32 (swap 2 0x33333333#32 (swap 1 0x55555555#32 p)))
  (q >>> 16) ||| (q <<< 16)
set_option maxHeartbeats 400000 in
theorem reverseBytes_any (p : Crc.W) (w : World) : Calls Tryd.prog 30 #[.int .u32 (U p)] w fun e w' => e = .returned (.int .u32 (U ((swap 8 0x00ff00ff#32 p >>> 16) ||| (swap 8 0x00ff00ff#32 p <<< 16)))) ∧ w' = w := by
  have a1 : ∀ r, bits BinOp.and IntKind.u32 (U r) 16711935 = U (r &&& 0x00ff00ff#32) := fun r => u32_and_U r 0x00ff00ff#32
  have s1 : ∀ r : Crc.W, U r / (256 : Int) = U (r >>> 8) := fun r => shr_U r 8 256 rfl
  have s2 : ∀ r : Crc.W, U r / (65536 : Int) = U (r >>> 16) := fun r => shr_U r 16 65536 rfl
  have l1 : ∀ r : Crc.W, U r * (256 : Int) % (4294967296 : Int) = U (r <<< 8) := fun r => shl_U r 8 256 rfl
  have l2 : ∀ r : Crc.W, U r * (65536 : Int) % (4294967296 : Int) = U (r <<< 16) := fun r => shl_U r 16 65536 rfl
  have o := u32_or_U
  go_enter Tryd.func30, Tryd.ntmps30
  go_wp2
  go_ret
  exact ⟨rfl, rfl⟩
set_option maxHeartbeats 400000 in
theorem reverse_any (p : Crc.W) (w : World) : Calls Tryd.prog 28 #[.int .u32 (U p)] w fun e w' => e = .returned (.int .u32 (U (rev p))) ∧ w' = w := by
  have a1 : ∀ r, bits BinOp.and IntKind.u32 (U r) 1431655765 = U (r &&& 0x55555555#32) := fun r => u32_and_U r 0x55555555#32
  have a2 : ∀ r, bits BinOp.and IntKind.u32 (U r) 858993459 = U (r &&& 0x33333333#32) := fun r => u32_and_U r 0x33333333#32
  have a3 : ∀ r, bits BinOp.and IntKind.u32 (U r) 252645135 = U (r &&& 0x0f0f0f0f#32) := fun r => u32_and_U r 0x0f0f0f0f#32
  have s1 : ∀ r : Crc.W, U r / (2 : Int) = U (r >>> 1) := fun r => shr_U r 1 2 rfl
  have s2 : ∀ r : Crc.W, U r / (4 : Int) = U (r >>> 2) := fun r => shr_U r 2 4 rfl
  have s3 : ∀ r : Crc.W, U r / (16 : Int) = U (r >>> 4) := fun r => shr_U r 4 16 rfl
  have l1 : ∀ r : Crc.W, U r * (2 : Int) % (4294967296 : Int) = U (r <<< 1) := fun r => shl_U r 1 2 rfl
  have l2 : ∀ r : Crc.W, U r * (4 : Int) % (4294967296 : Int) = U (r <<< 2) := fun r => shl_U r 2 4 rfl
  have l3 : ∀ r : Crc.W, U r * (16 : Int) % (4294967296 : Int) = U (r <<< 4) := fun r => shl_U r 4 16 rfl
  have o := u32_or_U
  go_enter Tryd.func28, Tryd.ntmps28
  go_wp2_with fail
  refine (reverseBytes_any _ _).mono ?_
  rintro e w' ⟨rfl, rfl⟩
  clear a1 a2 a3 s1 s2 s3 l1 l2 l3 o
  go_wp2
  go_ret
  exact ⟨rfl, rfl⟩
theorem rev_bit (p : Crc.W) (i : Nat) (hi : i < 32) : (rev p).getLsbD i = p.getLsbD (31 - i) := by
  match i, hi with
  | 0, _ | 1, _ | 2, _ | 3, _ | 4, _ | 5, _ | 6, _ | 7, _ | 8, _ | 9, _ | 10, _ | 11, _ | 12, _ | 13, _ | 14, _ | 15, _ | 16, _ | 17, _ | 18, _ | 19, _ | 20, _ | 21, _ | 22, _ | 23, _ | 24, _ | 25, _ | 26, _ | 27, _ | 28, _ | 29, _ | 30, _ | 31, _ => simp [rev, swap]
  | n + 32, h => omega

/-- What has come when k rounds are over. -/
def upto {α : Type} (f : Nat → α) (k : Nat) : List α := (List.range k).map f
theorem upto_succ {α : Type} (f : Nat → α) (k : Nat) : upto f (k + 1) = upto f k ++ [f k] := by simp [upto, List.range_succ]
theorem upto_length {α : Type} (f : Nat → α) (k : Nat) : (upto f k).length = k := by simp [upto]
/-- A place and its bit. -/
def placeOf (N : Nat) (j : Nat) : Nat × Bool := (j, N.testBit j)
def Kp (B : Nat) (W W' : World) : Prop := W'.cell? ⟨B, 0, none⟩ = W.cell? ⟨B, 0, none⟩
theorem u64_bit (N k : Nat) (hN : N < 18446744073709551616) : (bits BinOp.and IntKind.u64 ((N : Int) / 2 ^ k) 1 == 1) = N.testBit k := by
  have e : (N : Int) / 2 ^ k = ((N / 2 ^ k : Nat) : Int) := by simp
  have hle : N / 2 ^ k ≤ N := Nat.div_le_self _ _
  rw [e, show (1 : Int) = ((1 : Nat) : Int) from rfl, u64_and_nat _ _ (by omega) (by decide), nat_mask1, Nat.testBit_eq_decide_div_mod_eq]
  rcases Nat.mod_two_eq_zero_or_one (N / 2 ^ k) with h | h <;> rw [h] <;> rfl

set_option maxRecDepth 100000 in
set_option maxHeartbeats 2000000 in
theorem places1_in (F : Fence) (n : Nat) (h27 : F.fn 27) (hro : F.round = none) (hn : 1 ≤ n) (l B N : Nat) (hN : N < 18446744073709551616) (J Jx : List (Nat × Bool) → World → Prop)
    (hY : ∀ pre x W, J pre W → pre.length < 64 → YieldAt F (n - 1) Tryd.prog l #[.int .i64 (x.1 : Int), .bool x.2] W fun e W' =>
      (e = .returned (.bool true) ∧ J (pre ++ [x]) W' ∧ Kp B W W') ∨ (e = .returned (.bool false) ∧ Jx (pre ++ [x]) W'))
    (W : World) (hB : W.cell? ⟨B, 0, none⟩ = some (.int .u64 (N : Int))) (h0 : J [] W) :
    CallsIn F n Tryd.prog 27 #[.func (.yield l) #[] #[], .pointer (some ⟨B, 0, none⟩)] W fun e W' => (∃ v, e = .returned v) ∧
      ((∃ ys, ys = upto (placeOf N) 64 ∧ J ys W') ∨ (∃ pre, (∃ k, k ≤ 64 ∧ pre = upto (placeOf N) k) ∧ Jx pre W')) := by
  refine callsIn_of_wp Tryd.func27 rfl h27 ?_ hro
  simp only [Tryd.ntmps27, List.size_toArray, List.length_cons, List.length_nil, Nat.reduceAdd, Nat.reduceSub, Array.replicate_succ, Array.replicate_zero, List.push_toArray, List.append_toArray, List.nil_append, List.cons_append]
  gi_wp2
  gi_loopw [4] (fun i wr => ∃ k : Nat, k ≤ 64 ∧ i = .int .i64 k ∧ J (upto (placeOf N) k) wr ∧ wr.cell? ⟨B, 0, none⟩ = some (.int .u64 (N : Int)))
    (fun i _ => 64 - (intOf i).toNat)
  case atStart => exact ⟨0, by omega, rfl, h0, hB⟩
  case round =>
    clear hB h0
    obtain ⟨k, hk, rfl, hJs, hc⟩ := hrel
    by_cases hlt : k < 64
    · obtain ⟨fn, tmps, assign, body, hy, hR⟩ := hY _ (placeOf N k) wr hJs (by rw [upto_length]; exact hlt)
      dsimp only [placeOf] at hy
      have hbit := u64_bit N k hN
      have e1 : (k : Int) < 64 := by omega
      gi_wp2
      refine hR.mono ?_
      rintro e W3 (⟨rfl, hJ3, hk3⟩ | ⟨rfl, hJx3⟩)
      · gi_wp2
        go_roundw
        case rel => exact ⟨k + 1, by omega, by simp, by rw [upto_succ]; exact hJ3, hk3.trans hc⟩
        case measure => simp [intOf]; omega
      · gi_wp2
        refine bodyPost_ret (results_none rfl _ _ _) rfl ?_
        exact ⟨⟨_, rfl⟩, .inr ⟨_, ⟨k + 1, by omega, (upto_succ _ _).symm⟩, hJx3⟩⟩
    · obtain rfl : k = 64 := by omega
      gi_wp2
      go_end0
      exact ⟨⟨_, rfl⟩, .inl ⟨_, rfl, hJs⟩⟩

theorem places_in (F : Fence) (n : Nat) (h25 : F.fn 25) (hro : F.round = none) (N : Int) (w : World) :
    CallsIn F n Tryd.prog 25 #[.int .u64 N] w fun e w' => e = .returned (.func (.func 27) #[] #[.pointer (some ⟨w.heap.size, 0, none⟩)]) ∧ w' = w.alloc (.cells #[.int .u64 N] 41) := by
  refine callsIn_of_wp Tryd.func25 rfl h25 ?_ hro
  simp only [Tryd.ntmps25, List.size_toArray, List.length_cons, List.length_nil, Nat.reduceAdd, Nat.reduceSub, Array.replicate_succ, Array.replicate_zero, List.push_toArray, List.append_toArray, List.nil_append, List.cons_append]
  gi_wp2
  go_ret
  exact ⟨rfl, rfl⟩
abbrev encP (x : Nat × Bool) : Array Value := #[.int .i64 (x.1 : Int), .bool x.2]
theorem places_stops (F : Fence) (n : Nat) (h27 : F.fn 27) (hro : F.round = none) (hn : 1 ≤ n) (B N : Nat) (hN : N < 18446744073709551616) (w : World) (hBs : B < w.heap.size) (hc : w.cell? ⟨B, 0, none⟩ = some (.int .u64 (N : Int))) :
    SeqStopsK F n Tryd.prog 27 #[.pointer (some ⟨B, 0, none⟩)] encP (Kp B) (fun ys => ys = upto (placeOf N) 64) (fun pre => ∃ k, k ≤ 64 ∧ pre = upto (placeOf N) k) 64 w := fun l J Jx W hW _ _ hY h0 =>
  places1_in F n h27 hro hn l B N hN J Jx hY W ((hW.cell (p := ⟨B, 0, none⟩) hBs).trans hc) h0
theorem Kp.tr {B : Nat} {X Y Z : World} (h : Kp B X Y) (k : Kp B Y Z) : Kp B X Z := Eq.trans k h
theorem Kp.bk {B : Nat} {w : World} (hB : B < w.heap.size) (W : World) (l : Nat) (o o' : Obj) (hl : w.heap.size ≤ l) (_ : W.heap[l]? = some o) (_ : o.isCells = false) (_ : o.isWalk = false) : Kp B W (W.putObj l o') :=
  World.cell?_of_block (World.putObj_heap_other (by show B ≠ l; omega))
theorem Kp.of_below {B n : Nat} {W W' : World} (h : Below n W W') (hB : B < n) : Kp B W W' := h.cell (p := ⟨B, 0, none⟩) hB
end Go.Proofs.YtdohclbkdifafaaDoor
