/- The fixed calls of the laws: 'known' answers true; what Slot does. -/
import Derived.Test.YtdohclbkdifafaaDoorBase
import Derived.Lib.SlBytesConst
import Derived.Lib.ConvBytes
namespace Go.Proofs.YtdohclbkdifafaaDoor
open Go.RowKit

theorem Tabs.below {n : Nat} {w w' : World} (h : Tabs w) (hb : Below n w w') (hn : 2 ≤ n) : Tabs w' :=
  ⟨fun i hi => by rw [hb.cell (p := ⟨0, i, none⟩) (show 0 < n by omega)]; exact h.1 i hi, fun i hi => by rw [hb.cell (p := ⟨1, i, none⟩) (show 1 < n by omega)]; exact h.2 i hi⟩
theorem Tabs.size {w : World} (h : Tabs w) : 2 ≤ w.heap.size := by
  have h1 := h.2 0 (by omega)
  rcases Nat.lt_or_ge 1 w.heap.size with h' | h'
  · exact h'
  · simp [World.cell?, Array.getElem?_eq_none h'] at h1
theorem Tabs.drewN {w : World} (h : Tabs w) (n : Nat) : Tabs (w.drewN n) := h
theorem below_drewN' {B : Nat} {a w : World} (h : Below B a w) (n : Nat) : Below B a (w.drewN n) := ⟨h.os, h.tape, h.output, h.size, h.block⟩
theorem Tabs.alloc {w : World} (h : Tabs w) (o : Obj) : Tabs (w.alloc o) := h.below ((Below.refl w.heap.size w).alloc (Nat.le_refl _) o) h.size
theorem Seen.drewN {w : World} {a : Option Addr} {len : Nat} {l : List (BitVec 8)} (h : Seen w a len l) (n : Nat) : Seen (w.drewN n) a len l := h

def cellsOf (l : List (BitVec 8)) : List Value := l.map fun c => .int .u8 (V c)
theorem seen_new (w : World) (l : List (BitVec 8)) (t : TypeId) (fr : Nat × Nat) (h : l.length ≤ maxLen) : Seen (w.alloc (.cells (cellsOf l).toArray t fr)) (some ⟨w.heap.size, 0, none⟩) l.length l := by
  refine ⟨rfl, h, .inr ⟨_, _, rfl, fun j hj => ?_⟩⟩
  rw [World.cell?_alloc_mark]
  simp [cellsOf, hj]
theorem sum_new (w : World) (l : List (BitVec 8)) (C : Array Value) (B n cap : Nat) (t : TypeId) (fr : Nat × Nat) (hT : Tabs w) (hB : B = w.heap.size) (hC : C = (cellsOf l).toArray) (hn : n = l.length) (h : l.length ≤ maxLen) :
    Calls Tryd.prog 12 #[.slice (some ⟨B, 0, none⟩) n cap] (w.alloc (.cells C t fr)) fun e w' => e = .returned (.int .u32 (U (Crc.more 0#32 l))) ∧ ∃ m, w' = (w.alloc (.cells C t fr)).drewN m := by
  subst hB hC hn
  exact sum_any _ _ _ l _ (hT.alloc _) (seen_new w l t fr h)
def digits : List (BitVec 8) := [49#8, 50#8, 51#8, 52#8, 53#8, 54#8, 55#8, 56#8, 57#8]
theorem sum_digits : U (Crc.more 0#32 digits) = 3808858755 := by decide +kernel
def noughts32 : List (BitVec 8) := List.replicate 32 0#8
theorem sum_noughts : U (Crc.more 0#32 noughts32) = 2324772522 := by decide +kernel

set_option maxHeartbeats 400000 in
theorem known_any (w : World) (hT : Tabs w) :
    Calls Tryd.prog 19 #[] w fun e w' => e = .returned (.bool true) ∧ Below w.heap.size w w' := by
  have kc := fun (w : World) (C : Array Value) (n c : Nat) => Lib.run_convert_bytes_const (P := Tryd.prog) w 22 5 C n c Tryd.underlying22 Tryd.underlying5
  have hmk : ∀ w : World, (Instr.makeSlice 22 (.int .i64 32) (.int .i64 32)).run Tryd.prog w = .ok (.slice (some ⟨w.heap.size, 0, none⟩) 32 32) (w.alloc (.cells (cellsOf noughts32).toArray 5)) := fun _ => by kernel_rfl
  go_enter Tryd.func19, Tryd.ntmps19
  go_wp2_with fail
  refine (sum_new w digits _ _ 9 9 5 (9, 10) hT rfl rfl rfl (by decide)).mono ?_
  rintro e w1 ⟨rfl, m, rfl⟩
  rw [sum_digits]
  go_wp2_with fail
  refine (sum_new _ noughts32 _ _ 32 32 5 (0, 0) ((hT.alloc _).drewN _) (by simp [World.drewN]) rfl rfl (by decide)).mono ?_
  rintro e w1 ⟨rfl, m', rfl⟩
  rw [sum_noughts]
  go_wp2
  go_ret
  refine ⟨rfl, ?_⟩
  exact below_drewN' ((below_drewN' ((Below.refl _ w).alloc (Nat.le_refl _) _) _).alloc (by simp [World.drewN]) _) _

/-- A text's bytes. -/
def bytesL (s : ByteArray) : List (BitVec 8) := s.data.toList.map fun c => c.toBitVec
theorem bytesL_length (s : ByteArray) : (bytesL s).length = s.size := by simp [bytesL]
theorem below_bytes (w : World) (s : ByteArray) : Below w.heap.size w (Lib.bytesWorld w 5 s) :=
  ⟨rfl, rfl, rfl, by rw [Lib.bytesWorld_size]; omega, fun k hk => Lib.bytesWorld_at_old w 5 s k hk⟩
theorem seen_bytes (w : World) (s : ByteArray) (hs : s.size ≤ maxLen) : Seen (Lib.bytesWorld w 5 s) (some ⟨w.heap.size, 0, none⟩) s.size (bytesL s) := by
  refine ⟨(bytesL_length s).symm, by rw [bytesL_length]; exact hs, .inr ⟨_, _, rfl, fun j hj => ?_⟩⟩
  rw [bytesL_length] at hj
  rw [Nat.zero_add, Lib.bytesWorld_cell w 5 s j hj]
  have hj' : j < s.data.toList.length := by rw [Array.length_toList]; exact hj
  rw [List.getD_eq_getElem?_getD, List.getD_eq_getElem?_getD, bytesL, List.getElem?_map, List.getElem?_eq_getElem hj']
  rfl
def slotOf (s : ByteArray) : Int := U (Crc.more 0#32 (bytesL s)) % 16

set_option maxHeartbeats 400000 in
theorem slot_any (s : ByteArray) (w : World) (hT : Tabs w) (hs : s.size ≤ maxLen) :
    Calls Tryd.prog 16 #[.string s] w fun e w' => e = .returned (.int .i64 (slotOf s)) ∧ Below w.heap.size w w' := by
  have hcv := fun w => Lib.run_convert_string_bytes (P := Tryd.prog) w 9 22 5 s Tryd.underlying9 Tryd.underlying22 Tryd.underlying5
  have HC := sum_any _ s.size (grownCap w s.size 0 5) _ _ (hT.below (below_bytes w s) hT.size) (seen_bytes w s hs)
  have HS : Hid (slotOf s = U (Crc.more 0#32 (bytesL s)) % 16) := rfl
  generalize Crc.more 0#32 (bytesL s) = r at *
  have h1 := U_nn r
  have h2 := U_lt r
  go_enter Tryd.func16, Tryd.ntmps16
  go_wp2_with fail
  refine HC.mono ?_
  rintro e w1 ⟨rfl, m, rfl⟩
  go_wp2
  go_ret
  exact ⟨by rw [HS.out]; rfl, below_drewN' (below_bytes w s) _⟩
end Go.Proofs.YtdohclbkdifafaaDoor
