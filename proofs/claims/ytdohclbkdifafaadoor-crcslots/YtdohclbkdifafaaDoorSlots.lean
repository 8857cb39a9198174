/- The statement CrcSlots: the slot of any name is one of sixteen and hangs on its bytes alone; here the walk. -/
import Derived.Test.YtdohclbkdifafaaDoorKnown
import Derived.WideShapes
namespace Go.Proofs.YtdohclbkdifafaaDoor
open Go.RowKit

theorem u32_low4 (r : Crc.W) : bits BinOp.and IntKind.u32 (U r) 15 = U r % 16 := by
  have h := r.isLt
  unfold U
  rw [show (15 : Int) = ((15 : Nat) : Int) from rfl, u32_and_nat _ _ (by omega) (by decide), nat_mask4]
  omega

set_option maxHeartbeats 400000 in
theorem slots_walk (s t : ByteArray) (w : World) (hT : Tabs w) (hs : s.size ≤ maxLen) :
    Calls Tryd.prog 8 #[.string s, .string t] w fun e w' => e = .returned (.bool true) ∧ Below w.heap.size w w' := by
  have h0 : 0 ≤ slotOf s ∧ slotOf s < 16 := by unfold slotOf; omega
  have HS : Hid (slotOf s = U (Crc.more 0#32 (bytesL s)) % 16) := rfl
  have C1 := slot_any s w hT hs
  have HT := hT.size
  have hcv := fun w => Lib.run_convert_string_bytes (P := Tryd.prog) w 9 22 5 s Tryd.underlying9 Tryd.underlying22 Tryd.underlying5
  have hl4 := u32_low4
  by_cases hst : s = t
  · subst hst
    have C2 : ∀ w1, Tabs w1 → Hid (Calls Tryd.prog 16 #[.string s] w1 fun e w' => e = .returned (.int .i64 (slotOf s)) ∧ Below w1.heap.size w1 w') := fun w1 h1 => slot_any s w1 h1 hs
    generalize slotOf s = n at *
    go_enter Tryd.func8, Tryd.ntmps8
    go_wp2_with fail
    refine C1.mono ?_
    rintro e w1 ⟨rfl, hb1⟩
    go_wp2_with fail
    have hT1 := hT.below hb1 HT
    refine (C2 w1 hT1).out.mono ?_
    rintro e w2 ⟨rfl, hb2⟩
    have hb12 := hb1.trans (hb2.mono hb1.size)
    have hT2 := hT1.below hb2 hT1.size
    go_wp2_with fail
    refine (sum_any _ _ _ _ _ (hT2.below (below_bytes w2 s) hT2.size) (seen_bytes w2 s hs)).mono ?_
    rintro e w3 ⟨rfl, m, rfl⟩
    have hb3 := hb12.trans (below_drewN' ((below_bytes w2 s).mono hb12.size) m)
    have hT3 := hT.below hb3 HT
    generalize (Lib.bytesWorld w2 5 s).drewN m = w3 at *
    generalize Crc.more 0#32 (bytesL s) = r at *
    have heq : (n == U r % 16) = true := by rw [HS.out]; simp
    clear HS
    go_wp2_with fail
    refine (known_any w3 hT3).mono ?_
    rintro e w4 ⟨rfl, hb4⟩
    have hb5 := hb3.trans (hb4.mono hb3.size)
    go_wp2
    go_ret
    exact ⟨rfl, hb5⟩
  · have hne : (s.toList == t.toList) = false := by
      rw [beq_eq_false_iff_ne]
      intro h
      rw [ByteArray.toList_eq, ByteArray.toList_eq] at h
      exact hst (WideShapes.bytes_inj h)
    clear hst
    generalize slotOf s = n at *
    go_enter Tryd.func8, Tryd.ntmps8
    go_wp2_with fail
    refine C1.mono ?_
    rintro e w1 ⟨rfl, hb1⟩
    have hT1 := hT.below hb1 HT
    go_wp2_with fail
    refine (sum_any _ _ _ _ _ (hT1.below (below_bytes w1 s) hT1.size) (seen_bytes w1 s hs)).mono ?_
    rintro e w3 ⟨rfl, m, rfl⟩
    have hb3 := hb1.trans (below_drewN' ((below_bytes w1 s).mono hb1.size) m)
    have hT3 := hT.below hb3 HT
    generalize (Lib.bytesWorld w1 5 s).drewN m = w3 at *
    generalize Crc.more 0#32 (bytesL s) = r at *
    have heq : (n == U r % 16) = true := by rw [HS.out]; simp
    clear HS
    go_wp2_with fail
    refine (known_any w3 hT3).mono ?_
    rintro e w4 ⟨rfl, hb4⟩
    have hb5 := hb3.trans (hb4.mono hb3.size)
    go_wp2
    go_ret
    exact ⟨rfl, hb5⟩
end Go.Proofs.YtdohclbkdifafaaDoor
