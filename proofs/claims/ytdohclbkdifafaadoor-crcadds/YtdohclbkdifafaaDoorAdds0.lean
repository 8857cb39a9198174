/- The statement CrcAdds where one of the lists is empty: the walk. -/
import Derived.Test.YtdohclbkdifafaaDoorAdds
namespace Go.Proofs.YtdohclbkdifafaaDoor
open Go.RowKit
attribute [local go_sem ↓] Go.wp_at_zero Go.wp_at_succ
set_option linter.unusedVariables false

set_option maxRecDepth 100000 in
set_option maxHeartbeats 3200000 in
theorem adds_0a (aa ab ac : Option Addr) (ca cb cc lb lc : Nat) (w : World) (hT : Tabs w) (ma : ca ≤ 140737488351232) (mb : cb ≤ 140737488351232) (mc : cc ≤ 140737488351232) (ka : 0 ≤ ca) (kb : lb ≤ cb) (kc : lc ≤ cc)  :
    Calls Tryd.prog 6 #[.slice aa 0 ca, .slice ab lb cb, .slice ac lc cc] w fun e w' => e = .returned (.bool true) ∧ Below w.heap.size w w' := by
  go_enter Tryd.func6, Tryd.ntmps6
  go_wp2
  go_loop [8, 9] (fun v i => v = .slice none 0 0 ∧ i = .int .i64 0) (fun _ _ => 0)
  case atStart => exact ⟨rfl, rfl⟩
  case round =>
    obtain ⟨rfl, rfl⟩ := hrel
    go_wp2
    have CE : ∀ w' a c, Below w.heap.size w w' → Hid (Calls Tryd.prog 12 #[.slice a 0 c] w' fun e w'' => e = .returned (.int .u32 0) ∧ Below w.heap.size w w'') := fun w' a c h => sum_later c h hT (⟨rfl, by simp, .inl rfl⟩ : Seen w a 0 []) (rfl : Crc.more 0#32 [] = 0#32)
    have CK : ∀ w', Below w.heap.size w w' → Hid (Calls Tryd.prog 19 #[] w' fun e w'' => e = .returned (.bool true) ∧ Below w.heap.size w w'') := fun w' h => known_later h hT
    have hx0 : bits BinOp.xor IntKind.u32 0 0 = 0 := by decide +kernel
    have B0 := Below.refl w.heap.size w
    go_region_held3 (fun w' => Below w.heap.size w w')
      (first | assumption | (exact Below.drew (by assumption)))
      (first
        | (go_at_call 12; refine (CE _ _ _ (by assumption)).out.mono ?_; rintro e w2 ⟨rfl, hb2⟩)
        | (go_at_call 19; refine (CK _ (by assumption)).out.mono ?_; rintro e w2 ⟨rfl, hb2⟩))
    go_wp2
    go_ret
    exact ⟨rfl, by assumption⟩
set_option maxRecDepth 100000 in
set_option maxHeartbeats 3200000 in
theorem adds_0b (aa ab ac : Option Addr) (ca cb cc la lc : Nat) (w : World) (hT : Tabs w) (ma : ca ≤ 140737488351232) (mb : cb ≤ 140737488351232) (mc : cc ≤ 140737488351232) (ka : la ≤ ca) (kb : 0 ≤ cb) (kc : lc ≤ cc) (h1 : 0 < la) :
    Calls Tryd.prog 6 #[.slice aa la ca, .slice ab 0 cb, .slice ac lc cc] w fun e w' => e = .returned (.bool true) ∧ Below w.heap.size w w' := by
  go_enter Tryd.func6, Tryd.ntmps6
  go_wp2
  go_loop [8, 9] (fun v i => v = .slice none 0 0 ∧ i = .int .i64 0) (fun _ _ => 0)
  case atStart => exact ⟨rfl, rfl⟩
  case round =>
    obtain ⟨rfl, rfl⟩ := hrel
    go_wp2
    have CE : ∀ w' a c, Below w.heap.size w w' → Hid (Calls Tryd.prog 12 #[.slice a 0 c] w' fun e w'' => e = .returned (.int .u32 0) ∧ Below w.heap.size w w'') := fun w' a c h => sum_later c h hT (⟨rfl, by simp, .inl rfl⟩ : Seen w a 0 []) (rfl : Crc.more 0#32 [] = 0#32)
    have CK : ∀ w', Below w.heap.size w w' → Hid (Calls Tryd.prog 19 #[] w' fun e w'' => e = .returned (.bool true) ∧ Below w.heap.size w w'') := fun w' h => known_later h hT
    have hx0 : bits BinOp.xor IntKind.u32 0 0 = 0 := by decide +kernel
    have B0 := Below.refl w.heap.size w
    go_region_held3 (fun w' => Below w.heap.size w w')
      (first | assumption | (exact Below.drew (by assumption)))
      (first
        | (go_at_call 12; refine (CE _ _ _ (by assumption)).out.mono ?_; rintro e w2 ⟨rfl, hb2⟩)
        | (go_at_call 19; refine (CK _ (by assumption)).out.mono ?_; rintro e w2 ⟨rfl, hb2⟩))
    go_wp2
    go_ret
    exact ⟨rfl, by assumption⟩
set_option maxRecDepth 100000 in
set_option maxHeartbeats 3200000 in
theorem adds_0c (aa ab ac : Option Addr) (ca cb cc la lb : Nat) (w : World) (hT : Tabs w) (ma : ca ≤ 140737488351232) (mb : cb ≤ 140737488351232) (mc : cc ≤ 140737488351232) (ka : la ≤ ca) (kb : lb ≤ cb) (kc : 0 ≤ cc) (h1 : 0 < la) (h2 : 0 < lb) (h3 : lb < la) :
    Calls Tryd.prog 6 #[.slice aa la ca, .slice ab lb cb, .slice ac 0 cc] w fun e w' => e = .returned (.bool true) ∧ Below w.heap.size w w' := by
  go_enter Tryd.func6, Tryd.ntmps6
  go_wp2
  go_loop [8, 9] (fun v i => v = .slice none 0 0 ∧ i = .int .i64 0) (fun _ _ => 0)
  case atStart => exact ⟨rfl, rfl⟩
  case round =>
    obtain ⟨rfl, rfl⟩ := hrel
    go_wp2
    have CE : ∀ w' a c, Below w.heap.size w w' → Hid (Calls Tryd.prog 12 #[.slice a 0 c] w' fun e w'' => e = .returned (.int .u32 0) ∧ Below w.heap.size w w'') := fun w' a c h => sum_later c h hT (⟨rfl, by simp, .inl rfl⟩ : Seen w a 0 []) (rfl : Crc.more 0#32 [] = 0#32)
    have CK : ∀ w', Below w.heap.size w w' → Hid (Calls Tryd.prog 19 #[] w' fun e w'' => e = .returned (.bool true) ∧ Below w.heap.size w w'') := fun w' h => known_later h hT
    have hx0 : bits BinOp.xor IntKind.u32 0 0 = 0 := by decide +kernel
    have B0 := Below.refl w.heap.size w
    go_region_held3 (fun w' => Below w.heap.size w w')
      (first | assumption | (exact Below.drew (by assumption)))
      (first
        | (go_at_call 12; refine (CE _ _ _ (by assumption)).out.mono ?_; rintro e w2 ⟨rfl, hb2⟩)
        | (go_at_call 19; refine (CK _ (by assumption)).out.mono ?_; rintro e w2 ⟨rfl, hb2⟩))
    go_wp2
    go_ret
    exact ⟨rfl, by assumption⟩
set_option maxRecDepth 100000 in
set_option maxHeartbeats 3200000 in
theorem adds_0d (aa ab ac : Option Addr) (ca cb cc la lb : Nat) (w : World) (hT : Tabs w) (ma : ca ≤ 140737488351232) (mb : cb ≤ 140737488351232) (mc : cc ≤ 140737488351232) (ka : la ≤ ca) (kb : lb ≤ cb) (kc : 0 ≤ cc) (h1 : 0 < la) (h2 : 0 < lb) (h3 : la ≤ lb) :
    Calls Tryd.prog 6 #[.slice aa la ca, .slice ab lb cb, .slice ac 0 cc] w fun e w' => e = .returned (.bool true) ∧ Below w.heap.size w w' := by
  go_enter Tryd.func6, Tryd.ntmps6
  go_wp2
  go_loop [8, 9] (fun v i => v = .slice none 0 0 ∧ i = .int .i64 0) (fun _ _ => 0)
  case atStart => exact ⟨rfl, rfl⟩
  case round =>
    obtain ⟨rfl, rfl⟩ := hrel
    go_wp2
    have CE : ∀ w' a c, Below w.heap.size w w' → Hid (Calls Tryd.prog 12 #[.slice a 0 c] w' fun e w'' => e = .returned (.int .u32 0) ∧ Below w.heap.size w w'') := fun w' a c h => sum_later c h hT (⟨rfl, by simp, .inl rfl⟩ : Seen w a 0 []) (rfl : Crc.more 0#32 [] = 0#32)
    have CK : ∀ w', Below w.heap.size w w' → Hid (Calls Tryd.prog 19 #[] w' fun e w'' => e = .returned (.bool true) ∧ Below w.heap.size w w'') := fun w' h => known_later h hT
    have hx0 : bits BinOp.xor IntKind.u32 0 0 = 0 := by decide +kernel
    have B0 := Below.refl w.heap.size w
    go_region_held3 (fun w' => Below w.heap.size w w')
      (first | assumption | (exact Below.drew (by assumption)))
      (first
        | (go_at_call 12; refine (CE _ _ _ (by assumption)).out.mono ?_; rintro e w2 ⟨rfl, hb2⟩)
        | (go_at_call 19; refine (CK _ (by assumption)).out.mono ?_; rintro e w2 ⟨rfl, hb2⟩))
    go_wp2
    go_ret
    exact ⟨rfl, by assumption⟩

/-- The law, at every three slices of bytes within the form's reach. -/
theorem adds_walk (aa ab ac : Option Addr) (la ca lb cb lc cc : Nat) (A B C : List (BitVec 8)) (w : World) (hT : Tabs w) (hA : Seen w aa la A) (hB : Seen w ab lb B) (hC : Seen w ac lc C)
    (ka : la ≤ ca) (kb : lb ≤ cb) (kc : lc ≤ cc) (ma : ca ≤ 140737488351232) (mb : cb ≤ 140737488351232) (mc : cc ≤ 140737488351232) :
    Calls Tryd.prog 6 #[.slice aa la ca, .slice ab lb cb, .slice ac lc cc] w fun e w' => e = .returned (.bool true) ∧ Below w.heap.size w w' := by
  by_cases h1 : la = 0
  · subst h1; exact adds_0a aa ab ac ca cb cc lb lc w hT ma mb mc ka kb kc
  by_cases h2 : lb = 0
  · subst h2; exact adds_0b aa ab ac ca cb cc la lc w hT ma mb mc ka kb kc (by omega)
  by_cases h3 : lc = 0
  · subst h3
    by_cases h4 : lb < la
    · exact adds_0c aa ab ac ca cb cc la lb w hT ma mb mc ka kb kc (by omega) (by omega) h4
    · exact adds_0d aa ab ac ca cb cc la lb w hT ma mb mc ka kb kc (by omega) (by omega) (by omega)
  obtain ⟨eA, _, hA⟩ := hA
  obtain ⟨eB, _, hB⟩ := hB
  obtain ⟨eC, _, hC⟩ := hC
  rcases hA with hA | ⟨ba, oa, rfl, hA⟩
  · omega
  rcases hB with hB | ⟨bb, ob, rfl, hB⟩
  · omega
  rcases hC with hC | ⟨bc, oc, rfl, hC⟩
  · omega
  by_cases h4 : lb < la
  · by_cases h5 : lc < lb
    · exact adds_c ba oa ca bb ob cb bc oc cc lc la lb A B C w hT (by omega) (by omega) h4 (by omega) eA eB eC ka kb kc ma mb mc hA hB hC
    · exact adds_b ba oa ca bb ob cb bc oc cc lb la lc A B C w hT (by omega) (by omega) (by omega) eA eB eC ka kb kc ma mb mc hA hB hC
  · by_cases h5 : lc < la
    · exact adds_d ba oa ca bb ob cb bc oc cc lc la lb A B C w hT (by omega) (by omega) (by omega) (by omega) eA eB eC ka kb kc ma mb mc hA hB hC
    · exact adds_a ba oa ca bb ob cb bc oc cc la lb lc A B C w hT (by omega) (by omega) (by omega) eA eB eC ka kb kc ma mb mc hA hB hC
end Go.Proofs.YtdohclbkdifafaaDoor
