/- Package book: Name. -/
import Derived.Test.YtabhgdmmljhpcabDoorBLook
namespace Go.Proofs.YtabhgdmmljhpcabDoor
open Go.RowKit
attribute [local go_sem] Oper.semAt_some
set_option linter.unusedVariables false

theorem ret_bool {a b : Bool} (h : a = b) : Ending.returned (.bool a) = .returned (.bool b) := by rw [h]
set_option maxRecDepth 100000 in
theorem ofName_any (c : UInt8) (w : World) : Calls Tryd.prog 35 #[.int .u8 (c.toNat : Int)] w fun e w' => e = .returned (.bool (okc c)) ∧ w' = w := by
  have hk : ∀ b : Bool, okc c = b → Hid (okc c = b) := fun _ h => h
  by_cases h1 : (97 : Int) ≤ (c.toNat : Int)
  · by_cases h2 : (c.toNat : Int) ≤ 122
    · have hR := hk true (by simp [okc]; omega)
      go_enter Tryd.func35, Tryd.ntmps35
      go_wp2
      go_ret
      exact ⟨ret_bool (by rw [hR.out] <;> simp), rfl⟩
    · have hR := hk false (by simp [okc]; omega)
      have h3 : ¬ (c.toNat : Int) ≤ 57 := by omega
      have h4 : ((c.toNat : Int) == 95) = false := by simp; omega
      have h5 : ¬ ((c.toNat : Int) = 95) := by omega
      have h6 : (48 : Int) ≤ (c.toNat : Int) := by omega
      go_enter Tryd.func35, Tryd.ntmps35
      go_wp2
      go_ret
      exact ⟨ret_bool (by rw [hR.out] <;> simp [h5]), rfl⟩
  · by_cases h2 : (48 : Int) ≤ (c.toNat : Int)
    · by_cases h3 : (c.toNat : Int) ≤ 57
      · have hR := hk true (by simp [okc]; omega)
        go_enter Tryd.func35, Tryd.ntmps35
        go_wp2
        go_ret
        exact ⟨ret_bool (by rw [hR.out] <;> simp), rfl⟩
      · by_cases h4 : (c.toNat : Int) = 95
        · have hR := hk true (by simp [okc]; omega)
          go_enter Tryd.func35, Tryd.ntmps35
          go_wp2
          go_ret
          exact ⟨ret_bool (by rw [hR.out] <;> simp [h4]), rfl⟩
        · have hR := hk false (by simp [okc]; omega)
          have h5 : ((c.toNat : Int) == 95) = false := by simpa using h4
          go_enter Tryd.func35, Tryd.ntmps35
          go_wp2
          go_ret
          exact ⟨ret_bool (by rw [hR.out] <;> simp [h4]), rfl⟩
    · have hR := hk false (by simp [okc]; omega)
      have h5 : ((c.toNat : Int) == 95) = false := by simp; omega
      have h4 : ¬ (c.toNat : Int) = 95 := by omega
      go_enter Tryd.func35, Tryd.ntmps35
      go_wp2
      go_ret
      exact ⟨ret_bool (by rw [hR.out] <;> simp [h4]), rfl⟩
theorem take_snocB (s : ByteArray) (k : Nat) (h : k < s.size) : s.data.toList.take (k + 1) = s.data.toList.take k ++ [s[k]] := by
  rw [List.take_succ_eq_append_getElem (by simpa using h)]; rfl
set_option maxRecDepth 100000 in
set_option maxHeartbeats 400000 in
theorem name_any (s : ByteArray) (w : World) (hs : s.size ≤ maxLen) : Calls Tryd.prog 22 #[.string s] w fun e w' => e = .returned (.bool (nameOk s)) ∧ w' = w := by
  unfold maxLen at hs
  by_cases h1 : (s.size : Int) < 1
  · have HR : Hid (nameOk s = false) := by
      show nameOk s = false
      unfold nameOk; rw [decide_eq_false (by omega)]; rfl
    go_enter Tryd.func22, Tryd.ntmps22
    go_wp2
    go_ret
    exact ⟨ret_bool HR.out.symm, rfl⟩
  · by_cases h2 : (24 : Int) < (s.size : Int)
    · have HR : Hid (nameOk s = false) := by
        show nameOk s = false
        unfold nameOk; rw [decide_eq_false (p := s.size ≤ 24) (by omega)]; simp
      go_enter Tryd.func22, Tryd.ntmps22
      go_wp2
      go_ret
      exact ⟨ret_bool HR.out.symm, rfl⟩
    · have HN : Hid (nameOk s = s.data.toList.all okc) := by
        show nameOk s = _
        unfold nameOk; rw [decide_eq_true (p := 1 ≤ s.size) (by omega), decide_eq_true (p := s.size ≤ 24) (by omega)]; rfl
      go_enter Tryd.func22, Tryd.ntmps22
      go_wp2
      go_loop [14] (fun i => ∃ k : Nat, k ≤ s.size ∧ i = .int .i64 k ∧ Hid ((s.data.toList.take k).all okc = true)) (fun i => s.size - (intOf i).toNat)
      case atStart => exact ⟨0, Nat.zero_le _, rfl, rfl⟩
      case round =>
        obtain ⟨k, hk, rfl, I⟩ := hrel
        by_cases hlt : k < s.size
        · have HC := ofName_any s[k] w
          cases hc : okc s[k] with
          | true =>
            rw [hc] at HC
            have HI : Hid ((s.data.toList.take (k + 1)).all okc = true) := by
              show _ = true
              rw [take_snocB s k hlt, List.all_append, I.out]; simp [hc]
            clear hc
            go_wp2_with (go_at_call 35; refine HC.mono ?_; rintro e w' ⟨rfl, rfl⟩)
            go_round
            case rel => exact ⟨k + 1, by omega, by go_num, HI⟩
            case measure => simp [intOf]; omega
          | false =>
            rw [hc] at HC
            have HR : Hid (nameOk s = false) := by
              show nameOk s = false
              rw [HN.out, List.all_eq_false]
              exact ⟨s[k], by show s.data[k]'hlt ∈ s.data.toList; simp, by simp [hc]⟩
            clear hc
            go_wp2_with (go_at_call 35; refine HC.mono ?_; rintro e w' ⟨rfl, rfl⟩)
            go_ret
            exact ⟨ret_bool HR.out.symm, rfl⟩
        · have HR : Hid (nameOk s = true) := by
            show nameOk s = true
            have := I.out
            rw [List.take_of_length_le (by simp; omega)] at this
            rw [HN.out, this]
          go_wp2
          go_ret
          exact ⟨ret_bool HR.out.symm, rfl⟩
end Go.Proofs.YtabhgdmmljhpcabDoor
