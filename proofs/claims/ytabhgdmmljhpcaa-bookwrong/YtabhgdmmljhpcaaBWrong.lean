/- Package book: Wrong; the reference's Name and Wrong. -/
import Derived.Test.YtabhgdmmljhpcaaBName
namespace Go.Proofs.Ytabhgdmmljhpcaa
open Go.RowKit
attribute [local go_sem] Oper.semAt_some
set_option linter.unusedVariables false

set_option maxRecDepth 100000 in
set_option maxHeartbeats 1000000 in
theorem refName_any (s : ByteArray) (w : World) (hs : s.size ≤ maxLen) : Calls Try.prog 7 #[.string s] w fun e w' => e = .returned (.bool (nameOk s)) ∧ w' = w := by
  unfold maxLen at hs
  by_cases h1 : (s.size : Int) < 1
  · have HR : Hid (nameOk s = false) := by
      show nameOk s = false
      unfold nameOk; rw [decide_eq_false (by omega)]; rfl
    go_enter Try.func7, Try.ntmps7
    go_wp2
    go_ret
    exact ⟨ret_bool HR.out.symm, rfl⟩
  · by_cases h2 : (24 : Int) < (s.size : Int)
    · have HR : Hid (nameOk s = false) := by
        show nameOk s = false
        unfold nameOk; rw [decide_eq_false (p := s.size ≤ 24) (by omega)]; simp
      go_enter Try.func7, Try.ntmps7
      go_wp2
      go_ret
      exact ⟨ret_bool HR.out.symm, rfl⟩
    · have HN : Hid (nameOk s = s.data.toList.all okc) := by
        show nameOk s = _
        unfold nameOk; rw [decide_eq_true (p := 1 ≤ s.size) (by omega), decide_eq_true (p := s.size ≤ 24) (by omega)]; rfl
      go_enter Try.func7, Try.ntmps7
      go_wp2
      go_loop [3] (fun i => ∃ k : Nat, k ≤ s.size ∧ i = .int .i64 k ∧ Hid ((s.data.toList.take k).all okc = true)) (fun i => s.size - (intOf i).toNat)
      case atStart => exact ⟨0, Nat.zero_le _, rfl, rfl⟩
      case round =>
        obtain ⟨k, hk, rfl, I⟩ := hrel
        by_cases hlt : k < s.size
        · have HG : Hid (okc s[k] = true → (s.data.toList.take (k + 1)).all okc = true) := fun hc => by
            rw [take_snocB s k hlt, List.all_append, I.out]; simp [hc]
          have HB : Hid (okc s[k] = false → nameOk s = false) := fun hc => by
            rw [HN.out, List.all_eq_false]
            exact ⟨s[k], by show s.data[k]'hlt ∈ s.data.toList; simp, by simp [hc]⟩
          by_cases g1 : (97 : Int) ≤ (s[k].toNat : Int)
          · by_cases g2 : (s[k].toNat : Int) ≤ 122
            · skip
              have HO : Hid (okc s[k] = true) := by show okc s[k] = true; simp [okc]; omega
              go_wp2
              go_round
              case rel => exact ⟨k + 1, by omega, by go_num, HG.out HO.out⟩
              case measure => simp [intOf]; omega
            · skip
              have HO : Hid (okc s[k] = false) := by show okc s[k] = false; simp [okc]; omega
              have g3 : ¬ (s[k].toNat : Int) ≤ 57 := by omega
              have g4 : ((s[k].toNat : Int) == 95) = false := by simp; omega
              have g6 : (48 : Int) ≤ (s[k].toNat : Int) := by omega
              go_wp2
              go_ret
              exact ⟨ret_bool (HB.out HO.out).symm, rfl⟩
          · by_cases g2 : (48 : Int) ≤ (s[k].toNat : Int)
            · by_cases g3 : (s[k].toNat : Int) ≤ 57
              · skip
                have HO : Hid (okc s[k] = true) := by show okc s[k] = true; simp [okc]; omega
                go_wp2
                go_round
                case rel => exact ⟨k + 1, by omega, by go_num, HG.out HO.out⟩
                case measure => simp [intOf]; omega
              · by_cases g4 : (s[k].toNat : Int) = 95
                · skip
                  have HO : Hid (okc s[k] = true) := by show okc s[k] = true; simp [okc]; omega
                  go_wp2
                  go_round
                  case rel => exact ⟨k + 1, by omega, by go_num, HG.out HO.out⟩
                  case measure => simp [intOf]; omega
                · skip
                  have HO : Hid (okc s[k] = false) := by show okc s[k] = false; simp [okc]; omega
                  have g5 : ((s[k].toNat : Int) == 95) = false := by simpa using g4
                  go_wp2
                  go_ret
                  exact ⟨ret_bool (HB.out HO.out).symm, rfl⟩
            · skip
              have HO : Hid (okc s[k] = false) := by show okc s[k] = false; simp [okc]; omega
              have g5 : ((s[k].toNat : Int) == 95) = false := by simp; omega
              go_wp2
              go_ret
              exact ⟨ret_bool (HB.out HO.out).symm, rfl⟩
        · have HR : Hid (nameOk s = true) := by
            show nameOk s = true
            have := I.out
            rw [List.take_of_length_le (by simp; omega)] at this
            rw [HN.out, this]
          go_wp2
          go_ret
          exact ⟨ret_bool HR.out.symm, rfl⟩
/-- What is wrong of an operation. -/
def wrongV (k : Int) (fr to_ : ByteArray) (am : Int) (ky : ByteArray) (sl sh : Int) : Int :=
  if k < 1 ∨ 7 < k then 1 else if k = 6 then 0 else if k = 7 then (if sl < 0 ∨ 15 < sl ∨ sh < 1 ∨ 3 < sh then 1 else 0)
  else if nameOk fr = false then 46 else if k = 5 then 0 else if nameOk ky = false then 46 else if k = 1 then 0
  else if k = 4 ∧ nameOk to_ = false then 46 else if am < 1 then 47 else if k = 4 ∧ to_ = fr then 44 else 0
theorem seven (k : Int) (h1 : ¬ k < 1) (h2 : ¬ 7 < k) : k = 1 ∨ k = 2 ∨ k = 3 ∨ k = 4 ∨ k = 5 ∨ k = 6 ∨ k = 7 := by omega
set_option maxRecDepth 100000 in
set_option maxHeartbeats 4000000 in
theorem wrong_any (k : Int) (fr to_ : ByteArray) (am : Int) (ky : ByteArray) (sl sh : Int) (w : World) (hf : fr.size ≤ maxLen) (ht : to_.size ≤ maxLen) (hk : ky.size ≤ maxLen) :
    Calls Try.prog 4 #[.agg #[.int .i64 k, .string fr, .string to_, .int .i64 am, .string ky, .int .i64 sl, .int .i64 sh]] w fun e w' => e = .returned (.int .i64 (wrongV k fr to_ am ky sl sh)) ∧ Below w.heap.size w w' := by
  by_cases h1 : k < 1
  · skip
    have HV : Hid (wrongV k fr to_ am ky sl sh = 1) := by show wrongV k fr to_ am ky sl sh = 1; simp [wrongV, h1]
    rw [HV.out]
    clear HV
    go_enter Try.func4, Try.ntmps4
    go_wp2_with (first | (go_at_call 6; refine (name_any _ _ (by assumption)).mono ?_; rintro e w' ⟨rfl, rfl⟩) | go_in)
    go_ret
    exact ⟨rfl, by first | exact (Below.refl _ w).alloc (Nat.le_refl _) _ | exact ((Below.refl _ w).alloc (Nat.le_refl _) _).alloc (by simp) _⟩
  by_cases h2 : 7 < k
  · skip
    have HV : Hid (wrongV k fr to_ am ky sl sh = 1) := by show wrongV k fr to_ am ky sl sh = 1; simp [wrongV, h2]
    rw [HV.out]
    clear HV
    go_enter Try.func4, Try.ntmps4
    go_wp2_with (first | (go_at_call 6; refine (name_any _ _ (by assumption)).mono ?_; rintro e w' ⟨rfl, rfl⟩) | go_in)
    go_ret
    exact ⟨rfl, by first | exact (Below.refl _ w).alloc (Nat.le_refl _) _ | exact ((Below.refl _ w).alloc (Nat.le_refl _) _).alloc (by simp) _⟩
  rcases seven k h1 h2 with rfl | rfl | rfl | rfl | rfl | rfl | rfl
  · skip
    cases ef : nameOk fr with
    | false =>
      have HV : Hid (wrongV 1 fr to_ am ky sl sh = 46) := by show wrongV 1 fr to_ am ky sl sh = 46; simp [wrongV, ef]
      rw [HV.out]
      clear HV
      go_enter Try.func4, Try.ntmps4
      go_wp2_with (first | (go_at_call 6; refine (name_any _ _ (by assumption)).mono ?_; rintro e w' ⟨rfl, rfl⟩) | go_in)
      go_ret
      exact ⟨rfl, by first | exact (Below.refl _ w).alloc (Nat.le_refl _) _ | exact ((Below.refl _ w).alloc (Nat.le_refl _) _).alloc (by simp) _⟩
    | true =>
      cases ek : nameOk ky with
      | false =>
        have HV : Hid (wrongV 1 fr to_ am ky sl sh = 46) := by show wrongV 1 fr to_ am ky sl sh = 46; simp [wrongV, ef, ek]
        rw [HV.out]
        clear HV
        go_enter Try.func4, Try.ntmps4
        go_wp2_with (first | (go_at_call 6; refine (name_any _ _ (by assumption)).mono ?_; rintro e w' ⟨rfl, rfl⟩) | go_in)
        go_ret
        exact ⟨rfl, by first | exact (Below.refl _ w).alloc (Nat.le_refl _) _ | exact ((Below.refl _ w).alloc (Nat.le_refl _) _).alloc (by simp) _⟩
      | true =>
        have HV : Hid (wrongV 1 fr to_ am ky sl sh = 0) := by show wrongV 1 fr to_ am ky sl sh = 0; simp [wrongV, ef, ek]
        rw [HV.out]
        clear HV
        go_enter Try.func4, Try.ntmps4
        go_wp2_with (first | (go_at_call 6; refine (name_any _ _ (by assumption)).mono ?_; rintro e w' ⟨rfl, rfl⟩) | go_in)
        go_ret
        exact ⟨rfl, by first | exact (Below.refl _ w).alloc (Nat.le_refl _) _ | exact ((Below.refl _ w).alloc (Nat.le_refl _) _).alloc (by simp) _⟩
  · skip
    cases ef : nameOk fr with
    | false =>
      have HV : Hid (wrongV 2 fr to_ am ky sl sh = 46) := by show wrongV 2 fr to_ am ky sl sh = 46; simp [wrongV, ef]
      rw [HV.out]
      clear HV
      go_enter Try.func4, Try.ntmps4
      go_wp2_with (first | (go_at_call 6; refine (name_any _ _ (by assumption)).mono ?_; rintro e w' ⟨rfl, rfl⟩) | go_in)
      go_ret
      exact ⟨rfl, by first | exact (Below.refl _ w).alloc (Nat.le_refl _) _ | exact ((Below.refl _ w).alloc (Nat.le_refl _) _).alloc (by simp) _⟩
    | true =>
      cases ek : nameOk ky with
      | false =>
        have HV : Hid (wrongV 2 fr to_ am ky sl sh = 46) := by show wrongV 2 fr to_ am ky sl sh = 46; simp [wrongV, ef, ek]
        rw [HV.out]
        clear HV
        go_enter Try.func4, Try.ntmps4
        go_wp2_with (first | (go_at_call 6; refine (name_any _ _ (by assumption)).mono ?_; rintro e w' ⟨rfl, rfl⟩) | go_in)
        go_ret
        exact ⟨rfl, by first | exact (Below.refl _ w).alloc (Nat.le_refl _) _ | exact ((Below.refl _ w).alloc (Nat.le_refl _) _).alloc (by simp) _⟩
      | true =>
        by_cases ha : am < 1
        · skip
          have HV : Hid (wrongV 2 fr to_ am ky sl sh = 47) := by show wrongV 2 fr to_ am ky sl sh = 47; simp [wrongV, ef, ek, ha]
          rw [HV.out]
          clear HV
          go_enter Try.func4, Try.ntmps4
          go_wp2_with (first | (go_at_call 6; refine (name_any _ _ (by assumption)).mono ?_; rintro e w' ⟨rfl, rfl⟩) | go_in)
          go_ret
          exact ⟨rfl, by first | exact (Below.refl _ w).alloc (Nat.le_refl _) _ | exact ((Below.refl _ w).alloc (Nat.le_refl _) _).alloc (by simp) _⟩
        · skip
          have HV : Hid (wrongV 2 fr to_ am ky sl sh = 0) := by show wrongV 2 fr to_ am ky sl sh = 0; simp [wrongV, ef, ek, ha]
          rw [HV.out]
          clear HV
          go_enter Try.func4, Try.ntmps4
          go_wp2_with (first | (go_at_call 6; refine (name_any _ _ (by assumption)).mono ?_; rintro e w' ⟨rfl, rfl⟩) | go_in)
          go_ret
          exact ⟨rfl, by first | exact (Below.refl _ w).alloc (Nat.le_refl _) _ | exact ((Below.refl _ w).alloc (Nat.le_refl _) _).alloc (by simp) _⟩
  · skip
    cases ef : nameOk fr with
    | false =>
      have HV : Hid (wrongV 3 fr to_ am ky sl sh = 46) := by show wrongV 3 fr to_ am ky sl sh = 46; simp [wrongV, ef]
      rw [HV.out]
      clear HV
      go_enter Try.func4, Try.ntmps4
      go_wp2_with (first | (go_at_call 6; refine (name_any _ _ (by assumption)).mono ?_; rintro e w' ⟨rfl, rfl⟩) | go_in)
      go_ret
      exact ⟨rfl, by first | exact (Below.refl _ w).alloc (Nat.le_refl _) _ | exact ((Below.refl _ w).alloc (Nat.le_refl _) _).alloc (by simp) _⟩
    | true =>
      cases ek : nameOk ky with
      | false =>
        have HV : Hid (wrongV 3 fr to_ am ky sl sh = 46) := by show wrongV 3 fr to_ am ky sl sh = 46; simp [wrongV, ef, ek]
        rw [HV.out]
        clear HV
        go_enter Try.func4, Try.ntmps4
        go_wp2_with (first | (go_at_call 6; refine (name_any _ _ (by assumption)).mono ?_; rintro e w' ⟨rfl, rfl⟩) | go_in)
        go_ret
        exact ⟨rfl, by first | exact (Below.refl _ w).alloc (Nat.le_refl _) _ | exact ((Below.refl _ w).alloc (Nat.le_refl _) _).alloc (by simp) _⟩
      | true =>
        by_cases ha : am < 1
        · skip
          have HV : Hid (wrongV 3 fr to_ am ky sl sh = 47) := by show wrongV 3 fr to_ am ky sl sh = 47; simp [wrongV, ef, ek, ha]
          rw [HV.out]
          clear HV
          go_enter Try.func4, Try.ntmps4
          go_wp2_with (first | (go_at_call 6; refine (name_any _ _ (by assumption)).mono ?_; rintro e w' ⟨rfl, rfl⟩) | go_in)
          go_ret
          exact ⟨rfl, by first | exact (Below.refl _ w).alloc (Nat.le_refl _) _ | exact ((Below.refl _ w).alloc (Nat.le_refl _) _).alloc (by simp) _⟩
        · skip
          have HV : Hid (wrongV 3 fr to_ am ky sl sh = 0) := by show wrongV 3 fr to_ am ky sl sh = 0; simp [wrongV, ef, ek, ha]
          rw [HV.out]
          clear HV
          go_enter Try.func4, Try.ntmps4
          go_wp2_with (first | (go_at_call 6; refine (name_any _ _ (by assumption)).mono ?_; rintro e w' ⟨rfl, rfl⟩) | go_in)
          go_ret
          exact ⟨rfl, by first | exact (Below.refl _ w).alloc (Nat.le_refl _) _ | exact ((Below.refl _ w).alloc (Nat.le_refl _) _).alloc (by simp) _⟩
  · skip
    cases ef : nameOk fr with
    | false =>
      have HV : Hid (wrongV 4 fr to_ am ky sl sh = 46) := by show wrongV 4 fr to_ am ky sl sh = 46; simp [wrongV, ef]
      rw [HV.out]
      clear HV
      go_enter Try.func4, Try.ntmps4
      go_wp2_with (first | (go_at_call 6; refine (name_any _ _ (by assumption)).mono ?_; rintro e w' ⟨rfl, rfl⟩) | go_in)
      go_ret
      exact ⟨rfl, by first | exact (Below.refl _ w).alloc (Nat.le_refl _) _ | exact ((Below.refl _ w).alloc (Nat.le_refl _) _).alloc (by simp) _⟩
    | true =>
      cases ek : nameOk ky with
      | false =>
        have HV : Hid (wrongV 4 fr to_ am ky sl sh = 46) := by show wrongV 4 fr to_ am ky sl sh = 46; simp [wrongV, ef, ek]
        rw [HV.out]
        clear HV
        go_enter Try.func4, Try.ntmps4
        go_wp2_with (first | (go_at_call 6; refine (name_any _ _ (by assumption)).mono ?_; rintro e w' ⟨rfl, rfl⟩) | go_in)
        go_ret
        exact ⟨rfl, by first | exact (Below.refl _ w).alloc (Nat.le_refl _) _ | exact ((Below.refl _ w).alloc (Nat.le_refl _) _).alloc (by simp) _⟩
      | true =>
        cases et : nameOk to_ with
        | false =>
          have HV : Hid (wrongV 4 fr to_ am ky sl sh = 46) := by show wrongV 4 fr to_ am ky sl sh = 46; simp [wrongV, ef, ek, et]
          rw [HV.out]
          clear HV
          go_enter Try.func4, Try.ntmps4
          go_wp2_with (first | (go_at_call 6; refine (name_any _ _ (by assumption)).mono ?_; rintro e w' ⟨rfl, rfl⟩) | go_in)
          go_ret
          exact ⟨rfl, by first | exact (Below.refl _ w).alloc (Nat.le_refl _) _ | exact ((Below.refl _ w).alloc (Nat.le_refl _) _).alloc (by simp) _⟩
        | true =>
          by_cases ha : am < 1
          · skip
            have HV : Hid (wrongV 4 fr to_ am ky sl sh = 47) := by show wrongV 4 fr to_ am ky sl sh = 47; simp [wrongV, ef, ek, et, ha]
            rw [HV.out]
            clear HV
            go_enter Try.func4, Try.ntmps4
            go_wp2_with (first | (go_at_call 6; refine (name_any _ _ (by assumption)).mono ?_; rintro e w' ⟨rfl, rfl⟩) | go_in)
            go_ret
            exact ⟨rfl, by first | exact (Below.refl _ w).alloc (Nat.le_refl _) _ | exact ((Below.refl _ w).alloc (Nat.le_refl _) _).alloc (by simp) _⟩
          · skip
            by_cases hs : to_ = fr
            · subst hs
              skip
              have HV : Hid (wrongV 4 to_ to_ am ky sl sh = 44) := by show wrongV 4 to_ to_ am ky sl sh = 44; simp [wrongV, ef, ek, ha]
              rw [HV.out]
              clear HV
              go_enter Try.func4, Try.ntmps4
              go_wp2_with (first | (go_at_call 6; refine (name_any _ _ (by assumption)).mono ?_; rintro e w' ⟨rfl, rfl⟩) | go_in)
              go_ret
              exact ⟨rfl, by first | exact (Below.refl _ w).alloc (Nat.le_refl _) _ | exact ((Below.refl _ w).alloc (Nat.le_refl _) _).alloc (by simp) _⟩
            · have hs2 := text_ne hs
              have hs3 : ¬ to_.toList = fr.toList := fun e => by rw [e] at hs2; simp at hs2
              have HV : Hid (wrongV 4 fr to_ am ky sl sh = 0) := by show wrongV 4 fr to_ am ky sl sh = 0; simp [wrongV, ef, ek, et, ha, hs]
              rw [HV.out]
              clear HV
              go_enter Try.func4, Try.ntmps4
              go_wp2_with (first | (go_at_call 6; refine (name_any _ _ (by assumption)).mono ?_; rintro e w' ⟨rfl, rfl⟩) | go_in)
              go_ret
              exact ⟨rfl, by first | exact (Below.refl _ w).alloc (Nat.le_refl _) _ | exact ((Below.refl _ w).alloc (Nat.le_refl _) _).alloc (by simp) _⟩
  · skip
    cases ef : nameOk fr with
    | false =>
      have HV : Hid (wrongV 5 fr to_ am ky sl sh = 46) := by show wrongV 5 fr to_ am ky sl sh = 46; simp [wrongV, ef]
      rw [HV.out]
      clear HV
      go_enter Try.func4, Try.ntmps4
      go_wp2_with (first | (go_at_call 6; refine (name_any _ _ (by assumption)).mono ?_; rintro e w' ⟨rfl, rfl⟩) | go_in)
      go_ret
      exact ⟨rfl, by first | exact (Below.refl _ w).alloc (Nat.le_refl _) _ | exact ((Below.refl _ w).alloc (Nat.le_refl _) _).alloc (by simp) _⟩
    | true =>
      have HV : Hid (wrongV 5 fr to_ am ky sl sh = 0) := by show wrongV 5 fr to_ am ky sl sh = 0; simp [wrongV, ef]
      rw [HV.out]
      clear HV
      go_enter Try.func4, Try.ntmps4
      go_wp2_with (first | (go_at_call 6; refine (name_any _ _ (by assumption)).mono ?_; rintro e w' ⟨rfl, rfl⟩) | go_in)
      go_ret
      exact ⟨rfl, by first | exact (Below.refl _ w).alloc (Nat.le_refl _) _ | exact ((Below.refl _ w).alloc (Nat.le_refl _) _).alloc (by simp) _⟩
  · skip
    have HV : Hid (wrongV 6 fr to_ am ky sl sh = 0) := by show wrongV 6 fr to_ am ky sl sh = 0; simp [wrongV]
    rw [HV.out]
    clear HV
    go_enter Try.func4, Try.ntmps4
    go_wp2_with (first | (go_at_call 6; refine (name_any _ _ (by assumption)).mono ?_; rintro e w' ⟨rfl, rfl⟩) | go_in)
    go_ret
    exact ⟨rfl, by first | exact (Below.refl _ w).alloc (Nat.le_refl _) _ | exact ((Below.refl _ w).alloc (Nat.le_refl _) _).alloc (by simp) _⟩
  · skip
    by_cases m0 : sl < 0
    · skip
      have HV : Hid (wrongV 7 fr to_ am ky sl sh = 1) := by show wrongV 7 fr to_ am ky sl sh = 1; simp [wrongV, m0]
      rw [HV.out]
      clear HV
      go_enter Try.func4, Try.ntmps4
      go_wp2_with (first | (go_at_call 6; refine (name_any _ _ (by assumption)).mono ?_; rintro e w' ⟨rfl, rfl⟩) | go_in)
      go_ret
      exact ⟨rfl, by first | exact (Below.refl _ w).alloc (Nat.le_refl _) _ | exact ((Below.refl _ w).alloc (Nat.le_refl _) _).alloc (by simp) _⟩
    by_cases m1 : 15 < sl
    · skip
      have g : (16 : Int) ≤ sl := by omega
      have HV : Hid (wrongV 7 fr to_ am ky sl sh = 1) := by show wrongV 7 fr to_ am ky sl sh = 1; simp [wrongV, m1]
      rw [HV.out]
      clear HV
      go_enter Try.func4, Try.ntmps4
      go_wp2_with (first | (go_at_call 6; refine (name_any _ _ (by assumption)).mono ?_; rintro e w' ⟨rfl, rfl⟩) | go_in)
      go_ret
      exact ⟨rfl, by first | exact (Below.refl _ w).alloc (Nat.le_refl _) _ | exact ((Below.refl _ w).alloc (Nat.le_refl _) _).alloc (by simp) _⟩
    by_cases m2 : sh < 1
    · skip
      have HV : Hid (wrongV 7 fr to_ am ky sl sh = 1) := by show wrongV 7 fr to_ am ky sl sh = 1; simp [wrongV, m2]
      rw [HV.out]
      clear HV
      go_enter Try.func4, Try.ntmps4
      go_wp2_with (first | (go_at_call 6; refine (name_any _ _ (by assumption)).mono ?_; rintro e w' ⟨rfl, rfl⟩) | go_in)
      go_ret
      exact ⟨rfl, by first | exact (Below.refl _ w).alloc (Nat.le_refl _) _ | exact ((Below.refl _ w).alloc (Nat.le_refl _) _).alloc (by simp) _⟩
    by_cases m3 : 3 < sh
    · skip
      have HV : Hid (wrongV 7 fr to_ am ky sl sh = 1) := by show wrongV 7 fr to_ am ky sl sh = 1; simp [wrongV, m3]
      rw [HV.out]
      clear HV
      go_enter Try.func4, Try.ntmps4
      go_wp2_with (first | (go_at_call 6; refine (name_any _ _ (by assumption)).mono ?_; rintro e w' ⟨rfl, rfl⟩) | go_in)
      go_ret
      exact ⟨rfl, by first | exact (Below.refl _ w).alloc (Nat.le_refl _) _ | exact ((Below.refl _ w).alloc (Nat.le_refl _) _).alloc (by simp) _⟩
    have g : ¬ (16 : Int) ≤ sl := by omega
    have HV : Hid (wrongV 7 fr to_ am ky sl sh = 0) := by show wrongV 7 fr to_ am ky sl sh = 0; simp [wrongV, m0, m1, m2, m3]
    rw [HV.out]
    clear HV
    go_enter Try.func4, Try.ntmps4
    go_wp2_with (first | (go_at_call 6; refine (name_any _ _ (by assumption)).mono ?_; rintro e w' ⟨rfl, rfl⟩) | go_in)
    go_ret
    exact ⟨rfl, by first | exact (Below.refl _ w).alloc (Nat.le_refl _) _ | exact ((Below.refl _ w).alloc (Nat.le_refl _) _).alloc (by simp) _⟩
set_option maxRecDepth 100000 in
set_option maxHeartbeats 4000000 in
theorem refWrong_any (k : Int) (fr to_ : ByteArray) (am : Int) (ky : ByteArray) (sl sh : Int) (w : World) (hf : fr.size ≤ maxLen) (ht : to_.size ≤ maxLen) (hk : ky.size ≤ maxLen) :
    Calls Try.prog 5 #[.agg #[.int .i64 k, .string fr, .string to_, .int .i64 am, .string ky, .int .i64 sl, .int .i64 sh]] w fun e w' => e = .returned (.int .i64 (wrongV k fr to_ am ky sl sh)) ∧ Below w.heap.size w w' := by
  by_cases h1 : k < 1
  · skip
    have HV : Hid (wrongV k fr to_ am ky sl sh = 1) := by show wrongV k fr to_ am ky sl sh = 1; simp [wrongV, h1]
    rw [HV.out]
    clear HV
    go_enter Try.func5, Try.ntmps5
    go_wp2_with (first | (go_at_call 7; refine (refName_any _ _ (by assumption)).mono ?_; rintro e w' ⟨rfl, rfl⟩))
    go_ret
    exact ⟨rfl, by first | exact (Below.refl _ w).alloc (Nat.le_refl _) _ | exact ((Below.refl _ w).alloc (Nat.le_refl _) _).alloc (by simp) _⟩
  by_cases h2 : 7 < k
  · skip
    have HV : Hid (wrongV k fr to_ am ky sl sh = 1) := by show wrongV k fr to_ am ky sl sh = 1; simp [wrongV, h2]
    rw [HV.out]
    clear HV
    go_enter Try.func5, Try.ntmps5
    go_wp2_with (first | (go_at_call 7; refine (refName_any _ _ (by assumption)).mono ?_; rintro e w' ⟨rfl, rfl⟩))
    go_ret
    exact ⟨rfl, by first | exact (Below.refl _ w).alloc (Nat.le_refl _) _ | exact ((Below.refl _ w).alloc (Nat.le_refl _) _).alloc (by simp) _⟩
  rcases seven k h1 h2 with rfl | rfl | rfl | rfl | rfl | rfl | rfl
  · skip
    cases ef : nameOk fr with
    | false =>
      have HV : Hid (wrongV 1 fr to_ am ky sl sh = 46) := by show wrongV 1 fr to_ am ky sl sh = 46; simp [wrongV, ef]
      rw [HV.out]
      clear HV
      go_enter Try.func5, Try.ntmps5
      go_wp2_with (first | (go_at_call 7; refine (refName_any _ _ (by assumption)).mono ?_; rintro e w' ⟨rfl, rfl⟩))
      go_ret
      exact ⟨rfl, by first | exact (Below.refl _ w).alloc (Nat.le_refl _) _ | exact ((Below.refl _ w).alloc (Nat.le_refl _) _).alloc (by simp) _⟩
    | true =>
      cases ek : nameOk ky with
      | false =>
        have HV : Hid (wrongV 1 fr to_ am ky sl sh = 46) := by show wrongV 1 fr to_ am ky sl sh = 46; simp [wrongV, ef, ek]
        rw [HV.out]
        clear HV
        go_enter Try.func5, Try.ntmps5
        go_wp2_with (first | (go_at_call 7; refine (refName_any _ _ (by assumption)).mono ?_; rintro e w' ⟨rfl, rfl⟩))
        go_ret
        exact ⟨rfl, by first | exact (Below.refl _ w).alloc (Nat.le_refl _) _ | exact ((Below.refl _ w).alloc (Nat.le_refl _) _).alloc (by simp) _⟩
      | true =>
        have HV : Hid (wrongV 1 fr to_ am ky sl sh = 0) := by show wrongV 1 fr to_ am ky sl sh = 0; simp [wrongV, ef, ek]
        rw [HV.out]
        clear HV
        go_enter Try.func5, Try.ntmps5
        go_wp2_with (first | (go_at_call 7; refine (refName_any _ _ (by assumption)).mono ?_; rintro e w' ⟨rfl, rfl⟩))
        go_ret
        exact ⟨rfl, by first | exact (Below.refl _ w).alloc (Nat.le_refl _) _ | exact ((Below.refl _ w).alloc (Nat.le_refl _) _).alloc (by simp) _⟩
  · skip
    cases ef : nameOk fr with
    | false =>
      have HV : Hid (wrongV 2 fr to_ am ky sl sh = 46) := by show wrongV 2 fr to_ am ky sl sh = 46; simp [wrongV, ef]
      rw [HV.out]
      clear HV
      go_enter Try.func5, Try.ntmps5
      go_wp2_with (first | (go_at_call 7; refine (refName_any _ _ (by assumption)).mono ?_; rintro e w' ⟨rfl, rfl⟩))
      go_ret
      exact ⟨rfl, by first | exact (Below.refl _ w).alloc (Nat.le_refl _) _ | exact ((Below.refl _ w).alloc (Nat.le_refl _) _).alloc (by simp) _⟩
    | true =>
      cases ek : nameOk ky with
      | false =>
        have HV : Hid (wrongV 2 fr to_ am ky sl sh = 46) := by show wrongV 2 fr to_ am ky sl sh = 46; simp [wrongV, ef, ek]
        rw [HV.out]
        clear HV
        go_enter Try.func5, Try.ntmps5
        go_wp2_with (first | (go_at_call 7; refine (refName_any _ _ (by assumption)).mono ?_; rintro e w' ⟨rfl, rfl⟩))
        go_ret
        exact ⟨rfl, by first | exact (Below.refl _ w).alloc (Nat.le_refl _) _ | exact ((Below.refl _ w).alloc (Nat.le_refl _) _).alloc (by simp) _⟩
      | true =>
        by_cases ha : am < 1
        · skip
          have HV : Hid (wrongV 2 fr to_ am ky sl sh = 47) := by show wrongV 2 fr to_ am ky sl sh = 47; simp [wrongV, ef, ek, ha]
          rw [HV.out]
          clear HV
          go_enter Try.func5, Try.ntmps5
          go_wp2_with (first | (go_at_call 7; refine (refName_any _ _ (by assumption)).mono ?_; rintro e w' ⟨rfl, rfl⟩))
          go_ret
          exact ⟨rfl, by first | exact (Below.refl _ w).alloc (Nat.le_refl _) _ | exact ((Below.refl _ w).alloc (Nat.le_refl _) _).alloc (by simp) _⟩
        · skip
          have HV : Hid (wrongV 2 fr to_ am ky sl sh = 0) := by show wrongV 2 fr to_ am ky sl sh = 0; simp [wrongV, ef, ek, ha]
          rw [HV.out]
          clear HV
          go_enter Try.func5, Try.ntmps5
          go_wp2_with (first | (go_at_call 7; refine (refName_any _ _ (by assumption)).mono ?_; rintro e w' ⟨rfl, rfl⟩))
          go_ret
          exact ⟨rfl, by first | exact (Below.refl _ w).alloc (Nat.le_refl _) _ | exact ((Below.refl _ w).alloc (Nat.le_refl _) _).alloc (by simp) _⟩
  · skip
    cases ef : nameOk fr with
    | false =>
      have HV : Hid (wrongV 3 fr to_ am ky sl sh = 46) := by show wrongV 3 fr to_ am ky sl sh = 46; simp [wrongV, ef]
      rw [HV.out]
      clear HV
      go_enter Try.func5, Try.ntmps5
      go_wp2_with (first | (go_at_call 7; refine (refName_any _ _ (by assumption)).mono ?_; rintro e w' ⟨rfl, rfl⟩))
      go_ret
      exact ⟨rfl, by first | exact (Below.refl _ w).alloc (Nat.le_refl _) _ | exact ((Below.refl _ w).alloc (Nat.le_refl _) _).alloc (by simp) _⟩
    | true =>
      cases ek : nameOk ky with
      | false =>
        have HV : Hid (wrongV 3 fr to_ am ky sl sh = 46) := by show wrongV 3 fr to_ am ky sl sh = 46; simp [wrongV, ef, ek]
        rw [HV.out]
        clear HV
        go_enter Try.func5, Try.ntmps5
        go_wp2_with (first | (go_at_call 7; refine (refName_any _ _ (by assumption)).mono ?_; rintro e w' ⟨rfl, rfl⟩))
        go_ret
        exact ⟨rfl, by first | exact (Below.refl _ w).alloc (Nat.le_refl _) _ | exact ((Below.refl _ w).alloc (Nat.le_refl _) _).alloc (by simp) _⟩
      | true =>
        by_cases ha : am < 1
        · skip
          have HV : Hid (wrongV 3 fr to_ am ky sl sh = 47) := by show wrongV 3 fr to_ am ky sl sh = 47; simp [wrongV, ef, ek, ha]
          rw [HV.out]
          clear HV
          go_enter Try.func5, Try.ntmps5
          go_wp2_with (first | (go_at_call 7; refine (refName_any _ _ (by assumption)).mono ?_; rintro e w' ⟨rfl, rfl⟩))
          go_ret
          exact ⟨rfl, by first | exact (Below.refl _ w).alloc (Nat.le_refl _) _ | exact ((Below.refl _ w).alloc (Nat.le_refl _) _).alloc (by simp) _⟩
        · skip
          have HV : Hid (wrongV 3 fr to_ am ky sl sh = 0) := by show wrongV 3 fr to_ am ky sl sh = 0; simp [wrongV, ef, ek, ha]
          rw [HV.out]
          clear HV
          go_enter Try.func5, Try.ntmps5
          go_wp2_with (first | (go_at_call 7; refine (refName_any _ _ (by assumption)).mono ?_; rintro e w' ⟨rfl, rfl⟩))
          go_ret
          exact ⟨rfl, by first | exact (Below.refl _ w).alloc (Nat.le_refl _) _ | exact ((Below.refl _ w).alloc (Nat.le_refl _) _).alloc (by simp) _⟩
  · skip
    cases ef : nameOk fr with
    | false =>
      have HV : Hid (wrongV 4 fr to_ am ky sl sh = 46) := by show wrongV 4 fr to_ am ky sl sh = 46; simp [wrongV, ef]
      rw [HV.out]
      clear HV
      go_enter Try.func5, Try.ntmps5
      go_wp2_with (first | (go_at_call 7; refine (refName_any _ _ (by assumption)).mono ?_; rintro e w' ⟨rfl, rfl⟩))
      go_ret
      exact ⟨rfl, by first | exact (Below.refl _ w).alloc (Nat.le_refl _) _ | exact ((Below.refl _ w).alloc (Nat.le_refl _) _).alloc (by simp) _⟩
    | true =>
      cases ek : nameOk ky with
      | false =>
        have HV : Hid (wrongV 4 fr to_ am ky sl sh = 46) := by show wrongV 4 fr to_ am ky sl sh = 46; simp [wrongV, ef, ek]
        rw [HV.out]
        clear HV
        go_enter Try.func5, Try.ntmps5
        go_wp2_with (first | (go_at_call 7; refine (refName_any _ _ (by assumption)).mono ?_; rintro e w' ⟨rfl, rfl⟩))
        go_ret
        exact ⟨rfl, by first | exact (Below.refl _ w).alloc (Nat.le_refl _) _ | exact ((Below.refl _ w).alloc (Nat.le_refl _) _).alloc (by simp) _⟩
      | true =>
        cases et : nameOk to_ with
        | false =>
          have HV : Hid (wrongV 4 fr to_ am ky sl sh = 46) := by show wrongV 4 fr to_ am ky sl sh = 46; simp [wrongV, ef, ek, et]
          rw [HV.out]
          clear HV
          go_enter Try.func5, Try.ntmps5
          go_wp2_with (first | (go_at_call 7; refine (refName_any _ _ (by assumption)).mono ?_; rintro e w' ⟨rfl, rfl⟩))
          go_ret
          exact ⟨rfl, by first | exact (Below.refl _ w).alloc (Nat.le_refl _) _ | exact ((Below.refl _ w).alloc (Nat.le_refl _) _).alloc (by simp) _⟩
        | true =>
          by_cases ha : am < 1
          · skip
            have HV : Hid (wrongV 4 fr to_ am ky sl sh = 47) := by show wrongV 4 fr to_ am ky sl sh = 47; simp [wrongV, ef, ek, et, ha]
            rw [HV.out]
            clear HV
            go_enter Try.func5, Try.ntmps5
            go_wp2_with (first | (go_at_call 7; refine (refName_any _ _ (by assumption)).mono ?_; rintro e w' ⟨rfl, rfl⟩))
            go_ret
            exact ⟨rfl, by first | exact (Below.refl _ w).alloc (Nat.le_refl _) _ | exact ((Below.refl _ w).alloc (Nat.le_refl _) _).alloc (by simp) _⟩
          · skip
            by_cases hs : to_ = fr
            · subst hs
              skip
              have HV : Hid (wrongV 4 to_ to_ am ky sl sh = 44) := by show wrongV 4 to_ to_ am ky sl sh = 44; simp [wrongV, ef, ek, ha]
              rw [HV.out]
              clear HV
              go_enter Try.func5, Try.ntmps5
              go_wp2_with (first | (go_at_call 7; refine (refName_any _ _ (by assumption)).mono ?_; rintro e w' ⟨rfl, rfl⟩))
              go_ret
              exact ⟨rfl, by first | exact (Below.refl _ w).alloc (Nat.le_refl _) _ | exact ((Below.refl _ w).alloc (Nat.le_refl _) _).alloc (by simp) _⟩
            · have hs2 := text_ne hs
              have hs3 : ¬ to_.toList = fr.toList := fun e => by rw [e] at hs2; simp at hs2
              have HV : Hid (wrongV 4 fr to_ am ky sl sh = 0) := by show wrongV 4 fr to_ am ky sl sh = 0; simp [wrongV, ef, ek, et, ha, hs]
              rw [HV.out]
              clear HV
              go_enter Try.func5, Try.ntmps5
              go_wp2_with (first | (go_at_call 7; refine (refName_any _ _ (by assumption)).mono ?_; rintro e w' ⟨rfl, rfl⟩))
              go_ret
              exact ⟨rfl, by first | exact (Below.refl _ w).alloc (Nat.le_refl _) _ | exact ((Below.refl _ w).alloc (Nat.le_refl _) _).alloc (by simp) _⟩
  · skip
    cases ef : nameOk fr with
    | false =>
      have HV : Hid (wrongV 5 fr to_ am ky sl sh = 46) := by show wrongV 5 fr to_ am ky sl sh = 46; simp [wrongV, ef]
      rw [HV.out]
      clear HV
      go_enter Try.func5, Try.ntmps5
      go_wp2_with (first | (go_at_call 7; refine (refName_any _ _ (by assumption)).mono ?_; rintro e w' ⟨rfl, rfl⟩))
      go_ret
      exact ⟨rfl, by first | exact (Below.refl _ w).alloc (Nat.le_refl _) _ | exact ((Below.refl _ w).alloc (Nat.le_refl _) _).alloc (by simp) _⟩
    | true =>
      have HV : Hid (wrongV 5 fr to_ am ky sl sh = 0) := by show wrongV 5 fr to_ am ky sl sh = 0; simp [wrongV, ef]
      rw [HV.out]
      clear HV
      go_enter Try.func5, Try.ntmps5
      go_wp2_with (first | (go_at_call 7; refine (refName_any _ _ (by assumption)).mono ?_; rintro e w' ⟨rfl, rfl⟩))
      go_ret
      exact ⟨rfl, by first | exact (Below.refl _ w).alloc (Nat.le_refl _) _ | exact ((Below.refl _ w).alloc (Nat.le_refl _) _).alloc (by simp) _⟩
  · skip
    have HV : Hid (wrongV 6 fr to_ am ky sl sh = 0) := by show wrongV 6 fr to_ am ky sl sh = 0; simp [wrongV]
    rw [HV.out]
    clear HV
    go_enter Try.func5, Try.ntmps5
    go_wp2_with (first | (go_at_call 7; refine (refName_any _ _ (by assumption)).mono ?_; rintro e w' ⟨rfl, rfl⟩))
    go_ret
    exact ⟨rfl, by first | exact (Below.refl _ w).alloc (Nat.le_refl _) _ | exact ((Below.refl _ w).alloc (Nat.le_refl _) _).alloc (by simp) _⟩
  · skip
    by_cases m0 : sl < 0
    · skip
      have HV : Hid (wrongV 7 fr to_ am ky sl sh = 1) := by show wrongV 7 fr to_ am ky sl sh = 1; simp [wrongV, m0]
      rw [HV.out]
      clear HV
      go_enter Try.func5, Try.ntmps5
      go_wp2_with (first | (go_at_call 7; refine (refName_any _ _ (by assumption)).mono ?_; rintro e w' ⟨rfl, rfl⟩))
      go_ret
      exact ⟨rfl, by first | exact (Below.refl _ w).alloc (Nat.le_refl _) _ | exact ((Below.refl _ w).alloc (Nat.le_refl _) _).alloc (by simp) _⟩
    by_cases m1 : 15 < sl
    · skip
      have g : (16 : Int) ≤ sl := by omega
      have HV : Hid (wrongV 7 fr to_ am ky sl sh = 1) := by show wrongV 7 fr to_ am ky sl sh = 1; simp [wrongV, m1]
      rw [HV.out]
      clear HV
      go_enter Try.func5, Try.ntmps5
      go_wp2_with (first | (go_at_call 7; refine (refName_any _ _ (by assumption)).mono ?_; rintro e w' ⟨rfl, rfl⟩))
      go_ret
      exact ⟨rfl, by first | exact (Below.refl _ w).alloc (Nat.le_refl _) _ | exact ((Below.refl _ w).alloc (Nat.le_refl _) _).alloc (by simp) _⟩
    by_cases m2 : sh < 1
    · skip
      have HV : Hid (wrongV 7 fr to_ am ky sl sh = 1) := by show wrongV 7 fr to_ am ky sl sh = 1; simp [wrongV, m2]
      rw [HV.out]
      clear HV
      go_enter Try.func5, Try.ntmps5
      go_wp2_with (first | (go_at_call 7; refine (refName_any _ _ (by assumption)).mono ?_; rintro e w' ⟨rfl, rfl⟩))
      go_ret
      exact ⟨rfl, by first | exact (Below.refl _ w).alloc (Nat.le_refl _) _ | exact ((Below.refl _ w).alloc (Nat.le_refl _) _).alloc (by simp) _⟩
    by_cases m3 : 3 < sh
    · skip
      have HV : Hid (wrongV 7 fr to_ am ky sl sh = 1) := by show wrongV 7 fr to_ am ky sl sh = 1; simp [wrongV, m3]
      rw [HV.out]
      clear HV
      go_enter Try.func5, Try.ntmps5
      go_wp2_with (first | (go_at_call 7; refine (refName_any _ _ (by assumption)).mono ?_; rintro e w' ⟨rfl, rfl⟩))
      go_ret
      exact ⟨rfl, by first | exact (Below.refl _ w).alloc (Nat.le_refl _) _ | exact ((Below.refl _ w).alloc (Nat.le_refl _) _).alloc (by simp) _⟩
    have g : ¬ (16 : Int) ≤ sl := by omega
    have HV : Hid (wrongV 7 fr to_ am ky sl sh = 0) := by show wrongV 7 fr to_ am ky sl sh = 0; simp [wrongV, m0, m1, m2, m3]
    rw [HV.out]
    clear HV
    go_enter Try.func5, Try.ntmps5
    go_wp2_with (first | (go_at_call 7; refine (refName_any _ _ (by assumption)).mono ?_; rintro e w' ⟨rfl, rfl⟩))
    go_ret
    exact ⟨rfl, by first | exact (Below.refl _ w).alloc (Nat.le_refl _) _ | exact ((Below.refl _ w).alloc (Nat.le_refl _) _).alloc (by simp) _⟩
end Go.Proofs.Ytabhgdmmljhpcaa
