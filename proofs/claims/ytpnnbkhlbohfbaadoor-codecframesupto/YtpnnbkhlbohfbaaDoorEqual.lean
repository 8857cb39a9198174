/- What slices.Equal of bytes does. -/
import Derived.Test.YtpnnbkhlbohfbaaDoorMem
namespace Go.Proofs.YtpnnbkhlbohfbaaDoor
open Go.RowKit
set_option linter.unusedVariables false

theorem V_inj {a b : BitVec 8} (h : V a = V b) : a = b := by unfold V at h; exact BitVec.eq_of_toNat_eq (by omega)
theorem equal_len (aa ab : Option Addr) (la ca lb cb : Nat) (w : World) (hl : la ≠ lb) :
    Calls Tryd.prog 42 #[.slice aa la ca, .slice ab lb cb] w fun e w' => e = .returned (.bool false) ∧ w' = w := by
  have hl' : ¬ ((la : Int) = lb) := by omega
  clear hl
  go_enter Tryd.func42, Tryd.ntmps42
  go_wp2
  go_ret
  exact ⟨rfl, rfl⟩
theorem take_eq_succ {A B : List (BitVec 8)} {k : Nat} (h : A.take k = B.take k) (h1 : k < A.length) (h2 : k < B.length) (e : A.getD k 0#8 = B.getD k 0#8) : A.take (k + 1) = B.take (k + 1) := by
  rw [List.take_add_one, List.take_add_one, h]
  rw [List.getElem?_eq_getElem h1, List.getElem?_eq_getElem h2]
  simp [h1, h2] at e
  rw [e]
set_option maxHeartbeats 400000 in
theorem equal_cells (ba oa ca bb ob cb : Nat) (A B : List (BitVec 8)) (w : World) (hm : A.length ≤ maxLen) (hl : A.length = B.length)
    (hA : ∀ j, j < A.length → w.cell? ⟨ba, oa + j, none⟩ = some (.int .u8 (V (A.getD j 0#8))))
    (hB : ∀ j, j < B.length → w.cell? ⟨bb, ob + j, none⟩ = some (.int .u8 (V (B.getD j 0#8)))) :
    Calls Tryd.prog 42 #[.slice (some ⟨ba, oa, none⟩) A.length ca, .slice (some ⟨bb, ob, none⟩) B.length cb] w fun e w' => e = .returned (.bool (decide (A = B))) ∧ ∃ n, w' = w.drewN n := by
  unfold maxLen at hm
  rw [← hl]
  have HL : Hid _ := hl
  go_enter Tryd.func42, Tryd.ntmps42
  clear hl
  go_wp2
  go_loopw [13] (fun i wr => ∃ (k nq : Nat), k ≤ A.length ∧ i = .int .i64 k ∧ A.take k = B.take k ∧ wr = w.drewN nq)
    (fun i _ => A.length - (intOf i).toNat)
  case atStart => exact ⟨0, 0, Nat.zero_le _, rfl, rfl, rfl⟩
  case round =>
    obtain ⟨k, n0, hk, rfl, ht, rfl⟩ := hrel
    have HT : Hid _ := ht
    clear ht
    by_cases hlt : k < A.length
    · have hca := hA k hlt
      have hcb := hB k (by rw [← HL.out]; exact hlt)
      have hS : Hid _ := take_eq_succ HT.out hlt (by rw [← HL.out]; exact hlt)
      by_cases he : A.getD k 0#8 = B.getD k 0#8
      · have he' := hS.out he
        have HE : Hid _ := he'
        rw [← he] at hcb
        clear hA hB hS he'
        go_wp2
        go_quiet (fail)
        go_wp2
        go_roundw
        case rel => exact ⟨k + 1, _, by omega, by go_num, HE.out, rfl⟩
        case measure => simp only [intOf]; omega
      · have hne : Hid (A ≠ B) := fun e => he (by rw [e])
        have he' : ¬ (V (A.getD k 0#8) = V (B.getD k 0#8)) := fun e => he (V_inj e)
        clear hA hB hS he
        generalize A.getD k 0#8 = x at *
        generalize B.getD k 0#8 = y at *
        go_wp2
        go_quiet (fail)
        go_wp2
        go_ret
        refine ⟨?_, n0 + nq, by simp⟩
        rw [decide_eq_false hne.out]
        rfl
    · have hAB : Hid (A = B) := by
        show A = B
        have h1 := HT.out
        have h2 := HL.out
        rw [List.take_of_length_le (by omega), List.take_of_length_le (by omega)] at h1
        exact h1
      clear hA hB
      go_wp2
      go_ret
      exact ⟨by rw [decide_eq_true hAB.out]; rfl, _, rfl⟩
theorem equal_empty (aa ab : Option Addr) (ca cb : Nat) (w : World) :
    Calls Tryd.prog 42 #[.slice aa 0 ca, .slice ab 0 cb] w fun e w' => e = .returned (.bool true) ∧ ∃ n, w' = w.drewN n := by
  go_enter Tryd.func42, Tryd.ntmps42
  go_wp2
  go_loopw [13] (fun i wr => i = .int .i64 0 ∧ wr = w) (fun i _ => 0)
  case atStart => exact ⟨rfl, rfl⟩
  case round =>
    obtain ⟨rfl, rfl⟩ := hrel
    go_wp2
    go_ret
    exact ⟨rfl, 0, rfl⟩
theorem equal_any (aa ab : Option Addr) (la ca lb cb : Nat) (A B : List (BitVec 8)) (w : World) (hA : Seen w aa la A) (hB : Seen w ab lb B) :
    Calls Tryd.prog 42 #[.slice aa la ca, .slice ab lb cb] w fun e w' => e = .returned (.bool (decide (A = B))) ∧ ∃ n, w' = w.drewN n := by
  obtain ⟨rfl, h2, h3⟩ := hA
  obtain ⟨rfl, k2, k3⟩ := hB
  by_cases hl : A.length = B.length
  · by_cases h0 : A.length = 0
    · have e1 : A = [] := List.eq_nil_of_length_eq_zero h0
      have e2 : B = [] := List.eq_nil_of_length_eq_zero (by omega)
      subst e1 e2
      exact equal_empty aa ab ca cb w
    · rcases h3 with h3 | ⟨ba, oa, rfl, hA⟩
      · omega
      · rcases k3 with k3 | ⟨bb, ob, rfl, hB⟩
        · omega
        · exact equal_cells ba oa ca bb ob cb A B w h2 hl hA hB
  · refine (equal_len aa ab A.length ca B.length cb w hl).mono ?_
    rintro e w' ⟨rfl, rfl⟩
    exact ⟨by rw [decide_eq_false (fun e => hl (by rw [e]))], 0, rfl⟩
end Go.Proofs.YtpnnbkhlbohfbaaDoor
