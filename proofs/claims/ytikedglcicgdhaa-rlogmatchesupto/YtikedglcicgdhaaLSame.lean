/- What the reference's SameEntries does. -/
import Derived.Test.YtikedglcicgdhaaLKnown
namespace Go.Proofs.Ytikedglcicgdhaa
open Go.RowKit
set_option linter.unusedVariables false

theorem takes_succ {α : Type} {A B : List α} {k : Nat} (h : A.take k = B.take k) (h1 : k < A.length) (h2 : k < B.length) (e : A[k] = B[k]) : A.take (k + 1) = B.take (k + 1) := by
  rw [List.take_add_one, List.take_add_one, h, List.getElem?_eq_getElem h1, List.getElem?_eq_getElem h2, e]
theorem sameEntries_len (aa ab : Option Addr) (la ca lb cb : Nat) (w : World) (hl : la ≠ lb) :
    Calls Try.prog 15 #[.slice aa la ca, .slice ab lb cb] w fun e w' => e = .returned (.bool false) ∧ ∃ n, w' = w.drewN n := by
  have hl' : ¬ ((la : Int) = lb) := by omega
  clear hl
  go_enter Try.func15, Try.ntmps15
  go_wp2
  go_ret
  exact ⟨rfl, 0, rfl⟩
set_option maxRecDepth 100000 in
set_option maxHeartbeats 1600000 in
theorem sameEntries_any (aa ab : Option Addr) (la ca lb cb : Nat) (A B : List (Int × List (BitVec 8))) (w : World) (hA : EntsAt w aa la A) (hB : EntsAt w ab lb B) (hm : la ≤ 140737488355328) :
    Calls Try.prog 15 #[.slice aa la ca, .slice ab lb cb] w fun e w' => e = .returned (.bool (decide (A = B))) ∧ ∃ n, w' = w.drewN n := by
  by_cases hl : la = lb
  · subst hl
    have HLa : Hid (la = A.length) := hA.1
    have HLb : Hid (la = B.length) := hB.1
    have HA : Hid (EntsAt w aa la A) := hA
    have HB : Hid (EntsAt w ab la B) := hB
    clear hA hB
    go_enter Try.func15, Try.ntmps15
    go_wp2
    go_loopw [5] (fun i wr => ∃ k q : Nat, k ≤ la ∧ i = .int .i64 k ∧ A.take k = B.take k ∧ wr = w.drewN q) (fun i _ => la - (intOf i).toNat)
    case atStart => exact ⟨0, 0, Nat.zero_le _, rfl, rfl, rfl⟩
    case round =>
      obtain ⟨k, q, hk, rfl, ht, rfl⟩ := hrel
      by_cases hlt : k < la
      · obtain ⟨ba, oa, va, rfl, a1, a2, a3⟩ := HA.out.at (show k < A.length by rw [← HLa.out]; exact hlt)
        obtain ⟨bb, ob, vb, rfl, b1, b2, b3⟩ := HB.out.at (show k < B.length by rw [← HLb.out]; exact hlt)
        obtain ⟨pa, pc, rfl, ps, _⟩ := a3
        obtain ⟨ra, rc, rfl, rs, _⟩ := b3
        have hk1 : (k : Int) < (la : Int) := by omega
        have hkA : k < A.length := by rw [← HLa.out]; exact hlt
        have hkB : k < B.length := by rw [← HLb.out]; exact hlt
        have HT : Hid _ := ht
        by_cases he : A[k]'hkA = B[k]'hkB
        · have HS : Hid _ := takes_succ ht hkA hkB he
          rw [← he] at b1 b2 rs
          generalize A[k]'hkA = x at *
          clear he ht
          obtain ⟨xn, xp⟩ := x
          simp only at a1 a2 b1 b2 ps rs
          have t1 : ∀ q, (convert 48 9 (.slice pa xp.length pc)).run Try.prog (w.drewN q) = .ok (.string (textOf xp)) (w.drewN q) := fun q => run_to_text _ pa _ pc xp (ps.drewN q)
          have t2 : ∀ q, (convert 48 9 (.slice ra xp.length rc)).run Try.prog (w.drewN q) = .ok (.string (textOf xp)) (w.drewN q) := fun q => run_to_text _ ra _ rc xp (rs.drewN q)
          have hxs := text_self (textOf xp)
          clear ps rs
          go_wp2_with fail
          go_quiet (fail)
          go_wp2
          go_roundw
          case rel => exact ⟨k + 1, _, by omega, by go_num, HS.out, rfl⟩
          case measure => simp only [intOf]; omega
        · have HN : Hid (¬ A = B) := fun e => he (by subst e; rfl)
          generalize A[k]'hkA = x at *
          generalize B[k]'hkB = y at *
          obtain ⟨xn, xp⟩ := x
          obtain ⟨yn, yp⟩ := y
          simp only at a1 a2 b1 b2 ps rs
          by_cases hn : xn = yn
          · subst hn
            have hpp : xp ≠ yp := fun e => he (by rw [e])
            have t1 : ∀ q, (convert 48 9 (.slice pa xp.length pc)).run Try.prog (w.drewN q) = .ok (.string (textOf xp)) (w.drewN q) := fun q => run_to_text _ pa _ pc xp (ps.drewN q)
            have t2 : ∀ q, (convert 48 9 (.slice ra yp.length rc)).run Try.prog (w.drewN q) = .ok (.string (textOf yp)) (w.drewN q) := fun q => run_to_text _ ra _ rc yp (rs.drewN q)
            have hxs := text_ne (fun e => hpp (textOf_inj e))
            clear he ht ps rs hpp
            go_wp2_with fail
            go_quiet (fail)
            go_wp2
            go_ret
            rw [decide_eq_false HN.out]
            exact ⟨rfl, q + nq, by simp [World.drewN, Nat.add_assoc]⟩
          · have hn' : ((xn == yn) : Bool) = false := by rw [beq_eq_false_iff_ne]; exact hn
            clear he ht ps rs
            go_wp2_with fail
            go_quiet (fail)
            go_wp2
            go_ret
            rw [decide_eq_false HN.out]
            exact ⟨rfl, q + nq, by simp [World.drewN, Nat.add_assoc]⟩
      · obtain rfl : k = la := by omega
        have HE : Hid (A = B) := by
          show A = B
          have := ht
          rwa [List.take_of_length_le (by rw [← HLa.out]; exact Nat.le_refl _), List.take_of_length_le (by rw [← HLb.out]; exact Nat.le_refl _)] at this
        clear ht
        go_wp2
        go_ret
        rw [decide_eq_true HE.out]
        exact ⟨rfl, q, rfl⟩
  · refine (sameEntries_len aa ab la ca lb cb w hl).mono ?_
    rintro e w' ⟨rfl, hw⟩
    have : ¬ A = B := fun e => hl (by rw [hA.1, hB.1, e])
    rw [decide_eq_false this]
    exact ⟨rfl, hw⟩
end Go.Proofs.Ytikedglcicgdhaa
