/- slices.Equal of accounts; Same of two books. -/
import Derived.Test.YtdchnfggmkokhaaGreatDoorBSame
import Derived.Laws.StructEq
namespace Go.Proofs.YtdchnfggmkokhaaGreatDoor
open Go.RowKit Cod
attribute [local go_sem] Oper.semAt_some
set_option linter.unusedVariables false
deriving instance DecidableEq for Acc
theorem takes_more {α : Type} {A B : List α} {k : Nat} (h : A.take k = B.take k) (h1 : k < A.length) (h2 : k < B.length) (e : A[k] = B[k]) : A.take (k + 1) = B.take (k + 1) := by
  rw [List.take_add_one, List.take_add_one, h, List.getElem?_eq_getElem h1, List.getElem?_eq_getElem h2, e]
section
set_option maxRecDepth 100000
set_option maxHeartbeats 4000000
theorem equalA_len (aa ab : Option Addr) (la ca lb cb : Nat) (w : World) (hl : la ≠ lb) :
    Calls Tryz.prog 24 #[.slice aa la ca, .slice ab lb cb] w fun e w' => e = .returned (.bool false) ∧ ∃ n, w' = w.drewN n := by
  have hl' : ¬ ((la : Int) = lb) := by omega
  clear hl
  go_enter Tryz.func24, Tryz.ntmps24
  go_wp2
  go_ret
  exact ⟨rfl, 0, rfl⟩
theorem equalA_any (aa ab : Option Addr) (ca cb : Nat) (A B : List Acc) (w : World) (hA : AccsAt w aa A) (hB : AccsAt w ab B) (hlA : A.length ≤ 1000) :
    Calls Tryz.prog 24 #[.slice aa A.length ca, .slice ab B.length cb] w fun e w' => e = .returned (.bool (decide (A = B))) ∧ ∃ n, w' = w.drewN n := by
  by_cases hl : A.length = B.length
  · rw [← hl]
    have HA : Hid (AccsAt w aa A) := hA
    have HB : Hid (AccsAt w ab B) := hB
    clear hA hB
    obtain ⟨la, hla⟩ : ∃ n, A.length = n := ⟨_, rfl⟩
    have hlb : B.length = la := by omega
    rw [hla]
    rw [hla] at hlA
    have EA : Hid (A.length = la) := hla
    have EB : Hid (B.length = la) := hlb
    clear hl hla hlb
    go_enter Tryz.func24, Tryz.ntmps24
    go_wp2
    go_loopw [13] (fun i wr => ∃ k q : Nat, k ≤ la ∧ i = .int .i64 k ∧ Hid (A.take k = B.take k) ∧ wr = w.drewN q) (fun i _ => la - (intOf i).toNat)
    case atStart => exact ⟨0, 0, Nat.zero_le _, rfl, rfl, rfl⟩
    case round =>
      obtain ⟨k, q, hk, rfl, ht, rfl⟩ := hrel
      by_cases hlt : k < la
      · have kA : k < A.length := by rw [EA.out]; exact hlt
        have kB : k < B.length := by rw [EB.out]; exact hlt
        obtain ⟨ba, oa, rfl, a1, a2, a3⟩ := HA.out.at kA
        obtain ⟨bb, ob, rfl, b1, b2, b3⟩ := HB.out.at kB
        by_cases he : A[k]'kA = B[k]'kB
        · have HS : Hid _ := takes_more ht.out kA kB he
          rw [← he] at b1 b2 b3
          generalize A[k]'kA = x at a1 a2 a3 b1 b2 b3
          clear he ht kA kB
          obtain ⟨xs, xn, xb⟩ := x
          simp only at a1 a2 a3 b1 b2 b3
          have hxs := text_self xs
          have hxb := text_self xb
          go_wp2_with fail
          go_quiet (fail)
          go_wp2
          go_roundw
          case rel => exact ⟨k + 1, _, by omega, by go_num, HS.out, rfl⟩
          case measure => simp only [intOf]; omega
        · have HN : Hid (¬ A = B) := fun e => he (by subst e; rfl)
          generalize A[k]'kA = x at *
          generalize B[k]'kB = y at *
          clear ht kA kB
          obtain ⟨xs, xn, xb⟩ := x
          obtain ⟨ys, yn, yb⟩ := y
          simp only at a1 a2 a3 b1 b2 b3
          by_cases hs : xs = ys
          · subst hs
            have hxs := text_self xs
            by_cases hn : xn = yn
            · subst hn
              have hxb : _ := text_ne (show ¬ xb = yb from fun e => he (by rw [e]))
              clear he
              go_wp2_with fail
              go_quiet (fail)
              go_wp2
              go_ret
              rw [decide_eq_false HN.out]
              exact ⟨rfl, q + nq, by simp [World.drewN, Nat.add_assoc]⟩
            · have hn2 : ((xn == yn) : Bool) = false := by rw [beq_eq_false_iff_ne]; exact hn
              clear he
              go_wp2_with fail
              go_quiet (fail)
              go_wp2
              go_ret
              rw [decide_eq_false HN.out]
              exact ⟨rfl, q + nq, by simp [World.drewN, Nat.add_assoc]⟩
          · have hxs := text_ne hs
            clear he
            go_wp2_with fail
            go_quiet (fail)
            go_wp2
            go_ret
            rw [decide_eq_false HN.out]
            exact ⟨rfl, q + nq, by simp [World.drewN, Nat.add_assoc]⟩
      · obtain rfl : k = la := by omega
        have HE : Hid (A = B) := by
          show A = B
          have := ht.out
          rwa [List.take_of_length_le (by rw [EA.out]; exact Nat.le_refl _), List.take_of_length_le (by rw [EB.out]; exact Nat.le_refl _)] at this
        clear ht
        go_wp2
        go_ret
        rw [decide_eq_true HE.out]
        exact ⟨rfl, q, rfl⟩
  · refine (equalA_len aa ab A.length ca B.length cb w hl).mono ?_
    rintro e w' ⟨rfl, hw⟩
    have : ¬ A = B := fun e => hl (by rw [e])
    rw [decide_eq_false this]
    exact ⟨rfl, hw⟩
/-- Same answers whether two books have the same accounts. -/
theorem same_any {w : World} {base N base' N' : Nat} {sv sv' : Value} {L L' : List Acc} (h : BookIn w base N sv L) (h' : BookIn w base' N' sv' L') :
    Calls Tryz.prog 8 #[.pointer (some ⟨N, 0, none⟩), .pointer (some ⟨N', 0, none⟩)] w fun e w' => e = .returned (.bool (decide (L = L'))) ∧ ∃ n, w' = w.drewN n := by
  obtain ⟨a, c, e1, q1, _⟩ := row_accs h.row rfl
  obtain ⟨a', c', e2, q2, _⟩ := row_accs h'.row rfl
  have hl := h.fit.len
  subst e1 e2
  have k0 := h.c0
  have k1 := h'.c0
  have HE : Hid (∀ n, Calls Tryz.prog 24 #[.slice a L.length c, .slice a' L'.length c'] (w.drewN n) fun e w' => e = .returned (.bool (decide (L = L'))) ∧ ∃ n, w' = w.drewN n) := fun n => by
    refine (equalA_any a a' c c' L L' (w.drewN n) q1 q2 (by omega)).mono ?_
    rintro e w' ⟨rfl, m, rfl⟩
    exact ⟨rfl, n + m, by simp [World.drewN, Nat.add_assoc]⟩
  obtain ⟨n, en⟩ : ∃ n, L.length = n := ⟨_, rfl⟩
  obtain ⟨n', en'⟩ : ∃ n, L'.length = n := ⟨_, rfl⟩
  rw [en] at HE k0
  rw [en'] at HE k1
  clear h h' q1 q2 hl en en'
  go_enter Tryz.func8, Tryz.ntmps8
  go_wp2_with fail
  go_region_law (go_simp; go_at_call 24; first | refine (HE.out 0).mono ?_ | refine (HE.out 1).mono ?_; rintro e w2 ⟨rfl, m, rfl⟩)
  all_goals
    go_wp2
    go_ret
    first | exact ⟨rfl, m, rfl⟩ | exact ⟨rfl, m + 1, rfl⟩
end
end Go.Proofs.YtdchnfggmkokhaaGreatDoor
