/- SameAll: two slices of slices of bytes are the same. -/
import Derived.Test.YtikpmaecbfebkaaDoorJLAt
import Derived.Test.YtikpmaecbfebkaaDoorText
namespace Go.Proofs.YtikpmaecbfebkaaDoor
open Go.RowKit
set_option linter.unusedVariables false

/-- Slices of bytes in a slice. -/
def RowsAt (w : World) (a : Option Addr) (n : Nat) (ps : List (List (BitVec 8))) : Prop :=
  n = ps.length ∧ (n = 0 ∨ ∃ b off, a = some ⟨b, off, none⟩ ∧ ∀ j (hj : j < ps.length), ∃ a' c', w.cell? ⟨b, off + j, none⟩ = some (.slice a' ps[j].length c') ∧ Seen w a' ps[j].length ps[j])
theorem RowsAt.below {w w' : World} {a : Option Addr} {n : Nat} {ps : List (List (BitVec 8))} (h : RowsAt w a n ps) (hb : Below w.heap.size w w') : RowsAt w' a n ps := by
  obtain ⟨h1, h2⟩ := h
  refine ⟨h1, h2.imp id ?_⟩
  rintro ⟨b, off, rfl, hc⟩
  refine ⟨b, off, rfl, fun j hj => ?_⟩
  obtain ⟨a', c', e1, e2⟩ := hc j hj
  exact ⟨a', c', by rw [hb.cell (p := ⟨b, off + j, none⟩) (World.block_lt_of_cell? w _ e1)]; exact e1, e2.below hb⟩
theorem RowsAt.at {w : World} {a : Option Addr} {n : Nat} {ps : List (List (BitVec 8))} (h : RowsAt w a n ps) {k : Nat} (hk : k < ps.length) : ∃ b off a' c', a = some ⟨b, off, none⟩ ∧ w.cell? ⟨b, off + k, none⟩ = some (.slice a' ps[k].length c') ∧ Seen w a' ps[k].length ps[k] := by
  obtain ⟨h1, h2⟩ := h
  rcases h2 with h2 | ⟨b, off, rfl, hc⟩
  · omega
  · obtain ⟨a', c', e1, e2⟩ := hc k hk
    exact ⟨b, off, a', c', rfl, e1, e2⟩
theorem takes_next {α : Type} {A B : List α} {k : Nat} (h : A.take k = B.take k) (h1 : k < A.length) (h2 : k < B.length) (e : A[k] = B[k]) : A.take (k + 1) = B.take (k + 1) := by
  rw [List.take_succ_eq_append_getElem h1, List.take_succ_eq_append_getElem h2, h, e]
theorem sameAll_len (aa ab : Option Addr) (la ca lb cb : Nat) (w : World) (hl : la ≠ lb) :
    Calls Tryd.prog 29 #[.slice aa la ca, .slice ab lb cb] w fun e w' => e = .returned (.bool false) ∧ ∃ n, w' = w.drewN n := by
  have hl' : ¬ ((la : Int) = lb) := by omega
  clear hl
  go_enter Tryd.func29, Tryd.ntmps29
  go_wp2
  go_ret
  exact ⟨rfl, 0, rfl⟩
set_option maxRecDepth 100000 in
set_option maxHeartbeats 1600000 in
theorem sameAll_any (aa ab : Option Addr) (la ca lb cb : Nat) (A B : List (List (BitVec 8))) (w : World) (hA : RowsAt w aa la A) (hB : RowsAt w ab lb B) (hm : la ≤ 140737488355328) :
    Calls Tryd.prog 29 #[.slice aa la ca, .slice ab lb cb] w fun e w' => e = .returned (.bool (decide (A = B))) ∧ ∃ n, w' = w.drewN n := by
  by_cases hl : la = lb
  · subst hl
    have hla : la = A.length := hA.1
    have hlb : la = B.length := hB.1
    have HA : Hid (RowsAt w aa la A) := hA
    have HB : Hid (RowsAt w ab la B) := hB
    clear hA hB
    go_enter Tryd.func29, Tryd.ntmps29
    go_wp2
    go_loopw [5] (fun i wr => ∃ k q : Nat, k ≤ la ∧ i = .int .i64 k ∧ A.take k = B.take k ∧ wr = w.drewN q) (fun i _ => la - (intOf i).toNat)
    case atStart => exact ⟨0, 0, Nat.zero_le _, rfl, rfl, rfl⟩
    case round =>
      obtain ⟨k, q, hk, rfl, ht, rfl⟩ := hrel
      by_cases hlt : k < la
      · obtain ⟨ba, oa, pa, pc, rfl, a1, ps⟩ := HA.out.at (show k < A.length by omega)
        obtain ⟨bb, ob, ra, rc, rfl, b1, rs⟩ := HB.out.at (show k < B.length by omega)
        have hk1 : (k : Int) < (la : Int) := by omega
        have HT : Hid _ := ht
        by_cases he : A[k]'(by omega) = B[k]'(by omega)
        · have HS : Hid _ := takes_next ht (by omega) (by omega) he
          rw [← he] at b1 rs
          generalize A[k]'(by omega) = xp at *
          clear he ht
          have t1 : ∀ q, (convert 22 9 (.slice pa xp.length pc)).run Tryd.prog (w.drewN q) = .ok (.string (textOf xp)) (w.drewN q) := fun q => run_to_text _ pa _ pc xp (ps.drewN q)
          have t2 : ∀ q, (convert 22 9 (.slice ra xp.length rc)).run Tryd.prog (w.drewN q) = .ok (.string (textOf xp)) (w.drewN q) := fun q => run_to_text _ ra _ rc xp (rs.drewN q)
          have hxs := text_self (textOf xp)
          clear ps rs
          go_wp2_with fail
          go_quiet (fail)
          go_wp2
          go_roundw
          case rel => exact ⟨k + 1, _, by omega, by go_num, HS.out, rfl⟩
          case measure => simp only [intOf]; omega
        · have HN : Hid (¬ A = B) := fun e => he (by subst e; rfl)
          generalize A[k]'(by omega) = xp at *
          generalize B[k]'(by omega) = yp at *
          have t1 : ∀ q, (convert 22 9 (.slice pa xp.length pc)).run Tryd.prog (w.drewN q) = .ok (.string (textOf xp)) (w.drewN q) := fun q => run_to_text _ pa _ pc xp (ps.drewN q)
          have t2 : ∀ q, (convert 22 9 (.slice ra yp.length rc)).run Tryd.prog (w.drewN q) = .ok (.string (textOf yp)) (w.drewN q) := fun q => run_to_text _ ra _ rc yp (rs.drewN q)
          have hxs := text_ne (fun e => he (textOf_inj e))
          clear he ht ps rs
          go_wp2_with fail
          go_quiet (fail)
          go_wp2
          go_ret
          rw [decide_eq_false HN.out]
          exact ⟨rfl, q + nq, by simp [World.drewN, Nat.add_assoc]⟩
      · have HE : Hid (A = B) := by
          show A = B
          rw [List.take_of_length_le (by omega), List.take_of_length_le (by omega)] at ht
          exact ht
        have hk1 : ¬ ((k : Int) < (la : Int)) := by omega
        clear ht
        go_wp2
        go_ret
        rw [decide_eq_true HE.out]
        exact ⟨rfl, q, rfl⟩
  · have HN : ¬ A = B := fun e => hl (by rw [hA.1, hB.1, e])
    rw [decide_eq_false HN]
    exact sameAll_len aa ab la ca lb cb w hl
end Go.Proofs.YtikpmaecbfebkaaDoor
