/- Rows in memory; the reference's SameRows. -/
import Derived.Test.YtabhgdmmljhpcaaDoorBRows
namespace Go.Proofs.YtabhgdmmljhpcaaDoor
open Go.RowKit Cod
set_option linter.unusedVariables false

def RowsAt (w : World) (a : Option Addr) (n : Nat) (rows : List (ByteArray × Int)) : Prop :=
  n = rows.length ∧ rows.length ≤ 140737488355328 ∧ (n = 0 ∨ ∃ b off, a = some ⟨b, off, none⟩ ∧ ∀ j (hj : j < rows.length), w.cell? ⟨b, off + j * 2, none⟩ = some (.string rows[j].1) ∧ w.cell? ⟨b, off + j * 2 + 1, none⟩ = some (.int .i64 rows[j].2))
theorem RowsAt.below {w w' : World} {a : Option Addr} {n : Nat} {rows : List (ByteArray × Int)} (h : RowsAt w a n rows) (hb : Below w.heap.size w w') : RowsAt w' a n rows := by
  obtain ⟨h1, h2, h3⟩ := h
  refine ⟨h1, h2, ?_⟩
  rcases h3 with h3 | ⟨b, off, ha, hc⟩
  · exact .inl h3
  · refine .inr ⟨b, off, ha, fun j hj => ?_⟩
    obtain ⟨c1, c2⟩ := hc j hj
    rw [hb.cell (p := ⟨b, off + j * 2, none⟩) (World.block_lt_of_cell? w _ c1), hb.cell (p := ⟨b, off + j * 2 + 1, none⟩) (World.block_lt_of_cell? w _ c2)]
    exact ⟨c1, c2⟩
theorem RowsAt.at {w : World} {a : Option Addr} {n : Nat} {rows : List (ByteArray × Int)} (h : RowsAt w a n rows) {k : Nat} (hk : k < rows.length) :
    ∃ b off, a = some ⟨b, off, none⟩ ∧ w.cell? ⟨b, off + k * 2, none⟩ = some (.string rows[k].1) ∧ w.cell? ⟨b, off + k * 2 + 1, none⟩ = some (.int .i64 rows[k].2) := by
  rcases h.2.2 with h3 | ⟨b, off, ha, hc⟩
  · have := h.1; omega
  · exact ⟨b, off, ha, hc k hk⟩
theorem sameRows_len (aa ab : Option Addr) (la ca lb cb : Nat) (w : World) (hl : la ≠ lb) :
    Calls Tryd.prog 30 #[.slice aa la ca, .slice ab lb cb] w fun e w' => e = .returned (.bool false) ∧ ∃ n, w' = w.drewN n := by
  have hl' : ¬ ((la : Int) = lb) := by omega
  clear hl
  go_enter Tryd.func30, Tryd.ntmps30
  go_wp2
  go_ret
  exact ⟨rfl, 0, rfl⟩
theorem takes_succ {α : Type} {A B : List α} {k : Nat} (h : A.take k = B.take k) (h1 : k < A.length) (h2 : k < B.length) (e : A[k] = B[k]) : A.take (k + 1) = B.take (k + 1) := by
  rw [List.take_add_one, List.take_add_one, h, List.getElem?_eq_getElem h1, List.getElem?_eq_getElem h2, e]
set_option maxRecDepth 100000 in
set_option maxHeartbeats 800000 in
theorem sameRows_any (aa ab : Option Addr) (la ca lb cb : Nat) (A B : List (ByteArray × Int)) (w : World) (hA : RowsAt w aa la A) (hB : RowsAt w ab lb B) :
    Calls Tryd.prog 30 #[.slice aa la ca, .slice ab lb cb] w fun e w' => e = .returned (.bool (decide (A = B))) ∧ ∃ n, w' = w.drewN n := by
  by_cases hl : la = lb
  · subst hl
    have hla : la = A.length := hA.1
    have hlb : la = B.length := hB.1
    have hm : la ≤ 140737488355328 := by rw [hla]; exact hA.2.1
    have HA : Hid (RowsAt w aa la A) := hA
    have HB : Hid (RowsAt w ab la B) := hB
    clear hA hB
    go_enter Tryd.func30, Tryd.ntmps30
    go_wp2
    go_loopw [5] (fun i wr => ∃ k q : Nat, k ≤ la ∧ i = .int .i64 k ∧ A.take k = B.take k ∧ wr = w.drewN q) (fun i _ => la - (intOf i).toNat)
    case atStart => exact ⟨0, 0, Nat.zero_le _, rfl, rfl, rfl⟩
    case round =>
      obtain ⟨k, q, hk, rfl, ht, rfl⟩ := hrel
      by_cases hlt : k < la
      · obtain ⟨ba, oa, rfl, a1, a2⟩ := HA.out.at (show k < A.length by omega)
        obtain ⟨bb, ob, rfl, b1, b2⟩ := HB.out.at (show k < B.length by omega)
        have hk1 : (k : Int) < (la : Int) := by omega
        have HT : Hid _ := ht
        by_cases he : A[k]'(by omega) = B[k]'(by omega)
        · have HS : Hid _ := takes_succ ht (by omega) (by omega) he
          rw [← he] at b1 b2
          generalize A[k]'(by omega) = x at *
          clear he ht
          obtain ⟨xs, xn⟩ := x
          simp only at a1 a2 b1 b2
          have hxs := text_self xs
          go_wp2_with fail
          go_quiet (fail)
          go_wp2
          go_roundw
          case rel => exact ⟨k + 1, _, by omega, by go_num, HS.out, rfl⟩
          case measure => simp only [intOf]; omega
        · have HN : Hid (¬ A = B) := fun e => he (by subst e; rfl)
          generalize A[k]'(by omega) = x at *
          generalize B[k]'(by omega) = y at *
          obtain ⟨xs, xn⟩ := x
          obtain ⟨ys, yn⟩ := y
          simp only at a1 a2 b1 b2
          by_cases hs : xs = ys
          · subst hs
            have hn : ((xn == yn) : Bool) = false := by rw [beq_eq_false_iff_ne]; exact fun e => he (by rw [e])
            have hn' : ¬ (xn = yn) := fun e => he (by rw [e])
            have hxs := text_self xs
            clear he ht
            go_wp2_with fail
            go_quiet (fail)
            go_wp2
            go_ret
            rw [decide_eq_false HN.out]
            exact ⟨rfl, q + nq, by simp [World.drewN, Nat.add_assoc]⟩
          · have hxs := text_ne hs
            clear he ht
            go_wp2_with fail
            go_quiet (fail)
            go_wp2
            go_ret
            rw [decide_eq_false HN.out]
            exact ⟨rfl, q + nq, by simp [World.drewN, Nat.add_assoc]⟩
      · obtain rfl : k = la := by omega
        have HE : Hid (A = B) := by
          show A = B
          have := ht
          rwa [List.take_of_length_le (by omega), List.take_of_length_le (by omega)] at this
        clear ht
        go_wp2
        go_ret
        rw [decide_eq_true HE.out]
        exact ⟨rfl, q, rfl⟩
  · refine (sameRows_len aa ab la ca lb cb w hl).mono ?_
    rintro e w' ⟨rfl, hw⟩
    have : ¬ A = B := fun e => hl (by rw [hA.1, hB.1, e])
    rw [decide_eq_false this]
    exact ⟨rfl, hw⟩
theorem rowsAt_owned {w : World} {base n : Nat} {v : Value} {l : List RowB} (h : w.ownsRow base 46 2 v n (cells2 l)) (hn : n = l.length) (hm : l.length ≤ 1000) : ∃ a c, v = .slice a n c ∧ RowsAt w a n l := by
  subst hn
  obtain ⟨a, c, e, _⟩ := row_form h
  refine ⟨a, c, e, rfl, by omega, ?_⟩
  rcases h.2 with ⟨e1, h0⟩ | ⟨g, cap, cur, e1, hb, hg, hnc, hcm, hcs, htake⟩
  · exact .inl h0
  · rw [e] at e1
    cases e1
    refine .inr ⟨g, 0, rfl, fun j hj => ?_⟩
    obtain ⟨q1, q2⟩ := cells2_at l j hj
    rw [← htake, List.getElem?_take, if_pos (by omega)] at q1 q2
    rw [Nat.zero_add]
    simp only [World.cell?, hg]
    exact ⟨by simpa using q1, by simpa using q2⟩
end Go.Proofs.YtabhgdmmljhpcaaDoor
