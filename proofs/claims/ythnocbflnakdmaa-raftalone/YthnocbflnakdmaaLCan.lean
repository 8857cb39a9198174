/- Package rlog: what can be. -/
import Derived.Test.YthnocbflnakdmaaLSmall
namespace Go.Proofs.Ythnocbflnakdmaa
open Go.RowKit
attribute [local go_sem] Oper.semAt_some
set_option linter.unusedVariables false

/-- Whether a log can begin behind such a base. -/
def canBase (B T : Int) : Prop := (B = 0 ∧ T = 0) ∨ (0 < B ∧ B ≤ 1152921504606846976 ∧ 0 ≤ T ∧ T ≤ 1152921504606846976)
instance (B T : Int) : Decidable (canBase B T) := by unfold canBase; infer_instance
set_option maxHeartbeats 1600000 in
theorem canBase_any (B T : Int) (w : World) : Calls Try.prog 68 #[.int .i64 B, .int .i64 T] w fun e w' => e = .returned (.bool (decide (canBase B T))) ∧ w' = w := by
  by_cases h0 : B = 0
  · subst h0
    have e : decide (canBase 0 T) = decide (T = 0) := by
      apply decide_eq_decide.2
      unfold canBase
      omega
    rw [e]
    go_enter Try.func68, Try.ntmps68
    go_wp2
    go_ret
    exact ⟨by show Ending.returned (Value.bool (T == 0)) = _; rw [show (T == 0) = decide (T = 0) from rfl], rfl⟩
  · have b0 : (B == 0) = false := by simpa using h0
    by_cases h1 : 0 < B
    · by_cases h2 : B ≤ 1152921504606846976
      · by_cases h3 : 0 ≤ T
        · have e : decide (canBase B T) = decide (T ≤ 1152921504606846976) := by
            apply decide_eq_decide.2
            unfold canBase
            omega
          rw [e]
          go_enter Try.func68, Try.ntmps68
          go_wp2
          go_ret
          exact ⟨rfl, rfl⟩
        · have e : decide (canBase B T) = false := decide_eq_false (by unfold canBase; omega)
          rw [e]
          have q3 : decide (0 ≤ T) = false := decide_eq_false h3
          clear h3
          go_enter Try.func68, Try.ntmps68
          go_wp2
          go_ret
          exact ⟨by simp_all, rfl⟩
      · have e : decide (canBase B T) = false := decide_eq_false (by unfold canBase; omega)
        rw [e]
        have q3 : decide (B ≤ 1152921504606846976) = false := decide_eq_false h2
        clear h2
        go_enter Try.func68, Try.ntmps68
        go_wp2
        go_ret
        exact ⟨by simp_all, rfl⟩
    · have e : decide (canBase B T) = false := decide_eq_false (by unfold canBase; omega)
      rw [e]
      have q3 : decide (0 < B) = false := decide_eq_false h1
      clear h1
      go_enter Try.func68, Try.ntmps68
      go_wp2
      go_ret
      exact ⟨by simp_all, rfl⟩
/-- Whether entries can stand behind a term. -/
def canBehind : Int → List Ent → Bool
  | _, [] => true
  | t, e :: l => decide (t ≤ e.1) && decide (e.1 ≤ 1152921504606846976) && canBehind e.1 l
theorem canBehind_drop (t : Int) : ∀ (l : List Ent) (k : Nat) (hk : k < l.length) (u : Int), canBehind u (l.drop k) = (decide (u ≤ l[k].1) && decide (l[k].1 ≤ 1152921504606846976) && canBehind l[k].1 (l.drop (k + 1)))
  | l, k, hk, u => by
    rw [List.drop_eq_getElem_cons hk]
    rfl
set_option maxRecDepth 100000 in
set_option maxHeartbeats 1600000 in
theorem canBehind_any (pv : Value) (t : Int) (hp : PlaceIs pv t) (a : Option Addr) (len cap : Nat) (l : List Ent) (w : World) (hl : EntsAt w a len l) (hm : len ≤ 4398046511104) :
    Calls Try.prog 69 #[pv, .slice a len cap] w fun e w' => e = .returned (.bool (canBehind (max t 1) l)) ∧ Below w.heap.size w w' := by
  have HL : Hid (EntsAt w a len l) := hl
  have hn := hl.1
  have HN : Hid (len = l.length) := hn
  have i0 := inv_base
  have i1 := inv_entry
  clear hl hn
  obtain ⟨t0, ht⟩ : ∃ t0, max t 1 = t0 := ⟨_, rfl⟩
  rw [ht]
  have hmx : (if t < 1 then (1 : Int) else t) = t0 := by rw [← ht]; split <;> omega
  clear ht
  unfold PlaceIs at hp
  rcases hp with rfl | ⟨kk, rfl⟩
  all_goals
    first | unfold baseP | unfold entP
    go_enter Try.func69, Try.ntmps69
    go_wp2_with fail
    first | refine (term_baseB _ w).mono ?_ | refine (term_entryB _ _ w).mono ?_
    rintro e w1 ⟨rfl, b1⟩
    clear i0 i1
    have B1 : Hid (Below w.heap.size w w1) := b1
    clear b1
    go_wp2
    clear hmx
    go_loopw [5, 13] (fun r i wr => ∃ (k : Nat) (u : Int), k ≤ len ∧ i = .int .i64 k ∧ r = .int .i64 u ∧ Hid (canBehind t0 l = canBehind u (l.drop k)) ∧ Hid (Below w.heap.size w wr)) (fun _ i _ => len - (intOf i).toNat)
    case atStart => exact ⟨0, t0, Nat.zero_le _, rfl, rfl, by show canBehind t0 l = _; rw [List.drop_zero], B1⟩
    case round =>
      obtain ⟨k, u, hk, rfl, rfl, HC, BW⟩ := hrel
      by_cases hlt : k < len
      · have hk' : k < l.length := by rw [← HN.out]; exact hlt
        obtain ⟨b, off, v, rfl, c1, c2, c3⟩ := (HL.out.below BW.out).at hk'
        obtain ⟨pa, pc, rfl, _⟩ := c3
        have HC2 : Hid _ := HC.out.trans (canBehind_drop t0 l k hk' u)
        have B2 : Hid (Below w.heap.size w (wr.alloc (.cells #[.int .i64 l[k].1, .slice pa l[k].2.length pc] 52))) := BW.out.alloc BW.out.size _
        have hk4 : k < 4398046511104 := by omega
        have hki : (k : Int) < (len : Int) := by omega
        clear HC BW
        generalize l[k] = x at *
        obtain ⟨xt, xp⟩ := x
        simp only at c1 c2 B2
        by_cases h1 : u ≤ xt
        · have q1 : decide (xt < u) = false := decide_eq_false (by omega)
          by_cases h2 : xt ≤ 1152921504606846976
          · have q2 : decide (1152921504606846976 < xt) = false := decide_eq_false (by omega)
            have HC3 : Hid (canBehind t0 l = canBehind xt (l.drop (k + 1))) := by
              refine HC2.out.trans ?_
              simp only [decide_eq_true h1, decide_eq_true h2, Bool.true_and]
            clear h1 h2 HC2
            go_wp2
            go_roundw
            case rel => exact ⟨k + 1, xt, by omega, by go_num, rfl, HC3, B2⟩
            case measure => simp only [intOf]; omega
          · have q2 : decide (1152921504606846976 < xt) = true := decide_eq_true (by omega)
            have HC3 : Hid (canBehind t0 l = false) := by
              refine HC2.out.trans ?_
              simp only [decide_eq_false h2, Bool.and_false, Bool.false_and]
            clear h1 h2 HC2
            go_wp2
            go_ret
            exact ⟨by rw [HC3.out]; rfl, B2.out⟩
        · have q1 : decide (xt < u) = true := decide_eq_true (by omega)
          have HC3 : Hid (canBehind t0 l = false) := by
            refine HC2.out.trans ?_
            simp only [decide_eq_false h1, Bool.false_and]
          clear h1 HC2
          go_wp2
          go_ret
          exact ⟨by rw [HC3.out]; rfl, B2.out⟩
      · obtain rfl : k = len := by omega
        have HC3 : Hid (canBehind t0 l = true) := by
          refine HC.out.trans ?_
          rw [List.drop_of_length_le (by rw [← HN.out]; exact Nat.le_refl _)]
          rfl
        clear HC
        go_wp2
        go_ret
        exact ⟨by rw [HC3.out]; rfl, BW.out⟩
end Go.Proofs.Ythnocbflnakdmaa
