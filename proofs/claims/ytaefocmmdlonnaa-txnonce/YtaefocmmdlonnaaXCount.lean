/- Count of the first layer's reference; what is asked, by its place. -/
import Derived.Test.YtaefocmmdlonnaaXAsks1
namespace Go.Proofs.Ytaefocmmdlonnaa
open Go.RowKit
set_option linter.unusedVariables false

/-- Count: a number from 0 to one less than m. -/
theorem count_any (n m : Int) (w : World) (h0 : -9223372036854775808 ≤ n) (h1 : n ≤ 9223372036854775807) (hm : 0 < m) (hm2 : m ≤ 4611686018427387904) :
    Calls Try.prog 30 #[.int .i64 n, .int .i64 m] w fun e w' => e = .returned (.int .i64 (n % m)) ∧ w' = w := by
  have hq := Int.tmod_add_mul_tdiv n m
  have hb1 : (n.tmod m).natAbs < m.natAbs := by rw [Int.natAbs_tmod]; exact Nat.mod_lt _ (by omega)
  have hb2 : -m < n.tmod m := by omega
  have hb3 : n.tmod m < m := by omega
  generalize n.tdiv m = q at *
  obtain ⟨t, ht⟩ : ∃ t, n.tmod m = t := ⟨_, rfl⟩
  rw [ht] at hq hb2 hb3
  clear hb1
  rcases Int.lt_or_le t 0 with h | h
  · have he : Hid (n % m = t + m) := by
      show n % m = t + m
      rw [← hq, Int.add_mul_emod_self_left, ← Int.add_emod_right]
      exact Int.emod_eq_of_lt (by omega) (by omega)
    clear hq
    go_enter Try.func30, Try.ntmps30
    go_wp2
    go_ret
    rw [he.out]
    exact ⟨rfl, rfl⟩
  · have he : Hid (n % m = t) := by
      show n % m = t
      rw [← hq, Int.add_mul_emod_self_left]
      exact Int.emod_eq_of_lt (by omega) (by omega)
    clear hq
    go_enter Try.func30, Try.ntmps30
    go_wp2
    go_ret
    rw [he.out]
    exact ⟨rfl, rfl⟩
/-- Lists of one length, one behind the other. -/
theorem flatMap_at {α β : Type} (f : α → List β) (m : Nat) (hm : ∀ t, (f t).length = m) (h0 : 0 < m) : ∀ (ts : List α) (i : Nat), i < ts.length * m → ∃ h : i / m < ts.length, (ts.flatMap f)[i]? = (f (ts[i / m]'h))[i % m]?
  | [], i, hi => by simp at hi
  | t :: ts, i, hi => by
    by_cases h : i < m
    · have e : i / m = 0 := Nat.div_eq_of_lt h
      refine ⟨by simp [e], ?_⟩
      simp only [e, List.getElem_cons_zero, List.flatMap_cons]
      rw [List.getElem?_append_left (by rw [hm]; exact h), Nat.mod_eq_of_lt h]
    · have hi' : i - m < ts.length * m := by simp [Nat.add_mul] at hi; omega
      obtain ⟨h1, h2⟩ := flatMap_at f m hm h0 ts (i - m) hi'
      have e : i / m = (i - m) / m + 1 := by
        have := Nat.add_div_right (i - m) h0
        rw [Nat.sub_add_cancel (by omega)] at this
        exact this
      have e2 : i % m = (i - m) % m := by
        rw [Nat.mod_eq_sub_mod (by omega)]
      refine ⟨by simp [e, h1], ?_⟩
      simp only [e, List.getElem_cons_succ, List.flatMap_cons, e2]
      rw [List.getElem?_append_right (by rw [hm]; omega), hm, h2]
/-- The other shards, where me is one of them. -/
theorem othersL_is (me sh : Int) (h1 : 1 ≤ me) (h2 : me ≤ sh) (h3 : sh ≤ 3) : (othersL me sh).length = (sh - 1).toNat ∧ ∀ g ∈ othersL me sh, 1 ≤ g ∧ g ≤ sh ∧ g ≠ me := by
  have h : (sh = 1 ∧ me = 1) ∨ (sh = 2 ∧ me = 1) ∨ (sh = 2 ∧ me = 2) ∨ (sh = 3 ∧ me = 1) ∨ (sh = 3 ∧ me = 2) ∨ (sh = 3 ∧ me = 3) := by omega
  rcases h with ⟨rfl, rfl⟩ | ⟨rfl, rfl⟩ | ⟨rfl, rfl⟩ | ⟨rfl, rfl⟩ | ⟨rfl, rfl⟩ | ⟨rfl, rfl⟩ <;> simp [othersL, upto]
theorem asksL_length (me sh : Int) (h1 : 1 ≤ me) (h2 : me ≤ sh) (h3 : sh ≤ 3) (ts : List TxnD) : (asksL me sh ts).length = ts.length * (sh - 1).toNat := by
  induction ts with
  | nil => simp [asksL]
  | cons t ts ih =>
    simp only [asksL, List.flatMap_cons, List.length_append, List.length_map, List.length_cons] at ih ⊢
    rw [ih, (othersL_is me sh h1 h2 h3).1, Nat.add_mul]
    omega
theorem asksL_at (me sh : Int) (h1 : 1 ≤ me) (h2 : me ≤ sh) (h3 : sh ≤ 3) (ts : List TxnD) (i : Nat) (hi : i < (asksL me sh ts).length) :
    0 < (sh - 1).toNat ∧ ∃ (h : i / (sh - 1).toNat < ts.length) (g : Int), (asksL me sh ts)[i] = (g, wantC (ts[i / (sh - 1).toNat]'h)) ∧ 1 ≤ g ∧ g ≤ sh ∧ g ≠ me := by
  have ho := othersL_is me sh h1 h2 h3
  have hl := asksL_length me sh h1 h2 h3 ts
  have h0 : 0 < (sh - 1).toNat := by
    rcases Nat.eq_zero_or_pos (sh - 1).toNat with e | e
    · rw [hl, e] at hi; omega
    · exact e
  refine ⟨h0, ?_⟩
  obtain ⟨h, e⟩ := flatMap_at (fun t => (othersL me sh).map (askOf t)) (sh - 1).toNat (fun t => by rw [List.length_map, ho.1]) h0 ts i (by rw [← hl]; exact hi)
  have hm : i % (sh - 1).toNat < (othersL me sh).length := by rw [ho.1]; exact Nat.mod_lt _ h0
  refine ⟨h, (othersL me sh)[i % (sh - 1).toNat], ?_, ho.2 _ (List.getElem_mem hm)⟩
  rw [List.getElem?_map, List.getElem?_eq_getElem hm] at e
  have e2 := (List.getElem?_eq_some_iff.1 e).2
  exact e2
end Go.Proofs.Ytaefocmmdlonnaa
