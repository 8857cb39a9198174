/- Package auditor: the reference's Merge. -/
import Derived.Test.YtckldjiabalgbaaAConc
import Derived.Test.YtckldjiabalgbaaText
namespace Go.Proofs.Ytckldjiabalgbaa
open Go.RowKit Go.Sort
attribute [local go_sem] Oper.semAt_some
set_option linter.unusedVariables false

theorem ins_split {α : Type} {lt : α → α → Bool} (hO : SWO lt) {x : α} : ∀ (s : List α) (k : Nat), s.Pairwise (fun a b => lt b a = false) → k ≤ s.length → (∀ q (hq : q < s.length), k ≤ q → lt x s[q] = true) → (k = 0 ∨ ∃ h : k - 1 < s.length, lt x s[k - 1] = false) → s.take k ++ (x :: s.drop k) = insF lt x s
  | [], k, _, hk, _, _ => by
    obtain rfl : k = 0 := by simpa using hk
    rfl
  | y :: t, 0, _, _, h1, _ => by
    have := h1 0 (by simp) (Nat.le_refl _)
    simp only [List.getElem_cons_zero] at this
    simp [insF, this]
  | y :: t, k + 1, hs, hk, h1, h0 => by
    obtain ⟨s1, s2⟩ := List.pairwise_cons.1 hs
    obtain ⟨hb, h2⟩ : ∃ h : k < (y :: t).length, lt x (y :: t)[k] = false := by
      rcases h0 with h | ⟨h, e⟩
      · omega
      · exact ⟨h, e⟩
    have hy : lt x y = false := by
      cases k with
      | zero => exact h2
      | succ k =>
        simp only [List.getElem_cons_succ] at h2
        exact hO.ntrans _ _ _ h2 (s1 _ (List.getElem_mem _))
    have ih := ins_split hO t k s2 (by simpa using hk) (fun q hq hkq => by
      have := h1 (q + 1) (by simpa using hq) (by omega)
      simpa using this) (by
      cases k with
      | zero => exact .inl rfl
      | succ k =>
        refine .inr ⟨by simp at hk ⊢; omega, ?_⟩
        simp only [List.getElem_cons_succ] at h2
        exact h2)
    simp [insF, hy, ← ih]
theorem srt_snoc {α : Type} {lt : α → α → Bool} (l : List α) (x : α) : srt lt (l ++ [x]) = insF lt x (srt lt l) := by simp [srt]
theorem ins_len {α : Type} {lt : α → α → Bool} (x : α) : ∀ s : List α, (insF lt x s).length = s.length + 1
  | [] => rfl
  | y :: t => by
    unfold insF
    split
    · rfl
    · simp [ins_len x t]
theorem srt_len {α : Type} {lt : α → α → Bool} (l : List α) : (srt lt l).length = l.length := by
  have : ∀ (l s : List α), (l.foldl (fun s x => insF lt x s) s).length = s.length + l.length := by
    intro l
    induction l with
    | nil => intro s; rfl
    | cons x l ih => intro s; rw [List.foldl_cons, ih, ins_len]; simp; omega
  have := this l []
  simpa [srt] using this
theorem bytesLessI : ∀ (x y : List UInt8), Op.bytesLess x y = decide (x < y)
  | [], [] => by simp [Op.bytesLess]
  | _ :: _, [] => by simp [Op.bytesLess]
  | [], _ :: _ => by simp [Op.bytesLess]
  | a :: x, b :: y => by
    rw [Op.bytesLess, bytesLessI x y]
    simp only [List.cons_lt_cons_iff]
    by_cases h1 : a < b <;> by_cases h2 : a = b <;> by_cases h3 : x < y <;> simp [h1, h2, h3]
theorem bytesLessA (a b : ByteArray) : Op.bytesLess a.toList b.toList = decide (Ahead a b) := by
  rw [bytesLessI, ByteArray.toList_eq, ByteArray.toList_eq]
  rfl
theorem beqA (a b : ByteArray) : (a.toList == b.toList) = decide (a = b) := by
  rw [ByteArray.toList_eq, ByteArray.toList_eq]
  by_cases h : a = b
  · subst h; simp
  · rw [decide_eq_false h, beq_eq_false_iff_ne]
    exact fun e => h (text_ext e)
/-- The test 'is that name above this one'. -/
theorem above_yes {o x : RowV} (h : ltOf cfR x o = true) : Op.bytesLess o.1.toList x.1.toList = false ∧ (o.1.toList == x.1.toList) = false := by
  rw [ltR] at h
  have h' := of_decide_eq_true h
  rw [bytesLessA, beqA]
  refine ⟨decide_eq_false fun e => ahead_irrefl _ (ahead_trans h' e), decide_eq_false fun e => ?_⟩
  rw [e] at h'
  exact ahead_irrefl _ h'
theorem above_no {o x : RowV} (h : ltOf cfR x o = false) : Op.bytesLess o.1.toList x.1.toList = true ∨ (Op.bytesLess o.1.toList x.1.toList = false ∧ (o.1.toList == x.1.toList) = true) := by
  rw [ltR] at h
  have h' := of_decide_eq_false h
  rw [bytesLessA, beqA]
  rcases ahead_total o.1 x.1 with a | a | a
  · exact .inl (decide_eq_true a)
  · exact .inr ⟨decide_eq_false fun e => ahead_irrefl _ (a ▸ e), decide_eq_true a⟩
  · exact absurd a h'
theorem rowsX_at {w : World} {a : Option Addr} {n : Nat} {rows : List RowV} (h : RowsX w a n rows) {k : Nat} (hk : k < rows.length) : ∃ b off, a = some ⟨b, off, none⟩ ∧ w.cell? ⟨b, off + k * 2, none⟩ = some (.string rows[k].1) ∧ w.cell? ⟨b, off + k * 2 + 1, none⟩ = some (.int .i64 rows[k].2) := by
  rcases h.2.2 with h3 | ⟨b, off, ha, hc⟩
  · have := h.1; omega
  · exact ⟨b, off, ha, hc k hk⟩
theorem rowsX_take {w : World} {a : Option Addr} {n : Nat} {rows : List RowV} (h : RowsX w a n rows) {k : Nat} (hk : k ≤ n) : RowsX w a k (rows.take k) := by
  have hn := h.1
  refine ⟨by rw [List.length_take]; omega, by rw [List.length_take]; have := h.2.1; omega, ?_⟩
  rcases h.2.2 with h3 | ⟨b, off, ha, hc⟩
  · exact .inl (by omega)
  · refine .inr ⟨b, off, ha, fun j hj => ?_⟩
    have hj2 : j < rows.length := by rw [List.length_take] at hj; omega
    rw [List.getElem_take]
    exact hc j hj2
theorem rowsX_drop {w : World} {g n k : Nat} {rows : List RowV} (h : RowsX w (some ⟨g, 0, none⟩) n rows) (hk : k ≤ n) : RowsX w (some ⟨g, k * 2, none⟩) (n - k) (rows.drop k) := by
  have hn := h.1
  refine ⟨by rw [List.length_drop]; omega, by rw [List.length_drop]; have := h.2.1; omega, ?_⟩
  rcases h.2.2 with h3 | ⟨b, off, ha, hc⟩
  · exact .inl (by omega)
  · cases ha
    refine .inr ⟨g, k * 2, rfl, fun j hj => ?_⟩
    have hj2 : k + j < rows.length := by rw [List.length_drop] at hj; omega
    rw [List.getElem_drop]
    obtain ⟨c1, c2⟩ := hc (k + j) hj2
    rw [show k * 2 + j * 2 = 0 + (k + j) * 2 by omega]
    exact ⟨c1, c2⟩
end Go.Proofs.Ytckldjiabalgbaa
