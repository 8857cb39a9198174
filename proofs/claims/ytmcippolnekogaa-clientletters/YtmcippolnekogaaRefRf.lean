/- What the reference's Of and Reader.Count do. -/
import Derived.Test.YtmcippolnekogaaRefRe
namespace Go.Proofs.Ytmcippolnekogaa
open Go.RowKit Cod
set_option linter.unusedVariables false
set_option linter.unusedSimpArgs false

theorem num_err : ∀ (l : List (BitVec 8)) (k acc : Nat), (num k acc l).2.2 ≠ 0 → num k acc l = (0, 0, (num k acc l).2.2)
  | [], _, _, _ => rfl
  | c :: r, k, acc, h => by
    unfold num at h ⊢
    split
    · rfl
    · rename_i h1
      rw [if_neg h1] at h
      split
      · rename_i h2
        rw [if_pos h2] at h
        simp at h
      · rename_i h2
        rw [if_neg h2] at h
        exact num_err r _ _ h
theorem rU_err (l : List (BitVec 8)) (at_ why : Nat) (h : (rU l at_ why).2.2 ≠ 0) : rU l at_ why = (0, at_, (rU l at_ why).2.2) := by
  unfold rU at h ⊢
  split
  · rename_i h0
    rw [if_pos h0] at h
    rw [num_err _ 0 0 h]
    simp
  · rfl
set_option maxRecDepth 100000 in
set_option maxHeartbeats 800000 in
theorem refOf_any (a : Option Addr) (len cap : Nat) (l : List (BitVec 8)) (w : World) (h : Seen w a len l) (hnil : a = none → cap = 0) (hm : len ≤ 140737488355328) :
    Calls Try.prog 45 #[.slice a len cap] w fun e w' => ∃ R, e = .returned (.pointer (some ⟨R, 0, none⟩)) ∧ w.heap.size ≤ R ∧ RRd w' R w.heap.size w'.heap.size l 0 0 ∧ Below w.heap.size w w' := by
  obtain rfl : len = l.length := h.1
  generalize hw1 : w.alloc (.cells #[.slice none 0 0, .int .i64 0, .int .i64 0] 88) = w1
  have b1 : Below w.heap.size w w1 := by rw [← hw1]; exact (Below.refl _ w).alloc (Nat.le_refl _) _
  have hh : w1.heap[w.heap.size]? = some (.cells #[.slice none 0 0, .int .i64 0, .int .i64 0] 88 (0, 0)) := by rw [← hw1]; exact heap_alloc_new w _
  have s1 : w1.heap.size = w.heap.size + 1 := by rw [← hw1]; simp
  obtain ⟨v1, w2, hr, o1, g1⟩ := run_append_bytes 28 w1 w1.heap.size (.slice none 0 0) 0 [] (World.ownsRow_nil _ _ _ _) a l.length cap l (h.below b1) hnil (by omega) (Nat.le_refl _)
  rw [List.nil_append, Nat.zero_add] at o1
  have b2 : Below w1.heap.size w1 w2 := (Below.refl _ w1).grown g1 (Nat.le_refl _) (fun k e => by cases e)
  have hh2 : w2.heap[w.heap.size]? = some (.cells #[.slice none 0 0, .int .i64 0, .int .i64 0] 88 (0, 0)) := (b2.block _ (by omega)).trans hh
  obtain ⟨a', c', rfl, s', n', k'⟩ := owned_seen o1 (by unfold maxLen; omega)
  have c0 : w1.cell? ⟨w.heap.size, 0, none⟩ = some (.slice none 0 0) := by simp [World.cell?, hh]
  have e0 : w2.cell? ⟨w.heap.size, 0, none⟩ = some (.slice none 0 0) := by simp [World.cell?, hh2]
  have efr : w2.frozen? ⟨w.heap.size, 0, none⟩ = false := by simp [World.frozen?, hh2]
  have hne : l ≠ [] → ∀ x, a' = some x → x.block ≠ w.heap.size ∧ w.heap.size ≤ x.block ∧ x.block < w2.heap.size := fun hl x hx => by
    have hp := List.length_pos_iff.2 hl
    obtain ⟨g, c, e, hg, hg2⟩ := o1.form hp
    cases e
    cases hx
    exact ⟨by show g ≠ _; omega, by show _ ≤ g; omega, hg2⟩
  have RZ : Hid (RRd (w2.setCell ⟨w.heap.size, 0, none⟩ (.slice a' l.length c')) w.heap.size w.heap.size (w2.setCell ⟨w.heap.size, 0, none⟩ (.slice a' l.length c')).heap.size l 0 0) :=
    ⟨a', c', by have := set_block hh2 0 (.slice a' l.length c'); simpa using this, seen_far s' hne _ _, n', k', (by simpa [World.setCell] using hne), Nat.zero_le _, hm⟩
  have BZ : Hid (Below w.heap.size w (w2.setCell ⟨w.heap.size, 0, none⟩ (.slice a' l.length c'))) := (b1.trans (b2.mono b1.size)).setCell (Nat.le_refl _) _
  have HR : Hid _ := hr
  have HW : Hid _ := hw1
  clear h hnil hm hr o1 g1 b1 b2 hh hh2 s' n' k' hne hw1 s1
  go_enter Try.func45, Try.ntmps45
  go_wp2_with (first
    | (rw [HW.out]; at_builtin; refine wpList_append_known rfl (.tmp 10) (.tmp 11) 28 28 rfl _ _ rfl rfl _ _ HR.out ?_))
  go_ret
  exact ⟨_, rfl, Nat.le_refl _, RZ.out, BZ.out⟩
end Go.Proofs.Ytmcippolnekogaa
