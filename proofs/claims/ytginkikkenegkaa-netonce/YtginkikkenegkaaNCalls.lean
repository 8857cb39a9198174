/- Package net: copied, Look. -/
import Derived.Test.YtginkikkenegkaaNLook
namespace Go.Proofs.Ytginkikkenegkaa
open Go.RowKit Go.Maps
attribute [local go_sem] Oper.semAt_some
set_option linter.unusedVariables false

theorem dataAt_owned {w : World} {base n : Nat} {v : Value} {b : List (BitVec 8)} (h : w.ownsRow base 5 1 v n (cellsOf b)) (hn : n = b.length) (hm : b.length ≤ 140737488355328) : DataAt w v b := by
  subst hn
  rcases h.2 with ⟨e1, e2⟩ | ⟨g, c, cur, e1, hb, hg, _⟩
  · obtain rfl : b = [] := List.eq_nil_of_length_eq_zero e2
    exact ⟨none, 0, e1, ⟨rfl, by simp, .inl rfl⟩, fun _ => rfl, (fun x e => by cases e)⟩
  · subst e1
    exact ⟨some ⟨g, 0, none⟩, c, rfl, seen_owned h rfl (by unfold maxLen; omega), (fun e => by cases e), (fun x e _ => by cases e; exact ⟨cur, (0, 0), hg⟩)⟩
theorem row3 (w : World) (x y z : Value) : (w.alloc (.cells #[x, y, z] 40)).heap[w.heap.size]? = some (.cells #[x, y, z] 40 (0, 0)) := heap_alloc_new w _
set_option maxRecDepth 100000 in
set_option maxHeartbeats 4000000 in
theorem copied_any (fr to : Int) (dv : Value) (b : List (BitVec 8)) (w : World) (hd : DataAt w dv b) (hb : b.length ≤ 10000000) : Calls Try.prog 36 #[.agg #[.int .i64 fr, .int .i64 to, dv]] w fun e w' => ∃ v, e = .returned (.agg #[.int .i64 fr, .int .i64 to, v]) ∧ DataAt w' v b ∧ Below w.heap.size w w' := by
  have b1 := (Below.refl w.heap.size w).alloc (Nat.le_refl _) (.cells #[.int .i64 fr, .int .i64 to, dv] 40)
  have b2 := b1.alloc (by simp) (.cells #[.int .i64 0, .int .i64 0, .slice none 0 0] 40)
  have r1 := row3 w (.int .i64 fr) (.int .i64 to) dv
  have r2 := row3 (w.alloc (.cells #[.int .i64 fr, .int .i64 to, dv] 40)) (.int .i64 0) (.int .i64 0) (.slice none 0 0)
  have r1' := (((Below.refl _ (w.alloc (.cells #[.int .i64 fr, .int .i64 to, dv] 40))).alloc (Nat.le_refl _) (.cells #[.int .i64 0, .int .i64 0, .slice none 0 0] 40)).block w.heap.size (by simp)).trans r1
  rw [show (w.alloc (.cells #[.int .i64 fr, .int .i64 to, dv] 40)).heap.size = w.heap.size + 1 by simp] at r2
  have hd2 := hd.below b2
  obtain ⟨wA, eA⟩ : ∃ wA, (w.alloc (.cells #[.int .i64 fr, .int .i64 to, dv] 40)).alloc (.cells #[.int .i64 0, .int .i64 0, .slice none 0 0] 40) = wA := ⟨_, rfl⟩
  rw [eA] at r1' r2 hd2 b2
  obtain ⟨a, c, rfl, s, hnil, u⟩ := hd2
  have HC := clone_any a b.length c b wA s hnil (by omega)
  have c2 : wA.cell? ⟨w.heap.size, 2, none⟩ = some (.slice a b.length c) := by unfold World.cell?; simp only [r1']; rfl
  have R1 : Hid (wA.heap[w.heap.size]? = some (.cells #[.int .i64 fr, .int .i64 to, .slice a b.length c] 40 (0, 0))) := r1'
  have R2 : Hid (wA.heap[w.heap.size + 1]? = some (.cells #[.int .i64 0, .int .i64 0, .slice none 0 0] 40 (0, 0))) := r2
  have BA : Hid (Below w.heap.size w wA) := b2
  have HB : Hid (b.length ≤ 10000000) := hb
  clear r1 r1' r2 b1 b2 hd u s hnil hb
  go_enter Try.func36, Try.ntmps36
  go_wp2_with (first | (rw [eA]) | fail)
  try rw [eA]
  refine HC.mono ?_
  rintro e w1 ⟨v, rfl, o1, bb⟩
  have d1 := dataAt_owned o1 rfl (by have := HB.out; omega)
  have R1' : Hid (w1.heap[w.heap.size]? = some (.cells #[.int .i64 fr, .int .i64 to, .slice a b.length c] 40 (0, 0))) := (bb.block _ (Array.getElem?_eq_some_iff.1 R1.out).1).trans R1.out
  have R2' : Hid (w1.heap[w.heap.size + 1]? = some (.cells #[.int .i64 0, .int .i64 0, .slice none 0 0] 40 (0, 0))) := (bb.block _ (Array.getElem?_eq_some_iff.1 R2.out).1).trans R2.out
  obtain ⟨a', c', rfl, s', n', u'⟩ := d1
  have DD : Hid (DataAt w1 (.slice a' b.length c') b) := ⟨a', c', rfl, s', n', u'⟩
  have BB : Hid (Below w.heap.size w w1) := BA.out.trans (bb.mono BA.out.size)
  have q2 : w1.cell? ⟨w.heap.size, 2, none⟩ = some (.slice a b.length c) := by have := R1'.out; unfold World.cell?; simp only [this]; rfl
  have f2 : w1.frozen? ⟨w.heap.size, 2, none⟩ = false := by have := R1'.out; simp [World.frozen?, this]
  have h1 : (w1.setCell ⟨w.heap.size, 2, none⟩ (.slice a' b.length c')).heap[w.heap.size]? = some (.cells #[.int .i64 fr, .int .i64 to, .slice a' b.length c'] 40 (0, 0)) := by
    have := blockN_put R1'.out 2 (.slice a' b.length c')
    simpa using this
  have h2 : (w1.setCell ⟨w.heap.size, 2, none⟩ (.slice a' b.length c')).heap[w.heap.size + 1]? = some (.cells #[.int .i64 0, .int .i64 0, .slice none 0 0] 40 (0, 0)) := by
    rw [Below.heap_setCell _ _ _ _ (fun e => by simp at e)]
    exact R2'.out
  have H1 : Hid _ := h1
  have H2 : Hid _ := h2
  clear HC c2 R1 R2 o1 bb s' n' u' h1 h2 BA
  go_wp2_with (first | (refine wpList_load_row rfl 40 (.tmp 1) rfl w.heap.size rfl 40 #[.int .i64 fr, .int .i64 to, .slice a' b.length c'] (0, 0) _ H1.out Try.underlying40 rfl (by kernel_rfl) ?_) | (refine wpList_store_row rfl 40 (.tmp 2) (.tmp 7) rfl (w.heap.size + 1) #[.int .i64 fr, .int .i64 to, .slice a' b.length c'] rfl rfl 40 _ H2.out (by kernel_rfl) rfl (by simp [Value.oneCell']) ?_))
  refine bodyPost_ret (results_cell_row rfl _ _ (w.heap.size + 1) 40 _ _ _ rfl (setRow_heap _ _ _ _ _ _ H2.out) Try.underlying40 rfl (by kernel_rfl)) rfl ⟨_, rfl, ?_, rowN_below (BB.out.setCell (by simp) _) (by omega)⟩
  refine DD.out.keep fun g ⟨cs, z, e⟩ => ?_
  have n1 : g ≠ w.heap.size := fun eq => by
    rw [eq, R1'.out] at e
    injection e with e
    injection e with _ e _
    exact absurd e (by decide)
  have n2 : g ≠ w.heap.size + 1 := fun eq => by
    rw [eq, R2'.out] at e
    injection e with e
    injection e with _ e _
    exact absurd e (by decide)
  rw [setRow_other _ _ _ _ n2, Below.heap_setCell _ _ _ _ (fun e => n1 (by simpa using e))]
end Go.Proofs.Ytginkikkenegkaa
