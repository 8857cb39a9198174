/- The law's result. -/
import Derived.Test.YtbilnleglnbnlaaXRows
import Derived.Test.YtbilnleglnbnlaaXOut
namespace Go.Proofs.Ytbilnleglnbnlaa
open Go.RowKit
attribute [local go_sem] Oper.semAt_some
set_option linter.unusedVariables false

theorem one_cell_own {w : World} {base : Nat} {v : Value} {n : Nat} {xs : List Value} {t : TypeId} {s : Nat} (h : w.ownsRow base t s v n xs) : ∃ a c, v = .slice a n c := by
  obtain ⟨a, c, e, _⟩ := row_form h
  exact ⟨a, c, e⟩
set_option maxRecDepth 100000 in
set_option maxHeartbeats 4000000 in
theorem resultX_any (y : Int) (wt : Bool) (r1 r2 : Int) (qa : Option Addr) (qc : Nat) (rows : List (ByteArray × Int)) (ea : Option Addr) (ec : Nat) (el : List (BitVec 8)) (w : World) (hr : RowsX w qa rows.length rows) (hq : qa = none → qc = 0) (hz : rows.length * 24 ≤ 140737488355328) (hs : Seen w ea el.length el) (he : ea = none → ec = 0) (hm : el.length ≤ 140737488351232) :
    Calls Try.prog 11 #[.agg #[.int .i64 y, .bool wt, .int .i64 r1, .int .i64 r2, .slice qa rows.length qc, .slice ea el.length ec]] w fun e w' => ∃ u4 u6, e = .returned (.agg #[.int .i64 y, .bool wt, .int .i64 r1, .int .i64 r2, u4, u6]) ∧ Below w.heap.size w w' := by
  have b3 : Below w.heap.size w (((w.alloc (.cells #[.int .i64 y, .bool wt, .int .i64 r1, .int .i64 r2, .slice qa rows.length qc, .slice ea el.length ec] 35)).alloc (.cells #[.int .i64 0, .bool false, .int .i64 0, .int .i64 0, .slice none 0 0, .slice none 0 0] 53)).alloc (.cells #[.int .i64 y, .bool wt, .int .i64 r1, .int .i64 r2, .slice none 0 0, .slice none 0 0] 53)) := (((Below.refl _ w).alloc (Nat.le_refl _) _).alloc (by simp) _).alloc (by simp; omega) _
  have q1 : (((w.alloc (.cells #[.int .i64 y, .bool wt, .int .i64 r1, .int .i64 r2, .slice qa rows.length qc, .slice ea el.length ec] 35)).alloc (.cells #[.int .i64 0, .bool false, .int .i64 0, .int .i64 0, .slice none 0 0, .slice none 0 0] 53)).alloc (.cells #[.int .i64 y, .bool wt, .int .i64 r1, .int .i64 r2, .slice none 0 0, .slice none 0 0] 53)).heap[w.heap.size]? = some (.cells #[.int .i64 y, .bool wt, .int .i64 r1, .int .i64 r2, .slice qa rows.length qc, .slice ea el.length ec] 35 (0, 0)) := by rw [Below.heap_alloc _ _ _ (by simp; omega), Below.heap_alloc _ _ _ (by simp), heap_alloc_new]
  have q2 : (((w.alloc (.cells #[.int .i64 y, .bool wt, .int .i64 r1, .int .i64 r2, .slice qa rows.length qc, .slice ea el.length ec] 35)).alloc (.cells #[.int .i64 0, .bool false, .int .i64 0, .int .i64 0, .slice none 0 0, .slice none 0 0] 53)).alloc (.cells #[.int .i64 y, .bool wt, .int .i64 r1, .int .i64 r2, .slice none 0 0, .slice none 0 0] 53)).heap[w.heap.size + 1]? = some (.cells #[.int .i64 0, .bool false, .int .i64 0, .int .i64 0, .slice none 0 0, .slice none 0 0] 53 (0, 0)) := by rw [Below.heap_alloc _ _ _ (by simp), heap_two]
  have q3 : (((w.alloc (.cells #[.int .i64 y, .bool wt, .int .i64 r1, .int .i64 r2, .slice qa rows.length qc, .slice ea el.length ec] 35)).alloc (.cells #[.int .i64 0, .bool false, .int .i64 0, .int .i64 0, .slice none 0 0, .slice none 0 0] 53)).alloc (.cells #[.int .i64 y, .bool wt, .int .i64 r1, .int .i64 r2, .slice none 0 0, .slice none 0 0] 53)).heap[w.heap.size + 2]? = some (.cells #[.int .i64 y, .bool wt, .int .i64 r1, .int .i64 r2, .slice none 0 0, .slice none 0 0] 53 (0, 0)) := heap_three w _ _ _
  obtain ⟨v4, w4, hrun, hown, hb4⟩ := run_append_rowsX (((w.alloc (.cells #[.int .i64 y, .bool wt, .int .i64 r1, .int .i64 r2, .slice qa rows.length qc, .slice ea el.length ec] 35)).alloc (.cells #[.int .i64 0, .bool false, .int .i64 0, .int .i64 0, .slice none 0 0, .slice none 0 0] 53)).alloc (.cells #[.int .i64 y, .bool wt, .int .i64 r1, .int .i64 r2, .slice none 0 0, .slice none 0 0] 53)) qa rows.length qc rows (hr.below b3) hq hz
  obtain ⟨a4, c4, rfl⟩ := one_cell_own hown
  have l3 := (Array.getElem?_eq_some_iff.1 q3).1
  have p1 := (hb4.block _ (by omega)).trans q1
  have p2 := (hb4.block _ (by omega)).trans q2
  have p3 := (hb4.block _ l3).trans q3
  have bw4 : Below w.heap.size w w4 := b3.trans (hb4.mono b3.size)
  have b5 : Below w.heap.size w (w4.setCell ⟨w.heap.size + 2, 4, none⟩ (.slice a4 rows.length c4)) := bw4.setCell (by show _ ≤ w.heap.size + 2; omega) _
  have s1 := (Below.heap_setCell w4 ⟨w.heap.size + 2, 4, none⟩ (.slice a4 rows.length c4) w.heap.size (by show w.heap.size ≠ w.heap.size + 2; omega)).trans p1
  have s2 := (Below.heap_setCell w4 ⟨w.heap.size + 2, 4, none⟩ (.slice a4 rows.length c4) (w.heap.size + 1) (by show w.heap.size + 1 ≠ w.heap.size + 2; omega)).trans p2
  have s3 : (w4.setCell ⟨w.heap.size + 2, 4, none⟩ (.slice a4 rows.length c4)).heap[w.heap.size + 2]? = some (.cells #[.int .i64 y, .bool wt, .int .i64 r1, .int .i64 r2, .slice a4 rows.length c4, .slice none 0 0] 53 (0, 0)) := set_of3 p3
  obtain ⟨v6, w6, hrun6, hown6, hb6⟩ := run_append_nilX (w4.setCell ⟨w.heap.size + 2, 4, none⟩ (.slice a4 rows.length c4)) ea el.length ec el (hs.below b5) he (by omega)
  obtain ⟨a6, c6, rfl⟩ := one_cell_own hown6
  have l5 := (Array.getElem?_eq_some_iff.1 s3).1
  have t2 := (hb6.block _ (by omega)).trans s2
  have t3 := (hb6.block _ l5).trans s3
  have b6 : Below w.heap.size w w6 := b5.trans (hb6.mono b5.size)
  have b7 : Below w.heap.size w (w6.setCell ⟨w.heap.size + 2, 5, none⟩ (.slice a6 el.length c6)) := b6.setCell (by show _ ≤ w.heap.size + 2; omega) _
  have u2 := (Below.heap_setCell w6 ⟨w.heap.size + 2, 5, none⟩ (.slice a6 el.length c6) (w.heap.size + 1) (by show w.heap.size + 1 ≠ w.heap.size + 2; omega)).trans t2
  have u3 : (w6.setCell ⟨w.heap.size + 2, 5, none⟩ (.slice a6 el.length c6)).heap[w.heap.size + 2]? = some (.cells #[.int .i64 y, .bool wt, .int .i64 r1, .int .i64 r2, .slice a4 rows.length c4, .slice a6 el.length c6] 53 (0, 0)) := set_of3 t3
  obtain ⟨V3, eV3⟩ : ∃ V3, (((w.alloc (.cells #[.int .i64 y, .bool wt, .int .i64 r1, .int .i64 r2, .slice qa rows.length qc, .slice ea el.length ec] 35)).alloc (.cells #[.int .i64 0, .bool false, .int .i64 0, .int .i64 0, .slice none 0 0, .slice none 0 0] 53)).alloc (.cells #[.int .i64 y, .bool wt, .int .i64 r1, .int .i64 r2, .slice none 0 0, .slice none 0 0] 53)) = V3 := ⟨_, rfl⟩
  rw [eV3] at q1 q2 q3 hrun
  have EV3 : Hid (_ = V3) := eV3
  have c34 : V3.cell? ⟨w.heap.size + 2, 4, none⟩ = some (.slice none 0 0) := by simp only [World.cell?, q3]; rfl
  have c14 : V3.cell? ⟨w.heap.size, 4, none⟩ = some (.slice qa rows.length qc) := by simp only [World.cell?, q1]; rfl
  have d4 : w4.cell? ⟨w.heap.size + 2, 4, none⟩ = some (.slice none 0 0) := by simp only [World.cell?, p3]; rfl
  have f4 : w4.frozen? ⟨w.heap.size + 2, 4, none⟩ = false := by simp only [World.frozen?, p3]; rfl
  have c55 : (w4.setCell ⟨w.heap.size + 2, 4, none⟩ (.slice a4 rows.length c4)).cell? ⟨w.heap.size + 2, 5, none⟩ = some (.slice none 0 0) := by simp only [World.cell?, s3]; rfl
  have c15 : (w4.setCell ⟨w.heap.size + 2, 4, none⟩ (.slice a4 rows.length c4)).cell? ⟨w.heap.size, 5, none⟩ = some (.slice ea el.length ec) := by simp only [World.cell?, s1]; rfl
  have d6 : w6.cell? ⟨w.heap.size + 2, 5, none⟩ = some (.slice none 0 0) := by simp only [World.cell?, t3]; rfl
  have f6 : w6.frozen? ⟨w.heap.size + 2, 5, none⟩ = false := by simp only [World.frozen?, t3]; rfl
  have HR : Hid _ := hrun
  have HR6 : Hid _ := hrun6
  have U2 : Hid _ := u2
  have U3 : Hid _ := u3
  have B7 : Hid _ := b7
  clear eV3
  clear b3 q1 q2 q3 hrun hown hb4 l3 p1 p2 p3 bw4 b5 s1 s2 s3 hrun6 hown6 hb6 l5 t2 t3 b6 b7 u2 u3 hr hq hz hs he hm
  generalize rows.length = rn at *
  generalize el.length = en at *
  go_enter Try.func11, Try.ntmps11
  repeat
    (fail_if_success (guard_target =~ (Code.region 2 _ _).wp _ _ _ _)
     first | go_values | go_skip | go_guarded | go_step | go_upon | go_back)
  rw [show _ = V3 from EV3.out]
  simp only [show w.heap.size + 1 + 1 = w.heap.size + 2 from rfl]
  clear EV3
  go_wp2_with (first
    | (refine wpList_append_known rfl (.tmp 18) (.tmp 21) 31 31 rfl (.slice none 0 0) (.slice qa rn qc) rfl rfl (.slice a4 rn c4) w4 HR.out ?_)
    | (refine wpList_append_known rfl (.tmp 26) (.tmp 28) 26 26 rfl (.slice none 0 0) (.slice ea en ec) rfl rfl (.slice a6 en c6) w6 HR6.out ?_)
    | (refine wpList_load_row rfl 53 (.tmp 3) rfl (w.heap.size + 2) rfl 53 #[.int .i64 y, .bool wt, .int .i64 r1, .int .i64 r2, .slice a4 rn c4, .slice a6 en c6] (0, 0) _ U3.out Try.underlying53 rfl (by kernel_rfl) ?_)
    | (refine wpList_store_row rfl 53 (.tmp 2) (.tmp 31) rfl (w.heap.size + 1) #[.int .i64 y, .bool wt, .int .i64 r1, .int .i64 r2, .slice a4 rn c4, .slice a6 en c6] rfl rfl 53 _ U2.out (by kernel_rfl) rfl (by simp [Value.oneCell']) ?_))
  exact bodyPost_ret (results_cell_row rfl _ _ (w.heap.size + 1) 53 _ _ _ rfl (setRow_selfX U2.out) Try.underlying53 rfl (by kernel_rfl)) rfl ⟨_, _, rfl, below_rowX B7.out (by omega) _⟩
end Go.Proofs.Ytbilnleglnbnlaa
