/- The law's result. -/
import Derived.Test.YtogbcciocgpknaaTaO
import Derived.Test.YtogbcciocgpknaaTaQ
import Derived.Test.YtogbcciocgpknaaXGa
import Derived.Test.YtogbcciocgpknaaTaG
import Derived.Great.BuildSlice
import Derived.WalkSmall
namespace Go.Proofs.Ytogbcciocgpknaa
open Go.RowKit
attribute [local go_sem] Oper.semAt_some
set_option linter.unusedVariables false

theorem one_cell_own {w : World} {base : Nat} {v : Value} {n : Nat} {xs : List Value} {t : TypeId} {s : Nat} (h : w.ownsRow base t s v n xs) : ∃ a c, v = .slice a n c := by
  obtain ⟨a, c, e, _⟩ := row_form h
  exact ⟨a, c, e⟩
set_option maxRecDepth 100000 in
set_option maxHeartbeats 4000000 in
theorem resultX_any (y : Int) (wt : Bool) (r1 r2 : Int) (qa : Option Addr) (qc : Nat) (rows : List (ByteArray × Int)) (ea : Option Addr) (ec : Nat) (el : List (BitVec 8)) (w : World) (hr : RowsX w qa rows.length rows) (hq : qa = none → qc = 0) (hz : rows.length * 24 ≤ 140737488355328) (hs : Seen w ea el.length el) (he : ea = none → ec = 0) (hm : el.length ≤ 140737488351232) :
    Calls Try.prog 8 #[.agg #[.int .i64 y, .bool wt, .int .i64 r1, .int .i64 r2, .slice qa rows.length qc, .slice ea el.length ec]] w fun e w' => ∃ u4 u6, e = .returned (.agg #[.int .i64 y, .bool wt, .int .i64 r1, .int .i64 r2, u4, u6]) ∧ Below w.heap.size w w' := by
  have b3 : Below w.heap.size w (((w.alloc (.cells #[.int .i64 y, .bool wt, .int .i64 r1, .int .i64 r2, .slice qa rows.length qc, .slice ea el.length ec] 34)).alloc (.cells #[.int .i64 0, .bool false, .int .i64 0, .int .i64 0, .slice none 0 0, .slice none 0 0] 43)).alloc (.cells #[.int .i64 y, .bool wt, .int .i64 r1, .int .i64 r2, .slice none 0 0, .slice none 0 0] 43)) := (((Below.refl _ w).alloc (Nat.le_refl _) _).alloc (by simp) _).alloc (by simp; omega) _
  have q1 : (((w.alloc (.cells #[.int .i64 y, .bool wt, .int .i64 r1, .int .i64 r2, .slice qa rows.length qc, .slice ea el.length ec] 34)).alloc (.cells #[.int .i64 0, .bool false, .int .i64 0, .int .i64 0, .slice none 0 0, .slice none 0 0] 43)).alloc (.cells #[.int .i64 y, .bool wt, .int .i64 r1, .int .i64 r2, .slice none 0 0, .slice none 0 0] 43)).heap[w.heap.size]? = some (.cells #[.int .i64 y, .bool wt, .int .i64 r1, .int .i64 r2, .slice qa rows.length qc, .slice ea el.length ec] 34 (0, 0)) := by rw [Below.heap_alloc _ _ _ (by simp; omega), Below.heap_alloc _ _ _ (by simp), heap_alloc_new]
  have q2 : (((w.alloc (.cells #[.int .i64 y, .bool wt, .int .i64 r1, .int .i64 r2, .slice qa rows.length qc, .slice ea el.length ec] 34)).alloc (.cells #[.int .i64 0, .bool false, .int .i64 0, .int .i64 0, .slice none 0 0, .slice none 0 0] 43)).alloc (.cells #[.int .i64 y, .bool wt, .int .i64 r1, .int .i64 r2, .slice none 0 0, .slice none 0 0] 43)).heap[w.heap.size + 1]? = some (.cells #[.int .i64 0, .bool false, .int .i64 0, .int .i64 0, .slice none 0 0, .slice none 0 0] 43 (0, 0)) := by rw [Below.heap_alloc _ _ _ (by simp), heap_two]
  have q3 : (((w.alloc (.cells #[.int .i64 y, .bool wt, .int .i64 r1, .int .i64 r2, .slice qa rows.length qc, .slice ea el.length ec] 34)).alloc (.cells #[.int .i64 0, .bool false, .int .i64 0, .int .i64 0, .slice none 0 0, .slice none 0 0] 43)).alloc (.cells #[.int .i64 y, .bool wt, .int .i64 r1, .int .i64 r2, .slice none 0 0, .slice none 0 0] 43)).heap[w.heap.size + 2]? = some (.cells #[.int .i64 y, .bool wt, .int .i64 r1, .int .i64 r2, .slice none 0 0, .slice none 0 0] 43 (0, 0)) := heap_three w _ _ _
  obtain ⟨v4, w4, hrun, hown, hb4⟩ := run_append_rowsX (((w.alloc (.cells #[.int .i64 y, .bool wt, .int .i64 r1, .int .i64 r2, .slice qa rows.length qc, .slice ea el.length ec] 34)).alloc (.cells #[.int .i64 0, .bool false, .int .i64 0, .int .i64 0, .slice none 0 0, .slice none 0 0] 43)).alloc (.cells #[.int .i64 y, .bool wt, .int .i64 r1, .int .i64 r2, .slice none 0 0, .slice none 0 0] 43)) qa rows.length qc rows (hr.below b3) hq hz
  obtain ⟨a4, c4, rfl⟩ := one_cell_own hown
  have l3 := (Array.getElem?_eq_some_iff.1 q3).1
  have p1 := (hb4.block _ (by omega)).trans q1
  have p2 := (hb4.block _ (by omega)).trans q2
  have p3 := (hb4.block _ l3).trans q3
  have bw4 : Below w.heap.size w w4 := b3.trans (hb4.mono b3.size)
  have b5 : Below w.heap.size w (w4.setCell ⟨w.heap.size + 2, 4, none⟩ (.slice a4 rows.length c4)) := bw4.setCell (by show _ ≤ w.heap.size + 2; omega) _
  have s1 := (Below.heap_setCell w4 ⟨w.heap.size + 2, 4, none⟩ (.slice a4 rows.length c4) w.heap.size (by show w.heap.size ≠ w.heap.size + 2; omega)).trans p1
  have s2 := (Below.heap_setCell w4 ⟨w.heap.size + 2, 4, none⟩ (.slice a4 rows.length c4) (w.heap.size + 1) (by show w.heap.size + 1 ≠ w.heap.size + 2; omega)).trans p2
  have s3 : (w4.setCell ⟨w.heap.size + 2, 4, none⟩ (.slice a4 rows.length c4)).heap[w.heap.size + 2]? = some (.cells #[.int .i64 y, .bool wt, .int .i64 r1, .int .i64 r2, .slice a4 rows.length c4, .slice none 0 0] 43 (0, 0)) := set_of3 p3
  obtain ⟨v6, w6, hrun6, hown6, hb6⟩ := run_append_nilX (w4.setCell ⟨w.heap.size + 2, 4, none⟩ (.slice a4 rows.length c4)) ea el.length ec el (hs.below b5) he (by omega)
  obtain ⟨a6, c6, rfl⟩ := one_cell_own hown6
  have l5 := (Array.getElem?_eq_some_iff.1 s3).1
  have t2 := (hb6.block _ (by omega)).trans s2
  have t3 := (hb6.block _ l5).trans s3
  have b6 : Below w.heap.size w w6 := b5.trans (hb6.mono b5.size)
  have b7 : Below w.heap.size w (w6.setCell ⟨w.heap.size + 2, 5, none⟩ (.slice a6 el.length c6)) := b6.setCell (by show _ ≤ w.heap.size + 2; omega) _
  have u2 := (Below.heap_setCell w6 ⟨w.heap.size + 2, 5, none⟩ (.slice a6 el.length c6) (w.heap.size + 1) (by show w.heap.size + 1 ≠ w.heap.size + 2; omega)).trans t2
  have u3 : (w6.setCell ⟨w.heap.size + 2, 5, none⟩ (.slice a6 el.length c6)).heap[w.heap.size + 2]? = some (.cells #[.int .i64 y, .bool wt, .int .i64 r1, .int .i64 r2, .slice a4 rows.length c4, .slice a6 el.length c6] 43 (0, 0)) := set_of3 t3
  obtain ⟨V3, eV3⟩ : ∃ V3, (((w.alloc (.cells #[.int .i64 y, .bool wt, .int .i64 r1, .int .i64 r2, .slice qa rows.length qc, .slice ea el.length ec] 34)).alloc (.cells #[.int .i64 0, .bool false, .int .i64 0, .int .i64 0, .slice none 0 0, .slice none 0 0] 43)).alloc (.cells #[.int .i64 y, .bool wt, .int .i64 r1, .int .i64 r2, .slice none 0 0, .slice none 0 0] 43)) = V3 := ⟨_, rfl⟩
  rw [eV3] at q1 q2 q3 hrun
  have EV3 : Hid (_ = V3) := eV3
  have c34 : V3.cell? ⟨w.heap.size + 2, 4, none⟩ = some (.slice none 0 0) := by simp only [World.cell?, q3]; rfl
  have c14 : V3.cell? ⟨w.heap.size, 4, none⟩ = some (.slice qa rows.length qc) := by simp only [World.cell?, q1]; rfl
  have d4 : w4.cell? ⟨w.heap.size + 2, 4, none⟩ = some (.slice none 0 0) := by simp only [World.cell?, p3]; rfl
  have f4 : w4.frozen? ⟨w.heap.size + 2, 4, none⟩ = false := by simp only [World.frozen?, p3]; rfl
  have c55 : (w4.setCell ⟨w.heap.size + 2, 4, none⟩ (.slice a4 rows.length c4)).cell? ⟨w.heap.size + 2, 5, none⟩ = some (.slice none 0 0) := by simp only [World.cell?, s3]; rfl
  have c15 : (w4.setCell ⟨w.heap.size + 2, 4, none⟩ (.slice a4 rows.length c4)).cell? ⟨w.heap.size, 5, none⟩ = some (.slice ea el.length ec) := by simp only [World.cell?, s1]; rfl
  have d6 : w6.cell? ⟨w.heap.size + 2, 5, none⟩ = some (.slice none 0 0) := by simp only [World.cell?, t3]; rfl
  have f6 : w6.frozen? ⟨w.heap.size + 2, 5, none⟩ = false := by simp only [World.frozen?, t3]; rfl
  have HR : Hid _ := hrun
  have HR6 : Hid _ := hrun6
  have U2 : Hid _ := u2
  have U3 : Hid _ := u3
  have B7 : Hid _ := b7
  clear eV3
  clear b3 q1 q2 q3 hrun hown hb4 l3 p1 p2 p3 bw4 b5 s1 s2 s3 hrun6 hown6 hb6 l5 t2 t3 b6 b7 u2 u3 hr hq hz hs he hm
  generalize rows.length = rn at *
  generalize el.length = en at *
  go_enter Try.func8, Try.ntmps8
  repeat
    (fail_if_success (guard_target =~ (Code.region 2 _ _).wp _ _ _ _)
     first | go_values | go_skip | go_guarded | go_step | go_upon | go_back)
  rw [show _ = V3 from EV3.out]
  simp only [show w.heap.size + 1 + 1 = w.heap.size + 2 from rfl]
  clear EV3
  go_wp2_with (first
    | (refine wpList_append_known rfl (.tmp 18) (.tmp 21) 30 30 rfl (.slice none 0 0) (.slice qa rn qc) rfl rfl (.slice a4 rn c4) w4 HR.out ?_)
    | (refine wpList_append_known rfl (.tmp 26) (.tmp 28) 25 25 rfl (.slice none 0 0) (.slice ea en ec) rfl rfl (.slice a6 en c6) w6 HR6.out ?_)
    | (refine wpList_load_row rfl 43 (.tmp 3) rfl (w.heap.size + 2) rfl 43 #[.int .i64 y, .bool wt, .int .i64 r1, .int .i64 r2, .slice a4 rn c4, .slice a6 en c6] (0, 0) _ U3.out Try.underlying43 rfl (by kernel_rfl) ?_)
    | (refine wpList_store_row rfl 43 (.tmp 2) (.tmp 31) rfl (w.heap.size + 1) #[.int .i64 y, .bool wt, .int .i64 r1, .int .i64 r2, .slice a4 rn c4, .slice a6 en c6] rfl rfl 43 _ U2.out (by kernel_rfl) rfl (by simp [Value.oneCell']) ?_))
  exact bodyPost_ret (results_cell_row rfl _ _ (w.heap.size + 1) 43 _ _ _ rfl (setRow_selfX U2.out) Try.underlying43 rfl (by kernel_rfl)) rfl ⟨_, _, rfl, below_rowX B7.out (by omega) _⟩
end Go.Proofs.Ytogbcciocgpknaa

namespace Go.Proofs.Ytogbcciocgpknaa
open Go.RowKit
attribute [local go_sem] Oper.semAt_some
set_option linter.unusedVariables false
set_option maxRecDepth 100000 in
set_option maxHeartbeats 4000000 in
theorem toldX_any (y : Int) (wt : Bool) (r1 r2 : Int) (qa : Option Addr) (qn qc : Nat) (ea : Option Addr) (en ec : Nat) (w : World) :
    Calls Try.prog 18 #[.agg #[.int .i64 y, .bool wt, .int .i64 r1, .int .i64 r2, .slice qa qn qc, .slice ea en ec]] w fun e w' => e = .returned (.agg #[.int .i64 y, .bool wt, .int .i64 r1, .int .i64 r2, .slice qa qn qc, .slice ea en ec]) ∧ Below w.heap.size w w' := by
  have bA : Below w.heap.size w ((w.alloc (.cells #[.int .i64 y, .bool wt, .int .i64 r1, .int .i64 r2, .slice qa qn qc, .slice ea en ec] 43)).alloc (.cells #[.int .i64 0, .bool false, .int .i64 0, .int .i64 0, .slice none 0 0, .slice none 0 0] 34)) := ((Below.refl _ w).alloc (Nat.le_refl _) _).alloc (by simp) _
  have q2 := heap_two w (.cells #[.int .i64 y, .bool wt, .int .i64 r1, .int .i64 r2, .slice qa qn qc, .slice ea en ec] 43) (.cells #[.int .i64 0, .bool false, .int .i64 0, .int .i64 0, .slice none 0 0, .slice none 0 0] 34)
  have q1 : ((w.alloc (.cells #[.int .i64 y, .bool wt, .int .i64 r1, .int .i64 r2, .slice qa qn qc, .slice ea en ec] 43)).alloc (.cells #[.int .i64 0, .bool false, .int .i64 0, .int .i64 0, .slice none 0 0, .slice none 0 0] 34)).heap[w.heap.size]? = some (.cells #[.int .i64 y, .bool wt, .int .i64 r1, .int .i64 r2, .slice qa qn qc, .slice ea en ec] 43 (0, 0)) := by rw [Below.heap_alloc _ _ _ (by simp), heap_alloc_new]
  have hOp : ((w.alloc (.cells #[.int .i64 y, .bool wt, .int .i64 r1, .int .i64 r2, .slice qa qn qc, .slice ea en ec] 43)).alloc (.cells #[.int .i64 0, .bool false, .int .i64 0, .int .i64 0, .slice none 0 0, .slice none 0 0] 34)).rangeAt w.heap.size 2 [.int .i64 r1, .int .i64 r2, .slice qa qn qc] := fun j v hv => by
    simp only [World.cell?, q1]
    match j, hv with
    | 0, hv => exact hv
    | 1, hv => exact hv
    | 2, hv => exact hv
  have HOp : Hid _ := hOp
  have Q2 : Hid _ := q2
  have BA : Hid _ := bA
  clear q1 q2 bA hOp
  go_enter Try.func18, Try.ntmps18
  go_wp2_with (first
    | (refine wpList_load_mid rfl 32 (.tmp 7) rfl w.heap.size 2 rfl [.int .i64 r1, .int .i64 r2, .slice qa qn qc] _ HOp.out Try.underlying32 rfl (by kernel_rfl) ?_)
    | (refine wpList_buildTo rfl 34 _ rfl (some 11) rfl #[.int .i64 y, .bool wt, .int .i64 r1, .int .i64 r2, .slice qa qn qc, .slice ea en ec] (by kernel_rfl) ?_)
    | (refine wpList_store_row rfl 34 (.tmp 2) (.tmp 11) rfl (w.heap.size + 1) #[.int .i64 y, .bool wt, .int .i64 r1, .int .i64 r2, .slice qa qn qc, .slice ea en ec] rfl rfl 34 _ Q2.out (by kernel_rfl) rfl (by simp [Value.oneCell']) ?_))
  exact bodyPost_ret (results_cell_row rfl _ _ (w.heap.size + 1) 34 _ _ _ rfl (setRow_selfX Q2.out) Try.underlying34 rfl (by kernel_rfl)) rfl ⟨rfl, below_rowX BA.out (by omega) _⟩
set_option maxRecDepth 100000 in
set_option maxHeartbeats 8000000 in
theorem sameRes_any (y : Int) (wt : Bool) (r1 r2 : Int) (qa : Option Addr) (qc : Nat) (qb : Option Addr) (qd : Nat) (rows : List (ByteArray × Int)) (ea : Option Addr) (ec : Nat) (eb : Option Addr) (ed : Nat) (el : List (BitVec 8)) (w : World) (g1 : RowsAt w qa rows.length rows) (g2 : RowsAt w qb rows.length rows) (h1 : Seen w ea el.length el) (h2 : Seen w eb el.length el) :
    Calls Try.prog 17 #[.agg #[.int .i64 y, .bool wt, .int .i64 r1, .int .i64 r2, .slice qa rows.length qc, .slice ea el.length ec], .agg #[.int .i64 y, .bool wt, .int .i64 r1, .int .i64 r2, .slice qb rows.length qd, .slice eb el.length ed]] w fun e w' => e = .returned (.bool true) ∧ Below w.heap.size w w' := by
  have bA : Below w.heap.size w ((w.alloc (.cells #[.int .i64 y, .bool wt, .int .i64 r1, .int .i64 r2, .slice qa rows.length qc, .slice ea el.length ec] 34)).alloc (.cells #[.int .i64 y, .bool wt, .int .i64 r1, .int .i64 r2, .slice qb rows.length qd, .slice eb el.length ed] 34)) := ((Below.refl _ w).alloc (Nat.le_refl _) _).alloc (by simp) _
  have HS := sameReply_any qa qb rows.length qc rows.length qd rows rows r1 r2 r1 r2 ((w.alloc (.cells #[.int .i64 y, .bool wt, .int .i64 r1, .int .i64 r2, .slice qa rows.length qc, .slice ea el.length ec] 34)).alloc (.cells #[.int .i64 y, .bool wt, .int .i64 r1, .int .i64 r2, .slice qb rows.length qd, .slice eb el.length ed] 34)) (g1.below bA) (g2.below bA)
  rw [show decide (r1 = r1 ∧ r2 = r2 ∧ rows = rows) = true by simp] at HS
  have BA : Hid _ := bA
  have H1 : Hid (Seen w ea el.length el) := h1
  have H2 : Hid (Seen w eb el.length el) := h2
  have A0 := heap_two w (.cells #[.int .i64 y, .bool wt, .int .i64 r1, .int .i64 r2, .slice qa rows.length qc, .slice ea el.length ec] 34) (.cells #[.int .i64 y, .bool wt, .int .i64 r1, .int .i64 r2, .slice qb rows.length qd, .slice eb el.length ed] 34)
  have A1 : ((w.alloc (.cells #[.int .i64 y, .bool wt, .int .i64 r1, .int .i64 r2, .slice qa rows.length qc, .slice ea el.length ec] 34)).alloc (.cells #[.int .i64 y, .bool wt, .int .i64 r1, .int .i64 r2, .slice qb rows.length qd, .slice eb el.length ed] 34)).heap[w.heap.size]? = some (.cells #[.int .i64 y, .bool wt, .int .i64 r1, .int .i64 r2, .slice qa rows.length qc, .slice ea el.length ec] 34 (0, 0)) := by rw [Below.heap_alloc _ _ _ (by simp), heap_alloc_new]
  have P0 : Hid _ := A0
  have P1 : Hid _ := A1
  clear bA g1 g2 h1 h2 A0 A1
  go_enter Try.func17, Try.ntmps17
  go_wp2_with fail
  refine HS.mono ?_
  clear HS
  generalize (w.alloc (.cells #[.int .i64 y, .bool wt, .int .i64 r1, .int .i64 r2, .slice qa rows.length qc, .slice ea el.length ec] 34)).alloc (.cells #[.int .i64 y, .bool wt, .int .i64 r1, .int .i64 r2, .slice qb rows.length qd, .slice eb el.length ed] 34) = V at *
  rintro e w2 ⟨rfl, b2⟩
  have B2 : Hid (Below w.heap.size w w2) := BA.out.trans (b2.mono BA.out.size)
  have l0 := (Array.getElem?_eq_some_iff.1 P0.out).1
  have l1 := (Array.getElem?_eq_some_iff.1 P1.out).1
  have z0 := (b2.block _ l0).trans P0.out
  have z1 := (b2.block _ l1).trans P1.out
  have c1 : w2.cell? ⟨w.heap.size + 1, 5, none⟩ = some (.slice eb el.length ed) := by simp only [World.cell?, z0]; rfl
  have c0 : w2.cell? ⟨w.heap.size, 5, none⟩ = some (.slice ea el.length ec) := by simp only [World.cell?, z1]; rfl
  have t1 := run_to_text _ ea el.length ec el (H1.out.below B2.out)
  have t2 := run_to_text _ eb el.length ed el (H2.out.below B2.out)
  have t3 := text_self (textOf el)
  clear b2 BA z0 z1 l0 l1 P0 P1 H1 H2
  go_wp2
  go_ret
  exact ⟨rfl, B2.out⟩
end Go.Proofs.Ytogbcciocgpknaa
