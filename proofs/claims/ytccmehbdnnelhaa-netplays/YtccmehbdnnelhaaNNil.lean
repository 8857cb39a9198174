/- Package net: the calls of a net that is not there; Same, as. -/
import Derived.Test.YtccmehbdnnelhaaNKnown
import Derived.Test.YtccmehbdnnelhaaRanges
namespace Go.Proofs.Ytccmehbdnnelhaa
open Go.RowKit Go.Maps
attribute [local go_sem] Oper.semAt_some
set_option linter.unusedVariables false

set_option maxRecDepth 100000 in
set_option maxHeartbeats 1600000 in
theorem look_nilN (k : Int) (w : World) : Calls Try.prog 21 #[.pointer none, .int .i64 k] w fun e w' => e = .returned (.tuple #[.agg #[.int .i64 0, .int .i64 0, .slice none 0 0], .int .i64 2]) ∧ Below w.heap.size w w' := by
  have bA := (Below.refl w.heap.size w).alloc (Nat.le_refl _) (.cells #[.int .i64 0, .int .i64 0, .slice none 0 0] 45)
  have r0 := row3 w (.int .i64 0) (.int .i64 0) (.slice none 0 0)
  obtain ⟨wA, eA⟩ : ∃ wA, w.alloc (.cells #[.int .i64 0, .int .i64 0, .slice none 0 0] 45) = wA := ⟨_, rfl⟩
  rw [eA] at bA r0
  have HF := find_nil k wA
  have R0 : Hid (wA.heap[w.heap.size]? = some (.cells #[.int .i64 0, .int .i64 0, .slice none 0 0] 45 (0, 0))) := r0
  have BA : Hid (Below w.heap.size w wA) := bA
  obtain ⟨S0, eS0⟩ : ∃ S0, w.heap.size = S0 := ⟨_, rfl⟩
  rw [eS0] at R0
  have ES : Hid (w.heap.size = S0) := eS0
  clear bA r0
  go_enter Try.func21, Try.ntmps21
  go_wp2_with (first | (rw [eA]) | fail)
  try rw [eA]
  refine HF.mono ?_
  rintro e w1 ⟨rfl, b1⟩
  clear HF
  try rw [eS0]
  clear eA eS0
  have lt0 := (Array.getElem?_eq_some_iff.1 R0.out).1
  have bS := (Below.refl _ w1).alloc (Nat.le_refl _) (.cells #[.int .i64 0, .int .i64 0] 63)
  have r1 : (w1.alloc (.cells #[.int .i64 0, .int .i64 0] 63)).heap[S0]? = some (.cells #[.int .i64 0, .int .i64 0, .slice none 0 0] 45 (0, 0)) := by
    rw [bS.block S0 (Nat.lt_of_lt_of_le lt0 b1.size), b1.block S0 lt0]
    exact R0.out
  have R1 : Hid _ := r1
  have BS : Hid (Below w.heap.size w (w1.alloc (.cells #[.int .i64 0, .int .i64 0] 63))) := (BA.out.trans (b1.mono BA.out.size)).trans (bS.mono (BA.out.trans (b1.mono BA.out.size)).size)
  clear r1 bS b1 lt0
  go_wp2_with (first | (refine wpList_store_row rfl 45 (.tmp 4) (.tmp 16) rfl S0 #[.int .i64 0, .int .i64 0, .slice none 0 0] rfl rfl 45 _ R1.out (by kernel_rfl) rfl (by simp [Value.oneCell']) ?_))
  exact bodyPost_ret (results_rowN rfl _ _ S0 45 _ _ _ rfl (setRow_heap _ _ _ _ _ _ R1.out) Try.underlying45 rfl (by kernel_rfl)) rfl ⟨rfl, rowN_below BS.out (by rw [← ES.out]; exact Nat.le_refl _)⟩
set_option maxRecDepth 100000 in
set_option maxHeartbeats 1600000 in
theorem take_nilN (k : Int) (w : World) : Calls Try.prog 13 #[.pointer none, .int .i64 k] w fun e w' => e = .returned (.tuple #[.agg #[.int .i64 0, .int .i64 0, .slice none 0 0], .int .i64 2]) ∧ Below w.heap.size w w' := by
  have bA := (Below.refl w.heap.size w).alloc (Nat.le_refl _) (.cells #[.int .i64 0, .int .i64 0, .slice none 0 0] 45)
  have r0 := row3 w (.int .i64 0) (.int .i64 0) (.slice none 0 0)
  obtain ⟨wA, eA⟩ : ∃ wA, w.alloc (.cells #[.int .i64 0, .int .i64 0, .slice none 0 0] 45) = wA := ⟨_, rfl⟩
  rw [eA] at bA r0
  have HF := look_nilN k wA
  have R0 : Hid (wA.heap[w.heap.size]? = some (.cells #[.int .i64 0, .int .i64 0, .slice none 0 0] 45 (0, 0))) := r0
  have BA : Hid (Below w.heap.size w wA) := bA
  obtain ⟨S0, eS0⟩ : ∃ S0, w.heap.size = S0 := ⟨_, rfl⟩
  rw [eS0] at R0
  have ES : Hid (w.heap.size = S0) := eS0
  clear bA r0
  go_enter Try.func13, Try.ntmps13
  go_wp2_with (first | (rw [eA]) | fail)
  try rw [eA]
  refine HF.mono ?_
  rintro e w1 ⟨rfl, b1⟩
  clear HF
  try rw [eS0]
  clear eA eS0
  have lt0 := (Array.getElem?_eq_some_iff.1 R0.out).1
  have bS := (Below.refl _ w1).alloc (Nat.le_refl _) (.cells #[.int .i64 0, .int .i64 0, .slice none 0 0] 45)
  have r1 : (w1.alloc (.cells #[.int .i64 0, .int .i64 0, .slice none 0 0] 45)).heap[S0]? = some (.cells #[.int .i64 0, .int .i64 0, .slice none 0 0] 45 (0, 0)) := by
    rw [bS.block S0 (Nat.lt_of_lt_of_le lt0 b1.size), b1.block S0 lt0]
    exact R0.out
  have R1 : Hid _ := r1
  have BS : Hid (Below w.heap.size w (w1.alloc (.cells #[.int .i64 0, .int .i64 0, .slice none 0 0] 45))) := (BA.out.trans (b1.mono BA.out.size)).trans (bS.mono (BA.out.trans (b1.mono BA.out.size)).size)
  clear r1 bS b1 lt0
  go_wp2_with (first | (refine wpList_store_row rfl 45 (.tmp 4) (.tmp 16) rfl S0 #[.int .i64 0, .int .i64 0, .slice none 0 0] rfl rfl 45 _ R1.out (by kernel_rfl) rfl (by simp [Value.oneCell']) ?_))
  exact bodyPost_ret (results_rowN rfl _ _ S0 45 _ _ _ rfl (setRow_heap _ _ _ _ _ _ R1.out) Try.underlying45 rfl (by kernel_rfl)) rfl ⟨rfl, rowN_below BS.out (by rw [← ES.out]; exact Nat.le_refl _)⟩
theorem len_nilN (w : World) : Calls Try.prog 23 #[.pointer none] w fun e w' => e = .returned (.int .i64 0) ∧ w' = w := by
  go_enter Try.func23, Try.ntmps23
  go_wp2
  go_ret
  exact ⟨rfl, rfl⟩
theorem to_nilN (k : Int) (w : World) : Calls Try.prog 24 #[.pointer none, .int .i64 k] w fun e w' => e = .returned (.int .i64 0) ∧ w' = w := by
  go_enter Try.func24, Try.ntmps24
  go_wp2
  go_ret
  exact ⟨rfl, rfl⟩
theorem send_nilN (fr to : Int) (a : Option Addr) (n c : Nat) (w : World) : Calls Try.prog 9 #[.pointer none, .int .i64 fr, .int .i64 to, .slice a n c] w fun e w' => e = .returned (.int .i64 2) ∧ w' = w := by
  go_enter Try.func9, Try.ntmps9
  go_wp2
  go_ret
  exact ⟨rfl, rfl⟩
set_option maxRecDepth 100000 in
theorem drop_nilN (k : Int) (w : World) : Calls Try.prog 17 #[.pointer none, .int .i64 k] w fun e w' => e = .returned (.int .i64 2) ∧ Below w.heap.size w w' := by
  have HF := find_nil k w
  go_enter Try.func17, Try.ntmps17
  go_wp2_with fail
  refine HF.mono ?_
  rintro e w1 ⟨rfl, b1⟩
  have BS : Hid (Below w.heap.size w (w1.alloc (.cells #[.int .i64 0, .int .i64 0] 63))) := b1.trans (((Below.refl _ w1).alloc (Nat.le_refl _) _).mono b1.size)
  clear b1 HF
  go_wp2
  go_ret
  exact ⟨rfl, BS.out⟩
set_option maxRecDepth 100000 in
theorem double_nilN (k : Int) (w : World) : Calls Try.prog 18 #[.pointer none, .int .i64 k] w fun e w' => e = .returned (.int .i64 2) ∧ Below w.heap.size w w' := by
  have HF := find_nil k w
  go_enter Try.func18, Try.ntmps18
  go_wp2_with fail
  refine HF.mono ?_
  rintro e w1 ⟨rfl, b1⟩
  have BS : Hid (Below w.heap.size w (w1.alloc (.cells #[.int .i64 0, .int .i64 0] 63))) := b1.trans (((Below.refl _ w1).alloc (Nat.le_refl _) _).mono b1.size)
  clear b1 HF
  go_wp2
  go_ret
  exact ⟨rfl, BS.out⟩
theorem sorted_nilN (w : World) : Calls Try.prog 35 #[.pointer none] w fun e w' => e = .returned (.slice none 0 0) ∧ w' = w := by
  go_enter Try.func35, Try.ntmps35
  go_wp2
  go_ret
  exact ⟨rfl, rfl⟩
theorem all_nilN (w : World) : Calls Try.prog 26 #[.pointer none] w fun e w' => e = .returned (.func (.func 36) #[] #[.pointer (some ⟨w.heap.size, 0, none⟩)]) ∧ w' = w.alloc (.cells #[.slice none 0 0] 66) := by
  have HS := sorted_nilN w
  go_enter Try.func26, Try.ntmps26
  go_wp2_with fail
  refine HS.mono ?_
  rintro e w1 ⟨rfl, hw⟩
  subst w1
  clear HS
  go_wp2
  go_ret
  exact ⟨rfl, rfl⟩
set_option maxRecDepth 100000 in
set_option maxHeartbeats 1600000 in
theorem as_any (fr to : Int) (da : Option Addr) (dn dc : Nat) (w : World) : Calls Try.prog 16 #[.agg #[.int .i64 fr, .int .i64 to, (.slice da dn dc)]] w fun e w' => e = .returned (.agg #[.int .i64 fr, .int .i64 to, (.slice da dn dc)]) ∧ Below w.heap.size w w' := by
  have b1 := (Below.refl w.heap.size w).alloc (Nat.le_refl _) (.cells #[.int .i64 fr, .int .i64 to, (.slice da dn dc)] 45)
  have b2 := b1.alloc (by simp) (.cells #[.int .i64 0, .int .i64 0, .slice none 0 0] 48)
  have r1 := row3 w (.int .i64 fr) (.int .i64 to) (.slice da dn dc)
  have r2 := heap_alloc_new (w.alloc (.cells #[.int .i64 fr, .int .i64 to, (.slice da dn dc)] 45)) (.cells #[.int .i64 0, .int .i64 0, .slice none 0 0] 48)
  rw [show (w.alloc (.cells #[.int .i64 fr, .int .i64 to, (.slice da dn dc)] 45)).heap.size = w.heap.size + 1 by simp] at r2
  have r1' := (((Below.refl _ (w.alloc (.cells #[.int .i64 fr, .int .i64 to, (.slice da dn dc)] 45))).alloc (Nat.le_refl _) (.cells #[.int .i64 0, .int .i64 0, .slice none 0 0] 48)).block w.heap.size (by simp)).trans r1
  obtain ⟨wA, eA⟩ : ∃ wA, (w.alloc (.cells #[.int .i64 fr, .int .i64 to, (.slice da dn dc)] 45)).alloc (.cells #[.int .i64 0, .int .i64 0, .slice none 0 0] 48) = wA := ⟨_, rfl⟩
  rw [eA] at r1' r2 b2
  have c0 : wA.cell? ⟨w.heap.size, 0, none⟩ = some (.int .i64 fr) := by unfold World.cell?; simp only [r1']; rfl
  have c1 : wA.cell? ⟨w.heap.size, 1, none⟩ = some (.int .i64 to) := by unfold World.cell?; simp only [r1']; rfl
  have c2 : wA.cell? ⟨w.heap.size, 2, none⟩ = some (.slice da dn dc) := by unfold World.cell?; simp only [r1']; rfl
  have R2 : Hid (wA.heap[w.heap.size + 1]? = some (.cells #[.int .i64 0, .int .i64 0, .slice none 0 0] 48 (0, 0))) := r2
  have B2 : Hid (Below w.heap.size w wA) := b2
  have ON : Hid ((#[.int .i64 fr, .int .i64 to, (.slice da dn dc)] : Array Value).all (·.oneCell') = true) := by
    show _ = _
    simp only [List.all_toArray, List.all_cons, List.all_nil, Bool.and_true, Bool.and_eq_true]
    exact ⟨rfl, rfl, rfl⟩
  clear b1 b2 r1 r1' r2
  go_enter Try.func16, Try.ntmps16
  go_wp2_with (first | (rw [eA]) | (refine wpList_store_row rfl 48 (.tmp 2) (.tmp 9) rfl (w.heap.size + 1) #[.int .i64 fr, .int .i64 to, (.slice da dn dc)] rfl rfl 48 _ R2.out (by kernel_rfl) rfl ON.out ?_))
  exact bodyPost_ret (results_cell_row rfl _ _ (w.heap.size + 1) 48 _ _ _ rfl (setRow_heap _ _ _ _ _ _ R2.out) Try.underlying48 rfl (by kernel_rfl)) rfl ⟨rfl, rowN_below B2.out (by omega)⟩
set_option maxRecDepth 100000 in
set_option maxHeartbeats 1600000 in
theorem same_same (fr to : Int) (a1 a2 : Option Addr) (c1 c2 : Nat) (b : List (BitVec 8)) (w : World) (h1 : Seen w a1 b.length b) (h2 : Seen w a2 b.length b) : Calls Try.prog 15 #[.agg #[.int .i64 fr, .int .i64 to, .slice a1 b.length c1], .agg #[.int .i64 fr, .int .i64 to, .slice a2 b.length c2]] w fun e w' => e = .returned (.bool true) ∧ Below w.heap.size w w' := by
  have b1 := (Below.refl w.heap.size w).alloc (Nat.le_refl _) (.cells #[.int .i64 fr, .int .i64 to, .slice a1 b.length c1] 48)
  have b2 := b1.alloc (by simp) (.cells #[.int .i64 fr, .int .i64 to, .slice a2 b.length c2] 48)
  have t1 := run_to_text _ a1 _ c1 b (h1.below b2)
  have t2 := run_to_text _ a2 _ c2 b (h2.below b2)
  have hx := text_self (textOf b)
  have e1 : (fr == fr) = true := by simp
  have e2 : (to == to) = true := by simp
  have B2 : Hid _ := b2
  obtain ⟨n, en⟩ : ∃ n, b.length = n := ⟨_, rfl⟩
  rw [en] at t1 t2 B2
  rw [en]
  clear b1 b2 h1 h2 en
  go_enter Try.func15, Try.ntmps15
  go_wp2
  go_ret
  exact ⟨rfl, B2.out⟩
end Go.Proofs.Ytccmehbdnnelhaa
