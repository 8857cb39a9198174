/- Package net: the calls on a net that has had no letter. -/
import Derived.Test.YtginkikkenegkaaNSend
namespace Go.Proofs.Ytginkikkenegkaa
open Go.RowKit Go.Maps
set_option linter.unusedVariables false
set_option maxRecDepth 100000 in
set_option maxHeartbeats 4000000 in
theorem find_first {w : World} {base N : Nat} (h : NilNet w base N 0) (k : Int) : Calls Try.prog 33 #[.pointer (some ⟨N, 0, none⟩), .int .i64 k] w fun e w' => e = .returned (.tuple #[.agg #[.int .i64 0, .int .i64 0], .int .i64 1]) ∧ Below w.heap.size w w' := by
  have F3 := fmem_new w N k
  obtain ⟨w3, e3⟩ : ∃ w3, (((w.alloc (.cells #[.pointer (some ⟨N, 0, none⟩)] 23)).alloc (.cells #[.int .i64 k] 3)).alloc (.cells #[.int .i64 0, .int .i64 0] 65)) = w3 := ⟨_, rfl⟩
  rw [e3] at F3
  have HF : Hid (FMem w w3 N k) := F3
  have q1 := F3.p1
  have q2 := F3.p2
  have H3 : Hid (NilNet w3 base N 0) := h.below F3.be
  have q3 := H3.out.c1
  clear F3
  by_cases hk : k < 0
  · clear h q3 H3
    go_enter Try.func33, Try.ntmps33
    go_wp2_with (first | (rw [e3]) | (refine wpList_store_row rfl 65 (.tmp 4) (.tmp 18) rfl (w.heap.size + 2) #[.int .i64 0, .int .i64 0] rfl rfl 65 _ HF.out.sp (by kernel_rfl) rfl (by simp [Value.oneCell']) ?_))
    exact bodyPost_ret (results_rowN rfl _ _ (w.heap.size + 2) 65 _ _ _ rfl (setRow_heap _ _ _ _ _ _ HF.out.sp) Try.underlying65 rfl (by kernel_rfl)) rfl ⟨rfl, rowN_below HF.out.be (by omega)⟩
  · have HS := search_any 0 41 rfl (.pointer (some ⟨w.heap.size, 0, none⟩)) (.pointer (some ⟨w.heap.size + 1, 0, none⟩)) (fun i => true) w3 (by omega)
      (fun i hi W hW => absurd hi (by omega)) (fun i j hij hp => rfl)
    clear h
    go_enter Try.func33, Try.ntmps33
    go_wp2_with (first | (rw [e3]) | fail)
    refine HS.mono ?_
    clear HS
    rintro e w4 ⟨⟨r, rfl, r1, r2, r3⟩, b4⟩
    have F4 : Hid (FMem w w4 N k) := HF.out.below b4
    have q1 := F4.out.p1
    have q4 := (H3.out.below b4).c0
    have hr := run_range_nilMap (P := Try.prog) w4 53 3 68 underM
    have hn := run_next_nilMap (P := Try.prog) w4 0 0 0 #[]
    have F5 : Hid (FMem w (w4.alloc (.mapIter none 0 #[] 0)) N k) := F4.out.below ((Below.refl _ w4).alloc (Nat.le_refl _) _)
    clear r1 r2 r3 b4 q2 q3 e3 H3 HF F4
    go_wp2
    go_loopw [7] (fun _ wr => wr = w4.alloc (.mapIter none 0 #[] 0)) (fun _ _ => 0)
    case atStart => rfl
    case round =>
      subst hrel
      go_wp2_with (first | (refine wpList_store_row rfl 65 (.tmp 4) (.tmp 45) rfl (w.heap.size + 2) #[.int .i64 0, .int .i64 0] rfl rfl 65 _ F5.out.sp (by kernel_rfl) rfl (by simp [Value.oneCell']) ?_))
      exact bodyPost_ret (results_rowN rfl _ _ (w.heap.size + 2) 65 _ _ _ rfl (setRow_heap _ _ _ _ _ _ F5.out.sp) Try.underlying65 rfl (by kernel_rfl)) rfl ⟨rfl, rowN_below F5.out.be (by omega)⟩
set_option maxRecDepth 100000 in
set_option maxHeartbeats 1600000 in
theorem look_first {w : World} {base N : Nat} (h : NilNet w base N 0) (k : Int) : Calls Try.prog 14 #[.pointer (some ⟨N, 0, none⟩), .int .i64 k] w fun e w' => e = .returned (.tuple #[.agg #[.int .i64 0, .int .i64 0, .slice none 0 0], .int .i64 1]) ∧ Below w.heap.size w w' := by
  have bA := (Below.refl w.heap.size w).alloc (Nat.le_refl _) (.cells #[.int .i64 0, .int .i64 0, .slice none 0 0] 40)
  have r0 := row3 w (.int .i64 0) (.int .i64 0) (.slice none 0 0)
  have hA := h.below bA
  obtain ⟨wA, eA⟩ : ∃ wA, w.alloc (.cells #[.int .i64 0, .int .i64 0, .slice none 0 0] 40) = wA := ⟨_, rfl⟩
  rw [eA] at bA r0 hA
  have HF := find_first hA k
  have R0 : Hid (wA.heap[w.heap.size]? = some (.cells #[.int .i64 0, .int .i64 0, .slice none 0 0] 40 (0, 0))) := r0
  have BA : Hid (Below w.heap.size w wA) := bA
  obtain ⟨S0, eS0⟩ : ∃ S0, w.heap.size = S0 := ⟨_, rfl⟩
  rw [eS0] at R0
  have ES : Hid (w.heap.size = S0) := eS0
  clear h hA bA r0
  go_enter Try.func14, Try.ntmps14
  go_wp2_with (first | (rw [eA]) | fail)
  try rw [eA]
  refine HF.mono ?_
  rintro e w1 ⟨rfl, b1⟩
  clear HF
  try rw [eS0]
  clear eA eS0
  have bS := (Below.refl _ w1).alloc (Nat.le_refl _) (.cells #[.int .i64 0, .int .i64 0] 65)
  have r1 : (w1.alloc (.cells #[.int .i64 0, .int .i64 0] 65)).heap[S0]? = some (.cells #[.int .i64 0, .int .i64 0, .slice none 0 0] 40 (0, 0)) := by
    have lt := (Array.getElem?_eq_some_iff.1 R0.out).1
    rw [bS.block S0 (Nat.lt_of_lt_of_le lt b1.size), b1.block S0 lt]
    exact R0.out
  have R1 : Hid _ := r1
  have BS : Hid (Below w.heap.size w (w1.alloc (.cells #[.int .i64 0, .int .i64 0] 65))) := (BA.out.trans (b1.mono BA.out.size)).trans (bS.mono (BA.out.trans (b1.mono BA.out.size)).size)
  clear r1 bS b1
  go_wp2_with (first | (refine wpList_store_row rfl 40 (.tmp 4) (.tmp 16) rfl S0 #[.int .i64 0, .int .i64 0, .slice none 0 0] rfl rfl 40 _ R1.out (by kernel_rfl) rfl (by simp [Value.oneCell']) ?_))
  exact bodyPost_ret (results_rowN rfl _ _ S0 40 _ _ _ rfl (setRow_heap _ _ _ _ _ _ R1.out) Try.underlying40 rfl (by kernel_rfl)) rfl ⟨rfl, rowN_below BS.out (by rw [← ES.out]; exact Nat.le_refl _)⟩
set_option maxRecDepth 100000 in
set_option maxHeartbeats 1600000 in
theorem take_first {w : World} {base N : Nat} (h : NilNet w base N 0) (k : Int) : Calls Try.prog 12 #[.pointer (some ⟨N, 0, none⟩), .int .i64 k] w fun e w' => e = .returned (.tuple #[.agg #[.int .i64 0, .int .i64 0, .slice none 0 0], .int .i64 1]) ∧ Below w.heap.size w w' := by
  have bA := (Below.refl w.heap.size w).alloc (Nat.le_refl _) (.cells #[.int .i64 0, .int .i64 0, .slice none 0 0] 40)
  have r0 := row3 w (.int .i64 0) (.int .i64 0) (.slice none 0 0)
  have hA := h.below bA
  obtain ⟨wA, eA⟩ : ∃ wA, w.alloc (.cells #[.int .i64 0, .int .i64 0, .slice none 0 0] 40) = wA := ⟨_, rfl⟩
  rw [eA] at bA r0 hA
  have HF := look_first hA k
  have R0 : Hid (wA.heap[w.heap.size]? = some (.cells #[.int .i64 0, .int .i64 0, .slice none 0 0] 40 (0, 0))) := r0
  have BA : Hid (Below w.heap.size w wA) := bA
  obtain ⟨S0, eS0⟩ : ∃ S0, w.heap.size = S0 := ⟨_, rfl⟩
  rw [eS0] at R0
  have ES : Hid (w.heap.size = S0) := eS0
  clear h hA bA r0
  go_enter Try.func12, Try.ntmps12
  go_wp2_with (first | (rw [eA]) | fail)
  try rw [eA]
  refine HF.mono ?_
  rintro e w1 ⟨rfl, b1⟩
  clear HF
  try rw [eS0]
  clear eA eS0
  have lt0 := (Array.getElem?_eq_some_iff.1 R0.out).1
  have bS := (Below.refl _ w1).alloc (Nat.le_refl _) (.cells #[.int .i64 0, .int .i64 0, .slice none 0 0] 40)
  have r1 : (w1.alloc (.cells #[.int .i64 0, .int .i64 0, .slice none 0 0] 40)).heap[S0]? = some (.cells #[.int .i64 0, .int .i64 0, .slice none 0 0] 40 (0, 0)) := by
    rw [bS.block S0 (Nat.lt_of_lt_of_le lt0 b1.size), b1.block S0 lt0]
    exact R0.out
  have R1 : Hid _ := r1
  have BS : Hid (Below w.heap.size w (w1.alloc (.cells #[.int .i64 0, .int .i64 0, .slice none 0 0] 40))) := (BA.out.trans (b1.mono BA.out.size)).trans (bS.mono (BA.out.trans (b1.mono BA.out.size)).size)
  clear r1 bS b1 lt0
  go_wp2_with (first | (refine wpList_store_row rfl 40 (.tmp 4) (.tmp 16) rfl S0 #[.int .i64 0, .int .i64 0, .slice none 0 0] rfl rfl 40 _ R1.out (by kernel_rfl) rfl (by simp [Value.oneCell']) ?_))
  exact bodyPost_ret (results_rowN rfl _ _ S0 40 _ _ _ rfl (setRow_heap _ _ _ _ _ _ R1.out) Try.underlying40 rfl (by kernel_rfl)) rfl ⟨rfl, rowN_below BS.out (by rw [← ES.out]; exact Nat.le_refl _)⟩
set_option maxRecDepth 100000 in
set_option maxHeartbeats 1600000 in
theorem drop_first {w : World} {base N : Nat} (h : NilNet w base N 0) (k : Int) : Calls Try.prog 13 #[.pointer (some ⟨N, 0, none⟩), .int .i64 k] w fun e w' => e = .returned (.int .i64 1) ∧ Below w.heap.size w w' := by
  have HF := find_first h k
  clear h
  go_enter Try.func13, Try.ntmps13
  go_wp2_with fail
  refine HF.mono ?_
  rintro e w1 ⟨rfl, b1⟩
  clear HF
  have HZ : Hid ((w1.alloc (.cells #[.int .i64 0, .int .i64 0] 65)).heap[w1.heap.size]? = some (.cells #[.int .i64 0, .int .i64 0] 65 (0, 0))) := heap_alloc_new w1 (.cells #[.int .i64 0, .int .i64 0] 65)
  have B1 : Hid (Below w.heap.size w w1) := b1
  have BS := spot_below w1 #[.int .i64 0, .int .i64 0]
  have HBS : Hid _ := BS
  clear b1 BS
  go_wp2_with (first | (refine wpList_store_row rfl 65 (.tmp 5) (.tmp 11) rfl w1.heap.size #[.int .i64 0, .int .i64 0] rfl rfl 65 _ HZ.out (by kernel_rfl) rfl (by simp [Value.oneCell']) ?_))
  go_ret
  exact ⟨rfl, B1.out.trans (HBS.out.mono B1.out.size)⟩
set_option maxRecDepth 100000 in
set_option maxHeartbeats 1600000 in
theorem double_first {w : World} {base N : Nat} (h : NilNet w base N 0) (k : Int) : Calls Try.prog 15 #[.pointer (some ⟨N, 0, none⟩), .int .i64 k] w fun e w' => e = .returned (.int .i64 1) ∧ Below w.heap.size w w' := by
  have HF := find_first h k
  clear h
  go_enter Try.func15, Try.ntmps15
  go_wp2_with fail
  refine HF.mono ?_
  rintro e w1 ⟨rfl, b1⟩
  clear HF
  have BS : Hid (Below w.heap.size w (w1.alloc (.cells #[.int .i64 0, .int .i64 0] 65))) := b1.trans (((Below.refl _ w1).alloc (Nat.le_refl _) _).mono b1.size)
  clear b1
  go_wp2
  go_ret
  exact ⟨rfl, BS.out⟩
end Go.Proofs.Ytginkikkenegkaa
