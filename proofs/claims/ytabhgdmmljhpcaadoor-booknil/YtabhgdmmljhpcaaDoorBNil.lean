/- Package book: every call of nil. -/
import Derived.Test.YtabhgdmmljhpcaaDoorBMy
namespace Go.Proofs.YtabhgdmmljhpcaaDoor
open Go.RowKit Cod
attribute [local go_sem] Oper.semAt_some
set_option linter.unusedVariables false

section
variable {w : World}
set_option maxRecDepth 100000 in
theorem find_nil (t : ByteArray) : Calls Tryd.prog 62 #[.pointer none, .string t] w fun e w' => e = .returned (.agg #[.string ⟨#[]⟩, .int .i64 0, .string ⟨#[]⟩]) ∧ Below w.heap.size w w' := by
  go_enter Tryd.func62, Tryd.ntmps62
  go_wp2
  exact bodyPost_ret (v := .agg #[.string ⟨#[]⟩, .int .i64 0, .string ⟨#[]⟩]) (by simp [results, Tryd.results62, go_sem]) rfl ⟨rfl, by first | exact (Below.refl _ w).alloc (Nat.le_refl _) _ | exact Below.setCell (Below.setCell (Below.setCell ((Below.refl _ w).alloc (Nat.le_refl _) _) (Nat.le_refl _) _) (Nat.le_refl _) _) (Nat.le_refl _) _⟩
set_option maxRecDepth 100000 in
theorem look_nil (t : ByteArray) : Calls Tryd.prog 59 #[.pointer none, .string t] w fun e w' => e = .returned (.tuple #[.agg #[.string ⟨#[]⟩, .int .i64 0, .string ⟨#[]⟩], .int .i64 2]) ∧ Below w.heap.size w w' := by
  go_enter Tryd.func59, Tryd.ntmps59
  go_wp2
  exact bodyPost_ret (v := .tuple #[.agg #[.string ⟨#[]⟩, .int .i64 0, .string ⟨#[]⟩], .int .i64 2]) (by simp [results, Tryd.results59, go_sem]) rfl ⟨rfl, by first | exact (Below.refl _ w).alloc (Nat.le_refl _) _ | exact Below.setCell (Below.setCell (Below.setCell ((Below.refl _ w).alloc (Nat.le_refl _) _) (Nat.le_refl _) _) (Nat.le_refl _) _) (Nat.le_refl _) _⟩
set_option maxRecDepth 100000 in
theorem get_nil (t : ByteArray) : Calls Tryd.prog 22 #[.pointer none, .string t] w fun e w' => e = .returned (.tuple #[.int .i64 0, .int .i64 2]) ∧ Below w.heap.size w w' := by
  go_enter Tryd.func22, Tryd.ntmps22
  go_wp2_with fail
  refine (look_nil t).mono ?_
  rintro e w1 ⟨rfl, b1⟩
  have B1 : Hid (Below w.heap.size w w1) := b1
  clear b1
  go_wp2
  go_ret2
  exact ⟨rfl, B1.out.alloc B1.out.size _⟩
set_option maxRecDepth 100000 in
theorem change_nil (t : ByteArray) (fv : Value) : Calls Tryd.prog 49 #[.pointer none, .string t, fv] w fun e w' => e = .returned (.int .i64 2) ∧ Below w.heap.size w w' := by
  go_enter Tryd.func49, Tryd.ntmps49
  go_wp2_with fail
  refine (look_nil t).mono ?_
  rintro e w1 ⟨rfl, b1⟩
  have B1 : Hid (Below w.heap.size w w1) := b1
  clear b1
  go_wp2
  go_ret
  exact ⟨rfl, B1.out.alloc B1.out.size _⟩
set_option maxRecDepth 100000 in
theorem put_nil (t : ByteArray) (n : Int) : Calls Tryd.prog 19 #[.pointer none, .agg #[.string t, .int .i64 n]] w fun e w' => e = .returned (.int .i64 2) ∧ Below w.heap.size w w' := by
  go_enter Tryd.func19, Tryd.ntmps19
  go_wp2
  go_ret
  exact ⟨rfl, (Below.refl _ w).alloc (Nat.le_refl _) _⟩
set_option maxRecDepth 100000 in
theorem open_nil (t : ByteArray) : Calls Tryd.prog 16 #[.pointer none, .string t] w fun e w' => e = .returned (.int .i64 2) ∧ Below w.heap.size w w' := by
  go_enter Tryd.func16, Tryd.ntmps16
  go_wp2_with fail
  refine (put_nil t 0).mono ?_
  rintro e w1 ⟨rfl, b1⟩
  go_wp2
  go_ret
  exact ⟨rfl, b1⟩
set_option maxRecDepth 100000 in
theorem add_nil (t : ByteArray) (n : Int) : Calls Tryd.prog 17 #[.pointer none, .string t, .int .i64 n] w fun e w' => e = .returned (.int .i64 2) ∧ Below w.heap.size w w' := by
  have B0 : Hid (Below w.heap.size w (w.alloc (.cells #[.int .i64 n] 2))) := (Below.refl _ w).alloc (Nat.le_refl _) _
  go_enter Tryd.func17, Tryd.ntmps17
  go_wp2_with fail
  refine (change_nil t _).mono ?_
  rintro e w1 ⟨rfl, b1⟩
  have B1 : Hid (Below w.heap.size w w1) := B0.out.trans (b1.mono B0.out.size)
  clear b1
  go_wp2
  go_ret
  exact ⟨rfl, B1.out⟩
set_option maxRecDepth 100000 in
theorem take_nil (t : ByteArray) (n : Int) : Calls Tryd.prog 18 #[.pointer none, .string t, .int .i64 n] w fun e w' => e = .returned (.int .i64 2) ∧ Below w.heap.size w w' := by
  have B0 : Hid (Below w.heap.size w (w.alloc (.cells #[.int .i64 n] 2))) := (Below.refl _ w).alloc (Nat.le_refl _) _
  go_enter Tryd.func18, Tryd.ntmps18
  go_wp2_with fail
  refine (change_nil t _).mono ?_
  rintro e w1 ⟨rfl, b1⟩
  have B1 : Hid (Below w.heap.size w w1) := B0.out.trans (b1.mono B0.out.size)
  clear b1
  go_wp2
  go_ret
  exact ⟨rfl, B1.out⟩
set_option maxRecDepth 100000 in
theorem hold_nil (t : ByteArray) (s : ByteArray) : Calls Tryd.prog 23 #[.pointer none, .string t, .string s] w fun e w' => e = .returned (.int .i64 2) ∧ Below w.heap.size w w' := by
  have B0 : Hid (Below w.heap.size w (w.alloc (.cells #[.string s] 9))) := (Below.refl _ w).alloc (Nat.le_refl _) _
  go_enter Tryd.func23, Tryd.ntmps23
  go_wp2_with fail
  refine (change_nil t _).mono ?_
  rintro e w1 ⟨rfl, b1⟩
  have B1 : Hid (Below w.heap.size w w1) := B0.out.trans (b1.mono B0.out.size)
  clear b1
  go_wp2
  go_ret
  exact ⟨rfl, B1.out⟩
set_option maxRecDepth 100000 in
theorem free_nil (t : ByteArray) (s : ByteArray) : Calls Tryd.prog 24 #[.pointer none, .string t, .string s] w fun e w' => e = .returned (.int .i64 2) ∧ Below w.heap.size w w' := by
  have B0 : Hid (Below w.heap.size w (w.alloc (.cells #[.string s] 9))) := (Below.refl _ w).alloc (Nat.le_refl _) _
  go_enter Tryd.func24, Tryd.ntmps24
  go_wp2_with fail
  refine (change_nil t _).mono ?_
  rintro e w1 ⟨rfl, b1⟩
  have B1 : Hid (Below w.heap.size w w1) := B0.out.trans (b1.mono B0.out.size)
  clear b1
  go_wp2
  go_ret
  exact ⟨rfl, B1.out⟩
set_option maxRecDepth 100000 in
theorem by_nil (t : ByteArray) : Calls Tryd.prog 25 #[.pointer none, .string t] w fun e w' => e = .returned (.string ⟨#[]⟩) ∧ Below w.heap.size w w' := by
  have hfd : ∀ W, (Instr.field 74 (.agg #[.string ⟨#[]⟩, .int .i64 0, .string ⟨#[]⟩]) 1).run Tryd.prog W = .ok (.string ⟨#[]⟩) W := fun W => by kernel_rfl
  go_enter Tryd.func25, Tryd.ntmps25
  go_wp2_with fail
  refine (find_nil t).mono ?_
  rintro e w1 ⟨rfl, b1⟩
  have B1 : Hid (Below w.heap.size w w1) := b1
  clear b1
  go_wp2
  go_ret
  exact ⟨rfl, B1.out⟩
set_option maxRecDepth 100000 in
theorem len_nil : Calls Tryd.prog 26 #[.pointer none] w fun e w' => e = .returned (.int .i64 0) ∧ w' = w := by
  go_enter Tryd.func26, Tryd.ntmps26
  go_wp2
  go_ret
  exact ⟨rfl, rfl⟩
set_option maxRecDepth 100000 in
theorem each_nil (fv : Value) : Calls Tryd.prog 40 #[.pointer none, fv] w fun e w' => e = .returned (.tuple #[]) ∧ w' = w := by
  go_enter Tryd.func40, Tryd.ntmps40
  go_wp2
  first
  | exact bodyPost_end (results_none rfl _ _ _) rfl ⟨rfl, rfl⟩
  | exact bodyPost_ret (results_none rfl _ _ _) rfl ⟨rfl, rfl⟩
set_option maxRecDepth 100000 in
theorem held_nil : Calls Tryd.prog 27 #[.pointer none] w fun e w' => e = .returned (.int .i64 0) ∧ Below w.heap.size w w' := by
  go_enter Tryd.func27, Tryd.ntmps27
  go_wp2_with (go_at_call 40; refine (each_nil _).mono ?_; rintro e w1 ⟨rfl, rfl⟩)
  go_ret
  exact ⟨rfl, (Below.refl _ w).alloc (Nat.le_refl _) _⟩
set_option maxRecDepth 100000 in
theorem rows_nil (n : Int) : Calls Tryd.prog 20 #[.pointer none, .int .i64 n] w fun e w' => e = .returned (.slice none 0 0) ∧ Below w.heap.size w w' := by
  go_enter Tryd.func20, Tryd.ntmps20
  go_wp2_with (go_at_call 40; refine (each_nil _).mono ?_; rintro e w1 ⟨rfl, rfl⟩)
  go_ret
  exact ⟨rfl, ((Below.refl _ w).alloc (Nat.le_refl _) _).alloc (by simp) _⟩
set_option maxRecDepth 100000 in
theorem drop_nil (n : Int) : Calls Tryd.prog 21 #[.pointer none, .int .i64 n] w fun e w' => e = .returned (.int .i64 0) ∧ Below w.heap.size w w' := by
  go_enter Tryd.func21, Tryd.ntmps21
  go_wp2_with (go_at_call 26; refine (len_nil).mono ?_; rintro e w1 ⟨rfl, rfl⟩)
  go_ret
  exact ⟨rfl, (Below.refl _ w).alloc (Nat.le_refl _) _⟩
set_option maxRecDepth 100000 in
theorem copy_nil : Calls Tryd.prog 28 #[.pointer none] w fun e w' => e = .returned (.pointer none) ∧ w' = w := by
  go_enter Tryd.func28, Tryd.ntmps28
  go_wp2
  go_ret
  exact ⟨rfl, rfl⟩
set_option maxRecDepth 100000 in
theorem same_nil : Calls Tryd.prog 29 #[.pointer none, .pointer none] w fun e w' => e = .returned (.bool true) ∧ w' = w := by
  go_enter Tryd.func29, Tryd.ntmps29
  go_wp2
  go_ret
  exact ⟨rfl, rfl⟩
set_option maxRecDepth 100000 in
theorem same_nil2 (N : Nat) : Calls Tryd.prog 29 #[.pointer none, .pointer (some ⟨N, 0, none⟩)] w fun e w' => e = .returned (.bool false) ∧ w' = w := by
  have hq : ∀ W, (binOp .eql 24 (.pointer none) (.pointer (some ⟨N, 0, none⟩))).run Tryd.prog W = .ok (.bool false) W := fun W => by kernel_rfl
  go_enter Tryd.func29, Tryd.ntmps29
  go_wp2
  go_ret
  exact ⟨rfl, rfl⟩
set_option maxRecDepth 100000 in
theorem bytes_nil : Calls Tryd.prog 13 #[.pointer none] w fun e w' => e = .returned (.slice none 0 0) ∧ w' = w := by
  go_enter Tryd.func13, Tryd.ntmps13
  go_wp2
  go_ret
  exact ⟨rfl, rfl⟩
end
set_option maxRecDepth 100000 in
set_option maxHeartbeats 4000000 in
theorem bookNil_any (kd : Int) (nm by_ : ByteArray) (n slot : Int) (w : World) : Calls Tryd.prog 5 #[.agg #[.int .i64 kd, .string nm, .string by_, .int .i64 n, .int .i64 slot]] w fun e w' => e = .returned (.bool true) ∧ Below w.heap.size w w' := by
  obtain ⟨w0, ew0⟩ : ∃ w0, w0 = w.alloc (.cells #[.int .i64 kd, .string nm, .string by_, .int .i64 n, .int .i64 slot] 37) := ⟨_, rfl⟩
  have B0 : Hid (Below w.heap.size w w0) := by
    show Below w.heap.size w w0
    rw [ew0]; exact (Below.refl _ w).alloc (Nat.le_refl _) _
  have hz : w.heap.size < w0.heap.size := by rw [ew0]; simp
  have HO : Hid (∀ W, Below w0.heap.size w0 W → W.cell? ⟨w.heap.size, 1, none⟩ = some (.string nm) ∧ W.cell? ⟨w.heap.size, 2, none⟩ = some (.string by_) ∧ W.cell? ⟨w.heap.size, 3, none⟩ = some (.int .i64 n) ∧ W.cell? ⟨w.heap.size, 4, none⟩ = some (.int .i64 slot)) := fun W b => by
    refine ⟨(b.cell (p := ⟨w.heap.size, 1, none⟩) hz).trans ?_, (b.cell (p := ⟨w.heap.size, 2, none⟩) hz).trans ?_, (b.cell (p := ⟨w.heap.size, 3, none⟩) hz).trans ?_, (b.cell (p := ⟨w.heap.size, 4, none⟩) hz).trans ?_⟩ <;> (rw [ew0, World.cell?_alloc_mark]; rfl)
  obtain ⟨c1, c2, c3, c4⟩ := HO.out w0 (Below.refl _ _)
  have BB : Hid (Below w0.heap.size w0 w0) := Below.refl _ _
  go_enter Tryd.func5, Tryd.ntmps5
  go_wp2_with fail
  rw [← ew0]
  clear ew0 hz
  refine (get_nil nm).mono ?_
  rintro e w1 ⟨rfl, b1⟩
  have B1x : Hid (Below w0.heap.size w0 w1) := BB.out.trans (b1.mono BB.out.size)
  clear b1 c1 c2 c3 c4 BB
  obtain ⟨c1, c2, c3, c4⟩ := HO.out w1 B1x.out
  go_wp2_with fail
  refine (open_nil nm).mono ?_
  rintro e w2 ⟨rfl, b2⟩
  have B2x : Hid (Below w0.heap.size w0 w2) := B1x.out.trans (b2.mono B1x.out.size)
  clear b2 c1 c2 c3 c4 B1x
  obtain ⟨c1, c2, c3, c4⟩ := HO.out w2 B2x.out
  go_wp2_with fail
  refine (add_nil nm n).mono ?_
  rintro e w3 ⟨rfl, b3⟩
  have B3x : Hid (Below w0.heap.size w0 w3) := B2x.out.trans (b3.mono B2x.out.size)
  clear b3 c1 c2 c3 c4 B2x
  obtain ⟨c1, c2, c3, c4⟩ := HO.out w3 B3x.out
  go_wp2_with fail
  refine (take_nil nm n).mono ?_
  rintro e w4 ⟨rfl, b4⟩
  have B4x : Hid (Below w0.heap.size w0 w4) := B3x.out.trans (b4.mono B3x.out.size)
  clear b4 c1 c2 c3 c4 B3x
  obtain ⟨c1, c2, c3, c4⟩ := HO.out w4 B4x.out
  go_wp2_with fail
  refine (hold_nil nm by_).mono ?_
  rintro e w5 ⟨rfl, b5⟩
  have B5x : Hid (Below w0.heap.size w0 w5) := B4x.out.trans (b5.mono B4x.out.size)
  clear b5 c1 c2 c3 c4 B4x
  obtain ⟨c1, c2, c3, c4⟩ := HO.out w5 B5x.out
  go_wp2_with fail
  refine (free_nil nm by_).mono ?_
  rintro e w6 ⟨rfl, b6⟩
  have B6x : Hid (Below w0.heap.size w0 w6) := B5x.out.trans (b6.mono B5x.out.size)
  clear b6 c1 c2 c3 c4 B5x
  obtain ⟨c1, c2, c3, c4⟩ := HO.out w6 B6x.out
  go_wp2_with fail
  refine (by_nil nm).mono ?_
  rintro e w7 ⟨rfl, b7⟩
  have B7x : Hid (Below w0.heap.size w0 w7) := B6x.out.trans (b7.mono B6x.out.size)
  clear b7 c1 c2 c3 c4 B6x
  obtain ⟨c1, c2, c3, c4⟩ := HO.out w7 B7x.out
  go_wp2_with fail
  refine (len_nil).mono ?_
  rintro e w8 ⟨rfl, b8⟩
  have B8x : Hid (Below w0.heap.size w0 w8) := by rw [b8]; exact B7x.out
  clear b8 c1 c2 c3 c4 B7x
  obtain ⟨c1, c2, c3, c4⟩ := HO.out w8 B8x.out
  go_wp2_with fail
  refine (held_nil).mono ?_
  rintro e w9 ⟨rfl, b9⟩
  have B9x : Hid (Below w0.heap.size w0 w9) := B8x.out.trans (b9.mono B8x.out.size)
  clear b9 c1 c2 c3 c4 B8x
  obtain ⟨c1, c2, c3, c4⟩ := HO.out w9 B9x.out
  go_wp2_with fail
  refine (rows_nil (-1)).mono ?_
  rintro e w10 ⟨rfl, b10⟩
  have B10x : Hid (Below w0.heap.size w0 w10) := B9x.out.trans (b10.mono B9x.out.size)
  clear b10 c1 c2 c3 c4 B9x
  obtain ⟨c1, c2, c3, c4⟩ := HO.out w10 B10x.out
  go_wp2_with fail
  refine (put_nil ⟨#[]⟩ 0).mono ?_
  rintro e w11 ⟨rfl, b11⟩
  have B11x : Hid (Below w0.heap.size w0 w11) := B10x.out.trans (b11.mono B10x.out.size)
  clear b11 c1 c2 c3 c4 B10x
  obtain ⟨c1, c2, c3, c4⟩ := HO.out w11 B11x.out
  go_wp2_with fail
  refine (drop_nil slot).mono ?_
  rintro e w12 ⟨rfl, b12⟩
  have B12x : Hid (Below w0.heap.size w0 w12) := B11x.out.trans (b12.mono B11x.out.size)
  clear b12 c1 c2 c3 c4 B11x
  obtain ⟨c1, c2, c3, c4⟩ := HO.out w12 B12x.out
  go_wp2_with fail
  refine (copy_nil).mono ?_
  rintro e w13 ⟨rfl, b13⟩
  have B13x : Hid (Below w0.heap.size w0 w13) := by rw [b13]; exact B12x.out
  clear b13 c1 c2 c3 c4 B12x
  obtain ⟨c1, c2, c3, c4⟩ := HO.out w13 B13x.out
  go_wp2_with fail
  refine (same_nil).mono ?_
  rintro e w14 ⟨rfl, b14⟩
  have B14x : Hid (Below w0.heap.size w0 w14) := by rw [b14]; exact B13x.out
  clear b14 c1 c2 c3 c4 B13x
  obtain ⟨c1, c2, c3, c4⟩ := HO.out w14 B14x.out
  go_wp2_with fail
  refine (new_any w14).mono ?_
  rintro e w15 ⟨rfl, b15, _⟩
  have B15x : Hid (Below w0.heap.size w0 w15) := B14x.out.trans (b15.mono B14x.out.size)
  clear b15 c1 c2 c3 c4 B14x
  obtain ⟨c1, c2, c3, c4⟩ := HO.out w15 B15x.out
  go_wp2_with fail
  refine (same_nil2 w14.heap.size).mono ?_
  rintro e w16 ⟨rfl, b16⟩
  have B16x : Hid (Below w0.heap.size w0 w16) := by rw [b16]; exact B15x.out
  clear b16 c1 c2 c3 c4 B15x
  obtain ⟨c1, c2, c3, c4⟩ := HO.out w16 B16x.out
  go_wp2_with fail
  refine (bytes_nil).mono ?_
  rintro e w17 ⟨rfl, b17⟩
  have B17x : Hid (Below w0.heap.size w0 w17) := by rw [b17]; exact B16x.out
  clear b17 c1 c2 c3 c4 B16x
  obtain ⟨c1, c2, c3, c4⟩ := HO.out w17 B17x.out
  go_wp2_with fail
  refine (knownB_any w17).mono ?_
  rintro e w18 ⟨rfl, b18⟩
  have B18x : Hid (Below w0.heap.size w0 w18) := B17x.out.trans (b18.mono B17x.out.size)
  clear b18 c1 c2 c3 c4 B17x
  obtain ⟨c1, c2, c3, c4⟩ := HO.out w18 B18x.out
  go_wp2
  go_ret
  exact ⟨rfl, B0.out.trans (B18x.out.mono B0.out.size)⟩
end Go.Proofs.YtabhgdmmljhpcaaDoor
