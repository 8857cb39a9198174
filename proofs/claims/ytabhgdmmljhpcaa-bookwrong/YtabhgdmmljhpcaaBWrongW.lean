/- BookWrong. -/
import Derived.Test.YtabhgdmmljhpcaaBMy
import Derived.Test.YtabhgdmmljhpcaaBWrong
namespace Go.Proofs.Ytabhgdmmljhpcaa
open Go.RowKit Cod
attribute [local go_sem] Oper.semAt_some
set_option linter.unusedVariables false

set_option maxRecDepth 100000 in
set_option maxHeartbeats 4000000 in
theorem bookWrong_any (k : Int) (fr to_ : ByteArray) (am : Int) (ky : ByteArray) (sl sh : Int) (s : ByteArray) (w : World) (hf : fr.size ≤ maxLen) (ht : to_.size ≤ maxLen) (hk : ky.size ≤ maxLen) (hs : s.size ≤ maxLen) :
    Calls Try.prog 3 #[.agg #[.int .i64 k, .string fr, .string to_, .int .i64 am, .string ky, .int .i64 sl, .int .i64 sh], .string s] w fun e w' => e = .returned (.bool true) ∧ Below w.heap.size w w' := by
  obtain ⟨w1, ew1⟩ : ∃ w1, w1 = w.alloc (.cells #[.int .i64 k, .string fr, .string to_, .int .i64 am, .string ky, .int .i64 sl, .int .i64 sh] 23) := ⟨_, rfl⟩
  have B1 : Hid (Below w.heap.size w w1) := by
    show Below w.heap.size w w1
    rw [ew1]; exact (Below.refl _ w).alloc (Nat.le_refl _) _
  have hz : w.heap.size < w1.heap.size := by rw [ew1]; simp
  have HO : Hid (∀ W, Below w1.heap.size w1 W → W.cell? ⟨w.heap.size, 0, none⟩ = some (.int .i64 k) ∧ W.cell? ⟨w.heap.size, 1, none⟩ = some (.string fr) ∧ W.cell? ⟨w.heap.size, 2, none⟩ = some (.string to_) ∧ W.cell? ⟨w.heap.size, 3, none⟩ = some (.int .i64 am) ∧ W.cell? ⟨w.heap.size, 4, none⟩ = some (.string ky) ∧ W.cell? ⟨w.heap.size, 5, none⟩ = some (.int .i64 sl) ∧ W.cell? ⟨w.heap.size, 6, none⟩ = some (.int .i64 sh)) := fun W b => by
    refine ⟨(b.cell (p := ⟨w.heap.size, 0, none⟩) hz).trans ?_, (b.cell (p := ⟨w.heap.size, 1, none⟩) hz).trans ?_, (b.cell (p := ⟨w.heap.size, 2, none⟩) hz).trans ?_, (b.cell (p := ⟨w.heap.size, 3, none⟩) hz).trans ?_, (b.cell (p := ⟨w.heap.size, 4, none⟩) hz).trans ?_, (b.cell (p := ⟨w.heap.size, 5, none⟩) hz).trans ?_, (b.cell (p := ⟨w.heap.size, 6, none⟩) hz).trans ?_⟩ <;> (rw [ew1, World.cell?_alloc_mark]; rfl)
  obtain ⟨c0, c1, c2, c3, c4, c5, c6⟩ := HO.out w1 (Below.refl _ _)
  have HW := wrong_any k fr to_ am ky sl sh w1.drew hf ht hk
  have HR := fun W => refWrong_any k fr to_ am ky sl sh W hf ht hk
  have HN := fun W => name_any s W hs
  have HM := fun W => refName_any s W hs
  generalize wrongV k fr to_ am ky sl sh = x at HW HR
  generalize nameOk s = y at HN HM
  clear hf ht hk hs
  have hyy : (y == y) = true := by simp
  go_enter Try.func3, Try.ntmps3
  go_wp2
  rw [← ew1]
  clear ew1
  go_region_law (first
    | (go_simp; go_at_call 4; refine HW.mono ?_; rintro e w2 ⟨rfl, b2⟩; have b2' : Below w1.heap.size w1 w2 := ⟨b2.os, b2.tape, b2.output, b2.size, b2.block⟩; obtain ⟨d0, d1, d2, d3, d4, d5, d6⟩ := HO.out w2 b2')
    | (go_simp; go_at_call 5; refine (HR _).mono ?_; rintro e w3 ⟨rfl, b3⟩)
    | (go_simp; go_at_call 6; refine (HN _).mono ?_; rintro e w4 ⟨rfl, rfl⟩)
    | (go_simp; go_at_call 7; refine (HM _).mono ?_; rintro e w4 ⟨rfl, rfl⟩)
    | (go_simp; go_at_call 8; refine (knownB_any _).mono ?_; rintro e w5 ⟨rfl, b5⟩))
  all_goals
    have BF : Hid (Below w.heap.size w w5) := B1.out.trans ((b2'.trans ((b3.trans (b5.mono b3.size)).mono b2'.size)).mono B1.out.size)
    clear b2 b2' b3 b5
    go_wp2
    go_ret
    exact ⟨rfl, BF.out⟩
end Go.Proofs.Ytabhgdmmljhpcaa
