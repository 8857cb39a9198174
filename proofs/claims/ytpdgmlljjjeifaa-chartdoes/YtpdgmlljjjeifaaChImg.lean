/- Package chart: a chart as bytes. Written by gen_im.py. -/
import Derived.Test.YtpdgmlljjjeifaaChGot
import Derived.Test.YtpdgmlljjjeifaaChRefDo
import Derived.Deep.MidRow
import Derived.Deep.Onto
namespace Go.Proofs.Ytpdgmlljjjeifaa
open Go.RowKit Cod
attribute [local go_sem] Oper.semAt_some
set_option linter.unusedVariables false
/-- The bytes of the first numbers of a chart; all of them. -/
def imgP (L : List Int) : Nat → List (BitVec 8)
  | 0 => []
  | j + 1 => imgP L j ++ enc (zig (at_ L j))
def imgB (L : List Int) : List (BitVec 8) := imgP L 42
def AllIn (L : List Int) : Prop := ∀ k, i64in (at_ L k)
theorem imgP_len {L : List Int} (h : AllIn L) : ∀ j, (imgP L j).length ≤ 10 * j
  | 0 => by simp [imgP]
  | j + 1 => by have := imgP_len h j; have := enc_zig (h j); simp only [imgP, List.length_append]; omega
theorem int_gotO {w : World} {v : Value} {l : List (BitVec 8)} (h : Got w v l) (n : Int) (hn : i64in n) (hm : l.length ≤ 1000000) :
    Calls Try.prog 34 #[v, .int .i64 n] w fun e w' => ∃ v', e = .returned v' ∧ Got w' v' (l ++ enc (zig n)) ∧ Below w.heap.size w w' ∧ w'.ownsRow w.heap.size 5 1 v' (l ++ enc (zig n)).length (cellsOf (l ++ enc (zig n))) := by
  obtain ⟨a, c, rfl, h2, h3⟩ := h
  refine (int_any a l.length c l n hn w h2 h3 (by omega)).mono fun e w' ⟨v', he, o, b⟩ => ⟨v', he, got_owned o ?_, b, by rw [List.length_append]; exact o⟩
  have := enc_zig hn
  unfold maxLen
  omega
theorem idx0 (x0 x1 x2 x3 x4 x5 x6 x7 x8 x9 x10 x11 x12 x13 x14 x15 x16 x17 x18 x19 x20 x21 x22 x23 x24 x25 x26 x27 x28 x29 x30 x31 : Value) (w : World) : (Instr.index 72 (.agg #[x0, x1, x2, x3, x4, x5, x6, x7, x8, x9, x10, x11, x12, x13, x14, x15, x16, x17, x18, x19, x20, x21, x22, x23, x24, x25, x26, x27, x28, x29, x30, x31]) (.int .i64 0)).run Try.prog w = .ok (.agg #[x0, x1]) w := by kernel_rfl
theorem idx1 (x0 x1 x2 x3 x4 x5 x6 x7 x8 x9 x10 x11 x12 x13 x14 x15 x16 x17 x18 x19 x20 x21 x22 x23 x24 x25 x26 x27 x28 x29 x30 x31 : Value) (w : World) : (Instr.index 72 (.agg #[x0, x1, x2, x3, x4, x5, x6, x7, x8, x9, x10, x11, x12, x13, x14, x15, x16, x17, x18, x19, x20, x21, x22, x23, x24, x25, x26, x27, x28, x29, x30, x31]) (.int .i64 1)).run Try.prog w = .ok (.agg #[x2, x3]) w := by kernel_rfl
theorem idx2 (x0 x1 x2 x3 x4 x5 x6 x7 x8 x9 x10 x11 x12 x13 x14 x15 x16 x17 x18 x19 x20 x21 x22 x23 x24 x25 x26 x27 x28 x29 x30 x31 : Value) (w : World) : (Instr.index 72 (.agg #[x0, x1, x2, x3, x4, x5, x6, x7, x8, x9, x10, x11, x12, x13, x14, x15, x16, x17, x18, x19, x20, x21, x22, x23, x24, x25, x26, x27, x28, x29, x30, x31]) (.int .i64 2)).run Try.prog w = .ok (.agg #[x4, x5]) w := by kernel_rfl
theorem idx3 (x0 x1 x2 x3 x4 x5 x6 x7 x8 x9 x10 x11 x12 x13 x14 x15 x16 x17 x18 x19 x20 x21 x22 x23 x24 x25 x26 x27 x28 x29 x30 x31 : Value) (w : World) : (Instr.index 72 (.agg #[x0, x1, x2, x3, x4, x5, x6, x7, x8, x9, x10, x11, x12, x13, x14, x15, x16, x17, x18, x19, x20, x21, x22, x23, x24, x25, x26, x27, x28, x29, x30, x31]) (.int .i64 3)).run Try.prog w = .ok (.agg #[x6, x7]) w := by kernel_rfl
theorem idx4 (x0 x1 x2 x3 x4 x5 x6 x7 x8 x9 x10 x11 x12 x13 x14 x15 x16 x17 x18 x19 x20 x21 x22 x23 x24 x25 x26 x27 x28 x29 x30 x31 : Value) (w : World) : (Instr.index 72 (.agg #[x0, x1, x2, x3, x4, x5, x6, x7, x8, x9, x10, x11, x12, x13, x14, x15, x16, x17, x18, x19, x20, x21, x22, x23, x24, x25, x26, x27, x28, x29, x30, x31]) (.int .i64 4)).run Try.prog w = .ok (.agg #[x8, x9]) w := by kernel_rfl
theorem idx5 (x0 x1 x2 x3 x4 x5 x6 x7 x8 x9 x10 x11 x12 x13 x14 x15 x16 x17 x18 x19 x20 x21 x22 x23 x24 x25 x26 x27 x28 x29 x30 x31 : Value) (w : World) : (Instr.index 72 (.agg #[x0, x1, x2, x3, x4, x5, x6, x7, x8, x9, x10, x11, x12, x13, x14, x15, x16, x17, x18, x19, x20, x21, x22, x23, x24, x25, x26, x27, x28, x29, x30, x31]) (.int .i64 5)).run Try.prog w = .ok (.agg #[x10, x11]) w := by kernel_rfl
theorem idx6 (x0 x1 x2 x3 x4 x5 x6 x7 x8 x9 x10 x11 x12 x13 x14 x15 x16 x17 x18 x19 x20 x21 x22 x23 x24 x25 x26 x27 x28 x29 x30 x31 : Value) (w : World) : (Instr.index 72 (.agg #[x0, x1, x2, x3, x4, x5, x6, x7, x8, x9, x10, x11, x12, x13, x14, x15, x16, x17, x18, x19, x20, x21, x22, x23, x24, x25, x26, x27, x28, x29, x30, x31]) (.int .i64 6)).run Try.prog w = .ok (.agg #[x12, x13]) w := by kernel_rfl
theorem idx7 (x0 x1 x2 x3 x4 x5 x6 x7 x8 x9 x10 x11 x12 x13 x14 x15 x16 x17 x18 x19 x20 x21 x22 x23 x24 x25 x26 x27 x28 x29 x30 x31 : Value) (w : World) : (Instr.index 72 (.agg #[x0, x1, x2, x3, x4, x5, x6, x7, x8, x9, x10, x11, x12, x13, x14, x15, x16, x17, x18, x19, x20, x21, x22, x23, x24, x25, x26, x27, x28, x29, x30, x31]) (.int .i64 7)).run Try.prog w = .ok (.agg #[x14, x15]) w := by kernel_rfl
theorem idx8 (x0 x1 x2 x3 x4 x5 x6 x7 x8 x9 x10 x11 x12 x13 x14 x15 x16 x17 x18 x19 x20 x21 x22 x23 x24 x25 x26 x27 x28 x29 x30 x31 : Value) (w : World) : (Instr.index 72 (.agg #[x0, x1, x2, x3, x4, x5, x6, x7, x8, x9, x10, x11, x12, x13, x14, x15, x16, x17, x18, x19, x20, x21, x22, x23, x24, x25, x26, x27, x28, x29, x30, x31]) (.int .i64 8)).run Try.prog w = .ok (.agg #[x16, x17]) w := by kernel_rfl
theorem idx9 (x0 x1 x2 x3 x4 x5 x6 x7 x8 x9 x10 x11 x12 x13 x14 x15 x16 x17 x18 x19 x20 x21 x22 x23 x24 x25 x26 x27 x28 x29 x30 x31 : Value) (w : World) : (Instr.index 72 (.agg #[x0, x1, x2, x3, x4, x5, x6, x7, x8, x9, x10, x11, x12, x13, x14, x15, x16, x17, x18, x19, x20, x21, x22, x23, x24, x25, x26, x27, x28, x29, x30, x31]) (.int .i64 9)).run Try.prog w = .ok (.agg #[x18, x19]) w := by kernel_rfl
theorem idx10 (x0 x1 x2 x3 x4 x5 x6 x7 x8 x9 x10 x11 x12 x13 x14 x15 x16 x17 x18 x19 x20 x21 x22 x23 x24 x25 x26 x27 x28 x29 x30 x31 : Value) (w : World) : (Instr.index 72 (.agg #[x0, x1, x2, x3, x4, x5, x6, x7, x8, x9, x10, x11, x12, x13, x14, x15, x16, x17, x18, x19, x20, x21, x22, x23, x24, x25, x26, x27, x28, x29, x30, x31]) (.int .i64 10)).run Try.prog w = .ok (.agg #[x20, x21]) w := by kernel_rfl
theorem idx11 (x0 x1 x2 x3 x4 x5 x6 x7 x8 x9 x10 x11 x12 x13 x14 x15 x16 x17 x18 x19 x20 x21 x22 x23 x24 x25 x26 x27 x28 x29 x30 x31 : Value) (w : World) : (Instr.index 72 (.agg #[x0, x1, x2, x3, x4, x5, x6, x7, x8, x9, x10, x11, x12, x13, x14, x15, x16, x17, x18, x19, x20, x21, x22, x23, x24, x25, x26, x27, x28, x29, x30, x31]) (.int .i64 11)).run Try.prog w = .ok (.agg #[x22, x23]) w := by kernel_rfl
theorem idx12 (x0 x1 x2 x3 x4 x5 x6 x7 x8 x9 x10 x11 x12 x13 x14 x15 x16 x17 x18 x19 x20 x21 x22 x23 x24 x25 x26 x27 x28 x29 x30 x31 : Value) (w : World) : (Instr.index 72 (.agg #[x0, x1, x2, x3, x4, x5, x6, x7, x8, x9, x10, x11, x12, x13, x14, x15, x16, x17, x18, x19, x20, x21, x22, x23, x24, x25, x26, x27, x28, x29, x30, x31]) (.int .i64 12)).run Try.prog w = .ok (.agg #[x24, x25]) w := by kernel_rfl
theorem idx13 (x0 x1 x2 x3 x4 x5 x6 x7 x8 x9 x10 x11 x12 x13 x14 x15 x16 x17 x18 x19 x20 x21 x22 x23 x24 x25 x26 x27 x28 x29 x30 x31 : Value) (w : World) : (Instr.index 72 (.agg #[x0, x1, x2, x3, x4, x5, x6, x7, x8, x9, x10, x11, x12, x13, x14, x15, x16, x17, x18, x19, x20, x21, x22, x23, x24, x25, x26, x27, x28, x29, x30, x31]) (.int .i64 13)).run Try.prog w = .ok (.agg #[x26, x27]) w := by kernel_rfl
theorem idx14 (x0 x1 x2 x3 x4 x5 x6 x7 x8 x9 x10 x11 x12 x13 x14 x15 x16 x17 x18 x19 x20 x21 x22 x23 x24 x25 x26 x27 x28 x29 x30 x31 : Value) (w : World) : (Instr.index 72 (.agg #[x0, x1, x2, x3, x4, x5, x6, x7, x8, x9, x10, x11, x12, x13, x14, x15, x16, x17, x18, x19, x20, x21, x22, x23, x24, x25, x26, x27, x28, x29, x30, x31]) (.int .i64 14)).run Try.prog w = .ok (.agg #[x28, x29]) w := by kernel_rfl
theorem idx15 (x0 x1 x2 x3 x4 x5 x6 x7 x8 x9 x10 x11 x12 x13 x14 x15 x16 x17 x18 x19 x20 x21 x22 x23 x24 x25 x26 x27 x28 x29 x30 x31 : Value) (w : World) : (Instr.index 72 (.agg #[x0, x1, x2, x3, x4, x5, x6, x7, x8, x9, x10, x11, x12, x13, x14, x15, x16, x17, x18, x19, x20, x21, x22, x23, x24, x25, x26, x27, x28, x29, x30, x31]) (.int .i64 15)).run Try.prog w = .ok (.agg #[x30, x31]) w := by kernel_rfl
/-- The slots of a chart, as a value. -/
def slotsV (L : List Int) : Value := .agg #[.int .i64 (at_ L 1), .int .i64 (at_ L 2), .int .i64 (at_ L 3), .int .i64 (at_ L 4), .int .i64 (at_ L 5), .int .i64 (at_ L 6), .int .i64 (at_ L 7), .int .i64 (at_ L 8), .int .i64 (at_ L 9), .int .i64 (at_ L 10), .int .i64 (at_ L 11), .int .i64 (at_ L 12), .int .i64 (at_ L 13), .int .i64 (at_ L 14), .int .i64 (at_ L 15), .int .i64 (at_ L 16), .int .i64 (at_ L 17), .int .i64 (at_ L 18), .int .i64 (at_ L 19), .int .i64 (at_ L 20), .int .i64 (at_ L 21), .int .i64 (at_ L 22), .int .i64 (at_ L 23), .int .i64 (at_ L 24), .int .i64 (at_ L 25), .int .i64 (at_ L 26), .int .i64 (at_ L 27), .int .i64 (at_ L 28), .int .i64 (at_ L 29), .int .i64 (at_ L 30), .int .i64 (at_ L 31), .int .i64 (at_ L 32)]
theorem idx_any (L : List Int) (j : Nat) (hj : j < 16) (w : World) : (Instr.index 72 (slotsV L) (.int .i64 (j : Int))).run Try.prog w = .ok (.agg #[.int .i64 (at_ L (1 + j * 2)), .int .i64 (at_ L (2 + j * 2))]) w := by
  unfold slotsV
  rcases (show j = 0 ∨ j = 1 ∨ j = 2 ∨ j = 3 ∨ j = 4 ∨ j = 5 ∨ j = 6 ∨ j = 7 ∨ j = 8 ∨ j = 9 ∨ j = 10 ∨ j = 11 ∨ j = 12 ∨ j = 13 ∨ j = 14 ∨ j = 15 by omega) with rfl | rfl | rfl | rfl | rfl | rfl | rfl | rfl | rfl | rfl | rfl | rfl | rfl | rfl | rfl | rfl
  · exact idx0 _ _ _ _ _ _ _ _ _ _ _ _ _ _ _ _ _ _ _ _ _ _ _ _ _ _ _ _ _ _ _ _ w
  · exact idx1 _ _ _ _ _ _ _ _ _ _ _ _ _ _ _ _ _ _ _ _ _ _ _ _ _ _ _ _ _ _ _ _ w
  · exact idx2 _ _ _ _ _ _ _ _ _ _ _ _ _ _ _ _ _ _ _ _ _ _ _ _ _ _ _ _ _ _ _ _ w
  · exact idx3 _ _ _ _ _ _ _ _ _ _ _ _ _ _ _ _ _ _ _ _ _ _ _ _ _ _ _ _ _ _ _ _ w
  · exact idx4 _ _ _ _ _ _ _ _ _ _ _ _ _ _ _ _ _ _ _ _ _ _ _ _ _ _ _ _ _ _ _ _ w
  · exact idx5 _ _ _ _ _ _ _ _ _ _ _ _ _ _ _ _ _ _ _ _ _ _ _ _ _ _ _ _ _ _ _ _ w
  · exact idx6 _ _ _ _ _ _ _ _ _ _ _ _ _ _ _ _ _ _ _ _ _ _ _ _ _ _ _ _ _ _ _ _ w
  · exact idx7 _ _ _ _ _ _ _ _ _ _ _ _ _ _ _ _ _ _ _ _ _ _ _ _ _ _ _ _ _ _ _ _ w
  · exact idx8 _ _ _ _ _ _ _ _ _ _ _ _ _ _ _ _ _ _ _ _ _ _ _ _ _ _ _ _ _ _ _ _ w
  · exact idx9 _ _ _ _ _ _ _ _ _ _ _ _ _ _ _ _ _ _ _ _ _ _ _ _ _ _ _ _ _ _ _ _ w
  · exact idx10 _ _ _ _ _ _ _ _ _ _ _ _ _ _ _ _ _ _ _ _ _ _ _ _ _ _ _ _ _ _ _ _ w
  · exact idx11 _ _ _ _ _ _ _ _ _ _ _ _ _ _ _ _ _ _ _ _ _ _ _ _ _ _ _ _ _ _ _ _ w
  · exact idx12 _ _ _ _ _ _ _ _ _ _ _ _ _ _ _ _ _ _ _ _ _ _ _ _ _ _ _ _ _ _ _ _ w
  · exact idx13 _ _ _ _ _ _ _ _ _ _ _ _ _ _ _ _ _ _ _ _ _ _ _ _ _ _ _ _ _ _ _ _ w
  · exact idx14 _ _ _ _ _ _ _ _ _ _ _ _ _ _ _ _ _ _ _ _ _ _ _ _ _ _ _ _ _ _ _ _ w
  · exact idx15 _ _ _ _ _ _ _ _ _ _ _ _ _ _ _ _ _ _ _ _ _ _ _ _ _ _ _ _ _ _ _ _ w
section
variable {w w' : World} {base R : Nat} {L : List Int}
set_option maxRecDepth 100000 in
set_option maxHeartbeats 4000000 in
theorem cImage_any (h : CIn w base R L) (hA : AllIn L) : Calls Try.prog 28 #[.pointer (some ⟨R, 0, none⟩)] w fun e w' => ∃ v, e = .returned v ∧ Got w' v (imgB L) ∧ Below w.heap.size w w' ∧ w'.ownsRow w.heap.size 5 1 v (imgB L).length (cellsOf (imgB L)) := by
  have c0 := h.cell 0 (by omega)
  have H : Hid (CIn w base R L ∧ AllIn L) := ⟨h, hA⟩
  have HI := int_got (got_nil w) (at_ L 0) (hA 0) (by simp)
  clear h hA
  go_enter Try.func28, Try.ntmps28
  go_wp2_with fail
  refine HI.mono ?_
  clear HI c0
  rintro e w1 ⟨v1, rfl, g1, b1⟩
  have C1 : Hid (CIn w1 base R L) := H.out.1.below b1
  have G1 : Hid (Got w1 v1 (imgP L 1) ∧ Below w.heap.size w w1) := ⟨g1, b1⟩
  clear g1 b1
  obtain ⟨CS, eCS⟩ : ∃ x : List Value, x.toArray = #[.int .i64 (at_ L 1), .int .i64 (at_ L 2), .int .i64 (at_ L 3), .int .i64 (at_ L 4), .int .i64 (at_ L 5), .int .i64 (at_ L 6), .int .i64 (at_ L 7), .int .i64 (at_ L 8), .int .i64 (at_ L 9), .int .i64 (at_ L 10), .int .i64 (at_ L 11), .int .i64 (at_ L 12), .int .i64 (at_ L 13), .int .i64 (at_ L 14), .int .i64 (at_ L 15), .int .i64 (at_ L 16), .int .i64 (at_ L 17), .int .i64 (at_ L 18), .int .i64 (at_ L 19), .int .i64 (at_ L 20), .int .i64 (at_ L 21), .int .i64 (at_ L 22), .int .i64 (at_ L 23), .int .i64 (at_ L 24), .int .i64 (at_ L 25), .int .i64 (at_ L 26), .int .i64 (at_ L 27), .int .i64 (at_ L 28), .int .i64 (at_ L 29), .int .i64 (at_ L 30), .int .i64 (at_ L 31), .int .i64 (at_ L 32)] := ⟨_, rfl⟩
  have HIX : Hid (∀ j : Nat, j < 16 → ∀ w : World, (Instr.index 72 (.agg CS.toArray) (.int .i64 (j : Int))).run Try.prog w = .ok (.agg #[.int .i64 (at_ L (1 + j * 2)), .int .i64 (at_ L (2 + j * 2))]) w) := fun j hj w => by rw [eCS]; exact idx_any L j hj w
  have HLEN : CS.length = 32 := by have := congrArg Array.size eCS; simpa using this
  have HSZ : Hid ((Try.prog.info? 72).map (·.size) = some CS.length) := by show (Try.prog.info? 72).map (·.size) = some CS.length; rw [HLEN]; kernel_rfl
  have HRG : Hid (w1.rangeAt R 1 CS) := fun j v hv => by
    have hj : j < 32 := by have := (List.getElem?_eq_some_iff.1 hv).1; omega
    have h1 := C1.out.cell (1 + j) (by omega)
    rw [h1]
    have h2 : CS.toArray[j]? = some v := by simpa using hv
    rw [eCS] at h2
    rw [← h2]
    rcases (show j = 0 ∨ j = 1 ∨ j = 2 ∨ j = 3 ∨ j = 4 ∨ j = 5 ∨ j = 6 ∨ j = 7 ∨ j = 8 ∨ j = 9 ∨ j = 10 ∨ j = 11 ∨ j = 12 ∨ j = 13 ∨ j = 14 ∨ j = 15 ∨ j = 16 ∨ j = 17 ∨ j = 18 ∨ j = 19 ∨ j = 20 ∨ j = 21 ∨ j = 22 ∨ j = 23 ∨ j = 24 ∨ j = 25 ∨ j = 26 ∨ j = 27 ∨ j = 28 ∨ j = 29 ∨ j = 30 ∨ j = 31 by omega) with rfl | rfl | rfl | rfl | rfl | rfl | rfl | rfl | rfl | rfl | rfl | rfl | rfl | rfl | rfl | rfl | rfl | rfl | rfl | rfl | rfl | rfl | rfl | rfl | rfl | rfl | rfl | rfl | rfl | rfl | rfl | rfl <;> rfl
  clear eCS HLEN
  go_wp2_with (first
    | (refine wpList_load_mid rfl 72 (.tmp 15) rfl R 1 rfl CS _ HRG.out Try.underlying72 rfl HSZ.out ?_))
  clear HRG HSZ
  go_loopw [3, 17] (fun v i wr => ∃ j : Nat, j ≤ 16 ∧ i = .int .i64 (j : Int) ∧ Hid (CIn wr base R L ∧ Got wr v (imgP L (1 + j * 2)) ∧ Below w.heap.size w wr)) (fun _ i _ => 16 - (intOf i).toNat)
  case atStart => exact ⟨0, by omega, rfl, ⟨C1.out, G1.out.1, G1.out.2⟩⟩
  case round =>
    obtain ⟨j, hj, rfl, HH⟩ := hrel
    clear C1 G1
    by_cases hj16 : j < 16
    · have ix := HIX.out j hj16
      obtain ⟨o1, eo1⟩ : ∃ x, at_ L (1 + j * 2) = x := ⟨_, rfl⟩
      obtain ⟨o2, eo2⟩ : ∃ x, at_ L (2 + j * 2) = x := ⟨_, rfl⟩
      have EO : Hid (at_ L (1 + j * 2) = o1 ∧ at_ L (2 + j * 2) = o2) := ⟨eo1, eo2⟩
      rw [eo1, eo2] at ix
      have H2 : Hid (CIn (wr.alloc (.cells #[.int .i64 o1, .int .i64 o2] 71)) base R L ∧ Blk (wr.alloc (.cells #[.int .i64 o1, .int .i64 o2] 71)) wr.heap.size #[.int .i64 o1, .int .i64 o2] 71 ∧ Below w.heap.size w (wr.alloc (.cells #[.int .i64 o1, .int .i64 o2] 71))) := ⟨HH.out.1.alloc _, Blk.new _ _ _, HH.out.2.2.alloc HH.out.2.2.size _⟩
      have HI := int_got (HH.out.2.1.below ((Below.refl _ wr).alloc (Nat.le_refl _) (.cells #[.int .i64 o1, .int .i64 o2] 71))) o1 (by rw [← eo1]; exact H.out.2 _) (by have := imgP_len H.out.2 (1 + j * 2); omega)
      obtain ⟨S, eS⟩ : ∃ x, wr.heap.size = x := ⟨_, rfl⟩
      have ES : Hid (wr.heap.size = S) := eS
      rw [eS] at H2
      clear hj eo1 eo2 HH eS
      go_wp2_with fail
      rw [ES.out]
      clear ES
      refine HI.mono ?_
      clear HI ix
      rintro e w3 ⟨v3, rfl, g3, b3⟩
      have H3 : Hid (CIn w3 base R L ∧ Below w.heap.size w w3) := ⟨H2.out.1.below b3, H2.out.2.2.trans (b3.mono H2.out.2.2.size)⟩
      have y1 : w3.cell? ⟨S, 1, none⟩ = some (.int .i64 o2) := (H2.out.2.1.below b3).cell 1
      have HI := int_got g3 o2 (by rw [← EO.out.2]; exact H.out.2 _) (by have := imgP_len H.out.2 (1 + j * 2); have e9 := enc_zig (n := o1) (by rw [← EO.out.1]; exact H.out.2 _); simp only [List.length_append]; omega)
      clear g3 b3 H2
      go_wp2_with fail
      refine HI.mono ?_
      clear HI y1
      rintro e w4 ⟨v4, rfl, g4, b4⟩
      have H4 : Hid (CIn w4 base R L ∧ Got w4 v4 (imgP L (1 + (j + 1) * 2)) ∧ Below w.heap.size w w4) := ⟨H3.out.1.below b4, by
        rw [show 1 + (j + 1) * 2 = 1 + j * 2 + 1 + 1 by omega]
        show Got w4 v4 ((imgP L (1 + j * 2) ++ enc (zig (at_ L (1 + j * 2)))) ++ enc (zig (at_ L (1 + j * 2 + 1))))
        rw [show 1 + j * 2 + 1 = 2 + j * 2 by omega, EO.out.1, EO.out.2]
        exact g4, H3.out.2.trans (b4.mono H3.out.2.size)⟩
      clear g4 b4 H3
      go_wp2
      go_roundw
      case rel => exact ⟨j + 1, by omega, by go_num, H4⟩
      case measure => simp only [intOf]; omega
    · obtain rfl : j = 16 := by omega
      rw [show ((16 : Nat) : Int) = 16 from rfl]
      have H33 : Hid (CIn wr base R L ∧ Got wr u3 (imgP L 33) ∧ Below w.heap.size w wr) := HH.out
      have c33 := H33.out.1.cell 33 (by omega)
      clear HH hj hj16 HIX
      have HI := int_got H33.out.2.1 (at_ L 33) (H.out.2 _) (by have := imgP_len H.out.2 33; omega)
      go_wp2_with fail
      refine HI.mono ?_
      clear HI c33
      rintro e y33 ⟨v33, rfl, g33, b33⟩
      have H34 : Hid (CIn y33 base R L ∧ Got y33 v33 (imgP L 34) ∧ Below w.heap.size w y33) := ⟨H33.out.1.below b33, g33, H33.out.2.2.trans (b33.mono H33.out.2.2.size)⟩
      have c34 := H34.out.1.cell 34 (by omega)
      clear g33 b33 H33
      have HI := int_got H34.out.2.1 (at_ L 34) (H.out.2 _) (by have := imgP_len H.out.2 34; omega)
      go_wp2_with fail
      refine HI.mono ?_
      clear HI c34
      rintro e y34 ⟨v34, rfl, g34, b34⟩
      have H35 : Hid (CIn y34 base R L ∧ Got y34 v34 (imgP L 35) ∧ Below w.heap.size w y34) := ⟨H34.out.1.below b34, g34, H34.out.2.2.trans (b34.mono H34.out.2.2.size)⟩
      have c35 := H35.out.1.cell 35 (by omega)
      clear g34 b34 H34
      have HI := int_got H35.out.2.1 (at_ L 35) (H.out.2 _) (by have := imgP_len H.out.2 35; omega)
      go_wp2_with fail
      refine HI.mono ?_
      clear HI c35
      rintro e y35 ⟨v35, rfl, g35, b35⟩
      have H36 : Hid (CIn y35 base R L ∧ Got y35 v35 (imgP L 36) ∧ Below w.heap.size w y35) := ⟨H35.out.1.below b35, g35, H35.out.2.2.trans (b35.mono H35.out.2.2.size)⟩
      have c36 := H36.out.1.cell 36 (by omega)
      clear g35 b35 H35
      have HI := int_got H36.out.2.1 (at_ L 36) (H.out.2 _) (by have := imgP_len H.out.2 36; omega)
      go_wp2_with fail
      refine HI.mono ?_
      clear HI c36
      rintro e y36 ⟨v36, rfl, g36, b36⟩
      have H37 : Hid (CIn y36 base R L ∧ Got y36 v36 (imgP L 37) ∧ Below w.heap.size w y36) := ⟨H36.out.1.below b36, g36, H36.out.2.2.trans (b36.mono H36.out.2.2.size)⟩
      have c37 := H37.out.1.cell 37 (by omega)
      clear g36 b36 H36
      have HI := int_got H37.out.2.1 (at_ L 37) (H.out.2 _) (by have := imgP_len H.out.2 37; omega)
      go_wp2_with fail
      refine HI.mono ?_
      clear HI c37
      rintro e y37 ⟨v37, rfl, g37, b37⟩
      have H38 : Hid (CIn y37 base R L ∧ Got y37 v37 (imgP L 38) ∧ Below w.heap.size w y37) := ⟨H37.out.1.below b37, g37, H37.out.2.2.trans (b37.mono H37.out.2.2.size)⟩
      have c38 := H38.out.1.cell 38 (by omega)
      clear g37 b37 H37
      have HI := int_got H38.out.2.1 (at_ L 38) (H.out.2 _) (by have := imgP_len H.out.2 38; omega)
      go_wp2_with fail
      refine HI.mono ?_
      clear HI c38
      rintro e y38 ⟨v38, rfl, g38, b38⟩
      have H39 : Hid (CIn y38 base R L ∧ Got y38 v38 (imgP L 39) ∧ Below w.heap.size w y38) := ⟨H38.out.1.below b38, g38, H38.out.2.2.trans (b38.mono H38.out.2.2.size)⟩
      have c39 := H39.out.1.cell 39 (by omega)
      clear g38 b38 H38
      have HI := int_got H39.out.2.1 (at_ L 39) (H.out.2 _) (by have := imgP_len H.out.2 39; omega)
      go_wp2_with fail
      refine HI.mono ?_
      clear HI c39
      rintro e y39 ⟨v39, rfl, g39, b39⟩
      have H40 : Hid (CIn y39 base R L ∧ Got y39 v39 (imgP L 40) ∧ Below w.heap.size w y39) := ⟨H39.out.1.below b39, g39, H39.out.2.2.trans (b39.mono H39.out.2.2.size)⟩
      have c40 := H40.out.1.cell 40 (by omega)
      clear g39 b39 H39
      have HI := int_got H40.out.2.1 (at_ L 40) (H.out.2 _) (by have := imgP_len H.out.2 40; omega)
      go_wp2_with fail
      refine HI.mono ?_
      clear HI c40
      rintro e y40 ⟨v40, rfl, g40, b40⟩
      have H41 : Hid (CIn y40 base R L ∧ Got y40 v40 (imgP L 41) ∧ Below w.heap.size w y40) := ⟨H40.out.1.below b40, g40, H40.out.2.2.trans (b40.mono H40.out.2.2.size)⟩
      have c41 := H41.out.1.cell 41 (by omega)
      clear g40 b40 H40
      have HI := int_gotO H41.out.2.1 (at_ L 41) (H.out.2 _) (by have := imgP_len H.out.2 41; omega)
      go_wp2_with fail
      refine HI.mono ?_
      clear HI c41
      rintro e y41 ⟨v41, rfl, g41, b41, o41⟩
      have H42 : Hid (CIn y41 base R L ∧ Got y41 v41 (imgP L 42) ∧ Below w.heap.size w y41) := ⟨H41.out.1.below b41, g41, H41.out.2.2.trans (b41.mono H41.out.2.2.size)⟩
      have OW : Hid (y41.ownsRow w.heap.size 5 1 v41 (imgB L).length (cellsOf (imgB L))) := o41.mono H41.out.2.2.size
      clear o41
      clear g41 b41 H41
      go_wp2
      go_ret
      exact ⟨_, rfl, H42.out.2.1, H42.out.2.2, OW.out⟩
end
end Go.Proofs.Ytpdgmlljjjeifaa
