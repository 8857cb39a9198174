/- What Read, Image, New and Load do. -/
import Derived.Test.YtikpmaecbfebkaaDoorDCopyB
namespace Go.Proofs.YtikpmaecbfebkaaDoor
open Go.RowKit
set_option linter.unusedVariables false

theorem exec_make {P : Program} {ρ : Operand → Value} {o : Oper} {t : TypeId} {l c : Operand} {vl vc v : Value} {w w' : World} (ho : o.op = .makeSlice t l c) (hl : ρ l = vl) (hc : ρ c = vc) (h : (Instr.makeSlice t vl vc).run P w = .ok v w') : (execOp ρ o).run P w = .ok (.value v) w' := by
  unfold execOp
  simp [ho, hl, hc, h]
/-- make of bytes: all 0. -/
theorem make_bytes (w : World) (k : Nat) (hk : k ≤ 1048576) : ∃ w', (Instr.makeSlice 22 (.int .i64 (k : Int)) (.int .i64 (k : Int))).run Tryd.prog w = .ok (.slice (some ⟨w.heap.size, 0, none⟩) k k) w' ∧ w'.ownsRow w.heap.size 5 1 (.slice (some ⟨w.heap.size, 0, none⟩) k k) k (cellsOf (List.replicate k 0#8)) ∧ w.grownBy w' none ∧ w'.heap.size = w.heap.size + 1 := by
  obtain ⟨i0, hi, hz0, hz1, hz2⟩ := info_parts info5
  have hr := run_make (P := Tryd.prog) w 22 5 i0 (.int .u8 0) Tryd.underlying22 hi hz0 .i64 .i64 k k (by omega) (Int.le_refl _) (by rw [hz2]; omega) (by omega)
  obtain ⟨w', h1, h2, h3⟩ := run_make_full (P := Tryd.prog) w w.heap.size 22 5 i0 (.int .u8 0) 1 Tryd.underlying22 hi hz0 hz1 .i64 .i64 k (by rw [hz2]; omega) (by unfold maxLen; omega) (Nat.le_refl _)
  refine ⟨w', h1, ?_, h3, ?_⟩
  · have e : (madeCells (Value.cells (.int .u8 0)) (k * 1)).toList = cellsOf (List.replicate k 0#8) := by
      rw [show Value.cells (.int .u8 0) = #[.int .u8 0] from rfl, toList_madeCells_one]
      simp [cellsOf, V]
    rw [← e]
    exact h2
  · rw [h1] at hr
    simp only [Result.ok.injEq] at hr
    rw [hr.2]
    simp
theorem Dsk.seen_now {w : World} {m : DM} {n : Nat} {s : DS} (h : Dsk w m n s) {i : Nat} (hi : i < n) : Seen w (some ⟨m.gn, 256 * i, none⟩) 256 (sec s.now i) := by
  have hl := h.ok.ln
  refine ⟨(sec_length (by omega)).symm, by rw [sec_length (by omega)]; unfold maxLen; omega, .inr ⟨m.gn, 256 * i, rfl, fun j hj => ?_⟩⟩
  rw [sec_length (by omega)] at hj
  rw [h.hn.cellAt (256 * i + j) (by omega)]
  simp [cellsOf, sec, hj, List.getElem?_drop, show 256 * i + j < s.now.length by omega]
theorem Dsk.seen_img {w : World} {m : DM} {n : Nat} {s : DS} (h : Dsk w m n s) {i : Nat} (hi : i < n) : Seen w (some ⟨m.gi, 256 * i, none⟩) 256 (sec s.img i) := by
  have hl := h.ok.li
  refine ⟨(sec_length (by omega)).symm, by rw [sec_length (by omega)]; unfold maxLen; omega, .inr ⟨m.gi, 256 * i, rfl, fun j hj => ?_⟩⟩
  rw [sec_length (by omega)] at hj
  rw [h.hi.cellAt (256 * i + j) (by omega)]
  simp [cellsOf, sec, hj, List.getElem?_drop, show 256 * i + j < s.img.length by omega]
theorem Dsk.caps {w : World} {m : DM} {n : Nat} {s : DS} (h : Dsk w m n s) : 256 * n ≤ m.ci ∧ 256 * n ≤ m.cn := by
  constructor
  · rcases h.hi.2 with ⟨e, _⟩ | ⟨g, c, cur, e, _, _, hc, _⟩
    · cases e
    · cases e; exact hc
  · rcases h.hn.2 with ⟨e, _⟩ | ⟨g, c, cur, e, _, _, hc, _⟩
    · cases e
    · cases e; exact hc
theorem read_nil (i : Int) (w : World) : Calls Tryd.prog 79 #[.pointer none, .int .i64 i] w fun e w' => e = .returned (.tuple #[.slice none 0 0, .int .i64 2]) ∧ w' = w := by
  go_enter Tryd.func79, Tryd.ntmps79
  go_wp2
  go_ret2
  exact ⟨rfl, rfl⟩
theorem read_no (m : DM) (n : Nat) (s : DS) (i : Int) (w : World) (h : Dsk w m n s) (hi : ¬ (0 ≤ i ∧ i < n)) : Calls Tryd.prog 79 #[.pointer (some ⟨m.D, 0, none⟩), .int .i64 i] w fun e w' => e = .returned (.tuple #[.slice none 0 0, .int .i64 1]) ∧ w' = w := by
  have HH := has_any m n s i w h
  rw [decide_eq_false hi] at HH
  clear h hi
  go_enter Tryd.func79, Tryd.ntmps79
  go_wp2_with fail
  refine HH.mono ?_
  rintro e w' ⟨rfl, rfl⟩
  go_wp2
  go_ret2
  exact ⟨rfl, rfl⟩
set_option maxRecDepth 100000 in
set_option maxHeartbeats 800000 in
theorem read_any (m : DM) (n : Nat) (s : DS) (i : Nat) (w : World) (h : Dsk w m n s) (hi : i < n) : Calls Tryd.prog 79 #[.pointer (some ⟨m.D, 0, none⟩), .int .i64 (i : Int)] w fun e w' =>
    ∃ g, e = .returned (.tuple #[.slice (some ⟨g, 0, none⟩) 256 256, .int .i64 0]) ∧ w'.ownsRow w.heap.size 5 1 (.slice (some ⟨g, 0, none⟩) 256 256) 256 (cellsOf (readD s i)) ∧ Below w.heap.size w w' := by
  have HH := has_any m n s i w h
  rw [decide_eq_true (by omega)] at HH
  obtain ⟨w1, hm, o1, g1, z1⟩ := make_bytes w 256 (by omega)
  rw [show ((256 : Nat) : Int) = 256 from rfl] at hm
  have b1 : Below w.heap.size w w1 := (Below.refl _ w).grown g1 (Nat.le_refl _) (fun k e => by cases e)
  have h1 := h.below b1
  have HSc := sector_any m.gn (256 * n) m.cn i w1 (by have := h.ok.n2; omega) h.caps.2 (by have := h.ok.n2; omega)
  obtain ⟨w2, hc, o2, j2⟩ := copy_bytes w1 w.heap.size w.heap.size 256 256 0 256 256 _ o1 (some ⟨m.gn, 256 * i, none⟩) 256 256 _ (h1.seen_now hi) (by simp) 3
  have e2 : List.take 0 (List.replicate 256 0#8) ++ List.take 256 (sec s.now i) ++ List.drop (0 + min 256 256) (List.replicate 256 0#8) = readD s i := by
    have hl := h.ok.ln
    rw [List.take_of_length_le (l := sec s.now i) (by rw [sec_length (by omega)]; exact Nat.le_refl _), List.drop_of_length_le (by rw [List.length_replicate]; decide), List.append_nil, List.take_zero, List.nil_append]
    rfl
  rw [e2] at o2
  obtain ⟨_, c1, _⟩ := h1.cells
  have B2 : Hid (Below w.heap.size w w2) := b1.trans ⟨j2.os, j2.tape, j2.output, by rw [j2.size]; exact Nat.le_refl _, fun k hk => j2.block k (by omega)⟩
  have O2 : Hid _ := o2
  have HM : Hid _ := hm
  have HC : Hid _ := hc
  clear h hi o1 g1 z1 b1 h1 o2 j2 e2 hm hc
  go_enter Tryd.func79, Tryd.ntmps79
  go_wp2_with fail
  refine HH.mono ?_
  rintro e w' ⟨rfl, rfl⟩
  go_wp2_with (refine wpList_value rfl (exec_make (t := 22) (l := .const (.int .i64 256)) (c := .const (.int .i64 256)) rfl rfl rfl HM.out) ?_)
  refine HSc.mono ?_
  rintro e w' ⟨rfl, rfl⟩
  go_wp2_with (refine wpList_value rfl (exec_copy (d := .tmp 16) (s := .tmp 22) (t := 22) (tn := 22) rfl rfl rfl HC.out) ?_)
  go_ret2
  exact ⟨_, rfl, O2.out, B2.out⟩
end Go.Proofs.YtikpmaecbfebkaaDoor
