/- Package net: the fixed calls. -/
import Derived.Test.YtccmehbdnnelhaaNSend
import Derived.Test.YtccmehbdnnelhaaText
import Derived.Lib.SlBytesConst
namespace Go.Proofs.Ytccmehbdnnelhaa
open Go.RowKit Go.Maps
attribute [local go_sem] Oper.semAt_some
set_option linter.unusedVariables false

theorem NetS.has {w : World} {base N T : Nat} {L : List Post} (h : NetS w base N L T) (hne : L ≠ []) : ∃ B bx, NetIn w base N B bx L T := by
  rcases h.2 with ⟨_, e, _⟩ | h
  · exact absurd e hne
  · exact h
theorem seen_one (w : World) (b : BitVec 8) (fr : Nat × Nat) : Seen (w.alloc (.cells #[.int .u8 (V b)] 5 fr)) (some ⟨w.heap.size, 0, none⟩) 1 [b] := by
  have q := heap_alloc_new w (.cells #[.int .u8 (V b)] 5 fr)
  refine ⟨rfl, by unfold maxLen; simp, .inr ⟨w.heap.size, 0, rfl, fun j hj => ?_⟩⟩
  obtain rfl : j = 0 := by simpa using hj
  unfold World.cell?
  simp only [q]
  rfl
set_option maxRecDepth 100000 in
set_option maxHeartbeats 4000000 in
theorem knownN_any (w : World) : Calls Try.prog 7 #[] w fun e w' => e = .returned (.bool true) ∧ Below w.heap.size w w' := by
  have kc := fun (w : World) (C : Array Value) (n c : Nat) => Lib.run_convert_bytes_const (P := Try.prog) w 30 5 C n c Try.underlying30 Try.underlying5
  go_enter Try.func7, Try.ntmps7
  go_wp2_with fail
  refine (new_any w).mono ?_
  rintro e w1 ⟨rfl, n1, b1⟩
  have N1 : Hid (NetS w1 w.heap.size w.heap.size [] 0 ∧ Below w.heap.size w w1) := ⟨⟨fun p hp => (by cases hp), .inl ⟨n1, rfl, rfl⟩⟩, b1⟩
  obtain ⟨N, eN⟩ : ∃ N, w.heap.size = N := ⟨_, rfl⟩
  have EN : Hid (w.heap.size = N) := eN
  obtain ⟨base, eb⟩ : ∃ base, w.heap.size = base := ⟨_, rfl⟩
  have N1' : Hid (NetS w1 base N [] 0) := by have := N1.out.1; rw [eb] at this; rw [eb] at eN; rw [← eN]; exact this
  have B1 : Hid (Below base w w1) := by rw [← eb]; exact N1.out.2
  have EB : Hid (w.heap.size = base) := eb
  rw [eN]
  clear n1 b1 N1 eN eb
  have ba := (Below.refl _ w1).alloc (Nat.le_refl _) (.cells #[.int .u8 97] 5 (1, 2))
  have HS1 : Calls Try.prog 9 #[.pointer (some ⟨N, 0, none⟩), .int .i64 0, .int .i64 1, .slice (some ⟨w1.heap.size, 0, none⟩) 1 1] (w1.alloc (.cells #[.int .u8 97] 5 (1, 2))) _ := send_any (N1'.out.below ba) 0 1 (some ⟨w1.heap.size, 0, none⟩) 1 [97#8] (seen_one w1 97#8 (1, 2)) (fun e => by cases e) (by simp) (by omega)
  have BA : Hid (Below w1.heap.size w1 (w1.alloc (.cells #[.int .u8 97] 5 (1, 2)))) := ba
  clear ba
  go_wp2_with fail
  refine HS1.mono ?_
  clear HS1
  rintro e w2 (⟨x, _⟩ | ⟨_, x, _⟩ | ⟨_, _, rfl, dv1, n2, k2⟩)
  · exact absurd x (by decide)
  · exact absurd x (by decide)
  have N2 : Hid (NetS w2 base N [⟨0, 1, dv1, [97#8], 0⟩] 1) := n2
  have B2 : Hid (Below base w w2) := B1.out.trans ((BA.out.mono N1'.out.size).trans k2.1)
  clear n2 k2 N1' B1 BA
  have ba := (Below.refl _ w2).alloc (Nat.le_refl _) (.cells #[.int .u8 98] 5 (1, 2))
  have HS1 : Calls Try.prog 9 #[.pointer (some ⟨N, 0, none⟩), .int .i64 1, .int .i64 0, .slice (some ⟨w2.heap.size, 0, none⟩) 1 1] (w2.alloc (.cells #[.int .u8 98] 5 (1, 2))) _ := send_any (N2.out.below ba) 1 0 (some ⟨w2.heap.size, 0, none⟩) 1 [98#8] (seen_one w2 98#8 (1, 2)) (fun e => by cases e) (by simp) (by omega)
  have BA : Hid (Below w2.heap.size w2 (w2.alloc (.cells #[.int .u8 98] 5 (1, 2)))) := ba
  clear ba
  go_wp2_with fail
  refine HS1.mono ?_
  clear HS1
  rintro e w3 (⟨x, _⟩ | ⟨_, x, _⟩ | ⟨_, _, rfl, dv2, n3, k3⟩)
  · exact absurd x (by decide)
  · exact absurd x (by decide)
  have N3 : Hid (NetS w3 base N [⟨0, 1, dv1, [97#8], 0⟩, ⟨1, 0, dv2, [98#8], 1⟩] 2) := n3
  have B3 : Hid (Below base w w3) := B2.out.trans ((BA.out.mono N2.out.size).trans k3.1)
  clear n3 k3 N2 B2 BA
  obtain ⟨Bm, bx3, h3⟩ := N3.out.has (by simp)
  have HD : Calls Try.prog 18 #[.pointer (some ⟨N, 0, none⟩), .int .i64 0] w3 _ := double_any h3 N3.out.1 0 (by simp) (by omega)
  clear h3 kc
  go_wp2_with fail
  refine HD.mono ?_
  clear HD
  rintro e w4 (⟨x, _⟩ | ⟨i, hi, x, rfl, n4, k4⟩)
  · exact absurd x (by simp)
  obtain rfl : i = 0 := by omega
  have N4 : Hid (NetS w4 base N [⟨0, 1, dv1, [97#8], 0⟩, ⟨1, 0, dv2, [98#8], 1⟩, ⟨0, 1, dv1, [97#8], 2⟩] 3) := n4
  have B4 : Hid (Below base w w4) := B3.out.trans k4.1
  clear n4 k4 N3 B3 hi x
  obtain ⟨Bm, bx4, h4⟩ := N4.out.has (by simp)
  have HT : Calls Try.prog 13 #[.pointer (some ⟨N, 0, none⟩), .int .i64 0] w4 _ := take_any h4 N4.out.1 0 (by omega)
  clear h4
  go_wp2_with fail
  refine HT.mono ?_
  clear HT
  rintro e w5 (⟨x, _⟩ | ⟨i, hi, v, x, rfl, d5, bx5, n5, k5⟩)
  · exact absurd x (by simp)
  obtain rfl : i = 0 := by omega
  have d5' : DataAt w5 v [97#8] := d5
  clear d5
  obtain ⟨a5, c5, rfl, s5, u5, g5⟩ := d5'
  simp only [List.getElem_cons_zero, List.length_cons, List.length_nil, Nat.zero_add]
  have N5 : Hid (NetIn w5 base N Bm bx5 [⟨1, 0, dv2, [98#8], 1⟩, ⟨0, 1, dv1, [97#8], 2⟩] 3) := n5
  have SM : Hid (Small [⟨1, 0, dv2, [98#8], 1⟩, ⟨0, 1, dv1, [97#8], 2⟩]) := fun p hp => N4.out.1 p (List.mem_cons_of_mem _ hp)
  have B5 : Hid (Below base w w5) := B4.out.trans k5.1
  have S5 : Hid (Seen w5 a5 1 [97#8]) := s5
  clear n5 k5 N4 B4 hi x s5 u5 g5
  have ba := (Below.refl _ w5).alloc (Nat.le_refl _) (.cells #[.int .i64 0, .int .i64 1, .slice a5 1 c5] 45)
  have HLk : Calls Try.prog 21 #[.pointer (some ⟨N, 0, none⟩), .int .i64 1] (w5.alloc (.cells #[.int .i64 0, .int .i64 1, .slice a5 1 c5] 45)) _ := look_any (N5.out.below ba) SM.out 1 (by omega)
  have q5 := row3 w5 (.int .i64 0) (.int .i64 1) (.slice a5 1 c5)
  obtain ⟨wL, eL⟩ : ∃ wL, w5.alloc (.cells #[.int .i64 0, .int .i64 1, .slice a5 1 c5] 45) = wL := ⟨_, rfl⟩
  rw [eL] at HLk ba q5
  have NL : Hid (NetIn wL base N Bm bx5 [⟨1, 0, dv2, [98#8], 1⟩, ⟨0, 1, dv1, [97#8], 2⟩] 3) := N5.out.below ba
  have BL : Hid (Below base w wL) := B5.out.trans (ba.mono (Nat.le_of_lt (Nat.lt_of_le_of_lt N5.out.bN N5.out.ltN)))
  have SL : Hid (Seen wL a5 1 [97#8]) := S5.out.below ba
  have QL : Hid (wL.heap[w5.heap.size]? = some (.cells #[.int .i64 0, .int .i64 1, .slice a5 1 c5] 45 (0, 0))) := q5
  clear ba q5 N5 B5 S5
  go_wp2_with (first | (simp only [List.getElem_cons_zero, List.length_cons, List.length_nil, Nat.zero_add]; rw [eL]) | (rw [eL]) | fail)
  try simp only [List.getElem_cons_zero, List.length_cons, List.length_nil, Nat.zero_add]
  try rw [eL]
  refine HLk.mono ?_
  clear HLk
  rintro e w6 ⟨(⟨x, _⟩ | ⟨i, hi, v, x, rfl, d6⟩), b6⟩
  · exact absurd x (by simp)
  obtain rfl : i = 1 := by omega
  have d6' : DataAt w6 v [97#8] := d6
  clear d6
  obtain ⟨a6, c6, rfl, s6, u6, g6⟩ := d6'
  simp only [List.getElem_cons_zero, List.getElem_cons_succ, List.length_cons, List.length_nil, Nat.zero_add]
  have bb := (Below.refl _ w6).alloc (Nat.le_refl _) (.cells #[.int .i64 0, .int .i64 1, .slice a6 1 c6] 45)
  have q6 := row3 w6 (.int .i64 0) (.int .i64 1) (.slice a6 1 c6)
  obtain ⟨wM, eM⟩ : ∃ wM, w6.alloc (.cells #[.int .i64 0, .int .i64 1, .slice a6 1 c6] 45) = wM := ⟨_, rfl⟩
  rw [eM] at bb q6
  have nM := (NL.out.below b6).below bb
  have NM : Hid (NetIn wM base N Bm bx5 [⟨1, 0, dv2, [98#8], 1⟩, ⟨0, 1, dv1, [97#8], 2⟩] 3) := nM
  have b7 := b6.trans (bb.mono b6.size)
  have BM : Hid (Below base w wM) := BL.out.trans (b7.mono (Nat.le_of_lt (Nat.lt_of_le_of_lt NL.out.bN NL.out.ltN)))
  have x0 : wM.cell? ⟨w5.heap.size, 2, none⟩ = some (.slice a5 1 c5) := by
    have := (b7.block w5.heap.size (Array.getElem?_eq_some_iff.1 QL.out).1).trans QL.out
    unfold World.cell?
    simp only [this]
    rfl
  have y0 : wM.cell? ⟨w6.heap.size, 2, none⟩ = some (.slice a6 1 c6) := by
    unfold World.cell?
    simp only [q6]
    rfl
  have tx : (convert 30 9 (.slice a5 1 c5)).run Try.prog wM = .ok (.string ⟨#[97]⟩) wM := run_to_text wM _ _ _ [97#8] (SL.out.below b7)
  have ty : ∀ W, Below wM.heap.size wM W → Hid ((convert 30 9 (.slice a6 1 c6)).run Try.prog W = .ok (.string ⟨#[97]⟩) W) := fun W hW => run_to_text W _ _ _ [97#8] ((s6.below bb).below hW)
  have HLn : Calls Try.prog 23 #[.pointer (some ⟨N, 0, none⟩)] wM fun e w' => e = .returned (.int .i64 2) ∧ Below wM.heap.size wM w' := len_any nM
  have HTo : ∀ W, Below wM.heap.size wM W → Hid (Calls Try.prog 24 #[.pointer (some ⟨N, 0, none⟩), .int .i64 1] W fun e w' => e = .returned (.int .i64 1) ∧ w' = W) := fun W hW => to_any (nM.below hW) (kwf_of (by omega) (by omega))
  clear s6 u6 g6 bb q6 nM b6 b7 NL BL SL QL hi x
  go_wp2_with (first | (rw [eM]) | fail)
  try rw [eM]
  refine HLn.mono ?_
  clear HLn
  rintro e w7 ⟨rfl, b7⟩
  have y7 : w7.cell? ⟨w6.heap.size, 2, none⟩ = some (.slice a6 1 c6) := by rw [b7.cell (p := ⟨w6.heap.size, 2, none⟩) (World.block_lt_of_cell? wM _ y0)]; exact y0
  have ty7 := (ty w7 b7).out
  have HT7 := (HTo w7 b7).out
  have B7 : Hid (Below base w w7) := BM.out.trans (b7.mono (Nat.le_of_lt (Nat.lt_of_le_of_lt NM.out.bN NM.out.ltN)))
  clear y0 x0 tx ty HTo b7 NM BM eM eL
  go_wp2_with fail
  refine (show Calls _ _ _ _ _ from HT7).mono ?_
  clear HT7
  rintro e w8 ⟨rfl, hw⟩
  subst w8
  go_wp2
  go_ret
  exact ⟨rfl, by rw [EB.out]; exact B7.out⟩
end Go.Proofs.Ytccmehbdnnelhaa
