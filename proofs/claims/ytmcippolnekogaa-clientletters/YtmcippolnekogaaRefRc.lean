/- What the reference's Reader.Count does. -/
import Derived.Test.YtmcippolnekogaaRefRf
namespace Go.Proofs.Ytmcippolnekogaa
open Go.RowKit Cod
set_option linter.unusedVariables false
set_option linter.unusedSimpArgs false

theorem RRd.drawn {w : World} {R A B : Nat} {l : List (BitVec 8)} {at_ why : Nat} (h : RRd w R A B l at_ why) (q : Nat) : RRd (w.drewN q) R A B l at_ why := h
theorem grown_put {w w' : World} {R : Nat} (h : w.grownBy w' (some R)) (i : Nat) (v : Value) : w.grownBy (w'.setCell ⟨R, i, none⟩ v) (some R) :=
  ⟨h.os, h.tape, h.output, by simpa [World.setCell] using h.size, fun k hk hr => by rw [Below.heap_setCell _ _ _ k (fun e => hr (congrArg some e))]; exact h.block k hk hr⟩
theorem grown_drawn {w w' : World} {row : Option Nat} (h : w.grownBy w' row) (q : Nat) : w.grownBy (w'.drewN q) row := ⟨h.os, h.tape, h.output, h.size, h.block⟩
set_option maxRecDepth 100000 in
set_option maxHeartbeats 3200000 in
theorem refRCount_any (R A B : Nat) (l : List (BitVec 8)) (most : Int) (hl0 : -9223372036854775808 ≤ most) (hmost : most < 9223372036854775808) (at_ why : Nat) (w : World) (h : RRd w R A B l at_ why) :
    Calls Try.prog 71 #[.pointer (some ⟨R, 0, none⟩), .int .i64 most] w fun e w' => e = .returned (.int .i64 (rC l most at_ why).1) ∧ RRd w' R A B l (rC l most at_ why).2.1 (rC l most at_ why).2.2 ∧ w.grownBy w' (some R) := by
  have HU := refRUint_any R A B l at_ why w h
  obtain ⟨a, cap, c0, c1, c2, hfr, _⟩ := h.cells
  have hat0 : at_ ≤ l.length := by obtain ⟨_, _, _, _, _, _, _, h6, _⟩ := h; exact h6
  have HAT : Hid (at_ ≤ l.length) := hat0
  have HUS : Hid ((rU l at_ why).1 < 18446744073709551616) := rU_small l at_ why
  have HUA : Hid ((rU l at_ why).2.1 ≤ l.length) := rU_at l at_ why hat0
  have HL0 : Hid (-9223372036854775808 ≤ most ∧ most < 9223372036854775808) := ⟨hl0, hmost⟩
  have HC : Hid (rC l most at_ why = if (rU l at_ why).2.2 ≠ 0 then (0, (rU l at_ why).2.1, (rU l at_ why).2.2) else if most < 0 ∨ most < (rU l at_ why).1 then (0, at_, 3) else if l.length - (rU l at_ why).2.1 < (rU l at_ why).1 then (0, at_, 10) else rU l at_ why) := by show _ = _; rw [rC]
  have HE : Hid ((rU l at_ why).2.2 ≠ 0 → rU l at_ why = (0, at_, (rU l at_ why).2.2)) := rU_err l at_ why
  obtain ⟨T, hT⟩ : ∃ T, rC l most at_ why = T := ⟨_, rfl⟩
  rw [hT] at HC ⊢
  have HM : Hid (l.length ≤ 140737488355328) := by obtain ⟨_, _, _, _, _, _, _, _, h7⟩ := h; exact h7
  clear h hfr hT c0 c2 hat0 hl0 hmost
  generalize rU l at_ why = U at *
  obtain ⟨n, p, y⟩ := U
  simp only at HU HC HE HUS HUA
  by_cases hy : y = 0
  · subst hy
    have HC2 : Hid (T = if most < 0 ∨ most < n then (0, at_, 3) else if l.length - p < n then (0, at_, 10) else (n, p, 0)) := by show _ = _; rw [HC.out]; simp
    clear HC HE
    by_cases hA : most < 0 ∨ most < n
    · have HC3 : Hid (T = (0, at_, 3)) := by show _ = _; rw [HC2.out, if_pos hA]
      have hAA : (most < 0) ∨ (¬ most < 0 ∧ IntKind.u64.wrap most < (n : Int)) := by
        rcases hA with h1 | h1
        · exact .inl h1
        · by_cases h2 : most < 0
          · exact .inl h2
          · exact .inr ⟨h2, by have := HL0.out; rw [IntKind.wrap_u64]; omega⟩
      clear HC2 hA
      rcases hAA with hA | ⟨hA, hB⟩
      all_goals
        go_enter Try.func71, Try.ntmps71
        go_wp2_with fail
        refine HU.mono ?_
        rintro e w1 ⟨rfl, r1, g1⟩
        obtain ⟨a', cap', d0, d1, d2, dfr, _, _, _, _, _, _⟩ := r1.cells
        have R1 : Hid (RRd w1 R A B l p 0) := r1
        have G1 : Hid (w.grownBy w1 (some R)) := g1
        clear r1 g1 c1
        go_wp2_with fail
        obtain ⟨x, hx⟩ : ∃ x, w1.setCell ⟨R, 2, none⟩ (.int .i64 3) = x := ⟨_, rfl⟩
        have rx : RRd x R A B l p 3 := by rw [← hx]; exact R1.out.put 3
        have gx : w.grownBy x (some R) := by rw [← hx]; exact grown_put G1.out _ _
        obtain ⟨a2, cap2, f0, f1, f2, ffr, _, _, _, _, _, _⟩ := rx.cells
        have RX : Hid (RRd x R A B l p 3) := rx
        have GX : Hid (w.grownBy x (some R)) := gx
        rw [hx]
        clear hx rx gx d0 d1 d2 dfr
        have hz : ((3 : Int) == 0) = false := rfl
        go_quiet (fail)
        go_wp2
        go_ret
        rw [HC3.out]
        exact ⟨rfl, (RX.out.drawn nq).go at_ HAT.out, grown_put (grown_drawn GX.out nq) _ _⟩
    · have hA1 : ¬ most < 0 := fun e => hA (.inl e)
      have hw : IntKind.u64.wrap most = most := by have := HL0.out; rw [IntKind.wrap_u64]; omega
      have hA2 : ¬ most < (n : Int) := fun e => hA (.inr e)
      have hsub : IntKind.i64.wrap ((l.length : Int) - (p : Int)) = ((l.length - p : Nat) : Int) := by have := HM.out; have := HUA.out; rw [IntKind.wrap_i64]; omega
      have hsub2 : IntKind.u64.wrap ((l.length - p : Nat) : Int) = ((l.length - p : Nat) : Int) := by have := HM.out; rw [IntKind.wrap_u64]; omega
      by_cases hB : l.length - p < n
      · have HC3 : Hid (T = (0, at_, 10)) := by show _ = _; rw [HC2.out, if_neg hA, if_pos hB]
        have hB' : ((l.length - p : Nat) : Int) < (n : Int) := by omega
        clear HC2 hA hB
        go_enter Try.func71, Try.ntmps71
        go_wp2_with fail
        refine HU.mono ?_
        rintro e w1 ⟨rfl, r1, g1⟩
        obtain ⟨a', cap', d0, d1, d2, dfr, _, _, _, _, _, _⟩ := r1.cells
        have R1 : Hid (RRd w1 R A B l p 0) := r1
        have G1 : Hid (w.grownBy w1 (some R)) := g1
        clear r1 g1 c1
        go_wp2_with fail
        go_quiet (fail)
        go_wp2
        go_ret
        rw [HC3.out]
        exact ⟨rfl, ((R1.out.drawn nq).put 10).go at_ HAT.out, grown_put (grown_put (grown_drawn G1.out nq) _ _) _ _⟩
      · have HC3 : Hid (T = (n, p, 0)) := by show _ = _; rw [HC2.out, if_neg hA, if_neg hB]
        have hB' : ¬ ((l.length - p : Nat) : Int) < (n : Int) := by omega
        have hwn : wrap64 (n : Int) = n := by have := HM.out; have := HUA.out; unfold wrap64; omega
        clear HC2 hA hB
        go_enter Try.func71, Try.ntmps71
        go_wp2_with fail
        refine HU.mono ?_
        rintro e w1 ⟨rfl, r1, g1⟩
        obtain ⟨a', cap', d0, d1, d2, dfr, _, _, _, _, _, _⟩ := r1.cells
        have R1 : Hid (RRd w1 R A B l p 0) := r1
        have G1 : Hid (w.grownBy w1 (some R)) := g1
        clear r1 g1 c1
        go_wp2_with fail
        go_quiet (fail)
        go_wp2
        go_ret
        rw [HC3.out]
        exact ⟨rfl, R1.out.drawn nq, grown_drawn G1.out nq⟩
  · have HC2 : Hid (T = (0, at_, y)) := by
      have e := HE.out hy
      have e1 : n = 0 := by injection e
      have e2 : p = at_ := by injection e with _ e; injection e
      show _ = _
      rw [HC.out, if_pos hy, e2]
    have hy1 : ((y : Int) == 0) = false := by simp; omega
    have hy2 : ((y : Int) != 0) = true := by simp; omega
    clear HC HE hy
    go_enter Try.func71, Try.ntmps71
    go_wp2_with fail
    refine HU.mono ?_
    rintro e w1 ⟨rfl, r1, g1⟩
    obtain ⟨a', cap', d0, d1, d2, dfr, _, _, _, _, _, _⟩ := r1.cells
    have R1 : Hid (RRd w1 R A B l p y) := r1
    have G1 : Hid (w.grownBy w1 (some R)) := g1
    clear r1 g1 c1
    go_wp2_with fail
    go_quiet (fail)
    go_wp2
    go_ret
    rw [HC2.out]
    exact ⟨rfl, (R1.out.drawn nq).go at_ HAT.out, grown_put (grown_drawn G1.out nq) _ _⟩
end Go.Proofs.Ytmcippolnekogaa

