/- The reference's mover: Told, all arms together. -/
import Derived.Test.YtcmhkeaimgppgaaRToldA
import Derived.Test.YtcmhkeaimgppgaaRToldD
import Derived.Test.YtcmhkeaimgppgaaRToldO
import Derived.Test.YtcmhkeaimgppgaaRToldU
import Derived.Test.YtcmhkeaimgppgaaGaO
import Derived.Test.YtcmhkeaimgppgaaGaP
import Derived.Test.YtcmhkeaimgppgaaGaQ
import Derived.Test.YtcmhkeaimgppgaaGaJ
import Derived.Test.YtcmhkeaimgppgaaGaK
import Derived.Test.YtcmhkeaimgppgaaGaL
import Derived.Test.YtcmhkeaimgppgaaGaM
import Derived.Test.YtcmhkeaimgppgaaGaN
namespace Go.Proofs.Ytcmhkeaimgppgaa
open Go.RowKit Go.Shelf
set_option linter.unusedVariables false

/-- What Told answers. -/
def toldV (x : MvD) : Bool → Value
  | true => .tuple #[.agg #[.int .i64 2, .int .i64 0, .int .i64 0, .int .i64 x.n, .int .i64 x.ph], .bool true]
  | false => .tuple #[.agg #[.int .i64 0, .int .i64 0, .int .i64 0, .int .i64 0, .int .i64 0], .bool false]
theorem duty8 {x : MvD} (h : x.ph = 1 ∨ x.ph = 2) : dutyG x 8 = some x.fr := by
  rcases h with h | h <;> simp [dutyG, dutiesL, h]
theorem duty8_no {x : MvD} (h1 : x.ph ≠ 1) (h2 : x.ph ≠ 2) : dutyG x 8 = none := by
  by_cases h3 : x.ph = 3 <;> simp [dutyG, dutiesL, h1, h2, h3]
theorem duty9 {x : MvD} (h : x.ph = 2) : dutyG x 9 = some x.to := by simp [dutyG, dutiesL, h]
theorem duty9_no {x : MvD} (h : x.ph ≠ 2) : dutyG x 9 = none := by
  by_cases h1 : x.ph = 1
  · simp [dutyG, dutiesL, h1]
  · by_cases h3 : x.ph = 3 <;> simp [dutyG, dutiesL, h1, h, h3]
theorem duty10 {x : MvD} (h : x.ph = 3) : dutyG x 10 = some x.fr := by simp [dutyG, dutiesL, h]
theorem duty10_no {x : MvD} (h : x.ph ≠ 3) : dutyG x 10 = none := by
  by_cases h1 : x.ph = 1
  · simp [dutyG, dutiesL, h1]
  · by_cases h2 : x.ph = 2 <;> simp [dutyG, dutiesL, h1, h2, h]
theorem duty_other {x : MvD} {k : Int} (h8 : k ≠ 8) (h9 : k ≠ 9) (h10 : k ≠ 10) : dutyG x k = none := by
  unfold dutyG dutiesL
  by_cases h1 : x.ph = 1
  · simp [h1, Ne.symm h8]
  · by_cases h2 : x.ph = 2
    · simp [h2, Ne.symm h8, Ne.symm h9]
    · by_cases h3 : x.ph = 3
      · simp [h3, Ne.symm h10]
      · simp [h1, h2, h3]
section
variable {w : World} {base : Bs} {G : Nat} {R : MD}
theorem toldR_inst {x : MvD} {q : AskI} {r : ResD} (k9 : q.kind = 9) (hm : q.g = x.to ∧ q.slot = x.slot ∧ q.ep = x.ep) : toldR R x q r = instR (rknowM R x) x q r := by
  unfold instR
  by_cases p2 : x.ph = 2
  · rw [if_pos p2, toldR_some (g := x.to) (by rw [k9]; exact duty9 p2) (by rw [if_pos k9]; exact hm)]
    unfold learnQ learnM
    rw [k9]
    rfl
  · rw [if_neg p2, toldR_none (by rw [k9]; exact duty9_no p2)]
theorem rtold_inst (h : RvIn w base G R) (hb : base.ok w.heap.size) (x : MvD) (C : List Value) (q : AskI) (hC : AskC C q) (hall : (C.drop 1).toArray.all (·.oneCell') = true) (r : ResD) (hr : ResIn w r) (hmet : q.g = x.to ∧ q.slot = x.slot ∧ q.ep = x.ep) (k9 : q.kind = 9) :
    Calls Try.prog 16 #[.pointer (some ⟨G, 0, none⟩), .agg #[.int .i64 x.slot, .int .i64 x.fr, .int .i64 x.to, .int .i64 x.ep, .int .i64 x.ph, .int .i64 x.n], .agg C.toArray, .agg #[.int .i64 r.why, .bool r.wait, .int .i64 r.rw, .int .i64 r.ra, r.rows, .slice r.da r.l.length r.dc]] w fun e w' => e = .returned (toldV x (instR (rknowM R x) x q r).2) ∧ RvIn w' base G (instR (rknowM R x) x q r).1 ∧ OnlyR w w' G := by
  by_cases p2 : x.ph = 2
  · cases hhs : (rknowM R x).has with
    | false =>
      have e : (instR (rknowM R x) x q r).2 = false := by unfold instR installedM; rw [if_pos p2, if_neg (fun e => by rw [hhs] at e; exact absurd e.1 (by decide))]
      rw [e]
      exact rtold_inst_b h hb x C q hC hall r hr hmet k9 p2 hhs
    | true =>
      by_cases hc : q.cat = ((rknowM R x).at_ : Int)
      · by_cases h0 : r.why = 0
        · have e : (instR (rknowM R x) x q r).2 = q.last := by unfold instR installedM; rw [if_pos p2, if_pos ⟨hhs, hc⟩, if_pos h0]
          rw [e]
          by_cases hq : (rknowM R x).d.length < (rknowM R x).at_ + q.cn
          · cases hl : q.last with
            | true => exact rtold_inst_g h hb x C q hC hall r hr hmet k9 p2 hhs hc h0 hl hq hC.bound
            | false => exact rtold_inst_h h hb x C q hC hall r hr hmet k9 p2 hhs hc h0 hl hq hC.bound
          · cases hl : q.last with
            | true => exact rtold_inst_i h hb x C q hC hall r hr hmet k9 p2 hhs hc h0 hl hq hC.bound
            | false => exact rtold_inst_j h hb x C q hC hall r hr hmet k9 p2 hhs hc h0 hl hq hC.bound
        · have e : (instR (rknowM R x) x q r).2 = false := by unfold instR installedM; rw [if_pos p2, if_pos ⟨hhs, hc⟩, if_neg h0]; split <;> rfl
          rw [e]
          by_cases h5 : r.why = 5
          · exact rtold_inst_d h hb x C q hC hall r hr hmet k9 p2 hhs hc h5
          · by_cases h3 : r.why = 3
            · exact rtold_inst_e h hb x C q hC hall r hr hmet k9 p2 hhs hc h3
            · exact rtold_inst_f h hb x C q hC hall r hr hmet k9 p2 hhs hc h0 h5 h3
      · have e : (instR (rknowM R x) x q r).2 = false := by unfold instR installedM; rw [if_pos p2, if_neg (fun e => hc e.2)]
        rw [e]
        exact rtold_inst_c h hb x C q hC hall r hr hmet k9 p2 hhs hc
  · have e : (instR (rknowM R x) x q r).2 = false := by unfold instR; rw [if_neg p2]
    rw [e]
    exact rtold_inst_a h hb x C q hC hall r hr hmet k9 p2
theorem rtold_any (h : RvIn w base G R) (hb : base.ok w.heap.size) (x : MvD) (C : List Value) (q : AskI) (hC : AskC C q) (hall : (C.drop 1).toArray.all (·.oneCell') = true) (r : ResD) (hr : ResIn w r) :
    Calls Try.prog 16 #[.pointer (some ⟨G, 0, none⟩), .agg #[.int .i64 x.slot, .int .i64 x.fr, .int .i64 x.to, .int .i64 x.ep, .int .i64 x.ph, .int .i64 x.n], .agg C.toArray, .agg #[.int .i64 r.why, .bool r.wait, .int .i64 r.rw, .int .i64 r.ra, r.rows, .slice r.da r.l.length r.dc]] w fun e w' => e = .returned (toldV x (toldR R x q r).2) ∧ RvIn w' base G (toldR R x q r).1 ∧ OnlyR w w' G := by
  by_cases hm : q.g = (if q.kind = 9 then x.to else x.fr) ∧ q.slot = x.slot ∧ q.ep = x.ep
  · by_cases k9 : q.kind = 9
    · rw [if_pos k9] at hm
      rw [toldR_inst k9 hm]
      exact rtold_inst h hb x C q hC hall r hr hm k9
    · have hm' := hm
      rw [if_neg k9] at hm
      by_cases k8 : q.kind = 8
      · by_cases hp : x.ph = 1 ∨ x.ph = 2
        · have e : toldR R x q r = ((heldM (rknowM R x) r).1, (heldM (rknowM R x) r).2 && decide (x.ph = 1)) := by
            rw [toldR_some (g := x.fr) (by rw [k8]; exact duty8 hp) hm']
            unfold learnQ learnM
            rw [if_pos k8]
          rw [e]
          by_cases hw : r.why = 0
          · have e2 : (heldM (rknowM R x) r).2 = true := by unfold heldM; rw [if_pos hw]
            rw [e2]
            by_cases p1 : x.ph = 1
            · rw [show (true && decide (x.ph = 1)) = true by simp [p1]]
              cases hhs : (rknowM R x).has with
              | false => exact rtold_held1a h hb x C q hC hall r hr hm k8 p1 hw hhs
              | true =>
                by_cases ha : (rknowM R x).at_ ≤ r.l.length
                · exact rtold_held1b h hb x C q hC hall r hr hm k8 p1 hw hhs ha
                · exact rtold_held1c h hb x C q hC hall r hr hm k8 p1 hw hhs ha
            · have p2 : x.ph = 2 := hp.resolve_left p1
              rw [show (true && decide (x.ph = 1)) = false by simp [p1]]
              cases hhs : (rknowM R x).has with
              | false => exact rtold_held2a h hb x C q hC hall r hr hm k8 p2 hw hhs
              | true =>
                by_cases ha : (rknowM R x).at_ ≤ r.l.length
                · exact rtold_held2b h hb x C q hC hall r hr hm k8 p2 hw hhs ha
                · exact rtold_held2c h hb x C q hC hall r hr hm k8 p2 hw hhs ha
          · have e2 : heldM (rknowM R x) r = (rknowM R x, false) := by unfold heldM; rw [if_neg hw]
            rw [e2]
            exact rtold_unheld h hb x C q hC hall r hr hm k8 (.inr hw)
        · rw [toldR_none (by rw [k8]; exact duty8_no (fun e => hp (.inl e)) (fun e => hp (.inr e)))]
          exact rtold_unheld h hb x C q hC hall r hr hm k8 (.inl ⟨fun e => hp (.inl e), fun e => hp (.inr e)⟩)
      · by_cases k10 : q.kind = 10
        · by_cases p3 : x.ph = 3
          · have e : toldR R x q r = (rknowM R x, decide (r.why = 0)) := by
              rw [toldR_some (g := x.fr) (by rw [k10]; exact duty10 p3) hm']
              unfold learnQ learnM
              rw [if_neg k8, if_neg k9]
            rw [e]
            by_cases hw : r.why = 0
            · rw [show decide (r.why = 0) = true by simp [hw]]
              exact rtold_drop h hb x C q hC hall r hr hm k10 p3 hw
            · rw [show decide (r.why = 0) = false by simp [hw]]
              exact rtold_other h hb x C q hC hall r hr hm k8 k9 (.inr (.inr hw))
          · rw [toldR_none (by rw [k10]; exact duty10_no p3)]
            exact rtold_other h hb x C q hC hall r hr hm k8 k9 (.inr (.inl p3))
        · rw [toldR_none (duty_other k8 k9 k10)]
          exact rtold_other h hb x C q hC hall r hr hm k8 k9 (.inl k10)
  · rw [toldR_miss hm]
    exact rtold_miss h hb x C q hC hall r hr hm
end
end Go.Proofs.Ytcmhkeaimgppgaa
