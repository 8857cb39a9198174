/- ChartAudits: what comes of an audit; plain. -/
import Derived.Test.YtpdgmlljjjeifaaChLaw
namespace Go.Proofs.Ytpdgmlljjjeifaa
open Go.RowKit
set_option linter.unusedVariables false
/-- A chart with an audit of the number b in the phase p (0: it is over). -/
structure AuL (L : List Int) (b p : Int) : Prop where
  len : L.length = 42
  sh : 1 ≤ at_ L 0
  ph : at_ L 38 = 0
  bg : at_ L 33 = b
  n : p ≠ 0 → at_ L 40 = b
  ap : at_ L 41 = p
section
variable {L : List Int} {b p : Int}
theorem AuL.begin (hl : L.length = 42) (hs : 1 ≤ at_ L 0) (hm : may_ L = true) : (doC L 3 0 0 0 0).1 = ⟨0, true, at_ L 33 + 1⟩ ∧ AuL (doC L 3 0 0 0 0).2 (at_ L 33 + 1) 1 := by
  have e : doC L 3 0 0 0 0 = (⟨0, true, at_ L 33 + 1⟩, ((L.set 33 (at_ L 33 + 1)).set 40 (at_ L 33 + 1)).set 41 1) := by
    unfold doC auC
    rw [if_neg (by omega), if_neg (by omega), if_pos rfl, if_neg (by rw [hm]; decide)]
  rw [e]
  unfold may_ at hm
  simp only [decide_eq_true_eq] at hm
  refine ⟨rfl, ⟨by simp [hl], ?_, ?_, ?_, fun _ => ?_, ?_⟩⟩
  · rw [at_set_ne (by omega), at_set_ne (by omega), at_set_ne (by omega)]; exact hs
  · rw [at_set_ne (by omega), at_set_ne (by omega), at_set_ne (by omega)]; exact hm.1
  · rw [at_set_ne (by omega), at_set_ne (by omega), at_set_self (by omega)]
  · rw [at_set_ne (by omega), at_set_self (by simp [hl])]
  · rw [at_set_self (by simp [hl])]
theorem no_begin (hm : may_ L = false) : doC L 3 0 0 0 0 = (⟨50, false, 0⟩, L) := by
  unfold doC auC
  rw [if_neg (by omega), if_neg (by omega), if_pos rfl, if_pos hm]
theorem AuL.may (h : AuL L b p) (hp : p ≠ 0) : may_ L = false := by
  unfold may_
  exact decide_eq_false fun x => hp (h.ap.symm.trans x.2.1)
theorem AuL.aud (h : AuL L b p) (hp : p ≠ 0) : doC L 3 0 0 0 0 = (⟨50, false, 0⟩, L) := no_begin (h.may hp)
theorem AuL.mov (h : AuL L b p) (hp : p ≠ 0) : doC L 1 0 1 0 0 = (⟨50, false, 0⟩, L) := by
  unfold doC mvC
  have := h.sh
  rw [if_pos rfl, if_neg (fun x => x ⟨⟨by omega, by omega⟩, by omega, this⟩), if_pos (h.may hp)]
theorem AuL.thaw1 (h : AuL L b 1) : doC L 5 0 0 b 0 = (⟨5, false, 0⟩, L) := by
  unfold doC thC
  have := h.ap
  rw [if_neg (by omega), if_neg (by omega), if_neg (by omega), if_neg (by omega), if_pos rfl, if_neg (by omega)]
theorem AuL.cut2 (h : AuL L b 2) : doC L 4 0 0 b 0 = (⟨5, false, 0⟩, L) := by
  unfold doC cuC
  have := h.ap
  rw [if_neg (by omega), if_neg (by omega), if_neg (by omega), if_pos rfl, if_neg (by omega)]
theorem AuL.put (h : AuL L b p) (a q : Int) (ha : q ≠ 0 → a = b) : AuL ((L.set 40 a).set 41 q) b q := by
  have hl := h.len
  refine ⟨by simp [hl], ?_, ?_, ?_, fun x => ?_, ?_⟩
  · rw [at_set_ne (by omega), at_set_ne (by omega)]; exact h.sh
  · rw [at_set_ne (by omega), at_set_ne (by omega)]; exact h.ph
  · rw [at_set_ne (by omega), at_set_ne (by omega)]; exact h.bg
  · rw [at_set_ne (by omega), at_set_self (by omega)]; exact ha x
  · rw [at_set_self (by simp [hl])]
theorem AuL.cut (h : AuL L b 1) : (doC L 4 0 0 b 0).1 = ⟨0, false, b⟩ ∧ AuL (doC L 4 0 0 b 0).2 b 2 := by
  have e : doC L 4 0 0 b 0 = (⟨0, false, b⟩, (L.set 40 b).set 41 2) := by
    unfold doC cuC
    rw [if_neg (by omega), if_neg (by omega), if_neg (by omega), if_pos rfl, if_pos ⟨h.n (by omega), h.ap⟩]
  rw [e]
  exact ⟨rfl, h.put b 2 fun _ => rfl⟩
theorem AuL.thaw (h : AuL L b 2) : (doC L 5 0 0 b 0).1 = ⟨0, false, b⟩ ∧ AuL (doC L 5 0 0 b 0).2 b 0 := by
  have e : doC L 5 0 0 b 0 = (⟨0, false, b⟩, (L.set 40 0).set 41 0) := by
    unfold doC thC
    rw [if_neg (by omega), if_neg (by omega), if_neg (by omega), if_neg (by omega), if_pos rfl, if_pos ⟨h.n (by omega), h.ap⟩]
  rw [e]
  exact ⟨rfl, h.put 0 0 fun x => absurd rfl x⟩
theorem AuL.last (h : AuL L b 0) (hb : b < 1152921504606846976) : (doC L 3 0 0 0 0).1 = ⟨0, true, b + 1⟩ := by
  have hm : may_ L = true := by
    unfold may_
    exact decide_eq_true ⟨h.ph, h.ap, by rw [h.bg]; exact hb⟩
  have := (AuL.begin h.len h.sh hm).1
  rwa [h.bg] at this
end
end Go.Proofs.Ytpdgmlljjjeifaa
