/- Package chart's reference: the small calls of Do. Written by gen_rd.py. -/
import Derived.Test.YtpdgmlljjjeifaaChRefM
namespace Go.Proofs.Ytpdgmlljjjeifaa
open Go.RowKit
attribute [local go_sem] Oper.semAt_some
set_option linter.unusedVariables false
section
variable {w w' : World} {base Q O E cO cE : Nat} {L : List Int}
/-- What there is behind a command of the reference. -/
def RTold (w w' : World) (base Q O E cO cE : Nat) (e : Ending) (x : Rs × List Int) : Prop := e = .returned x.1.v ∧ RC w' base Q O E cO cE x.2 ∧ Only3 w w' Q O E
theorem rslot_any (n : Int) (w : World) : Calls Try.prog 43 #[.int .i64 n] w fun e w' => e = .returned (.bool (decide (0 ≤ n ∧ n < 16))) ∧ w' = w := by
  go_enter Try.func43, Try.ntmps43
  go_wp2
  all_goals go_ret
  · refine ⟨?_, rfl⟩
    show Ending.returned (Value.bool (decide (n < 16))) = _
    congr 2
    simp only [decide_eq_decide]
    omega
  · refine ⟨?_, rfl⟩
    show Ending.returned (Value.bool false) = _
    congr 2
    simp only [Bool.false_eq, Bool.and_eq_false_iff, decide_eq_false_iff_not]
    omega
set_option maxRecDepth 100000 in
theorem busy_any (h : RC w base Q O E cO cE L) : Calls Try.prog 44 #[.pointer (some ⟨Q, 0, none⟩)] w fun e w' => e = .returned (.bool (!may_ L)) ∧ w' = w := by
  have c3 : w.cell? ⟨Q, 3, none⟩ = some (.int .i64 (at_ L 33)) := h.cell 3
  have c8 : w.cell? ⟨Q, 8, none⟩ = some (.int .i64 (at_ L 38)) := h.cell 8
  have c11 : w.cell? ⟨Q, 11, none⟩ = some (.int .i64 (at_ L 41)) := h.cell 11
  clear h
  unfold may_
  generalize at_ L 38 = a at *
  generalize at_ L 41 = b at *
  generalize at_ L 33 = c at *
  by_cases ha : a = 0
  · by_cases hb : b = 0
    · subst ha
      subst hb
      go_enter Try.func44, Try.ntmps44
      go_wp2
      go_ret
      refine ⟨?_, rfl⟩
      show Ending.returned (Value.bool (decide (1152921504606846976 ≤ c))) = _
      congr 2
      simp only [true_and]
      by_cases hc : c < 1152921504606846976
      · rw [decide_eq_true hc, decide_eq_false (by omega)]; rfl
      · rw [decide_eq_false hc, decide_eq_true (by omega)]; rfl
    · subst ha
      have hb' : ((b : Int) != 0) = true := by simpa using hb
      go_enter Try.func44, Try.ntmps44
      go_wp2
      go_ret
      refine ⟨?_, rfl⟩
      show Ending.returned (Value.bool true) = _
      simp [hb]
  · have ha' : ((a : Int) != 0) = true := by simpa using ha
    go_enter Try.func44, Try.ntmps44
    go_wp2
    go_ret
    refine ⟨?_, rfl⟩
    show Ending.returned (Value.bool true) = _
    simp [ha]
theorem set_same {k : Nat} {v : Int} (hk : k < L.length) (h : at_ L k = v) : L.set k v = L := by
  refine List.ext_getElem (by simp) fun i h1 h2 => ?_
  rw [List.getElem_set]
  split
  · rename_i e
    subst e
    rw [← h]
    simp [at_, hk]
  · rfl
end
end Go.Proofs.Ytpdgmlljjjeifaa
