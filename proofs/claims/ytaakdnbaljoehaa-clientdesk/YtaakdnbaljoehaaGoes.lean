/- What every read of a Reader keeps: it goes on, never behind the end, and an error stays. -/
import Derived.Test.YtaakdnbaljoehaaSized
import Derived.Test.YtaakdnbaljoehaaPutOp
namespace Go.Proofs.Ytaakdnbaljoehaa
open Go.RowKit Cod
set_option linter.unusedVariables false

/-- From a place and an error to a place and an error. -/
def Goes (l : List (BitVec 8)) (at_ why at' why' : Nat) : Prop := at_ ≤ at' ∧ at' ≤ l.length ∧ (why ≠ 0 → at' = at_ ∧ why' = why)
theorem Goes.trans {l : List (BitVec 8)} {a y b z c x : Nat} (h : Goes l a y b z) (k : Goes l b z c x) : Goes l a y c x :=
  ⟨Nat.le_trans h.1 k.1, k.2.1, fun hy => by
    obtain ⟨e1, e2⟩ := h.2.2 hy
    obtain ⟨e3, e4⟩ := k.2.2 (by rw [e2]; exact hy)
    exact ⟨e3.trans e1, e4.trans e2⟩⟩
theorem rU_goes (l : List (BitVec 8)) (at_ why : Nat) (h : at_ ≤ l.length) : Goes l at_ why (rU l at_ why).2.1 (rU l at_ why).2.2 := by
  refine ⟨?_, rU_at l at_ why h, fun hy => by simp [rU, hy]⟩
  unfold rU
  split <;> simp
theorem rB_goes (l : List (BitVec 8)) (at_ why : Nat) (h : at_ ≤ l.length) : Goes l at_ why (rB l at_ why).2.1 (rB l at_ why).2.2 := by
  refine ⟨?_, ?_, fun hy => by simp [rB, hy]⟩
  · unfold rB
    split <;> (try split) <;> (try split) <;> simp
  · unfold rB
    split
    · exact h
    · split
      · exact h
      · split
        · exact h
        · simp; omega
theorem rC_goes (l : List (BitVec 8)) (most : Int) (at_ why : Nat) (h : at_ ≤ l.length) : Goes l at_ why (rC l most at_ why).2.1 (rC l most at_ why).2.2 := by
  have g := rU_goes l at_ why h
  unfold rC
  split
  · exact g
  · rename_i h0
    have hw : ¬ why ≠ 0 := fun hy => h0 (by rw [(g.2.2 hy).2]; exact hy)
    split
    · exact ⟨Nat.le_refl _, h, fun hy => absurd hy hw⟩
    · split
      · exact ⟨Nat.le_refl _, h, fun hy => absurd hy hw⟩
      · exact g
theorem rC_room {l : List (BitVec 8)} {most : Int} {at_ why : Nat} (h : at_ ≤ l.length) (he : (rC l most at_ why).2.2 = 0) : (rC l most at_ why).2.1 + (rC l most at_ why).1 ≤ l.length := by
  have := rC_ok (l := l) (most := most) (at_ := at_) (why := why) (n := (rC l most at_ why).1) (a1 := (rC l most at_ why).2.1) h (by rw [← he])
  exact this.2.1
theorem rC_most (l : List (BitVec 8)) (most at_ why : Nat) (hm : most < 9223372036854775808) : (rC l most at_ why).1 ≤ most := by
  unfold rC
  split
  · simp
  · split
    · simp
    · split
      · simp
      · rename_i h1 h2 h3
        omega
theorem rS_goes (l : List (BitVec 8)) (at_ why : Nat) (h : at_ ≤ l.length) : Goes l at_ why (rS l at_ why).2.1 (rS l at_ why).2.2 := by
  have g := rC_goes l 65536 at_ why h
  unfold rS
  split
  · exact g
  · rename_i h0
    have h1 : (rC l 65536 at_ why).2.2 = 0 := by simpa using h0
    refine ⟨Nat.le_trans g.1 (Nat.le_add_right _ _), rC_room h h1, fun hy => ?_⟩
    have := (g.2.2 hy).2
    omega
/-- Reading an operation: each part behind the one ahead of it. -/
def rOp1 (l : List (BitVec 8)) (at_ why : Nat) := rU l at_ why
def rOp2 (l : List (BitVec 8)) (at_ why : Nat) := rS l (rOp1 l at_ why).2.1 (rOp1 l at_ why).2.2
def rOp3 (l : List (BitVec 8)) (at_ why : Nat) := rS l (rOp2 l at_ why).2.1 (rOp2 l at_ why).2.2
def rOp4 (l : List (BitVec 8)) (at_ why : Nat) := rU l (rOp3 l at_ why).2.1 (rOp3 l at_ why).2.2
def rOp5 (l : List (BitVec 8)) (at_ why : Nat) := rS l (rOp4 l at_ why).2.1 (rOp4 l at_ why).2.2
def rOp6 (l : List (BitVec 8)) (at_ why : Nat) := rU l (rOp5 l at_ why).2.1 (rOp5 l at_ why).2.2
def rOp7 (l : List (BitVec 8)) (at_ why : Nat) := rU l (rOp6 l at_ why).2.1 (rOp6 l at_ why).2.2
def rOpV (l : List (BitVec 8)) (at_ why : Nat) : OpD := ⟨zag (rOp1 l at_ why).1, textOf (rOp2 l at_ why).1, textOf (rOp3 l at_ why).1, zag (rOp4 l at_ why).1, textOf (rOp5 l at_ why).1, zag (rOp6 l at_ why).1, zag (rOp7 l at_ why).1⟩
theorem rOp_goes (l : List (BitVec 8)) (at_ why : Nat) (h : at_ ≤ l.length) : Goes l at_ why (rOp7 l at_ why).2.1 (rOp7 l at_ why).2.2 := by
  have g1 : Goes l at_ why (rOp1 l at_ why).2.1 (rOp1 l at_ why).2.2 := rU_goes l at_ why h
  have g2 : Goes l (rOp1 l at_ why).2.1 (rOp1 l at_ why).2.2 (rOp2 l at_ why).2.1 (rOp2 l at_ why).2.2 := by rw [rOp2]; exact rS_goes l _ _ g1.2.1
  have g3 : Goes l (rOp2 l at_ why).2.1 (rOp2 l at_ why).2.2 (rOp3 l at_ why).2.1 (rOp3 l at_ why).2.2 := by rw [rOp3]; exact rS_goes l _ _ g2.2.1
  have g4 : Goes l (rOp3 l at_ why).2.1 (rOp3 l at_ why).2.2 (rOp4 l at_ why).2.1 (rOp4 l at_ why).2.2 := by rw [rOp4]; exact rU_goes l _ _ g3.2.1
  have g5 : Goes l (rOp4 l at_ why).2.1 (rOp4 l at_ why).2.2 (rOp5 l at_ why).2.1 (rOp5 l at_ why).2.2 := by rw [rOp5]; exact rS_goes l _ _ g4.2.1
  have g6 : Goes l (rOp5 l at_ why).2.1 (rOp5 l at_ why).2.2 (rOp6 l at_ why).2.1 (rOp6 l at_ why).2.2 := by rw [rOp6]; exact rU_goes l _ _ g5.2.1
  have g7 : Goes l (rOp6 l at_ why).2.1 (rOp6 l at_ why).2.2 (rOp7 l at_ why).2.1 (rOp7 l at_ why).2.2 := by rw [rOp7]; exact rU_goes l _ _ g6.2.1
  exact g1.trans (g2.trans (g3.trans (g4.trans (g5.trans (g6.trans g7)))))
end Go.Proofs.Ytaakdnbaljoehaa
