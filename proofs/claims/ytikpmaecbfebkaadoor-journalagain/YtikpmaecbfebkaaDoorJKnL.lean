/- Package journal: the disk behind the fixed calls. -/
import Derived.Test.YtikpmaecbfebkaaDoorJLaw
namespace Go.Proofs.YtikpmaecbfebkaaDoor
open Go.RowKit Go.Shelf
set_option linter.unusedVariables false

theorem new_bad (n i s : Nat) : ¬ rightP (sec (List.replicate n 0#8) i) s := fun h => by
  have h3 := h.2.2.1
  rw [List.getD_eq_getElem?_getD, sec_at, if_pos (by omega), List.getElem?_replicate] at h3
  split at h3 <;> simp at h3
theorem new_none (n fr sz st s : Nat) : recFrom (newD n) fr sz st s = none := by
  unfold recFrom
  generalize st + sz - s = c
  cases c with
  | zero => rfl
  | succ c =>
    unfold recAt
    rw [if_neg (fun q => new_bad _ _ _ q.1)]
theorem new_chain {n fr sz st : Nat} {xs : List GotJ} (h : Chain (newD n) fr sz st xs) : xs = [] := by
  cases xs with
  | nil => rfl
  | cons x xs =>
    have := h 0 (by simp)
    rw [new_none] at this
    cases this
theorem atS_sync (d : DS) (fr sz s : Nat) : atS (syncD d) fr sz s = atS d fr sz s := by
  unfold atS readD syncD
  split
  · rfl
  · split <;> rfl
def z500 : List (BitVec 8) := List.replicate 500 0#8
def k1D : DS := appD 0 4 1 [97#8] (newD 4) (secs [97#8].length)
def k2D : DS := appD 0 4 2 z500 k1D (secs z500.length)
theorem z500_length : z500.length = 500 := List.length_replicate
theorem secs1 : secs [97#8].length = 1 := rfl
theorem secs500 : secs z500.length = 3 := by rw [z500_length]; rfl
theorem new_length : (newD 4).now.length = 256 * 4 := List.length_replicate
theorem k1_length : k1D.now.length = 256 * 4 := appD_length new_length (by decide) (by decide) _
theorem k2_at1 : atS k2D 0 4 1 = secB 1 (mrk (secs [97#8].length) 0) (part [97#8] 0) := by
  have e1 : atS k2D 0 4 1 = atS k1D 0 4 1 := appD_old k1_length (by decide) (by decide) (by decide) (by decide) (by decide) _ (by rw [secs500]; decide)
  rw [e1]
  exact appD_new (j := 0) new_length (by decide) (by decide) (by decide) _ (by rw [secs1]; decide) (by rw [secs1]; decide)
theorem k2_at2 {j : Nat} (hj : j < 3) : atS k2D 0 4 (2 + j) = secB (2 + j) (mrk (secs z500.length) j) (part z500 j) :=
  appD_new (j := j) k1_length (by decide) (by decide) (by decide) _ (by rw [secs500]; exact hj) (by rw [secs500]; decide)
theorem sy_1 : recFrom (syncD k2D) 0 4 1 1 = some ([97#8], 2) := by
  have h := recAt_stands (d := syncD k2D) (fr := 0) (sz := 4) (nx := 1) (b := [97#8]) (by decide) (by decide) (fun j hj => by
    rw [secs1] at hj
    obtain rfl : j = 0 := by omega
    rw [atS_sync]
    exact k2_at1) 0 4 (by rw [secs1]; decide) (by rw [secs1]; decide)
  exact h
theorem sy_2 : recFrom (syncD k2D) 0 4 1 2 = some (z500, 5) := by
  have h := recAt_stands (d := syncD k2D) (fr := 0) (sz := 4) (nx := 2) (b := z500) (by rw [z500_length]; decide) (by decide) (fun j hj => by
    rw [atS_sync]
    exact k2_at2 (by rw [secs500] at hj; exact hj)) 0 3 (by rw [secs500]; decide) (by rw [secs500]; decide)
  rw [secs500] at h
  exact h
theorem sy_3 : recFrom (syncD k2D) 0 4 1 5 = none := rfl
theorem sy_two {xs : List GotJ} (hc : Chain (syncD k2D) 0 4 1 xs) (hn : recFrom (syncD k2D) 0 4 1 (numb 1 xs) = none) : ∃ x y, xs = [x, y] ∧ x.l = [97#8] ∧ y.l = z500 ∧ numb 1 xs = 5 := by
  cases xs with
  | nil => rw [numb_nil, sy_1] at hn; cases hn
  | cons x xs =>
    have h0 := hc 0 (by simp)
    have e0 : recFrom (syncD k2D) 0 4 1 1 = some (x.l, x.b) := h0
    rw [sy_1] at e0
    obtain ⟨e1, e2⟩ : [97#8] = x.l ∧ 2 = x.b := by simpa using e0
    cases xs with
    | nil =>
      have : numb 1 [x] = 2 := e2.symm
      rw [this, sy_2] at hn
      cases hn
    | cons y xs =>
      have h1 := hc 1 (by simp)
      have e3 : recFrom (syncD k2D) 0 4 1 x.b = some (y.l, y.b) := h1
      rw [← e2, sy_2] at e3
      obtain ⟨e4, e5⟩ : z500 = y.l ∧ 5 = y.b := by simpa using e3
      cases xs with
      | nil => exact ⟨x, y, rfl, e1.symm, e4.symm, e5.symm⟩
      | cons z xs =>
        have h2 := hc 2 (by simp)
        have e6 : recFrom (syncD k2D) 0 4 1 y.b = some (z.l, z.b) := h2
        rw [← e5, sy_3] at e6
        cases e6
theorem sy_clean {xs : List GotJ} (hc : Chain (syncD k2D) 0 4 1 xs) (hn : recFrom (syncD k2D) 0 4 1 (numb 1 xs) = none) (s : Nat) (h1 : numb 1 xs ≤ s) (h2 : s < numb 1 xs + 4) : ¬ rightP (atS (syncD k2D) 0 4 s) s := by
  obtain ⟨_, _, _, _, _, e⟩ := sy_two hc hn
  rw [e] at h1 h2
  rw [atS_sync]
  have ep : atS k2D 0 4 s = atS k2D 0 4 (s - 4) := by
    unfold atS
    congr 1
    unfold plc
    omega
  rw [ep]
  intro hr
  have hnum := hr.1
  by_cases q : s = 5
  · subst q
    rw [show (5 : Nat) - 4 = 1 from rfl, k2_at1, secB_num (by decide)] at hnum
    omega
  · obtain ⟨j, rfl⟩ : ∃ j, s = 6 + j := ⟨s - 6, by omega⟩
    rw [show 6 + j - 4 = 2 + j by omega, k2_at2 (by omega), secB_num (by omega)] at hnum
    omega
end Go.Proofs.YtikpmaecbfebkaaDoor
