/- What the laws of package rlog lean on. -/
import Derived.Test.YtikedglcicgdhaaLSame
namespace Go.Proofs.Ytikedglcicgdhaa
open Go.RowKit
set_option linter.unusedVariables false

section
variable {w w' : World} {base N b : Nat} {B T : Int} {sv : Value} {L : List EntV} {fs : List EntV} {a : Option Addr} {n c : Nat}
/-- Rows that lie apart from a log are as they were. -/
theorem rows_chg (h : LogIn w base N B T sv L) (g : Chg w w' N sv.ownBlock) (hN : N < b) (hs : ∀ y, sv.ownBlock = some y → y < b) (o : w.ownsRow b 50 2 (.slice a n c) n (entCells fs)) (d : ∀ e ∈ fs, DataAt w e.2 e.1.2) :
    w'.ownsRow b 50 2 (.slice a n c) n (entCells fs) ∧ (∀ e ∈ fs, DataAt w' e.2 e.1.2) :=
  ⟨owns_kept o (fun y e => by
    obtain ⟨q1, q2, _⟩ := row_kind o e
    exact g.block y q2 (by omega) (fun e2 => by have := hs y e2.symm; omega)), fun e he => (d e he).keep (h.bytes g)⟩
theorem rows_below (b' : Below w.heap.size w w') (o : w.ownsRow b 50 2 (.slice a n c) n (entCells fs)) (d : ∀ e ∈ fs, DataAt w e.2 e.1.2) :
    w'.ownsRow b 50 2 (.slice a n c) n (entCells fs) ∧ (∀ e ∈ fs, DataAt w' e.2 e.1.2) :=
  ⟨owns_kept o (fun y e => b'.block y (row_kind o e).2.1), fun e he => (d e he).below b'⟩
theorem args_apart (h : LogIn w base N B T sv L) (hN : N < b) (hs : ∀ y, sv.ownBlock = some y → y < b) (o : w.ownsRow b 50 2 (.slice a n c) n (entCells fs)) (hl : fs.length = n) (d : ∀ e ∈ fs, DataAt w e.2 e.1.2) :
    (∀ w', Chg w w' N sv.ownBlock → EntsAt w' a n (fs.map Prod.fst)) ∧ (a = none → c = 0) ∧ n ≤ c ∧ ∀ x, a = some x → x = ⟨x.block, x.off, none⟩ := by
  obtain ⟨a', c', e, h1, h2, _, h3⟩ := row_form o
  cases e
  refine ⟨fun w' g => ?_, h1, h2, fun x ex => by rw [(h3 x ex).1]⟩
  obtain ⟨o', d'⟩ := rows_chg h g hN hs o d
  subst hl
  obtain ⟨a2, c2, e2, he, _⟩ := row_ents o' (fun e he => (d' e he).1)
  cases e2
  exact he
theorem rows_ents (o : w.ownsRow b 50 2 (.slice a n c) n (entCells fs)) (hl : fs.length = n) (d : ∀ e ∈ fs, DataAt w e.2 e.1.2) : EntsAt w a n (fs.map Prod.fst) := by
  subst hl
  obtain ⟨a2, c2, e2, he, _⟩ := row_ents o (fun e he => (d e he).1)
  cases e2
  exact he
end
/-- The last term of some entries behind a term. -/
def endT (u : Int) (l : List Ent) : Int := match l.getLast? with | some e => e.1 | none => u
theorem lastT_map (T : Int) (L : List EntV) : lastT T L = endT T (L.map Prod.fst) := by
  unfold lastT endT
  rw [List.getLast?_map]
  cases L.getLast? <;> rfl
theorem endT_cons (u : Int) (e : Ent) (l : List Ent) : endT u (e :: l) = endT e.1 l := by
  unfold endT
  rw [List.getLast?_cons]
  cases l.getLast? <;> rfl
theorem canBehind_split : ∀ (l : List Ent) (u : Int) (k : Nat), canBehind u l = true → canBehind (endT u (l.take k)) (l.drop k) = true
  | l, u, 0, h => by simpa [endT] using h
  | [], u, k + 1, h => by simp [canBehind]
  | e :: l, u, k + 1, h => by
    rw [List.take_succ_cons, List.drop_succ_cons, endT_cons]
    simp only [canBehind, Bool.and_eq_true] at h
    exact canBehind_split l e.1 k h.2
theorem canBehind_prefix : ∀ (l : List Ent) (u : Int) (k : Nat), canBehind u l = true → canBehind u (l.take k) = true
  | l, u, 0, h => by simp [canBehind]
  | [], u, k + 1, h => by simp [canBehind]
  | e :: l, u, k + 1, h => by
    rw [List.take_succ_cons]
    simp only [canBehind, Bool.and_eq_true] at h ⊢
    exact ⟨h.1, canBehind_prefix l e.1 k h.2⟩
theorem endT_ge : ∀ (l : List Ent) (u : Int), canBehind u l = true → u ≤ endT u l
  | [], u, _ => by simp [endT]
  | e :: l, u, h => by
    rw [endT_cons]
    simp only [canBehind, Bool.and_eq_true, decide_eq_true_eq] at h
    have := endT_ge l e.1 h.2
    omega
/-- Behind a first part of entries that can be, the rest can be. -/
theorem canBehind_rest (T : Int) (l : List Ent) (k : Nat) (h : canBehind (max T 1) l = true) : canBehind (max (endT T (l.take k)) 1) (l.drop k) = true := by
  have h1 := canBehind_split l (max T 1) k h
  have h2 := endT_ge _ _ (canBehind_prefix l (max T 1) k h)
  cases hl : l.take k with
  | nil =>
    rw [hl] at h1
    simpa [endT] using h1
  | cons e r =>
    rw [hl, endT_cons] at h1 h2
    rw [endT_cons]
    have : max (endT e.1 r) 1 = endT e.1 r := by omega
    rw [this]
    exact h1
theorem partL_all (l : List Ent) (B : Int) (h : l.length ≤ 99) (k : Nat) : partL B l (B + 1 + k) 99 = l.drop k := by
  unfold partL
  rw [if_pos ⟨by omega, by omega⟩, show (B + 1 + (k : Int) - B - 1).toNat = k by omega]
  exact List.take_of_length_le (by simp; omega)
end Go.Proofs.Ytikedglcicgdhaa
