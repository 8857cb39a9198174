/- Package raft: a replica alone: New. -/
import Derived.Test.YthnocbflnakdmaaTSmall
namespace Go.Proofs.Ythnocbflnakdmaa
open Go.RowKit
attribute [local go_sem] Oper.semAt_some
set_option linter.unusedVariables false
section
variable {w w' : World} {base R lg N : Nat} {d : RD} {sv : Value} {L : List EntV}
/-- A replica that has just been made. -/
def freshD (g t : Int) : RD := { grp := g, term := t, voted := -1, role := 0, leader := -1, commit := 0, el := 0, tm := 10, v0 := false, o0 := 0, o1 := 0, o2 := 0, o3 := 0, o4 := 0 }
set_option maxRecDepth 100000 in
set_option maxHeartbeats 1600000 in
theorem new_one (h : LogIn w base N 0 0 sv L) (g t : Int) (hg : g = 0 ∨ g = 1) (ht : lastT 0 L ≤ t ∧ t ≤ 1152921504606846976) : Calls Try.prog 26 #[.int .i64 g, .int .i64 0, .int .i64 1, .int .i64 t, .int .i64 (-1), .pointer (some ⟨N, 0, none⟩), .int .i64 0] w fun e w' => ∃ R lg base' sv', e = .returned (.tuple #[.pointer (some ⟨R, 0, none⟩), .int .i64 0]) ∧ w.heap.size ≤ base' ∧ Solo w' base' R lg (freshD g t) sv' L ∧ Below w.heap.size w w' := by
  have HB := base_any h
  have H : Hid _ := h
  have q0 : ¬ (L.length : Int) < 0 := by omega
  have q1 : (decide ((L.length : Int) < 0)) = false := decide_eq_false q0
  have q2 : ¬ t < lastT 0 L := by omega
  have q3 : decide (t < lastT 0 L) = false := decide_eq_false q2
  have q4 : ¬ 1152921504606846976 < t := by omega
  have q5 : decide (1152921504606846976 < t) = false := decide_eq_false q4
  obtain ⟨u, eu⟩ : ∃ u, lastT 0 L = u := ⟨_, rfl⟩
  rw [eu] at q2 q3
  have EU : Hid (lastT 0 L = u) := eu
  clear h eu
  rcases hg with rfl | rfl
  · go_enter Try.func26, Try.ntmps26
    go_wp2_with fail
    refine HB.mono ?_
    clear HB
    rintro e w1 ⟨rfl, b1⟩
    have HL := last_any (H.out.below b1)
    rw [Int.zero_add, EU.out] at HL
    have B1 : Hid (Below w.heap.size w w1) := b1
    clear b1
    go_wp2_with fail
    refine HL.mono ?_
    clear HL
    rintro e w2 ⟨rfl, b2⟩
    have B2 : Hid (Below w.heap.size w w2) := B1.out.trans (b2.mono B1.out.size)
    have HC := copy_any (H.out.below B2.out)
    clear b2 B1
    go_wp2_with fail
    refine HC.mono ?_
    clear HC
    rintro e w3 ⟨lg, sv3, rfl, l3, b3⟩
    have K3 : Hid (LogIn w3 w2.heap.size lg 0 0 sv3 L ∧ Below w.heap.size w w3 ∧ w.heap.size ≤ w2.heap.size ∧ w2.heap.size ≤ w3.heap.size) := ⟨l3, B2.out.trans (b3.mono B2.out.size), B2.out.size, b3.size⟩
    clear l3 b3
    go_wp2_with fail
    refine (timeout_one (base := w2.heap.size) (lg := lg) (d := { freshD 0 t with tm := 0 }) (sv := sv3) (L := L) ⟨heap_alloc_new w3 _, K3.out.1.below ((Below.refl _ w3).alloc (Nat.le_refl _) _), K3.out.2.2.2⟩).mono ?_
    rintro e w4 ⟨rfl, rfl⟩
    go_wp2
    go_ret2
    exact ⟨w3.heap.size, lg, w2.heap.size, sv3, rfl, K3.out.2.2.1, ⟨heap_alloc_new w3 _, K3.out.1.below ((Below.refl _ w3).alloc (Nat.le_refl _) _), K3.out.2.2.2⟩, K3.out.2.1.alloc K3.out.2.1.size _⟩
  · go_enter Try.func26, Try.ntmps26
    go_wp2_with fail
    refine HB.mono ?_
    clear HB
    rintro e w1 ⟨rfl, b1⟩
    have HL := last_any (H.out.below b1)
    rw [Int.zero_add, EU.out] at HL
    have B1 : Hid (Below w.heap.size w w1) := b1
    clear b1
    go_wp2_with fail
    refine HL.mono ?_
    clear HL
    rintro e w2 ⟨rfl, b2⟩
    have B2 : Hid (Below w.heap.size w w2) := B1.out.trans (b2.mono B1.out.size)
    have HC := copy_any (H.out.below B2.out)
    clear b2 B1
    go_wp2_with fail
    refine HC.mono ?_
    clear HC
    rintro e w3 ⟨lg, sv3, rfl, l3, b3⟩
    have K3 : Hid (LogIn w3 w2.heap.size lg 0 0 sv3 L ∧ Below w.heap.size w w3 ∧ w.heap.size ≤ w2.heap.size ∧ w2.heap.size ≤ w3.heap.size) := ⟨l3, B2.out.trans (b3.mono B2.out.size), B2.out.size, b3.size⟩
    clear l3 b3
    go_wp2_with fail
    refine (timeout_one (base := w2.heap.size) (lg := lg) (d := { freshD 1 t with tm := 0 }) (sv := sv3) (L := L) ⟨heap_alloc_new w3 _, K3.out.1.below ((Below.refl _ w3).alloc (Nat.le_refl _) _), K3.out.2.2.2⟩).mono ?_
    rintro e w4 ⟨rfl, rfl⟩
    go_wp2
    go_ret2
    exact ⟨w3.heap.size, lg, w2.heap.size, sv3, rfl, K3.out.2.2.1, ⟨heap_alloc_new w3 _, K3.out.1.below ((Below.refl _ w3).alloc (Nat.le_refl _) _), K3.out.2.2.2⟩, K3.out.2.1.alloc K3.out.2.1.size _⟩
end
end Go.Proofs.Ythnocbflnakdmaa
