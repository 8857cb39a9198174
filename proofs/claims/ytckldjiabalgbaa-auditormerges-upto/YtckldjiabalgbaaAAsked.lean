/- Package auditor: asked, of an ask that is one of this audit. -/
import Derived.Test.YtckldjiabalgbaaAAsks
namespace Go.Proofs.Ytckldjiabalgbaa
open Go.RowKit
attribute [local go_sem] Oper.semAt_some
set_option linter.unusedVariables false

set_option maxRecDepth 100000 in
set_option maxHeartbeats 4000000 in
theorem asked_true {w : World} {G : Nat} {D : AuD} (h : AuIn w G D) {S : Nat} (hS : D.sh = S) (h1 : 1 ≤ S) (h3 : S ≤ 3) {kd : Int} (hp : D.ph = 1 ∧ kd = 6 ∨ D.ph = 2 ∧ kd = 7) (g ok : Int) (of_ ot : ByteArray) (oa : Int) (oy : ByteArray) (os oh : Int) (id nm : ByteArray) (n why slot at_ : Int) (last : Bool) (data : Value) (hg1 : 1 ≤ g) (hg2 : g ≤ S) :
    Calls Try.prog 20 #[.pointer (some ⟨G, 0, none⟩), .agg #[.int .i64 g, .int .i64 kd, .int .i64 ok, .string of_, .string ot, .int .i64 oa, .string oy, .int .i64 os, .int .i64 oh, .string id, .string nm, .int .i64 n, .int .i64 why, .int .i64 slot, .int .i64 D.n, .int .i64 at_, .bool last, data]] w fun e w' => e = .returned (.bool true) ∧ Below w.heap.size w w' := by
  have b1 : Below w.heap.size w (w.alloc (.cells #[.int .i64 g, .int .i64 kd, .int .i64 ok, .string of_, .string ot, .int .i64 oa, .string oy, .int .i64 os, .int .i64 oh, .string id, .string nm, .int .i64 n, .int .i64 why, .int .i64 slot, .int .i64 D.n, .int .i64 at_, .bool last, data] 53)) := (Below.refl _ w).alloc (Nat.le_refl _) _
  have q1 := heap_alloc_new w (.cells #[.int .i64 g, .int .i64 kd, .int .i64 ok, .string of_, .string ot, .int .i64 oa, .string oy, .int .i64 os, .int .i64 oh, .string id, .string nm, .int .i64 n, .int .i64 why, .int .i64 slot, .int .i64 D.n, .int .i64 at_, .bool last, data] 53)
  obtain ⟨V, eV⟩ : ∃ V, w.alloc (.cells #[.int .i64 g, .int .i64 kd, .int .i64 ok, .string of_, .string ot, .int .i64 oa, .string oy, .int .i64 os, .int .i64 oh, .string id, .string nm, .int .i64 n, .int .i64 why, .int .i64 slot, .int .i64 D.n, .int .i64 at_, .bool last, data] 53) = V := ⟨_, rfl⟩
  rw [eV] at b1 q1
  have hV : AuIn V G D := by
    simp only [AuIn] at h ⊢
    exact (b1.block _ (Array.getElem?_eq_some_iff.1 h).1).trans h
  have HD := duty_any D.ph V
  have e1 : (if D.ph = 1 then (6 : Int) else if D.ph = 2 then 7 else 0) = kd := by
    rcases hp with ⟨e1, e2⟩ | ⟨e1, e2⟩ <;> rw [e1, e2] <;> rfl
  have e2 : decide (D.ph = 1 ∨ D.ph = 2) = true := by
    rcases hp with ⟨e1, _⟩ | ⟨e1, _⟩ <;> rw [e1] <;> rfl
  rw [e1, e2] at HD
  have c1 : V.cell? ⟨G, 1, none⟩ = some (.int .i64 D.n) := by simp only [AuIn] at hV; simp [World.cell?, hV]
  have c2 : V.cell? ⟨G, 2, none⟩ = some (.int .i64 D.ph) := by simp only [AuIn] at hV; simp [World.cell?, hV]
  have x0 : V.cell? ⟨w.heap.size, 0, none⟩ = some (.int .i64 g) := by simp [World.cell?, q1]
  have x1 : V.cell? ⟨w.heap.size, 1, none⟩ = some (.int .i64 kd) := by simp [World.cell?, q1]
  have x14 : V.cell? ⟨w.heap.size, 14, none⟩ = some (.int .i64 D.n) := by simp [World.cell?, q1]
  have HC : Hid (∀ i, Calls Try.prog 22 #[.pointer (some ⟨G, 0, none⟩)] (V.drewN i) fun e w' => e = .returned (.int .i64 (S : Int)) ∧ w' = V.drewN i) := fun i => by
    have := countA_any (hV.drewN i) (by rw [hS]; omega)
    rw [hS] at this
    exact this
  have B1 : Hid _ := b1
  clear h hV hS h1 h3 hp e1 e2 b1 q1
  go_enter Try.func20, Try.ntmps20
  go_wp2_with fail
  refine HD.mono ?_
  rintro e w1 ⟨rfl, hw1⟩
  subst w1
  clear HD
  go_wp2_with fail
  go_quiet (exact Calls.quiet_of_same (HC.out _))
  clear HC
  go_wp2
  go_ret
  exact ⟨rfl, below_drewN B1.out _⟩
end Go.Proofs.Ytckldjiabalgbaa
