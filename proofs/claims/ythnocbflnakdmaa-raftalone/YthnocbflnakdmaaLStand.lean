/- Package rlog: what stands at a place. -/
import Derived.Test.YthnocbflnakdmaaLMem
namespace Go.Proofs.Ythnocbflnakdmaa
open Go.RowKit
attribute [local go_sem] Oper.semAt_some
set_option linter.unusedVariables false

/-- The base, an entry, as a place. -/
def baseP (T : Int) : Value := .iface 110 (.agg #[.int .i64 T])
def entP (k : Nat) (t : Int) : Value := .iface 108 (.agg #[.int .i64 (k : Int), .int .i64 t])
theorem term_base (T : Int) (w : World) : Calls Try.prog 120 #[.agg #[.int .i64 T]] w fun e w' => e = .returned (.int .i64 T) ∧ w' = w.alloc (.cells #[.int .i64 T] 110) := by
  go_enter Try.func120, Try.ntmps120
  go_wp2
  go_ret
  exact ⟨rfl, rfl⟩
theorem term_entry (k t : Int) (w : World) : Calls Try.prog 119 #[.agg #[.int .i64 k, .int .i64 t]] w fun e w' => e = .returned (.int .i64 t) ∧ w' = w.alloc (.cells #[.int .i64 k, .int .i64 t] 108) := by
  go_enter Try.func119, Try.ntmps119
  go_wp2
  go_ret
  exact ⟨rfl, rfl⟩
section
variable {w : World} {base N : Nat} {B T : Int} {sv : Value} {L : List EntV}
set_option maxHeartbeats 1600000 in
theorem stands_base0 (c0 : w.cell? ⟨N, 0, none⟩ = some (.int .i64 B)) (c1 : w.cell? ⟨N, 1, none⟩ = some (.int .i64 T)) : Calls Try.prog 37 #[.pointer (some ⟨N, 0, none⟩), .int .i64 B] w fun e w' => e = .returned (baseP T) ∧ Below w.heap.size w w' := by
  go_enter Try.func37, Try.ntmps37
  go_wp2
  go_ret
  exact ⟨rfl, Below.refl _ _⟩
theorem stands_base (h : LogIn w base N B T sv L) : Calls Try.prog 37 #[.pointer (some ⟨N, 0, none⟩), .int .i64 B] w fun e w' => e = .returned (baseP T) ∧ Below w.heap.size w w' := stands_base0 h.c0 h.c1
set_option maxHeartbeats 1600000 in
theorem stands_none (h : LogIn w base N B T sv L) (at_ : Int) (hhi : at_ ≤ 9223372036854775807) (hat : at_ < B ∨ B + L.length < at_) : Calls Try.prog 37 #[.pointer (some ⟨N, 0, none⟩), .int .i64 at_] w fun e w' => e = .returned .nilIface ∧ Below w.heap.size w w' := by
  have c0 := h.c0
  have c2 := h.c2
  obtain ⟨a, c, e, _⟩ := h.sv_form
  have hB := h.bB
  have hl := h.len
  subst e
  generalize L.length = n at *
  rcases hat with hat | hat
  · have q1 : ¬ at_ = B := by omega
    have q2 : decide (B < at_) = false := decide_eq_false (by omega)
    clear h hat
    go_enter Try.func37, Try.ntmps37
    go_wp2
    go_quiet (fail)
    go_wp2
    go_ret
    exact ⟨rfl, below_drewN' (Below.refl _ _) _⟩
  · have q1 : ¬ at_ = B := by omega
    have q2 : decide (B < at_) = true := decide_eq_true (by omega)
    obtain ⟨d, hd⟩ : ∃ d : Int, IntKind.i64.wrap (at_ - B) = d := ⟨_, rfl⟩
    have q3 : decide (d ≤ (n : Int)) = false := decide_eq_false (by rw [← hd, IntKind.wrap_i64]; omega)
    clear h hat hB hl
    go_enter Try.func37, Try.ntmps37
    go_wp2
    go_quiet (fail)
    go_wp2
    go_ret
    exact ⟨rfl, below_drewN' (Below.refl _ _) _⟩
set_option maxHeartbeats 1600000 in
theorem stands_entry (h : LogIn w base N B T sv L) (k : Nat) (hk : k < L.length) (at_ : Int) (hat : at_ = B + 1 + k) : Calls Try.prog 37 #[.pointer (some ⟨N, 0, none⟩), .int .i64 at_] w fun e w' => e = .returned (entP k L[k].1.1) ∧ Below w.heap.size w w' := by
  have c0 := h.c0
  have c2 := h.c2
  obtain ⟨g, c, e, z1, z2⟩ := row_at h.row hk
  have hB := h.bB
  have hl := h.len
  subst e
  clear z2 h
  generalize L[k].1.1 = t at *
  generalize L.length = n at *
  have q1 : ¬ at_ = B := by omega
  have q2 : decide (B < at_) = true := decide_eq_true (by omega)
  have hd : IntKind.i64.wrap (at_ - B) = ((k + 1 : Nat) : Int) := by rw [IntKind.wrap_i64]; omega
  have q3 : decide (((k + 1 : Nat) : Int) ≤ (n : Int)) = true := decide_eq_true (by omega)
  have hd2 : IntKind.i64.wrap (((k + 1 : Nat) : Int) - 1) = (k : Int) := by rw [IntKind.wrap_i64]; omega
  have q4 : (k : Int) < (n : Int) := by omega
  have q5 : k < 4096 := by omega
  clear hat hB hl hk
  go_enter Try.func37, Try.ntmps37
  go_wp2
  go_quiet (fail)
  go_wp2
  go_ret
  exact ⟨rfl, below_drewN' (Below.refl _ _) _⟩
end
end Go.Proofs.Ythnocbflnakdmaa
