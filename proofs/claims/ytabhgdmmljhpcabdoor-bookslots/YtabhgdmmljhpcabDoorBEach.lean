/- Package book: each account is gone through. -/
import Derived.Test.YtabhgdmmljhpcabDoorBPut
namespace Go.Proofs.YtabhgdmmljhpcabDoor
open Go.RowKit
attribute [local go_sem] Oper.semAt_some
set_option linter.unusedVariables false

section
variable {w : World} {base N : Nat} {sv : Value} {L : List Acc}
set_option maxRecDepth 100000 in
set_option maxHeartbeats 1000000 in
theorem each_one (h : BookIn w base N sv L) (f : Nat) (c1 : Value) (hcf : ∀ args w, (callFunc f args).run Tryd.prog w = .ok (.enter f args) w) (I : Nat → World → Prop) (h0 : I 0 w)
    (hkeep : ∀ k W, I k W → W.heap[N]? = w.heap[N]? ∧ ∀ g, sv.ownBlock = some g → W.heap[g]? = w.heap[g]?)
    (hstep : ∀ k (hk : k < L.length) W, I k W → Calls Tryd.prog f #[.agg #[.string L[k].nm, .int .i64 L[k].amt, .string L[k].by_], c1] (W.alloc (.cells #[.string L[k].nm, .int .i64 L[k].amt, .string L[k].by_] 42)) fun e W' => e = .returned (.tuple #[]) ∧ I (k + 1) W') :
    Calls Tryd.prog 12 #[.pointer (some ⟨N, 0, none⟩), .func (.func f) #[] #[c1]] w fun e w' => e = .returned (.tuple #[]) ∧ I L.length w' := by
  have c0 := h.c0
  obtain ⟨a, cap, esv, _⟩ := h.sv_form
  have ES : Hid (sv = .slice a L.length cap) := esv
  have H : Hid (BookIn w base N sv L) := h
  rw [esv] at c0
  have hl : L.length ≤ 200 := h.fit.len
  obtain ⟨n, en⟩ : ∃ n, L.length = n := ⟨_, rfl⟩
  have EN : Hid (L.length = n) := en
  rw [en] at c0 hl ⊢
  have HI0 : Hid (I 0 w) := h0
  have HKP : Hid (∀ k W, I k W → W.heap[N]? = w.heap[N]? ∧ ∀ g, sv.ownBlock = some g → W.heap[g]? = w.heap[g]?) := hkeep
  have HST : Hid (∀ k (hk : k < L.length) W, I k W → Calls Tryd.prog f #[.agg #[.string L[k].nm, .int .i64 L[k].amt, .string L[k].by_], c1] (W.alloc (.cells #[.string L[k].nm, .int .i64 L[k].amt, .string L[k].by_] 42)) fun e W' => e = .returned (.tuple #[]) ∧ I (k + 1) W') := hstep
  clear h h0 hkeep hstep esv en
  go_enter Tryd.func12, Tryd.ntmps12
  go_wp2
  go_loopw [13] (fun i wr => ∃ k : Nat, k ≤ n ∧ i = .int .i64 k ∧ Hid (I k wr)) (fun i _ => n - (intOf i).toNat)
  case atStart => exact ⟨0, Nat.zero_le _, rfl, HI0⟩
  case round =>
    obtain ⟨k, hk, rfl, HI⟩ := hrel
    by_cases hlt : k < n
    · have hk2 : k < L.length := by rw [EN.out]; exact hlt
      obtain ⟨q1, q2⟩ := HKP.out k wr HI.out
      have hB := H.out.keep q1 q2
      obtain ⟨g, cp, e2, y0, y1, y2⟩ := row_at hB.row rfl hk2
      rw [ES.out] at e2
      injection e2 with e3 _ e4
      subst e3 e4
      have HC := HST.out k hk2 wr HI.out
      generalize L[k]'hk2 = p at y0 y1 y2 HC
      obtain ⟨nm, amt, by_⟩ := p
      simp only at y0 y1 y2 HC
      clear q1 q2 hB
      go_wp2_with fail
      refine HC.mono ?_
      rintro e w1 ⟨rfl, hI1⟩
      have HI1 : Hid (I (k + 1) w1) := hI1
      clear hI1 HC
      go_wp2
      go_roundw
      case rel => exact ⟨k + 1, by omega, by go_num, HI1⟩
      case measure => simp [intOf]; omega
    · obtain rfl : k = n := by omega
      go_wp2
      exact bodyPost_end (results_none rfl _ _ _) rfl ⟨rfl, HI.out⟩
set_option maxRecDepth 100000 in
set_option maxHeartbeats 1000000 in
theorem each_two (h : BookIn w base N sv L) (f : Nat) (c1 c2 : Value) (hcf : ∀ args w, (callFunc f args).run Tryd.prog w = .ok (.enter f args) w) (I : Nat → World → Prop) (h0 : I 0 w)
    (hkeep : ∀ k W, I k W → W.heap[N]? = w.heap[N]? ∧ ∀ g, sv.ownBlock = some g → W.heap[g]? = w.heap[g]?)
    (hstep : ∀ k (hk : k < L.length) W, I k W → Calls Tryd.prog f #[.agg #[.string L[k].nm, .int .i64 L[k].amt, .string L[k].by_], c1, c2] (W.alloc (.cells #[.string L[k].nm, .int .i64 L[k].amt, .string L[k].by_] 42)) fun e W' => e = .returned (.tuple #[]) ∧ I (k + 1) W') :
    Calls Tryd.prog 12 #[.pointer (some ⟨N, 0, none⟩), .func (.func f) #[] #[c1, c2]] w fun e w' => e = .returned (.tuple #[]) ∧ I L.length w' := by
  have c0 := h.c0
  obtain ⟨a, cap, esv, _⟩ := h.sv_form
  have ES : Hid (sv = .slice a L.length cap) := esv
  have H : Hid (BookIn w base N sv L) := h
  rw [esv] at c0
  have hl : L.length ≤ 200 := h.fit.len
  obtain ⟨n, en⟩ : ∃ n, L.length = n := ⟨_, rfl⟩
  have EN : Hid (L.length = n) := en
  rw [en] at c0 hl ⊢
  have HI0 : Hid (I 0 w) := h0
  have HKP : Hid (∀ k W, I k W → W.heap[N]? = w.heap[N]? ∧ ∀ g, sv.ownBlock = some g → W.heap[g]? = w.heap[g]?) := hkeep
  have HST : Hid (∀ k (hk : k < L.length) W, I k W → Calls Tryd.prog f #[.agg #[.string L[k].nm, .int .i64 L[k].amt, .string L[k].by_], c1, c2] (W.alloc (.cells #[.string L[k].nm, .int .i64 L[k].amt, .string L[k].by_] 42)) fun e W' => e = .returned (.tuple #[]) ∧ I (k + 1) W') := hstep
  clear h h0 hkeep hstep esv en
  go_enter Tryd.func12, Tryd.ntmps12
  go_wp2
  go_loopw [13] (fun i wr => ∃ k : Nat, k ≤ n ∧ i = .int .i64 k ∧ Hid (I k wr)) (fun i _ => n - (intOf i).toNat)
  case atStart => exact ⟨0, Nat.zero_le _, rfl, HI0⟩
  case round =>
    obtain ⟨k, hk, rfl, HI⟩ := hrel
    by_cases hlt : k < n
    · have hk2 : k < L.length := by rw [EN.out]; exact hlt
      obtain ⟨q1, q2⟩ := HKP.out k wr HI.out
      have hB := H.out.keep q1 q2
      obtain ⟨g, cp, e2, y0, y1, y2⟩ := row_at hB.row rfl hk2
      rw [ES.out] at e2
      injection e2 with e3 _ e4
      subst e3 e4
      have HC := HST.out k hk2 wr HI.out
      generalize L[k]'hk2 = p at y0 y1 y2 HC
      obtain ⟨nm, amt, by_⟩ := p
      simp only at y0 y1 y2 HC
      clear q1 q2 hB
      go_wp2_with fail
      refine HC.mono ?_
      rintro e w1 ⟨rfl, hI1⟩
      have HI1 : Hid (I (k + 1) w1) := hI1
      clear hI1 HC
      go_wp2
      go_roundw
      case rel => exact ⟨k + 1, by omega, by go_num, HI1⟩
      case measure => simp [intOf]; omega
    · obtain rfl : k = n := by omega
      go_wp2
      exact bodyPost_end (results_none rfl _ _ _) rfl ⟨rfl, HI.out⟩
end
end Go.Proofs.YtabhgdmmljhpcabDoor
