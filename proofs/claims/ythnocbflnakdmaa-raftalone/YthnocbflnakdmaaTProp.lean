/- Package raft: a replica alone: Propose. -/
import Derived.Test.YthnocbflnakdmaaTLead
namespace Go.Proofs.Ythnocbflnakdmaa
open Go.RowKit
attribute [local go_sem] Oper.semAt_some
set_option linter.unusedVariables false
section
variable {w w' : World} {base R lg : Nat} {d : RD} {sv : Value} {L : List EntV}
set_option maxRecDepth 100000 in
set_option maxHeartbeats 1600000 in
theorem propose_one (h : Solo w base R lg d sv L) (hr : d.role = 2) (hl : L.length < 4096) (ht : lastT 0 L ≤ d.term ∧ 1 ≤ d.term ∧ d.term ≤ 1152921504606846976) (hc : d.commit ≤ L.length) (a : Option Addr) (n c : Nat) (p : List (BitVec 8)) (hp : BytesV w (.slice a n c) p) (ho : ∀ x, a = some x → p ≠ [] → x.block ≠ lg ∧ some x.block ≠ sv.ownBlock) (hn : n ≤ 1900) :
    Calls Try.prog 18 #[.pointer (some ⟨R, 0, none⟩), .slice a n c] w fun e w' => e = .returned (.tuple #[.int .i64 (L.length + 1), .slice none 0 0, .int .i64 0]) ∧ ∃ sv' L', Solo w' base R lg { d with commit := L.length + 1 } sv' L' ∧ Below base w w' ∧ L'.map Prod.fst = L.map Prod.fst ++ [(d.term, p)] ∧ ∀ g, g < w.heap.size → g ≠ R → g ≠ lg → some g ≠ sv.ownBlock → w'.heap[g]? = w.heap[g]? := by
  have c5 : w.cell? ⟨R, 5, none⟩ = some (.int .i64 2) := by have := h.cell 5; rw [show (d.cells lg)[5]? = some (.int .i64 d.role) from rfl, hr] at this; exact this
  have k8 : w.cell? ⟨R, 8, none⟩ = some (.pointer (some ⟨lg, 0, none⟩)) := h.cell 8
  obtain ⟨tt, ett⟩ : ∃ tt, d.term = tt := ⟨_, rfl⟩
  have k3 : w.cell? ⟨R, 3, none⟩ = some (.int .i64 tt) := by rw [← ett]; exact h.cell 3
  have q1 : ¬ (1900 : Int) < (n : Int) := by omega
  have q2 : decide ((1900 : Int) < (n : Int)) = false := decide_eq_false q1
  have k8a : ∀ o, (w.alloc o).cell? ⟨R, 8, none⟩ = some (.pointer (some ⟨lg, 0, none⟩)) := fun o => (h.below ((Below.refl _ w).alloc (Nat.le_refl _) o)).cell 8
  have k3a : ∀ o, (w.alloc o).cell? ⟨R, 3, none⟩ = some (.int .i64 tt) := fun o => by rw [← ett]; exact (h.below ((Below.refl _ w).alloc (Nat.le_refl _) o)).cell 3
  have HA : Hid (Calls Try.prog 33 #[.pointer (some ⟨lg, 0, none⟩), .slice (some ⟨w.heap.size, 0, none⟩) 1 1] (w.alloc (.cells #[.int .i64 tt, .slice a n c] 52)).drew fun e w' => e = .returned (.int .i64 0) ∧ ∃ sv' L', Solo w' base R lg d sv' L' ∧ Below base w w' ∧ L'.map Prod.fst = L.map Prod.fst ++ [(tt, p)] ∧ ∀ g, g < w.heap.size → g ≠ lg → some g ≠ sv.ownBlock → w'.heap[g]? = w.heap[g]?) := (append_one (h.drewN 1) tt a n c p (hp.below (below_drewN' (Below.refl _ w) 1)) ho hl (by rw [← ett]; exact ht)).mono (fun e w' ⟨h1, sv', L', h2, h3, h4, h5⟩ => ⟨h1, sv', L', h2, ((below_drewN' (Below.refl _ w) 1).mono h.size).trans h3, h4, h5⟩)
  have HX : Hid (d.term = tt ∧ d.commit ≤ L.length) := ⟨ett, hc⟩
  have SZ : Hid (∀ w3, Below base w w3 → w.heap.size ≤ w3.heap.size) := fun w3 b => b.size
  rw [ett]
  clear h hr hl ht hc hp ho hn ett
  go_enter Try.func18, Try.ntmps18
  go_wp2
  go_region_law (go_simp; go_at_call 33; refine HA.out.mono ?_; rintro e w3 ⟨rfl, sv3, L3, s3, b3, f3, r3⟩)
  all_goals
    have l3 : L3.length = L.length + 1 := by have := congrArg List.length f3; simpa using this
    have t3 : lastT 0 L3 = d.term := (lastT_snoc f3 0).trans HX.out.1.symm
    have HC := count_one s3 t3 (by have h2 := HX.out.2; omega)
    have R3 : Hid (w.heap.size ≤ w3.heap.size ∧ ∀ g, g < w.heap.size → g ≠ lg → some g ≠ sv.ownBlock → w3.heap[g]? = w.heap[g]?) := ⟨SZ.out w3 b3, r3⟩
    have F3 : Hid (Below base w w3 ∧ L3.map Prod.fst = L.map Prod.fst ++ [(tt, p)] ∧ (L3.length : Int) = L.length + 1) := ⟨b3, f3, by omega⟩
    clear s3 b3 f3 r3 l3 t3 HA k8 k3 k8a k3a c5
    go_wp2_with fail
    refine HC.mono ?_
    clear HC
    rintro e w4 ⟨rfl, s4, b4, r4⟩
    have R4 : Hid (w.heap.size ≤ w4.heap.size ∧ ∀ g, g < w.heap.size → g ≠ R → g ≠ lg → some g ≠ sv.ownBlock → w4.heap[g]? = w.heap[g]?) := ⟨Nat.le_trans R3.out.1 b4.size, fun g hg h1 h2 h3 => (r4 g (Nat.lt_of_lt_of_le hg R3.out.1) h1).trans (R3.out.2 g hg h2 h3)⟩
    clear r4 R3
    have k8 : w4.cell? ⟨R, 8, none⟩ = some (.pointer (some ⟨lg, 0, none⟩)) := s4.cell 8
    have HL := last_any s4.log
    rw [Int.zero_add, F3.out.2.2] at HL
    have S4 : Hid _ := And.intro s4 (F3.out.1.trans b4)
    clear s4 b4
    go_wp2_with fail
    refine HL.mono ?_
    clear HL
    rintro e w5 ⟨rfl, b5⟩
    have s5 := S4.out.1.below b5
    have HS := sendAll_one s5
    have S5 : Hid _ := And.intro s5 (S4.out.2.trans (b5.mono S4.out.1.size))
    have R5 : Hid (∀ g, g < w.heap.size → g ≠ R → g ≠ lg → some g ≠ sv.ownBlock → w5.heap[g]? = w.heap[g]?) := fun g hg h1 h2 h3 => (b5.block g (Nat.lt_of_lt_of_le hg R4.out.1)).trans (R4.out.2 g hg h1 h2 h3)
    clear s5 b5 S4 k8
    go_wp2_with fail
    refine HS.mono ?_
    clear HS
    rintro e w6 ⟨rfl, rfl⟩
    go_wp2
    refine bodyPost_ret (results_tmp3 rfl _ _ _) rfl ?_
    refine ⟨rfl, sv3, L3, ?_, S5.out.2, F3.out.2.1, R5.out⟩
    have := S5.out.1
    rw [F3.out.2.2, HX.out.1] at this
    exact this
end
end Go.Proofs.Ythnocbflnakdmaa
