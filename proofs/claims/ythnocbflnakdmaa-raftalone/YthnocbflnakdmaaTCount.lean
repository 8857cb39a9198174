/- Package raft: a replica alone: count. -/
import Derived.Test.YthnocbflnakdmaaTSmall
namespace Go.Proofs.Ythnocbflnakdmaa
open Go.RowKit
attribute [local go_sem] Oper.semAt_some
set_option linter.unusedVariables false

set_option maxRecDepth 100000 in
set_option maxHeartbeats 1600000 in
theorem insert_one (w : World) (g : Nat) : Calls Try.prog 82 #[.slice (some ⟨g, 0, none⟩) 1 1, .int .i64 0, .int .i64 1] w fun e w' => e = .returned (.tuple #[]) ∧ w' = w := by
  go_enter Try.func82, Try.ntmps82
  go_wp2
  go_loopw [6] (fun i wr => i = .int .i64 1 ∧ wr = w) (fun _ _ => 0)
  case atStart => exact ⟨rfl, rfl⟩
  case round =>
    obtain ⟨rfl, rfl⟩ := hrel
    go_wp2
    go_end0
    exact ⟨rfl, rfl⟩
set_option maxRecDepth 100000 in
set_option maxHeartbeats 1600000 in
theorem pdq_one (w : World) (g : Nat) (k : Int) : Calls Try.prog 74 #[.slice (some ⟨g, 0, none⟩) 1 1, .int .i64 0, .int .i64 1, .int .i64 k] w fun e w' => e = .returned (.tuple #[]) ∧ w' = w := by
  have HI := insert_one w g
  go_enter Try.func74, Try.ntmps74
  go_wp2
  go_loopw [1, 2] (fun a b wr => a = .int .i64 0 ∧ b = .int .i64 1 ∧ wr = w) (fun _ _ _ => 0)
  case atStart => exact ⟨rfl, rfl, rfl⟩
  case round =>
    obtain ⟨rfl, rfl, rfl⟩ := hrel
    go_wp2_with fail
    refine HI.mono ?_
    rintro e w1 ⟨rfl, rfl⟩
    clear HI
    go_wp2
    exact bodyPost_ret (results_none rfl _ _ _) rfl ⟨rfl, rfl⟩
set_option maxRecDepth 100000 in
set_option maxHeartbeats 1600000 in
theorem bitsLen_one (w : World) : Calls Try.prog 75 #[.int .u64 1] w fun e w' => ∃ k, e = .returned (.int .i64 k) ∧ w' = w := by
  go_enter Try.func75, Try.ntmps75
  go_wp2
  go_ret
  exact ⟨_, rfl, rfl⟩
set_option maxRecDepth 100000 in
set_option maxHeartbeats 1600000 in
theorem sort_one (w : World) (g : Nat) : Calls Try.prog 52 #[.slice (some ⟨g, 0, none⟩) 1 1] w fun e w' => e = .returned (.tuple #[]) ∧ w' = w := by
  have HP := fun k => pdq_one w g k
  have HB := bitsLen_one w
  go_enter Try.func52, Try.ntmps52
  go_wp2_with fail
  refine HB.mono ?_
  rintro e w1 ⟨k, rfl, rfl⟩
  clear HB
  go_wp2_with fail
  refine (HP _).mono ?_
  rintro e w2 ⟨rfl, rfl⟩
  clear HP
  go_wp2
  go_end0
  exact ⟨rfl, rfl⟩
section
variable {w w' : World} {base R lg : Nat} {d : RD} {sv : Value} {L : List EntV}
set_option maxRecDepth 100000 in
set_option maxHeartbeats 1600000 in
theorem count_one (h : Solo w base R lg d sv L) (ht : lastT 0 L = d.term) (hc : d.commit < L.length) : Calls Try.prog 34 #[.pointer (some ⟨R, 0, none⟩)] w fun e w' => e = .returned (.tuple #[]) ∧ Solo w' base R lg { d with commit := L.length } sv L ∧ Below base w w' ∧ ∀ g, g < w.heap.size → g ≠ R → w'.heap[g]? = w.heap[g]? := by
  have c8 : w.cell? ⟨R, 8, none⟩ = some (.pointer (some ⟨lg, 0, none⟩)) := h.cell 8
  have HL := last_any h.log
  rw [Int.zero_add, ht] at HL
  have H : Hid (Solo w base R lg d sv L) := h
  have HS := stand_last 0 0 L
  rw [Int.zero_add, ht] at HS
  have HSt : Hid (stand 0 0 L (L.length : Int) = some d.term) := HS
  have hl := h.log.len
  have HC : Hid (d.commit < L.length) := hc
  clear h ht HS hc
  go_enter Try.func34, Try.ntmps34
  go_wp2_with fail
  refine HL.mono ?_
  clear HL
  rintro e w1 ⟨rfl, b1⟩
  have s1 := H.out.below b1
  have bA := (Below.refl _ w1).alloc (Nat.le_refl _) (.cells #[.int .i64 (L.length : Int)] 2)
  have s2 := s1.below bA
  have k2x : (w1.alloc (.cells #[.int .i64 (L.length : Int)] 2)).cell? ⟨R, 2, none⟩ = some (.int .i64 1) := s2.cell 2
  have n2 := heap_alloc_new w1 (.cells #[.int .i64 (L.length : Int)] 2)
  obtain ⟨w2, e2⟩ : ∃ w2, w1.alloc (.cells #[.int .i64 (L.length : Int)] 2) = w2 := ⟨_, rfl⟩
  obtain ⟨g, eg⟩ : ∃ g, w1.heap.size = g := ⟨_, rfl⟩
  rw [e2] at s2 bA n2
  rw [eg] at n2
  have k1 : w2.cell? ⟨R, 1, none⟩ = some (.int .i64 0) := s2.cell 1
  have k2 : w2.cell? ⟨R, 2, none⟩ = some (.int .i64 1) := s2.cell 2
  have k8 : w2.cell? ⟨R, 8, none⟩ = some (.pointer (some ⟨lg, 0, none⟩)) := s2.cell 8
  have g0 : w2.cell? ⟨g, 0, none⟩ = some (.int .i64 (L.length : Int)) := by simp [World.cell?, n2]
  have S2 : Hid (Solo w2 base R lg d sv L) := s2
  have B2' : Hid (Below w.heap.size w w2) := b1.trans (bA.mono b1.size)
  have B2 : Hid (Below base w w2) := (b1.trans (bA.mono b1.size)).mono H.out.size
  have E2 : Hid _ := e2
  have EG : Hid _ := eg
  obtain ⟨n, en⟩ : ∃ n, L.length = n := ⟨_, rfl⟩
  have EN : Hid (L.length = n) := en
  rw [en] at hl g0 E2 k2x
  rw [en]
  clear b1 s1 bA s2 n2 e2 eg c8 en
  go_wp2_with fail
  rw [show _ = w2 from E2.out]
  try rw [show w1.heap.size = g from EG.out]
  clear E2 EG k2x
  go_loopw [4, 23] (fun l i wr => wr = w2 ∧ l = .slice (some ⟨g, 0, none⟩) 1 1 ∧ (i = .int .i64 0 ∨ i = .int .i64 1)) (fun _ i _ => 1 - (intOf i).toNat)
  case atStart => simp
  case round =>
    obtain ⟨rfl, rfl, (rfl | rfl)⟩ := hrel
    · go_wp2
      go_roundw
      case rel => simp
      case measure => simp [intOf]
    · go_wp2_with fail
      refine (sort_one wr g).mono ?_
      rintro e w3 ⟨rfl, rfl⟩
      have HT := term_some S2.out.log (n : Int) (by omega) d.term (by rw [← EN.out]; exact HSt.out)
      go_wp2_with fail
      refine HT.mono ?_
      clear HT
      rintro e w4 ⟨rfl, b4⟩
      have s4 := S2.out.below b4
      have x3 : w4.cell? ⟨R, 3, none⟩ = some (.int .i64 d.term) := s4.cell 3
      have x7 : w4.cell? ⟨R, 7, none⟩ = some (.int .i64 d.commit) := s4.cell 7
      have z7 := s4.fz 7
      have q1 : decide (d.commit < (n : Int)) = true := decide_eq_true (by have := HC.out; have := EN.out; omega)
      have q2 : d.commit < (n : Int) := by have := HC.out; have := EN.out; omega
      obtain ⟨s5, b5⟩ := s4.set 7 (.int .i64 (n : Int)) { d with commit := (n : Int) } rfl
      have FR : Hid (∀ g, g < w.heap.size → g ≠ R → (w4.setCell ⟨R, 7, none⟩ (.int .i64 (n : Int))).heap[g]? = w.heap[g]?) := fun g hg hne => (Below.heap_setCell _ _ _ _ hne).trans ((b4.block g (Nat.lt_of_lt_of_le hg B2'.out.size)).trans (B2'.out.block g hg))
      have S5 : Hid _ := And.intro s5 ((B2.out.trans (b4.mono S2.out.size)).trans b5)
      obtain ⟨tt, ett⟩ : ∃ tt, d.term = tt := ⟨_, rfl⟩
      obtain ⟨cc, ecc⟩ : ∃ cc, d.commit = cc := ⟨_, rfl⟩
      rw [ett] at x3
      rw [ecc] at x7 q1 q2
      rw [ett]
      clear s4 s5 b5 b4 k1 k2 k8 g0 ett ecc
      go_wp2
      go_end0
      exact ⟨rfl, by rw [EN.out]; exact S5.out.1, S5.out.2, FR.out⟩
end
end Go.Proofs.Ythnocbflnakdmaa
