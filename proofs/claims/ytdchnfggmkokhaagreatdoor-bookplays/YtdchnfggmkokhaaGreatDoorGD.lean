/- Package book: each account is gone through. -/
import Derived.Test.YtdchnfggmkokhaaGreatDoorGC
namespace Go.Proofs.YtdchnfggmkokhaaGreatDoor
open Go.RowKit
attribute [local go_sem] Oper.semAt_some
set_option linter.unusedVariables false

section
variable {w : World} {base N : Nat} {sv : Value} {L : List Acc}
set_option maxRecDepth 100000 in
set_option maxHeartbeats 1000000 in
theorem each_one (h : BookIn w base N sv L) (f : Nat) (c1 : Value) (hcf : ∀ args w, (callFunc f args).run Tryz.prog w = .ok (.enter f args) w) (I : Nat → World → Prop) (h0 : I 0 w)
    (hkeep : ∀ k W, I k W → W.heap[N]? = w.heap[N]? ∧ ∀ g, sv.ownBlock = some g → W.heap[g]? = w.heap[g]?)
    (hstep : ∀ k (hk : k < L.length) W, I k W → Calls Tryz.prog f #[.agg #[.string L[k].nm, .int .i64 L[k].amt, .string L[k].by_], c1] (W.alloc (.cells #[.string L[k].nm, .int .i64 L[k].amt, .string L[k].by_] 52)) fun e W' => e = .returned (.tuple #[]) ∧ I (k + 1) W') :
    Calls Tryz.prog 16 #[.pointer (some ⟨N, 0, none⟩), .func (.func f) #[] #[c1]] w fun e w' => e = .returned (.tuple #[]) ∧ I L.length w' := by
  have c0 := h.c0
  obtain ⟨a, cap, esv, _⟩ := h.sv_form
  have ES : Hid (sv = .slice a L.length cap) := esv
  have H : Hid (BookIn w base N sv L) := h
  rw [esv] at c0
  have hl : L.length ≤ 200 := h.fit.len
  obtain ⟨n, en⟩ : ∃ n, L.length = n := ⟨_, rfl⟩
  have EN : Hid (L.length = n) := en
  rw [en] at c0 hl ⊢
  have HI0 : Hid (I 0 w) := h0
  have HKP : Hid (∀ k W, I k W → W.heap[N]? = w.heap[N]? ∧ ∀ g, sv.ownBlock = some g → W.heap[g]? = w.heap[g]?) := hkeep
  have HST : Hid (∀ k (hk : k < L.length) W, I k W → Calls Tryz.prog f #[.agg #[.string L[k].nm, .int .i64 L[k].amt, .string L[k].by_], c1] (W.alloc (.cells #[.string L[k].nm, .int .i64 L[k].amt, .string L[k].by_] 52)) fun e W' => e = .returned (.tuple #[]) ∧ I (k + 1) W') := hstep
  clear h h0 hkeep hstep esv en
  go_enter Tryz.func16, Tryz.ntmps16
  go_wp2
  go_loopw [13] (fun i wr => ∃ k : Nat, k ≤ n ∧ i = .int .i64 k ∧ Hid (I k wr)) (fun i _ => n - (intOf i).toNat)
  case atStart => exact ⟨0, Nat.zero_le _, rfl, HI0⟩
  case round =>
    obtain ⟨k, hk, rfl, HI⟩ := hrel
    by_cases hlt : k < n
    · have hk2 : k < L.length := by rw [EN.out]; exact hlt
      obtain ⟨q1, q2⟩ := HKP.out k wr HI.out
      have hB := H.out.keep q1 q2
      obtain ⟨g, cp, e2, y0, y1, y2⟩ := row_at hB.row rfl hk2
      rw [ES.out] at e2
      injection e2 with e3 _ e4
      subst e3 e4
      have HC := HST.out k hk2 wr HI.out
      generalize L[k]'hk2 = p at y0 y1 y2 HC
      obtain ⟨nm, amt, by_⟩ := p
      simp only at y0 y1 y2 HC
      clear q1 q2 hB
      go_wp2_with fail
      refine HC.mono ?_
      rintro e w1 ⟨rfl, hI1⟩
      have HI1 : Hid (I (k + 1) w1) := hI1
      clear hI1 HC
      go_wp2
      go_roundw
      case rel => exact ⟨k + 1, by omega, by go_num, HI1⟩
      case measure => simp [intOf]; omega
    · obtain rfl : k = n := by omega
      go_wp2
      exact bodyPost_end (results_none rfl _ _ _) rfl ⟨rfl, HI.out⟩
set_option maxRecDepth 100000 in
set_option maxHeartbeats 1000000 in
theorem each_two (h : BookIn w base N sv L) (f : Nat) (c1 c2 : Value) (hcf : ∀ args w, (callFunc f args).run Tryz.prog w = .ok (.enter f args) w) (I : Nat → World → Prop) (h0 : I 0 w)
    (hkeep : ∀ k W, I k W → W.heap[N]? = w.heap[N]? ∧ ∀ g, sv.ownBlock = some g → W.heap[g]? = w.heap[g]?)
    (hstep : ∀ k (hk : k < L.length) W, I k W → Calls Tryz.prog f #[.agg #[.string L[k].nm, .int .i64 L[k].amt, .string L[k].by_], c1, c2] (W.alloc (.cells #[.string L[k].nm, .int .i64 L[k].amt, .string L[k].by_] 52)) fun e W' => e = .returned (.tuple #[]) ∧ I (k + 1) W') :
    Calls Tryz.prog 16 #[.pointer (some ⟨N, 0, none⟩), .func (.func f) #[] #[c1, c2]] w fun e w' => e = .returned (.tuple #[]) ∧ I L.length w' := by
  have c0 := h.c0
  obtain ⟨a, cap, esv, _⟩ := h.sv_form
  have ES : Hid (sv = .slice a L.length cap) := esv
  have H : Hid (BookIn w base N sv L) := h
  rw [esv] at c0
  have hl : L.length ≤ 200 := h.fit.len
  obtain ⟨n, en⟩ : ∃ n, L.length = n := ⟨_, rfl⟩
  have EN : Hid (L.length = n) := en
  rw [en] at c0 hl ⊢
  have HI0 : Hid (I 0 w) := h0
  have HKP : Hid (∀ k W, I k W → W.heap[N]? = w.heap[N]? ∧ ∀ g, sv.ownBlock = some g → W.heap[g]? = w.heap[g]?) := hkeep
  have HST : Hid (∀ k (hk : k < L.length) W, I k W → Calls Tryz.prog f #[.agg #[.string L[k].nm, .int .i64 L[k].amt, .string L[k].by_], c1, c2] (W.alloc (.cells #[.string L[k].nm, .int .i64 L[k].amt, .string L[k].by_] 52)) fun e W' => e = .returned (.tuple #[]) ∧ I (k + 1) W') := hstep
  clear h h0 hkeep hstep esv en
  go_enter Tryz.func16, Tryz.ntmps16
  go_wp2
  go_loopw [13] (fun i wr => ∃ k : Nat, k ≤ n ∧ i = .int .i64 k ∧ Hid (I k wr)) (fun i _ => n - (intOf i).toNat)
  case atStart => exact ⟨0, Nat.zero_le _, rfl, HI0⟩
  case round =>
    obtain ⟨k, hk, rfl, HI⟩ := hrel
    by_cases hlt : k < n
    · have hk2 : k < L.length := by rw [EN.out]; exact hlt
      obtain ⟨q1, q2⟩ := HKP.out k wr HI.out
      have hB := H.out.keep q1 q2
      obtain ⟨g, cp, e2, y0, y1, y2⟩ := row_at hB.row rfl hk2
      rw [ES.out] at e2
      injection e2 with e3 _ e4
      subst e3 e4
      have HC := HST.out k hk2 wr HI.out
      generalize L[k]'hk2 = p at y0 y1 y2 HC
      obtain ⟨nm, amt, by_⟩ := p
      simp only at y0 y1 y2 HC
      clear q1 q2 hB
      go_wp2_with fail
      refine HC.mono ?_
      rintro e w1 ⟨rfl, hI1⟩
      have HI1 : Hid (I (k + 1) w1) := hI1
      clear hI1 HC
      go_wp2
      go_roundw
      case rel => exact ⟨k + 1, by omega, by go_num, HI1⟩
      case measure => simp [intOf]; omega
    · obtain rfl : k = n := by omega
      go_wp2
      exact bodyPost_end (results_none rfl _ _ _) rfl ⟨rfl, HI.out⟩
end
end Go.Proofs.YtdchnfggmkokhaaGreatDoor

namespace Go.Proofs.YtdchnfggmkokhaaGreatDoor
open Go.RowKit
attribute [local go_sem] Oper.semAt_some
set_option linter.unusedVariables false

/-- How many are held. -/
def heldN (L : List Acc) : Nat := L.countP (fun p => decide (¬ p.by_.size = 0))
theorem heldN_snoc (L : List Acc) (p : Acc) : heldN (L ++ [p]) = heldN L + if p.by_.size = 0 then 0 else 1 := by
  unfold heldN
  rw [List.countP_append]
  by_cases h : p.by_.size = 0
  · have e : decide (¬ p.by_.size = 0) = false := decide_eq_false (fun q => q h)
    rw [if_pos h]
    simp only [List.countP_cons, List.countP_nil, e]
    rfl
  · have e : decide (¬ p.by_.size = 0) = true := decide_eq_true h
    rw [if_neg h]
    simp only [List.countP_cons, List.countP_nil, e]
    rfl
theorem heldN_le (L : List Acc) : heldN L ≤ L.length := List.countP_le_length
section
variable {w : World} {base N : Nat} {sv : Value} {L : List Acc}
set_option maxRecDepth 100000 in
set_option maxHeartbeats 1000000 in
theorem held1_any (B : Nat) (w : World) (nm by_ : ByteArray) (amt : Int) (c : Nat) (hc : c ≤ 1000) (hB : w.heap[B]? = some (.cells #[.int .i64 (c : Int)] 3 (0, 0))) :
    Calls Tryz.prog 78 #[.agg #[.string nm, .int .i64 amt, .string by_], .pointer (some ⟨B, 0, none⟩)] w fun e w' => e = .returned (.tuple #[]) ∧ w'.heap[B]? = some (.cells #[.int .i64 ((c + if by_.size = 0 then 0 else 1 : Nat) : Int)] 3 (0, 0)) ∧ Below B w w' := by
  have hlt : B < w.heap.size := (Array.getElem?_eq_some_iff.1 hB).1
  have k0 : ∀ o, (w.alloc o).cell? ⟨B, 0, none⟩ = some (.int .i64 (c : Int)) := fun o => by
    rw [((Below.refl w.heap.size w).alloc (Nat.le_refl _) o).cell (p := ⟨B, 0, none⟩) hlt]
    simp [World.cell?, hB]
  have f0 : ∀ o, (w.alloc o).frozen? ⟨B, 0, none⟩ = false := fun o => by
    rw [((Below.refl w.heap.size w).alloc (Nat.le_refl _) o).frozen (p := ⟨B, 0, none⟩) hlt]
    simp [World.frozen?, hB]
  have HB : Hid (∀ o, (w.alloc o).heap[B]? = some (.cells #[.int .i64 (c : Int)] 3 (0, 0))) := fun o => (Below.heap_alloc w o B hlt).trans hB
  have BB : Hid (∀ o, Below B w (w.alloc o)) := fun o => ((Below.refl _ w).alloc (Nat.le_of_lt hlt) _)
  have H0 : Hid (w.heap[B]? = some (.cells #[.int .i64 (c : Int)] 3 (0, 0))) := hB
  clear hB
  by_cases h : by_.size = 0
  · rw [if_pos h]
    obtain rfl := text_zero h
    go_enter Tryz.func78, Tryz.ntmps78
    go_wp2
    exact bodyPost_end (results_none rfl _ _ _) rfl ⟨rfl, HB.out _, BB.out _⟩
  · rw [if_neg h]
    have hne := text_nil_ne h
    have hne2 := text_nil_beq h
    clear h
    go_enter Tryz.func78, Tryz.ntmps78
    go_wp2
    exact bodyPost_end (results_none rfl _ _ _) rfl ⟨rfl, (Below.heap_alloc _ _ B (by simpa using hlt)).trans (set_of3 H0.out), Below.alloc (Below.setCell (Below.refl B w) (Nat.le_refl B) _) (by simpa using Nat.le_of_lt hlt) _⟩
set_option maxRecDepth 100000 in
theorem held_any (h : BookIn w base N sv L) : Calls Tryz.prog 44 #[.pointer (some ⟨N, 0, none⟩)] w fun e w' => e = .returned (.int .i64 (heldN L : Nat)) ∧ Below w.heap.size w w' := by
  obtain ⟨w0, ew0⟩ : ∃ w0, w0 = w.alloc (.cells #[.int .i64 0] 3) := ⟨_, rfl⟩
  have b0 : Below w.heap.size w w0 := by rw [ew0]; exact (Below.refl _ w).alloc (Nat.le_refl _) _
  have hl := h.fit.len
  have HE := each_one (h.below b0) 78 (.pointer (some ⟨w.heap.size, 0, none⟩)) (fun args w => by kernel_rfl)
    (fun k W => Below w.heap.size w W ∧ W.heap[w.heap.size]? = some (.cells #[.int .i64 (heldN (L.take k) : Nat)] 3 (0, 0)))
    ⟨b0, by rw [ew0]; exact heap_alloc_new w _⟩
    (fun k W hI => ⟨(hI.1.block N h.ltN).trans (b0.block N h.ltN).symm, fun g e => by
      have := (row_kind h.row e).2.1
      exact (hI.1.block g this).trans (b0.block g this).symm⟩)
    (fun k hk W hI => by
      have hs : w.heap.size < W.heap.size := (Array.getElem?_eq_some_iff.1 hI.2).1
      have hn := heldN_le (L.take k)
      rw [List.length_take] at hn
      refine (held1_any w.heap.size _ _ _ _ (heldN (L.take k)) (by omega) ((Below.heap_alloc W _ _ hs).trans hI.2)).mono ?_
      rintro e W' ⟨rfl, q1, q2⟩
      refine ⟨rfl, hI.1.trans ((((Below.refl _ W).alloc (Nat.le_refl _) _).mono hI.1.size).trans q2), ?_⟩
      rw [List.take_succ_eq_append_getElem hk, heldN_snoc]
      exact q1)
  rw [List.take_length] at HE
  have hb : heldN L ≤ 200 := Nat.le_trans (heldN_le L) hl
  clear h hl b0
  go_enter Tryz.func44, Tryz.ntmps44
  rw [ew0] at HE
  go_wp2_with fail
  refine HE.mono ?_
  rintro e w1 ⟨rfl, b1, h1⟩
  have B1 : Hid (Below w.heap.size w w1) := b1
  have k0 : w1.cell? ⟨w.heap.size, 0, none⟩ = some (.int .i64 (heldN L : Nat)) := by simp [World.cell?, h1]
  clear HE h1 b1 ew0
  go_wp2
  go_ret
  exact ⟨rfl, B1.out⟩
end
end Go.Proofs.YtdchnfggmkokhaaGreatDoor
