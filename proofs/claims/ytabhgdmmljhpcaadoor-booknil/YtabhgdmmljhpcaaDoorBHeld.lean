/- Package book: Held. -/
import Derived.Test.YtabhgdmmljhpcaaDoorBEach
namespace Go.Proofs.YtabhgdmmljhpcaaDoor
open Go.RowKit
attribute [local go_sem] Oper.semAt_some
set_option linter.unusedVariables false

/-- How many are held. -/
def heldN (L : List Acc) : Nat := L.countP (fun p => decide (¬ p.by_.size = 0))
theorem heldN_snoc (L : List Acc) (p : Acc) : heldN (L ++ [p]) = heldN L + if p.by_.size = 0 then 0 else 1 := by
  unfold heldN
  rw [List.countP_append]
  by_cases h : p.by_.size = 0
  · have e : decide (¬ p.by_.size = 0) = false := decide_eq_false (fun q => q h)
    rw [if_pos h]
    simp only [List.countP_cons, List.countP_nil, e]
    rfl
  · have e : decide (¬ p.by_.size = 0) = true := decide_eq_true h
    rw [if_neg h]
    simp only [List.countP_cons, List.countP_nil, e]
    rfl
theorem heldN_le (L : List Acc) : heldN L ≤ L.length := List.countP_le_length
section
variable {w : World} {base N : Nat} {sv : Value} {L : List Acc}
set_option maxRecDepth 100000 in
set_option maxHeartbeats 1000000 in
theorem held1_any (B : Nat) (w : World) (nm by_ : ByteArray) (amt : Int) (c : Nat) (hc : c ≤ 1000) (hB : w.heap[B]? = some (.cells #[.int .i64 (c : Int)] 3 (0, 0))) :
    Calls Tryd.prog 63 #[.agg #[.string nm, .int .i64 amt, .string by_], .pointer (some ⟨B, 0, none⟩)] w fun e w' => e = .returned (.tuple #[]) ∧ w'.heap[B]? = some (.cells #[.int .i64 ((c + if by_.size = 0 then 0 else 1 : Nat) : Int)] 3 (0, 0)) ∧ Below B w w' := by
  have hlt : B < w.heap.size := (Array.getElem?_eq_some_iff.1 hB).1
  have k0 : ∀ o, (w.alloc o).cell? ⟨B, 0, none⟩ = some (.int .i64 (c : Int)) := fun o => by
    rw [((Below.refl w.heap.size w).alloc (Nat.le_refl _) o).cell (p := ⟨B, 0, none⟩) hlt]
    simp [World.cell?, hB]
  have f0 : ∀ o, (w.alloc o).frozen? ⟨B, 0, none⟩ = false := fun o => by
    rw [((Below.refl w.heap.size w).alloc (Nat.le_refl _) o).frozen (p := ⟨B, 0, none⟩) hlt]
    simp [World.frozen?, hB]
  have HB : Hid (∀ o, (w.alloc o).heap[B]? = some (.cells #[.int .i64 (c : Int)] 3 (0, 0))) := fun o => (Below.heap_alloc w o B hlt).trans hB
  have BB : Hid (∀ o, Below B w (w.alloc o)) := fun o => ((Below.refl _ w).alloc (Nat.le_of_lt hlt) _)
  have H0 : Hid (w.heap[B]? = some (.cells #[.int .i64 (c : Int)] 3 (0, 0))) := hB
  clear hB
  by_cases h : by_.size = 0
  · rw [if_pos h]
    obtain rfl := text_zero h
    go_enter Tryd.func63, Tryd.ntmps63
    go_wp2
    exact bodyPost_end (results_none rfl _ _ _) rfl ⟨rfl, HB.out _, BB.out _⟩
  · rw [if_neg h]
    have hne := text_nil_ne h
    have hne2 := text_nil_beq h
    clear h
    go_enter Tryd.func63, Tryd.ntmps63
    go_wp2
    exact bodyPost_end (results_none rfl _ _ _) rfl ⟨rfl, (Below.heap_alloc _ _ B (by simpa using hlt)).trans (set_of3 H0.out), Below.alloc (Below.setCell (Below.refl B w) (Nat.le_refl B) _) (by simpa using Nat.le_of_lt hlt) _⟩
set_option maxRecDepth 100000 in
theorem held_any (h : BookIn w base N sv L) : Calls Tryd.prog 27 #[.pointer (some ⟨N, 0, none⟩)] w fun e w' => e = .returned (.int .i64 (heldN L : Nat)) ∧ Below w.heap.size w w' := by
  obtain ⟨w0, ew0⟩ : ∃ w0, w0 = w.alloc (.cells #[.int .i64 0] 3) := ⟨_, rfl⟩
  have b0 : Below w.heap.size w w0 := by rw [ew0]; exact (Below.refl _ w).alloc (Nat.le_refl _) _
  have hl := h.fit.len
  have HE := each_one (h.below b0) 63 (.pointer (some ⟨w.heap.size, 0, none⟩)) (fun args w => by kernel_rfl)
    (fun k W => Below w.heap.size w W ∧ W.heap[w.heap.size]? = some (.cells #[.int .i64 (heldN (L.take k) : Nat)] 3 (0, 0)))
    ⟨b0, by rw [ew0]; exact heap_alloc_new w _⟩
    (fun k W hI => ⟨(hI.1.block N h.ltN).trans (b0.block N h.ltN).symm, fun g e => by
      have := (row_kind h.row e).2.1
      exact (hI.1.block g this).trans (b0.block g this).symm⟩)
    (fun k hk W hI => by
      have hs : w.heap.size < W.heap.size := (Array.getElem?_eq_some_iff.1 hI.2).1
      have hn := heldN_le (L.take k)
      rw [List.length_take] at hn
      refine (held1_any w.heap.size _ _ _ _ (heldN (L.take k)) (by omega) ((Below.heap_alloc W _ _ hs).trans hI.2)).mono ?_
      rintro e W' ⟨rfl, q1, q2⟩
      refine ⟨rfl, hI.1.trans ((((Below.refl _ W).alloc (Nat.le_refl _) _).mono hI.1.size).trans q2), ?_⟩
      rw [List.take_succ_eq_append_getElem hk, heldN_snoc]
      exact q1)
  rw [List.take_length] at HE
  have hb : heldN L ≤ 200 := Nat.le_trans (heldN_le L) hl
  clear h hl b0
  go_enter Tryd.func27, Tryd.ntmps27
  rw [ew0] at HE
  go_wp2_with fail
  refine HE.mono ?_
  rintro e w1 ⟨rfl, b1, h1⟩
  have B1 : Hid (Below w.heap.size w w1) := b1
  have k0 : w1.cell? ⟨w.heap.size, 0, none⟩ = some (.int .i64 (heldN L : Nat)) := by simp [World.cell?, h1]
  clear HE h1 b1 ew0
  go_wp2
  go_ret
  exact ⟨rfl, B1.out⟩
end
end Go.Proofs.YtabhgdmmljhpcaaDoor
