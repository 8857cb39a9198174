/- Package book: Hold, Free. -/
import Derived.Test.YtabhgdmmljhpcabDoorBOps
namespace Go.Proofs.YtabhgdmmljhpcabDoor
open Go.RowKit
attribute [local go_sem] Oper.semAt_some
set_option linter.unusedVariables false

theorem text_zero {s : ByteArray} (h : s.size = 0) : s = ⟨#[]⟩ := by
  cases s with | mk d => simp [ByteArray.size] at h; rw [h]
theorem text_nil_ne {s : ByteArray} (h : ¬ s.size = 0) : ¬ s.toList = [] := text_nonempty (by omega)
theorem text_nil_beq {s : ByteArray} (h : ¬ s.size = 0) : (s.toList == []) = false := by
  have := text_nil_ne h
  simpa using this
theorem text_ne' {s t : ByteArray} (h : s ≠ t) : ¬ s.toList = t.toList := fun e => by
  have := text_ne h
  rw [e] at this
  simp at this
theorem holdP_fit (s : ByteArray) (p : Acc) (q1 : 0 ≤ p.amt) (q2 : p.amt ≤ 9223372036854775807) (q3 : p.by_.size ≤ 65536) (hz : (holdP s p).1 = 0) : (holdP s p).2.nm = p.nm ∧ (0 ≤ (holdP s p).2.amt ∧ (holdP s p).2.amt ≤ 9223372036854775807) ∧ (holdP s p).2.by_.size ≤ 65536 := by
  unfold holdP at hz ⊢
  split at hz
  · simp at hz
  · split at hz
    · simp at hz
    · rename_i h1 h2
      rw [if_neg h1, if_neg h2]
      exact ⟨rfl, ⟨q1, q2⟩, by simp only; omega⟩
theorem freeP_fit (s : ByteArray) (p : Acc) (q1 : 0 ≤ p.amt) (q2 : p.amt ≤ 9223372036854775807) (q3 : p.by_.size ≤ 65536) (hz : (freeP s p).1 = 0) : (freeP s p).2.nm = p.nm ∧ (0 ≤ (freeP s p).2.amt ∧ (freeP s p).2.amt ≤ 9223372036854775807) ∧ (freeP s p).2.by_.size ≤ 65536 := by
  unfold freeP at hz ⊢
  split at hz
  · simp at hz
  · rename_i h1
    rw [if_neg h1]
    exact ⟨rfl, ⟨q1, q2⟩, by simp [ByteArray.size]⟩
set_option maxRecDepth 100000 in
theorem does_hold (w : World) (bx : Nat) (s : ByteArray) (hb : w.cell? ⟨bx, 0, none⟩ = some (.string s)) (p : Acc) :
    DoesTo w 31 #[.pointer (some ⟨bx, 0, none⟩)] p (holdP s p).1 (holdP s p).2 := by
  intro K W bel hK hW
  obtain ⟨k0, k1, k2, kf⟩ := cells3_of hW
  have hbx : W.cell? ⟨bx, 0, none⟩ = some (.string s) := (bel.cell (p := ⟨bx, 0, none⟩) (World.block_lt_of_cell? w _ hb)).trans hb
  have HB : Hid (Below w.heap.size w W) := bel
  have HW : Hid (W.heap[K]? = some (.cells #[.string p.nm, .int .i64 p.amt, .string p.by_] 42 (0, 0))) := hW
  have kf2 := kf 2
  unfold holdP
  clear hb bel hW kf
  obtain ⟨nm, amt, by_⟩ := p
  simp only at *
  by_cases h1 : s.size = 0
  · rw [if_pos (.inl h1)]
    obtain rfl := text_zero h1
    clear h1
    go_enter Tryd.func31, Tryd.ntmps31
    go_wp2
    go_ret
    exact ⟨rfl, HB.out, HW.out⟩
  · have hne := text_nil_ne h1
    have hne2 := text_nil_beq h1
    by_cases h2 : 65536 < s.size
    · rw [if_pos (.inr h2)]
      have h2' : (65536 : Int) < (s.size : Int) := by omega
      go_enter Tryd.func31, Tryd.ntmps31
      go_wp2
      go_ret
      exact ⟨rfl, HB.out, HW.out⟩
    · rw [if_neg (by rintro (q | q) <;> omega)]
      have h2' : ¬ (65536 : Int) < (s.size : Int) := by omega
      have hF : ∀ W', W' = (W.drewN 0).setCell ⟨K, 2, none⟩ (.string s) → True := fun _ _ => trivial
      by_cases h3 : by_.size = 0
      · rw [if_neg (fun q => q.1 h3)]
        obtain rfl := text_zero h3
        clear h3 hF h1
        go_enter Tryd.func31, Tryd.ntmps31
        go_wp2
        go_quiet (fail)
        go_wp2
        go_ret
        refine ⟨rfl, ?_, ?_⟩
        · refine Below.setCell (below_drewN' HB.out _) ?_ _
          exact hK
        · exact set_of3 (W := W) HW.out
      · have hnb := text_nil_ne h3
        have hnb2 := text_nil_beq h3
        by_cases h4 : by_ = s
        · rw [if_neg (fun q => q.2 h4)]
          subst h4
          clear h3 hF h1
          go_enter Tryd.func31, Tryd.ntmps31
          go_wp2
          go_quiet (fail)
          go_wp2
          go_ret
          refine ⟨rfl, ?_, ?_⟩
          · refine Below.setCell (below_drewN' HB.out _) ?_ _
            exact hK
          · exact set_of3 (W := W) HW.out
        · rw [if_pos ⟨h3, h4⟩]
          have hbs := text_ne' h4
          have hbs2 := text_ne h4
          clear h3 hF h1 h4
          go_enter Tryd.func31, Tryd.ntmps31
          go_wp2
          go_quiet (fail)
          go_wp2
          go_ret
          exact ⟨rfl, below_drewN' HB.out _, HW.out⟩
set_option maxRecDepth 100000 in
theorem hold_any {w : World} {base N : Nat} {sv : Value} {L : List Acc} (h : BookIn w base N sv L) (t s : ByteArray) :
    Calls Tryd.prog 20 #[.pointer (some ⟨N, 0, none⟩), .string t, .string s] w fun e w' => e = .returned (.int .i64 (onP L t (holdP s)).1) ∧ BTold w w' base N sv (onP L t (holdP s)).2 := by
  have b0 : Below w.heap.size w (w.alloc (.cells #[.string s] 9)) := (Below.refl _ w).alloc (Nat.le_refl _) _
  have HC := on_any (h.below b0) t 31 (.pointer (some ⟨w.heap.size, 0, none⟩)) (holdP s) (fun args w => by kernel_rfl) (fun p hp => does_hold _ w.heap.size s (by rw [World.cell?_alloc_mark]; rfl) p) (fun p hp => by
    obtain ⟨_, _, _, q1, q2, q3⟩ := h.fit.got hp
    exact holdP_fit s p q1 q2 q3)
  have B0 : Hid (Below w.heap.size w (w.alloc (.cells #[.string s] 9))) := b0
  clear b0 h
  go_enter Tryd.func20, Tryd.ntmps20
  go_wp2_with fail
  refine HC.mono ?_
  rintro e w1 ⟨rfl, ht⟩
  have HT : Hid (BTold _ w1 base N sv (onP L t (holdP s)).2) := ht
  clear ht HC
  go_wp2
  go_ret
  exact ⟨rfl, HT.out.after B0.out⟩
end Go.Proofs.YtabhgdmmljhpcabDoor
