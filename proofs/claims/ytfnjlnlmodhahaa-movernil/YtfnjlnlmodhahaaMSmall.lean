/- Package mover: New, Has, At, know. -/
import Derived.Test.YtfnjlnlmodhahaaMMem
namespace Go.Proofs.Ytfnjlnlmodhahaa
open Go.RowKit
attribute [local go_sem] Oper.semAt_some
set_option linter.unusedVariables false

theorem mnew_any (w : World) : Calls Try.prog 6 #[] w fun e w' => e = .returned (.pointer (some ⟨w.heap.size, 0, none⟩)) ∧ MvIn w' w.heap.size w.heap.size MD.zero ∧ Below w.heap.size w w' := by
  go_enter Try.func6, Try.ntmps6
  go_wp2
  go_ret
  exact ⟨rfl, ⟨⟨none, 0, heap_alloc_new w _, OwnB.nil _ _⟩, Nat.le_refl _, Nat.le_refl _, by simp [MD.zero]⟩, (Below.refl _ w).alloc (Nat.le_refl _) _⟩
theorem mhas_nil (w : World) : Calls Try.prog 13 #[.pointer none] w fun e w' => e = .returned (.int .i64 0) ∧ w' = w := by
  go_enter Try.func13, Try.ntmps13
  go_wp2
  go_ret
  exact ⟨rfl, rfl⟩
theorem mat_nil (w : World) : Calls Try.prog 14 #[.pointer none] w fun e w' => e = .returned (.int .i64 0) ∧ w' = w := by
  go_enter Try.func14, Try.ntmps14
  go_wp2
  go_ret
  exact ⟨rfl, rfl⟩
theorem mat_any {w : World} {base : Bs} {G : Nat} {M : MD} (h : MvIn w base G M) : Calls Try.prog 14 #[.pointer (some ⟨G, 0, none⟩)] w fun e w' => e = .returned (.int .i64 M.at_) ∧ w' = w := by
  obtain ⟨a, c, h1, _⟩ := h.ex
  have c3 : w.cell? ⟨G, 3, none⟩ = some (.int .i64 M.at_) := by simp [World.cell?, h1]
  clear h h1
  go_enter Try.func14, Try.ntmps14
  go_wp2
  go_ret
  exact ⟨rfl, rfl⟩
theorem mhas_any {w : World} {base : Bs} {G : Nat} {M : MD} (h : MvIn w base G M) : Calls Try.prog 13 #[.pointer (some ⟨G, 0, none⟩)] w fun e w' => e = .returned (.int .i64 (if M.has = true then (M.d.length : Int) else -1)) ∧ w' = w := by
  obtain ⟨a, c, h1, _⟩ := h.ex
  have c1 : w.cell? ⟨G, 1, none⟩ = some (.bool M.has) := by simp [World.cell?, h1]
  have c2 : w.cell? ⟨G, 2, none⟩ = some (.slice a M.d.length c) := by simp [World.cell?, h1]
  clear h h1
  obtain ⟨n, has, d, at_⟩ := M
  dsimp only at c1 c2 ⊢
  generalize d.length = k at *
  go_enter Try.func13, Try.ntmps13
  cases has
  · go_wp2
    go_ret
    exact ⟨rfl, rfl⟩
  · go_wp2
    go_ret
    exact ⟨rfl, rfl⟩
set_option maxHeartbeats 800000 in
theorem know_any {w : World} {base : Bs} {G : Nat} {M : MD} (h : MvIn w base G M) (x : MvD) : Calls Try.prog 22 #[.pointer (some ⟨G, 0, none⟩), .agg #[.int .i64 x.slot, .int .i64 x.fr, .int .i64 x.to, .int .i64 x.ep, .int .i64 x.ph, .int .i64 x.n]] w fun e w' => (∃ v, e = .returned v) ∧ MvIn w' base G (knowM M x) ∧ OnlyR w w' G := by
  obtain ⟨a, c, h1, h2⟩ := h.ex
  obtain ⟨sl, fr, to, ep, ph, n⟩ := x
  have hA := h.alloc (.cells #[.int .i64 sl, .int .i64 fr, .int .i64 to, .int .i64 ep, .int .i64 ph, .int .i64 n] 28)
  have hO := (OnlyR.refl w G).alloc (.cells #[.int .i64 sl, .int .i64 fr, .int .i64 to, .int .i64 ep, .int .i64 ph, .int .i64 n] 28)
  have g1 : (w.alloc (.cells #[.int .i64 sl, .int .i64 fr, .int .i64 to, .int .i64 ep, .int .i64 ph, .int .i64 n] 28)).heap[G]? = some (.cells #[.int .i64 M.n, .bool M.has, .slice a M.d.length c, .int .i64 M.at_] 74 (0, 0)) := (Below.heap_alloc _ _ _ h.lt).trans h1
  have c0 : (w.alloc (.cells #[.int .i64 sl, .int .i64 fr, .int .i64 to, .int .i64 ep, .int .i64 ph, .int .i64 n] 28)).cell? ⟨G, 0, none⟩ = some (.int .i64 M.n) := by simp only [World.cell?, g1]; rfl
  clear h1 h2 h
  have HA : Hid _ := hA
  have HO : Hid _ := hO
  have HG : Hid _ := g1
  clear hA hO g1
  go_enter Try.func22, Try.ntmps22
  by_cases hp : ph = 0
  · subst hp
    go_wp2_with (first | (refine wpList_store_row rfl 74 (.tmp 9) (.tmp 8) rfl G #[.int .i64 0, .bool false, .slice none 0 0, .int .i64 0] rfl rfl 74 _ HG.out (by kernel_rfl) rfl (by simp [Value.oneCell']) ?_))
    go_end0
    exact ⟨⟨_, rfl⟩, (by
      have e : knowM M ⟨sl, fr, to, ep, 0, n⟩ = { MD.zero with n := 0 } := by simp [knowM]; rfl
      rw [e]
      exact HA.out.zero 0 (setRow_self HG.out)), HO.out.setRow _⟩
  · by_cases hn : n = M.n
    · have hb : (n != M.n) = false := by simpa using hn
      have hp' : (ph == 0) = false := by simpa using hp
      have HE : Hid (knowM M ⟨sl, fr, to, ep, ph, n⟩ = M) := by show _ = _; simp [knowM, hp, hn]
      clear hn hp
      go_wp2
      go_quiet (fail)
      rename_i nq
      go_wp2
      go_end0
      exact ⟨⟨_, rfl⟩, by rw [HE.out]; exact HA.out.drewN nq, HO.out.drewN nq⟩
    · have hb : (n != M.n) = true := by simpa using hn
      have hp' : (ph == 0) = false := by simpa using hp
      have HE : Hid (knowM M ⟨sl, fr, to, ep, ph, n⟩ = { MD.zero with n := n }) := by show _ = _; simp [knowM, hp, hn]
      clear hn hp
      go_wp2
      go_quiet (fail)
      rename_i nq
      go_wp2_with (first | (refine wpList_store_row rfl 74 (.tmp 21) (.tmp 20) rfl G #[.int .i64 n, .bool false, .slice none 0 0, .int .i64 0] rfl rfl 74 _ HG.out (by kernel_rfl) rfl (by simp [Value.oneCell']) ?_))
      go_end0
      exact ⟨⟨_, rfl⟩, by rw [HE.out]; exact (HA.out.drewN nq).zero n (setRow_self (show (World.drewN _ nq).heap[G]? = _ from HG.out)), (HO.out.drewN nq).setRow _⟩
end Go.Proofs.Ytfnjlnlmodhahaa
