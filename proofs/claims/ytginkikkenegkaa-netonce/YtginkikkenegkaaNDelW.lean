/- Package net: slices.Delete of one letter: the walk. -/
import Derived.Test.YtginkikkenegkaaNDel
namespace Go.Proofs.Ytginkikkenegkaa
open Go.RowKit Go.Maps
attribute [local go_sem] Oper.semAt_some
set_option linter.unusedVariables false

set_option maxRecDepth 100000 in
set_option maxHeartbeats 4000000 in
theorem delete_any {w : World} {base g n cap : Nat} {l : List Post} (ho : w.ownsRow base 71 4 (.slice (some ⟨g, 0, none⟩) n cap) n (cells4 l)) (hn : n = l.length) (h1 : ∀ p ∈ l, p.dv.oneCell' = true) (i : Nat) (hi : i < n) (hb : n ≤ 1000000) :
    Calls Try.prog 34 #[.slice (some ⟨g, 0, none⟩) n cap, .int .i64 (i : Int), .int .i64 ((i + 1 : Nat) : Int)] w fun e w' => e = .returned (.slice (some ⟨g, 0, none⟩) (n - 1) cap) ∧
      w'.ownsRow base 71 4 (.slice (some ⟨g, 0, none⟩) (n - 1) cap) (n - 1) (cells4 (l.eraseIdx i)) ∧ w.grownBy w' (some g) := by
  have hcap : n ≤ cap ∧ cap ≤ maxLen := by
    rcases ho.2 with ⟨h', _⟩ | ⟨g', cap', cur, h', hb, hg, hnc, hcm, _⟩
    · simp at h'
    · simp only [Value.slice.injEq, Option.some.injEq, Addr.mk.injEq, and_true, true_and] at h'
      obtain ⟨rfl, rfl⟩ := h'
      exact ⟨hnc, hcm⟩
  obtain ⟨ax, hx⟩ : ∃ ax, (if cap = i + 1 then some (⟨g, 0, none⟩ : Addr) else some ⟨g, (i + 1) * 4, none⟩) = some ax := by split <;> exact ⟨_, rfl⟩
  have hod : w.drew.ownsRow base 71 4 (.slice (some ⟨g, 0, none⟩) n cap) n (cells4 l) := ho
  obtain ⟨w1, w2, hap, hcl, ho2, hgr⟩ := del_runs hod hn h1 i hi ax (cap - (i + 1)) (fun h => by
    rw [if_neg (by omega)] at hx
    exact (Option.some.inj hx).symm)
  have HAP : Hid _ := hap
  have HCL : Hid _ := hcl
  have FIN : Hid (w2.ownsRow base 71 4 (.slice (some ⟨g, 0, none⟩) (n - 1) cap) (n - 1) (cells4 (l.eraseIdx i)) ∧ w.grownBy w2 (some g)) := ⟨ho2, ⟨hgr.os, hgr.tape, hgr.output, hgr.size, fun k hk hne => hgr.block k hk hne⟩⟩
  have a1 : i ≤ cap := by omega
  have a2 : i + 1 ≤ cap := by omega
  have a3 : i + 1 ≤ n := by omega
  have a4 : n ≤ cap := hcap.1
  have a5 : n - 1 ≤ n := by omega
  have a6 : n - 1 ≤ cap := by omega
  have b1 : (i : Int) ≤ ((i + 1 : Nat) : Int) := by omega
  have b2 : ((i + 1 : Nat) : Int) ≤ (n : Int) := by omega
  have b3 : (n : Int) ≤ (cap : Int) := by omega
  have b4 : ((i : Int) == ((i + 1 : Nat) : Int)) = false := by rw [beq_eq_false_iff_ne]; omega
  have b5 : ¬ (i : Int) = ((i + 1 : Nat) : Int) := by omega
  have b6 : (i : Int) ≤ (cap : Int) := by omega
  have b7 : ((n - 1 : Nat) : Int) ≤ (n : Int) := by omega
  have e1 : n - (n - 1) = 1 := by omega
  have e2 : ¬ cap = n - 1 := by omega
  obtain ⟨m1, em⟩ : ∃ m1, n - 1 = m1 := ⟨_, rfl⟩
  clear ho hod hap hcl ho2 hgr hcap h1 hn
  go_enter Try.func34, Try.ntmps34
  go_wp2_with fail
  refine wp_region_held_drew (S := fun _ => True) (by kernel_rfl) trivial (fun hHeld => ?_)
  refine take_run (i := 0) (oi := { dst := some 20, op := Go.Op.move (Go.Operand.tmp 0), type := 68, pos := "slices.go:232", after := #[], guard := none }) (v := .slice (some ⟨g, 0, none⟩) n cap) rfl (by kernel_rfl) (by kernel_rfl) (by kernel_rfl) (fun _ _ _ h => h) (by rfl) ?_ hHeld ?_
  · (intro wq hSw; go_simp <;> with_reducible rfl)
  try simp only [Act.put, List.setIfInBounds_toArray, List.set_cons_zero, List.set_cons_succ]
  refine take_run (i := 1) (oi := { dst := some 21, op := Go.Op.move (Go.Operand.tmp 1), type := 3, pos := "slices.go:232", after := #[], guard := none }) (v := .int .i64 (i : Int)) rfl (by kernel_rfl) (by kernel_rfl) (by kernel_rfl) (fun _ _ _ h => h) (by rfl) ?_ hHeld ?_
  · (intro wq hSw; go_simp <;> with_reducible rfl)
  try simp only [Act.put, List.setIfInBounds_toArray, List.set_cons_zero, List.set_cons_succ]
  refine take_run (i := 2) (oi := { dst := some 22, op := Go.Op.slice 68 (Go.Operand.tmp 20) none (some (Go.Operand.tmp 21)) none, type := 68, pos := "slices.go:232", after := #[{ on := 0, ground := Go.Ground.data }, { on := 1, ground := Go.Ground.data }], guard := none }) (v := .slice (some ⟨g, 0, none⟩) i cap) rfl (by kernel_rfl) (by kernel_rfl) (by kernel_rfl) (fun _ _ _ h => h) (by rfl) ?_ hHeld ?_
  · (intro wq hSw; go_simp <;> with_reducible rfl)
  try simp only [Act.put, List.setIfInBounds_toArray, List.set_cons_zero, List.set_cons_succ]
  refine take_run (i := 3) (oi := { dst := some 23, op := Go.Op.move (Go.Operand.tmp 0), type := 68, pos := "slices.go:232", after := #[], guard := none }) (v := .slice (some ⟨g, 0, none⟩) n cap) rfl (by kernel_rfl) (by kernel_rfl) (by kernel_rfl) (fun _ _ _ h => h) (by rfl) ?_ hHeld ?_
  · (intro wq hSw; go_simp <;> with_reducible rfl)
  try simp only [Act.put, List.setIfInBounds_toArray, List.set_cons_zero, List.set_cons_succ]
  refine take_run (i := 4) (oi := { dst := some 24, op := Go.Op.move (Go.Operand.tmp 2), type := 3, pos := "slices.go:232", after := #[], guard := none }) (v := .int .i64 ((i + 1 : Nat) : Int)) rfl (by kernel_rfl) (by kernel_rfl) (by kernel_rfl) (fun _ _ _ h => h) (by rfl) ?_ hHeld ?_
  · (intro wq hSw; go_simp <;> with_reducible rfl)
  try simp only [Act.put, List.setIfInBounds_toArray, List.set_cons_zero, List.set_cons_succ]
  refine take_run (i := 5) (oi := { dst := some 25, op := Go.Op.slice 68 (Go.Operand.tmp 23) (some (Go.Operand.tmp 24)) none none, type := 68, pos := "slices.go:232", after := #[{ on := 3, ground := Go.Ground.data }, { on := 4, ground := Go.Ground.data }], guard := none }) (v := .slice (some ax) (n - (i + 1)) (cap - (i + 1))) rfl (by kernel_rfl) (by kernel_rfl) (by kernel_rfl) (fun _ _ _ h => h) (by rfl) ?_ hHeld ?_
  · (intro wq hSw; go_simp; exact fun h => absurd (h (by omega)) (by omega))
  try simp only [Act.put, List.setIfInBounds_toArray, List.set_cons_zero, List.set_cons_succ]
  refine take_val (i := 6) (oi := { dst := some 26, op := Go.Op.call { callee := Go.Callee.builtin Go.Builtin.append, args := #[Go.Operand.tmp 22, Go.Operand.tmp 25], argTypes := #[68, 68] }, type := 68, pos := "slices.go:232", after := #[{ on := 2, ground := Go.Ground.data }, { on := 5, ground := Go.Ground.data }], guard := none }) (.slice (some ⟨g, 0, none⟩) (n - 1) cap) rfl (by kernel_rfl) (by rfl) (exec_appN (.tmp 22) (.tmp 25) 68 rfl rfl rfl HAP.out) trivial ?_
  try simp only [Act.put, List.setIfInBounds_toArray, List.set_cons_zero, List.set_cons_succ]
  refine take_run (i := 7) (oi := { dst := some 0, op := Go.Op.assign (Go.Operand.tmp 26), type := 68, pos := "slices.go:232", after := #[{ on := 6, ground := Go.Ground.data }, { on := 6, ground := Go.Ground.chain }, { on := 0, ground := Go.Ground.phase }, { on := 1, ground := Go.Ground.phase }, { on := 2, ground := Go.Ground.phase }, { on := 3, ground := Go.Ground.phase }, { on := 4, ground := Go.Ground.phase }, { on := 5, ground := Go.Ground.phase }, { on := 6, ground := Go.Ground.phase }], guard := none }) (v := .slice (some ⟨g, 0, none⟩) (n - 1) cap) rfl (by kernel_rfl) (by kernel_rfl) (by kernel_rfl) (fun _ _ _ h => h) (by rfl) ?_ trivial ?_
  · (intro wq hSw; go_simp <;> with_reducible rfl)
  try simp only [Act.put, List.setIfInBounds_toArray, List.set_cons_zero]
  refine wpAnyH_done (by kernel_rfl) ?_ _
  have hc0 : (Builtin.clear_ #[68] 0 #[.slice (some ⟨g, m1 * 4, none⟩) (n - m1) (cap - m1)]).run Try.prog w1 = .ok (.tuple #[]) w2 := by
    rw [← em, e1]
    exact HCL.out 0 _
  go_wp2
  go_ret
  exact ⟨rfl, FIN.out⟩
end Go.Proofs.Ytginkikkenegkaa
