/- Package mover: installed. -/
import Derived.Test.YtfnjlnlmodhahaaMHeld
namespace Go.Proofs.Ytfnjlnlmodhahaa
open Go.RowKit
attribute [local go_sem] Oper.semAt_some
set_option linter.unusedVariables false

def installedM (M : MD) (cat : Int) (cn : Nat) (last : Bool) (why : Int) : MD × Bool :=
  if M.has = true ∧ cat = (M.at_ : Int) then (if why = 0 then (⟨M.n, M.has, M.d, if M.d.length < M.at_ + cn then M.d.length else M.at_ + cn⟩, last) else if why = 5 ∨ why = 3 then (⟨M.n, M.has, M.d, 0⟩, false) else (M, false)) else (M, false)
theorem set_at {w : World} {base : Bs} {G : Nat} {M : MD} (h : MvIn w base G M) (nq k : Nat) (hk : k ≤ M.d.length) : MvIn ((w.drewN nq).setCell ⟨G, 3, none⟩ (.int .i64 (k : Int))) base G ⟨M.n, M.has, M.d, k⟩ := by
  obtain ⟨a, c, g1, w1⟩ := h.ex
  have g2 : (w.drewN nq).heap[G]? = _ := g1
  have w2 : (w.drewN nq).ownsRow base.n 5 1 (.slice a M.d.length c) M.d.length (cellsOf M.d) := w1.1
  rw [setCell_eq_setRow (w.drewN nq) G 3 _ _ _ _ g2]
  refine ⟨⟨a, c, setRow_self g2, owns_kept w2 (fun g e => setRow_other _ _ _ _ ?_), w1.2⟩, h.bG, hk, h.len⟩
  rintro rfl
  obtain ⟨_, _, cur, hc⟩ := row_kind w2 e
  rw [g2] at hc
  injection hc with hc
  injection hc with _ hc
  exact absurd hc (by decide)
set_option maxRecDepth 100000 in
set_option maxHeartbeats 1600000 in
theorem installed_any {w : World} {base : Bs} {G : Nat} {M : MD} (h : MvIn w base G M) (C : List Value) (cat : Int) (last : Bool) (ca : Option Addr) (cn cc : Nat) (why : Int)
    (h14 : C[14]? = some (.int .i64 cat)) (h15 : C[15]? = some (.bool last)) (h16 : C[16]? = some (.slice ca cn cc)) (hcn : cn ≤ 140737488355328) :
    Calls Try.prog 34 #[.pointer (some ⟨G, 0, none⟩), .agg C.toArray, .int .i64 why] w fun e w' => e = .returned (.bool (installedM M cat cn last why).2) ∧ MvIn w' base G (installedM M cat cn last why).1 ∧ OnlyR w w' G := by
  have bA : Below w.heap.size w (w.alloc (.cells C.toArray 35)) := (Below.refl _ w).alloc (Nat.le_refl _) _
  have hA := h.below bA
  have n1 := heap_alloc_new w (.cells C.toArray 35)
  obtain ⟨a, c, g1, _⟩ := hA.ex
  have hlen := h.len
  have hfit := h.fits
  have y1 : (w.alloc (.cells C.toArray 35)).cell? ⟨G, 1, none⟩ = some (.bool M.has) := by simp only [World.cell?, g1]; rfl
  have y2 : (w.alloc (.cells C.toArray 35)).cell? ⟨G, 2, none⟩ = some (.slice a M.d.length c) := by simp only [World.cell?, g1]; rfl
  have y3 : (w.alloc (.cells C.toArray 35)).cell? ⟨G, 3, none⟩ = some (.int .i64 M.at_) := by simp only [World.cell?, g1]; rfl
  have y3f : (w.alloc (.cells C.toArray 35)).frozen? ⟨G, 3, none⟩ = false := by simp only [World.frozen?, g1]; rfl
  have x14 : (w.alloc (.cells C.toArray 35)).cell? ⟨w.heap.size, 14, none⟩ = some (.int .i64 cat) := by simp only [World.cell?, n1]; simpa using h14
  have x15 : (w.alloc (.cells C.toArray 35)).cell? ⟨w.heap.size, 15, none⟩ = some (.bool last) := by simp only [World.cell?, n1]; simpa using h15
  have x16 : (w.alloc (.cells C.toArray 35)).cell? ⟨w.heap.size, 16, none⟩ = some (.slice ca cn cc) := by simp only [World.cell?, n1]; simpa using h16
  have nG : w.heap.size ≠ G := by have := h.lt; omega
  have z15 : ∀ nq v, (((w.alloc (.cells C.toArray 35)).drewN nq).setCell ⟨G, 3, none⟩ v).cell? ⟨w.heap.size, 15, none⟩ = some (.bool last) := fun nq v => by
    have : (((w.alloc (.cells C.toArray 35)).drewN nq).setCell ⟨G, 3, none⟩ v).heap[w.heap.size]? = _ := (Below.heap_setCell _ _ _ _ nG).trans n1
    simp only [World.cell?, this]
    simpa using h15
  have HA : Hid (MvIn (w.alloc (.cells C.toArray 35)) base G M) := hA
  have HO : Hid (OnlyR w (w.alloc (.cells C.toArray 35)) G) := OnlyR.of_below bA G
  clear h bA hA n1 g1 h14 h15 h16 nG
  by_cases hh : M.has = true
  · rw [hh] at y1
    by_cases hc : cat = (M.at_ : Int)
    · subst hc
      by_cases h0 : why = 0
      · subst h0
        have e1 : installedM M M.at_ cn last 0 = (⟨M.n, M.has, M.d, if M.d.length < M.at_ + cn then M.d.length else M.at_ + cn⟩, last) := by unfold installedM; rw [if_pos ⟨hh, rfl⟩, if_pos rfl]
        rw [e1]
        clear e1
        have hw : wrap64 ((M.at_ : Int) + (cn : Int)) = (M.at_ : Int) + (cn : Int) := by unfold wrap64; omega
        by_cases hq : M.d.length < M.at_ + cn
        · rw [if_pos hq]
          have HK : Hid (M.d.length ≤ M.d.length) := Nat.le_refl _
          have hq1 : (M.d.length : Int) < (M.at_ : Int) + (cn : Int) := by omega
          go_enter Try.func34, Try.ntmps34
          go_wp2
          go_quiet (fail)
          rename_i nq
          go_wp2
          go_region
          go_wp2
          go_ret
          exact ⟨rfl, hh ▸ set_at HA.out (nq + 1) (M.d.length) HK.out, (HO.out.drewN (nq + 1)).set 3 _⟩
        · rw [if_neg hq]
          have HK : Hid (M.at_ + cn ≤ M.d.length) := by show _ ≤ _; omega
          have hq1 : ¬ (M.d.length : Int) < (M.at_ : Int) + (cn : Int) := by omega
          clear hq
          go_enter Try.func34, Try.ntmps34
          go_wp2
          go_quiet (fail)
          rename_i nq
          go_wp2
          go_region
          go_wp2
          go_ret
          exact ⟨rfl, hh ▸ set_at HA.out (nq + 1) (M.at_ + cn) HK.out, (HO.out.drewN (nq + 1)).set 3 _⟩
      · have d0 : (why == 0) = false := by simpa using h0
        by_cases h5 : why = 5
        · subst h5
          have e1 : installedM M M.at_ cn last 5 = (⟨M.n, M.has, M.d, 0⟩, false) := by unfold installedM; rw [if_pos ⟨hh, rfl⟩]; rfl
          rw [e1]
          go_enter Try.func34, Try.ntmps34
          go_wp2
          go_quiet (fail)
          rename_i nq
          go_wp2
          go_ret
          exact ⟨rfl, set_at HA.out nq 0 (Nat.zero_le _), (HO.out.drewN nq).set 3 _⟩
        · have d5 : (why == 5) = false := by simpa using h5
          by_cases h3 : why = 3
          · subst h3
            have e1 : installedM M M.at_ cn last 3 = (⟨M.n, M.has, M.d, 0⟩, false) := by unfold installedM; rw [if_pos ⟨hh, rfl⟩]; rfl
            rw [e1]
            go_enter Try.func34, Try.ntmps34
            go_wp2
            go_quiet (fail)
            rename_i nq
            go_wp2
            go_ret
            exact ⟨rfl, set_at HA.out nq 0 (Nat.zero_le _), (HO.out.drewN nq).set 3 _⟩
          · have d3 : (why == 3) = false := by simpa using h3
            have e1 : installedM M M.at_ cn last why = (M, false) := by unfold installedM; rw [if_pos ⟨hh, rfl⟩, if_neg h0, if_neg (by simp [h5, h3])]
            rw [e1]
            go_enter Try.func34, Try.ntmps34
            go_wp2
            go_quiet (fail)
            rename_i nq
            go_wp2
            go_ret
            exact ⟨rfl, HA.out.drewN nq, HO.out.drewN nq⟩
    · have e1 : installedM M cat cn last why = (M, false) := by unfold installedM; rw [if_neg (fun e => hc e.2)]
      rw [e1]
      have dc : (cat != (M.at_ : Int)) = true := by simpa using hc
      clear hc e1
      go_enter Try.func34, Try.ntmps34
      go_wp2
      go_quiet (fail)
      rename_i nq
      go_wp2
      go_ret
      exact ⟨rfl, HA.out.drewN nq, HO.out.drewN nq⟩
  · have e1 : installedM M cat cn last why = (M, false) := by unfold installedM; rw [if_neg (fun e => hh e.1)]
    rw [e1]
    have hf : M.has = false := by simpa using hh
    rw [hf] at y1
    clear hh hf e1
    go_enter Try.func34, Try.ntmps34
    go_wp2
    go_quiet (fail)
    rename_i nq
    go_wp2
    go_ret
    exact ⟨rfl, HA.out.drewN nq, HO.out.drewN nq⟩
end Go.Proofs.Ytfnjlnlmodhahaa
