/- Package mover: learn. -/
import Derived.Test.YtfnjlnlmodhahaaMInsd
namespace Go.Proofs.Ytfnjlnlmodhahaa
open Go.RowKit
attribute [local go_sem] Oper.semAt_some
set_option linter.unusedVariables false

def learnM (M : MD) (ph kind cat : Int) (cn : Nat) (last : Bool) (r : ResD) : MD × Bool :=
  if kind = 8 then ((heldM M r).1, (heldM M r).2 && decide (ph = 1)) else if kind = 9 then installedM M cat cn last r.why else (M, decide (r.why = 0))
set_option maxRecDepth 100000 in
set_option maxHeartbeats 1600000 in
theorem learn_any {w : World} {base : Bs} {G : Nat} {M : MD} (h : MvIn w base G M) (hb : base.ok w.heap.size) (ph : Int) (C : List Value) (kind cat : Int) (last : Bool) (ca : Option Addr) (cn cc : Nat) (r : ResD) (hr : ResIn w r) (hC : C.length = 17)
    (h0 : C[0]? = some (.int .i64 kind)) (h14 : C[14]? = some (.int .i64 cat)) (h15 : C[15]? = some (.bool last)) (h16 : C[16]? = some (.slice ca cn cc)) (hcn : cn ≤ 140737488355328) :
    Calls Try.prog 24 #[.pointer (some ⟨G, 0, none⟩), .int .i64 ph, .agg C.toArray, .agg #[.int .i64 r.why, .bool r.wait, .int .i64 r.rw, .int .i64 r.ra, r.rows, .slice r.da r.l.length r.dc]] w fun e w' => e = .returned (.bool (learnM M ph kind cat cn last r).2) ∧ MvIn w' base G (learnM M ph kind cat cn last r).1 ∧ OnlyR w w' G := by
  have bA : Below w.heap.size w ((w.alloc (.cells C.toArray 35)).alloc (.cells #[.int .i64 r.why, .bool r.wait, .int .i64 r.rw, .int .i64 r.ra, r.rows, .slice r.da r.l.length r.dc] 46)) := ((Below.refl _ w).alloc (Nat.le_refl _) _).alloc (by simp) _
  have hA := h.below bA
  have HH := held_any hA (hb.mono bA.size) r (hr.below bA)
  have HI := installed_any hA C cat last ca cn cc r.why h14 h15 h16 hcn
  have q2 := heap_two w (.cells C.toArray 35) (.cells #[.int .i64 r.why, .bool r.wait, .int .i64 r.rw, .int .i64 r.ra, r.rows, .slice r.da r.l.length r.dc] 46)
  have q1 : ((w.alloc (.cells C.toArray 35)).alloc (.cells #[.int .i64 r.why, .bool r.wait, .int .i64 r.rw, .int .i64 r.ra, r.rows, .slice r.da r.l.length r.dc] 46)).heap[w.heap.size]? = some (.cells C.toArray 35 (0, 0)) := by rw [Below.heap_alloc _ _ _ (by simp), heap_alloc_new]
  have x0 : ((w.alloc (.cells C.toArray 35)).alloc (.cells #[.int .i64 r.why, .bool r.wait, .int .i64 r.rw, .int .i64 r.ra, r.rows, .slice r.da r.l.length r.dc] 46)).cell? ⟨w.heap.size, 0, none⟩ = some (.int .i64 kind) := by simp only [World.cell?, q1]; simpa using h0
  have oA := OnlyR.of_below bA G
  have hsz : (Try.prog.info? 35).map (·.size) = some C.toArray.size := by
    have : (Try.prog.info? 35).map (·.size) = some 17 := by kernel_rfl
    rw [this]
    simp [hC]
  have Q1 : Hid _ := q1
  have Q2 : Hid _ := q2
  have OA : Hid _ := oA
  have HA : Hid _ := hA
  have HSZ : Hid _ := hsz
  clear h hb hr hC h0 h14 h15 h16 hcn bA hA q1 q2 oA hsz
  by_cases h8 : kind = 8
  · subst h8
    have e1 : learnM M ph 8 cat cn last r = ((heldM M r).1, (heldM M r).2 && decide (ph = 1)) := rfl
    rw [e1]
    clear e1 HI
    obtain ⟨b, hb⟩ : ∃ b, (heldM M r).2 = b := ⟨_, rfl⟩
    rw [hb] at HH ⊢
    clear hb
    generalize (heldM M r).1 = M2 at *
    obtain ⟨why, wait, rw, ra, rows, da, dc, l⟩ := r
    dsimp only at *
    go_enter Try.func24, Try.ntmps24
    go_wp2_with (first | (refine wpList_load_row rfl 46 (.tmp 7) rfl (w.heap.size + 1) rfl 46 _ (0, 0) _ Q2.out Try.underlying46 rfl (by kernel_rfl) ?_))
    refine HH.mono ?_
    rintro e w2 ⟨rfl, h2, o2⟩
    have O2 : Hid _ := OA.out.trans o2
    have H2 : Hid _ := h2
    clear HH h2 o2 x0
    cases b
    · go_wp2
      go_ret
      exact ⟨rfl, H2.out, O2.out⟩
    · go_wp2
      go_ret
      exact ⟨by simp; rfl, H2.out, O2.out⟩
  · have d8 : (kind == 8) = false := by simpa using h8
    by_cases h9 : kind = 9
    · subst h9
      have e1 : learnM M ph 9 cat cn last r = installedM M cat cn last r.why := rfl
      rw [e1]
      clear e1 HH
      generalize installedM M cat cn last r.why = MI at *
      obtain ⟨why, wait, rw, ra, rows, da, dc, l⟩ := r
      dsimp only at *
      go_enter Try.func24, Try.ntmps24
      go_wp2_with (first | (refine wpList_load_row rfl 35 (.tmp 6) rfl w.heap.size rfl 35 _ (0, 0) _ Q1.out Try.underlying35 rfl HSZ.out ?_))
      refine HI.mono ?_
      rintro e w2 ⟨rfl, h2, o2⟩
      have O2 : Hid _ := OA.out.trans o2
      have H2 : Hid _ := h2
      clear HI h2 o2 x0
      go_wp2
      go_ret
      exact ⟨rfl, H2.out, O2.out⟩
    · have d9 : (kind == 9) = false := by simpa using h9
      have e1 : learnM M ph kind cat cn last r = (M, decide (r.why = 0)) := by unfold learnM; rw [if_neg h8, if_neg h9]
      rw [e1]
      clear e1 HH HI h8 h9
      obtain ⟨why, wait, rw, ra, rows, da, dc, l⟩ := r
      dsimp only at *
      go_enter Try.func24, Try.ntmps24
      go_wp2
      go_ret
      exact ⟨by simp; rfl, HA.out, OA.out⟩
end Go.Proofs.Ytfnjlnlmodhahaa
