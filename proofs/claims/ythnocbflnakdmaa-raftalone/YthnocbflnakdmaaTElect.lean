/- Package raft: a replica alone: elect, Tick at its timeout, Tick of a leader. -/
import Derived.Test.YthnocbflnakdmaaTLead
namespace Go.Proofs.Ythnocbflnakdmaa
open Go.RowKit
attribute [local go_sem] Oper.semAt_some
set_option linter.unusedVariables false
section
variable {w w' : World} {base R lg : Nat} {d : RD} {sv : Value} {L : List EntV}
set_option maxRecDepth 100000 in
set_option maxHeartbeats 1600000 in
theorem elect_one (h : Solo w base R lg d sv L) (hl : L.length < 4096) (ht : lastT 0 L ≤ d.term ∧ 0 ≤ d.term ∧ d.term < 1152921504606846976) (hc : d.commit ≤ L.length) : Calls Try.prog 32 #[.pointer (some ⟨R, 0, none⟩)] w fun e w' => e = .returned (.slice none 0 0) ∧ ∃ d' sv' L', Solo w' base R lg d' sv' L' ∧ Below base w w' ∧ L'.map Prod.fst = L.map Prod.fst ++ [(d.term + 1, [])] ∧ d'.term = d.term + 1 ∧ d'.role = 2 ∧ d'.leader = 0 ∧ d'.commit = L.length + 1 := by
  have q1 : wrap64 (d.term + 1) = d.term + 1 := by unfold wrap64; omega
  have c3 : w.cell? ⟨R, 3, none⟩ = some (.int .i64 d.term) := h.cell 3
  obtain ⟨t0, et0⟩ : ∃ t0, d.term = t0 := ⟨_, rfl⟩
  rw [et0] at q1 c3 ht
  rw [et0]
  obtain ⟨t1, et1⟩ : ∃ t1, t0 + 1 = t1 := ⟨_, rfl⟩
  have q2 : wrap64 (t0 + 1) = t1 := by rw [q1]; exact et1
  rw [et1]
  have HX : Hid (t0 + 1 = t1 ∧ L.length < 4096 ∧ (lastT 0 L ≤ t0 ∧ 0 ≤ t0 ∧ t0 < 1152921504606846976) ∧ d.commit ≤ L.length) := ⟨et1, hl, ht, hc⟩
  clear q1 et1 hl ht hc et0
  have f0 : w.frozen? ⟨R, 3, none⟩ = false := h.fz 3
  obtain ⟨s0, b0⟩ := h.set 3 (.int .i64 t1) { d with term := t1 } rfl
  have x1 : (w.setCell ⟨R, 3, none⟩ (.int .i64 t1)).cell? ⟨R, 1, none⟩ = some (.int .i64 0) := s0.cell 1
  have o1 : (w.setCell ⟨R, 3, none⟩ (.int .i64 t1)).cell? ⟨R, 5, none⟩ = some (.int .i64 d.role) := s0.cell 5
  have f1 : (w.setCell ⟨R, 3, none⟩ (.int .i64 t1)).frozen? ⟨R, 5, none⟩ = false := s0.fz 5
  obtain ⟨s1, b1⟩ := s0.set 5 (.int .i64 1) { d with term := t1, role := 1 } rfl
  have o2 : ((w.setCell ⟨R, 3, none⟩ (.int .i64 t1)).setCell ⟨R, 5, none⟩ (.int .i64 1)).cell? ⟨R, 4, none⟩ = some (.int .i64 d.voted) := s1.cell 4
  have f2 : ((w.setCell ⟨R, 3, none⟩ (.int .i64 t1)).setCell ⟨R, 5, none⟩ (.int .i64 1)).frozen? ⟨R, 4, none⟩ = false := s1.fz 4
  obtain ⟨s2, b2⟩ := s1.set 4 (.int .i64 0) { d with term := t1, role := 1, voted := 0 } rfl
  have o3 : (((w.setCell ⟨R, 3, none⟩ (.int .i64 t1)).setCell ⟨R, 5, none⟩ (.int .i64 1)).setCell ⟨R, 4, none⟩ (.int .i64 0)).cell? ⟨R, 6, none⟩ = some (.int .i64 d.leader) := s2.cell 6
  have f3 : (((w.setCell ⟨R, 3, none⟩ (.int .i64 t1)).setCell ⟨R, 5, none⟩ (.int .i64 1)).setCell ⟨R, 4, none⟩ (.int .i64 0)).frozen? ⟨R, 6, none⟩ = false := s2.fz 6
  obtain ⟨s3, b3⟩ := s2.set 6 (.int .i64 (-1)) { d with term := t1, role := 1, voted := 0, leader := -1 } rfl
  have S4 : Hid _ := And.intro s3 (b0.trans (b1.trans (b2.trans b3)))
  clear h s0 s1 s2 s3 b0 b1 b2 b3
  go_enter Try.func32, Try.ntmps32
  go_wp2_with fail
  refine (timeout_one S4.out.1).mono ?_
  rintro e w1 ⟨rfl, hw⟩
  rw [← hw] at S4
  clear hw o1 o2 o3 f0 f1 f2 f3 x1 c3 q2
  obtain ⟨sA, bA⟩ := S4.out
  have o0 : w1.cell? ⟨R, 9, none⟩ = some (.int .i64 d.el) := sA.cell 9
  have f0 : w1.frozen? ⟨R, 9, none⟩ = false := sA.fz 9
  obtain ⟨s0, b0⟩ := sA.set 9 (.int .i64 0) { d with term := t1, role := 1, voted := 0, leader := -1, el := 0 } rfl
  have o1 : (w1.setCell ⟨R, 9, none⟩ (.int .i64 0)).cell? ⟨R, 10, none⟩ = some (.int .i64 d.tm) := s0.cell 10
  have f1 : (w1.setCell ⟨R, 9, none⟩ (.int .i64 0)).frozen? ⟨R, 10, none⟩ = false := s0.fz 10
  obtain ⟨s1, b1⟩ := s0.set 10 (.int .i64 10) { d with term := t1, role := 1, voted := 0, leader := -1, el := 0, tm := 10 } rfl
  have o2 : ((w1.setCell ⟨R, 9, none⟩ (.int .i64 0)).setCell ⟨R, 10, none⟩ (.int .i64 10)).cell? ⟨R, 12, none⟩ = some (.bool d.v0) := s1.cell 12
  have f2 : ((w1.setCell ⟨R, 9, none⟩ (.int .i64 0)).setCell ⟨R, 10, none⟩ (.int .i64 10)).frozen? ⟨R, 12, none⟩ = false := s1.fz 12
  obtain ⟨s2, b2⟩ := s1.set 12 (.bool false) { d with term := t1, role := 1, voted := 0, leader := -1, el := 0, tm := 10, v0 := false } rfl
  have o3 : (((w1.setCell ⟨R, 9, none⟩ (.int .i64 0)).setCell ⟨R, 10, none⟩ (.int .i64 10)).setCell ⟨R, 12, none⟩ (.bool false)).cell? ⟨R, 13, none⟩ = some (.bool false) := s2.cell 13
  have f3 : (((w1.setCell ⟨R, 9, none⟩ (.int .i64 0)).setCell ⟨R, 10, none⟩ (.int .i64 10)).setCell ⟨R, 12, none⟩ (.bool false)).frozen? ⟨R, 13, none⟩ = false := s2.fz 13
  obtain ⟨s3, b3⟩ := s2.set 13 (.bool false) { d with term := t1, role := 1, voted := 0, leader := -1, el := 0, tm := 10, v0 := false } rfl
  have o4 : ((((w1.setCell ⟨R, 9, none⟩ (.int .i64 0)).setCell ⟨R, 10, none⟩ (.int .i64 10)).setCell ⟨R, 12, none⟩ (.bool false)).setCell ⟨R, 13, none⟩ (.bool false)).cell? ⟨R, 14, none⟩ = some (.bool false) := s3.cell 14
  have f4 : ((((w1.setCell ⟨R, 9, none⟩ (.int .i64 0)).setCell ⟨R, 10, none⟩ (.int .i64 10)).setCell ⟨R, 12, none⟩ (.bool false)).setCell ⟨R, 13, none⟩ (.bool false)).frozen? ⟨R, 14, none⟩ = false := s3.fz 14
  obtain ⟨s4, b4⟩ := s3.set 14 (.bool false) { d with term := t1, role := 1, voted := 0, leader := -1, el := 0, tm := 10, v0 := false } rfl
  have o5 : (((((w1.setCell ⟨R, 9, none⟩ (.int .i64 0)).setCell ⟨R, 10, none⟩ (.int .i64 10)).setCell ⟨R, 12, none⟩ (.bool false)).setCell ⟨R, 13, none⟩ (.bool false)).setCell ⟨R, 14, none⟩ (.bool false)).cell? ⟨R, 15, none⟩ = some (.bool false) := s4.cell 15
  have f5 : (((((w1.setCell ⟨R, 9, none⟩ (.int .i64 0)).setCell ⟨R, 10, none⟩ (.int .i64 10)).setCell ⟨R, 12, none⟩ (.bool false)).setCell ⟨R, 13, none⟩ (.bool false)).setCell ⟨R, 14, none⟩ (.bool false)).frozen? ⟨R, 15, none⟩ = false := s4.fz 15
  obtain ⟨s5, b5⟩ := s4.set 15 (.bool false) { d with term := t1, role := 1, voted := 0, leader := -1, el := 0, tm := 10, v0 := false } rfl
  have o6 : ((((((w1.setCell ⟨R, 9, none⟩ (.int .i64 0)).setCell ⟨R, 10, none⟩ (.int .i64 10)).setCell ⟨R, 12, none⟩ (.bool false)).setCell ⟨R, 13, none⟩ (.bool false)).setCell ⟨R, 14, none⟩ (.bool false)).setCell ⟨R, 15, none⟩ (.bool false)).cell? ⟨R, 16, none⟩ = some (.bool false) := s5.cell 16
  have f6 : ((((((w1.setCell ⟨R, 9, none⟩ (.int .i64 0)).setCell ⟨R, 10, none⟩ (.int .i64 10)).setCell ⟨R, 12, none⟩ (.bool false)).setCell ⟨R, 13, none⟩ (.bool false)).setCell ⟨R, 14, none⟩ (.bool false)).setCell ⟨R, 15, none⟩ (.bool false)).frozen? ⟨R, 16, none⟩ = false := s5.fz 16
  obtain ⟨s6, b6⟩ := s5.set 16 (.bool false) { d with term := t1, role := 1, voted := 0, leader := -1, el := 0, tm := 10, v0 := false } rfl
  have o7 : (((((((w1.setCell ⟨R, 9, none⟩ (.int .i64 0)).setCell ⟨R, 10, none⟩ (.int .i64 10)).setCell ⟨R, 12, none⟩ (.bool false)).setCell ⟨R, 13, none⟩ (.bool false)).setCell ⟨R, 14, none⟩ (.bool false)).setCell ⟨R, 15, none⟩ (.bool false)).setCell ⟨R, 16, none⟩ (.bool false)).cell? ⟨R, 12, none⟩ = some (.bool false) := s6.cell 12
  have f7 : (((((((w1.setCell ⟨R, 9, none⟩ (.int .i64 0)).setCell ⟨R, 10, none⟩ (.int .i64 10)).setCell ⟨R, 12, none⟩ (.bool false)).setCell ⟨R, 13, none⟩ (.bool false)).setCell ⟨R, 14, none⟩ (.bool false)).setCell ⟨R, 15, none⟩ (.bool false)).setCell ⟨R, 16, none⟩ (.bool false)).frozen? ⟨R, 12, none⟩ = false := s6.fz 12
  obtain ⟨s7, b7⟩ := s6.set 12 (.bool true) { d with term := t1, role := 1, voted := 0, leader := -1, el := 0, tm := 10, v0 := true } rfl
  have x1 : (((((((w1.setCell ⟨R, 9, none⟩ (.int .i64 0)).setCell ⟨R, 10, none⟩ (.int .i64 10)).setCell ⟨R, 12, none⟩ (.bool false)).setCell ⟨R, 13, none⟩ (.bool false)).setCell ⟨R, 14, none⟩ (.bool false)).setCell ⟨R, 15, none⟩ (.bool false)).setCell ⟨R, 16, none⟩ (.bool false)).cell? ⟨R, 1, none⟩ = some (.int .i64 0) := s6.cell 1
  have S8 : Hid _ := And.intro s7 (bA.trans (b0.trans (b1.trans (b2.trans (b3.trans (b4.trans (b5.trans (b6.trans b7))))))))
  clear sA bA s0 s1 s2 s3 s4 s5 s6 s7 b0 b1 b2 b3 b4 b5 b6 b7 S4
  go_wp2_with fail
  have S9 : Hid _ := And.intro (S8.out.1.below (Below.refl _ _).drew) (S8.out.2.trans ((Below.refl _ _).drew))
  clear S8
  go_region
  all_goals
    clear o0 o1 o2 o3 o4 o5 o6 o7 f0 f1 f2 f3 f4 f5 f6 f7 x1
    go_wp2_with fail
    refine (elected_one S9.out.1 rfl).mono ?_
    rintro e w2 ⟨rfl, hw⟩
    rw [← hw] at S9
    clear hw
    have HLd := lead_one S9.out.1 HX.out.2.1 (by have := HX.out; show lastT 0 L ≤ t1 ∧ 1 ≤ t1 ∧ t1 ≤ 1152921504606846976; omega) HX.out.2.2.2
    go_wp2_with fail
    refine HLd.mono ?_
    clear HLd
    rintro e w3 ⟨rfl, sv3, L3, s3, b3, f3⟩
    have F3 : Hid _ := And.intro s3 (And.intro (S9.out.2.trans b3) f3)
    clear s3 b3 f3
    go_wp2
    go_ret
    exact ⟨rfl, _, sv3, L3, F3.out.1, F3.out.2.1, F3.out.2.2, rfl, rfl, rfl, rfl⟩
set_option maxRecDepth 100000 in
set_option maxHeartbeats 1600000 in
theorem tick_lead (h : Solo w base R lg d sv L) (hr : d.role = 2) : Calls Try.prog 15 #[.pointer (some ⟨R, 0, none⟩)] w fun e w' => e = .returned (.slice none 0 0) ∧ w' = w := by
  have c5 : w.cell? ⟨R, 5, none⟩ = some (.int .i64 2) := by have := h.cell 5; rw [show (d.cells lg)[5]? = some (.int .i64 d.role) from rfl, hr] at this; exact this
  have HS := sendAll_one h
  clear h hr
  go_enter Try.func15, Try.ntmps15
  go_wp2_with fail
  refine HS.mono ?_
  clear HS
  rintro e w1 ⟨rfl, rfl⟩
  go_wp2
  go_ret
  exact ⟨rfl, rfl⟩
set_option maxRecDepth 100000 in
set_option maxHeartbeats 1600000 in
theorem tick_elect (h : Solo w base R lg d sv L) (hr : d.role ≠ 2) (he : d.el = 9) (h10 : d.tm = 10) (hl : L.length < 4096) (ht : lastT 0 L ≤ d.term ∧ 0 ≤ d.term ∧ d.term < 1152921504606846976) (hc : d.commit ≤ L.length) : Calls Try.prog 15 #[.pointer (some ⟨R, 0, none⟩)] w fun e w' => e = .returned (.slice none 0 0) ∧ ∃ d' sv' L', Solo w' base R lg d' sv' L' ∧ Below base w w' ∧ L'.map Prod.fst = L.map Prod.fst ++ [(d.term + 1, [])] ∧ d'.term = d.term + 1 ∧ d'.role = 2 ∧ d'.leader = 0 ∧ d'.commit = L.length + 1 := by
  have c5 : w.cell? ⟨R, 5, none⟩ = some (.int .i64 d.role) := h.cell 5
  have c9 : w.cell? ⟨R, 9, none⟩ = some (.int .i64 9) := by have := h.cell 9; rw [show (d.cells lg)[9]? = some (.int .i64 d.el) from rfl, he] at this; exact this
  have f9 := h.fz 9
  obtain ⟨s1, b1⟩ := h.set 9 (.int .i64 10) { d with el := 10 } rfl
  have c10 : (w.setCell ⟨R, 9, none⟩ (.int .i64 10)).cell? ⟨R, 10, none⟩ = some (.int .i64 10) := by have := s1.cell 10; rw [show (RD.cells { d with el := 10 } lg)[10]? = some (.int .i64 d.tm) from rfl, h10] at this; exact this
  have c3 : (w.setCell ⟨R, 9, none⟩ (.int .i64 10)).cell? ⟨R, 3, none⟩ = some (.int .i64 d.term) := s1.cell 3
  have S1 : Hid _ := And.intro s1 b1
  have q1 : ¬ d.role = 2 := hr
  have q0 : (d.role == 2) = false := by simpa using hr
  have q2 : decide (1152921504606846976 ≤ d.term) = false := decide_eq_false (by omega)
  have q3 : ¬ (1152921504606846976 ≤ d.term) := by omega
  have q4 : d.term < 1152921504606846976 := by omega
  have HE := fun q => elect_one (S1.out.1.drewN q) hl ht hc
  obtain ⟨ro, ero⟩ : ∃ ro, d.role = ro := ⟨_, rfl⟩
  obtain ⟨tt, ett⟩ : ∃ tt, d.term = tt := ⟨_, rfl⟩
  rw [ett] at c3 q2 q3 q4
  rw [ero] at c5 q0 q1
  have ETT : Hid (d.term = tt) := ett
  clear h s1 b1 hr h10 he ero ett hl ht hc
  go_enter Try.func15, Try.ntmps15
  go_wp2_with fail
  go_quiet (fail)
  go_wp2_with fail
  refine (HE _).mono ?_
  rintro e w3 ⟨rfl, d3, sv3, L3, s3, b3, f3, x1, x2, x3, x4⟩
  have F3 : Hid _ := And.intro s3 (And.intro ((below_drewN' S1.out.2 _).trans b3) (And.intro f3 (And.intro x1 (And.intro x2 (And.intro x3 x4)))))
  clear s3 b3 f3 x1 x2 x3 x4
  go_wp2
  go_ret
  exact ⟨rfl, d3, sv3, L3, F3.out.1, F3.out.2.1, F3.out.2.2.1, F3.out.2.2.2.1, F3.out.2.2.2.2.1, F3.out.2.2.2.2.2.1, F3.out.2.2.2.2.2.2⟩
end
end Go.Proofs.Ythnocbflnakdmaa
