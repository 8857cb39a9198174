/- What addressed and Unmsg do. -/
import Derived.Test.YtfdlgiomnmnhgaaDoorUncut
import Derived.Laws.ResultCell
namespace Go.Proofs.YtfdlgiomnmnhgaaDoor
open Go.RowKit Cod
set_option linter.unusedVariables false

/-- Whether a message is of a kind, a group and machines that there can be. -/
def HeadD.addr (h : HeadD) : Prop := 1 ≤ h.kind ∧ h.kind ≤ 6 ∧ 0 ≤ h.group ∧ h.group ≤ 3 ∧ (0 ≤ h.src ∧ h.src < 5) ∧ 0 ≤ h.dst ∧ h.dst < 5
theorem isNode_any (n : Int) (w : World) : Calls Tryd.prog 90 #[.int .i64 n] w fun e w' => e = .returned (.bool (decide (0 ≤ n ∧ n < 5))) ∧ w' = w := by
  by_cases h1 : (0 : Int) ≤ n
  · by_cases h2 : n < 5
    · have e : decide (0 ≤ n ∧ n < 5) = true := decide_eq_true ⟨h1, h2⟩
      rw [e]
      go_enter Tryd.func90, Tryd.ntmps90
      go_wp2
      go_ret
      exact ⟨rfl, rfl⟩
    · have e : decide (0 ≤ n ∧ n < 5) = false := decide_eq_false (fun h => h2 h.2)
      rw [e]
      go_enter Tryd.func90, Tryd.ntmps90
      go_wp2
      go_ret
      exact ⟨rfl, rfl⟩
  · have e : decide (0 ≤ n ∧ n < 5) = false := decide_eq_false (fun h => h1 h.1)
    rw [e]
    go_enter Tryd.func90, Tryd.ntmps90
    go_wp2
    go_ret
    exact ⟨rfl, rfl⟩
/-- What addressed answers. -/
def AddrTold (w w' : World) (h : HeadD) (e : Ending) : Prop := ∃ q : Bool, e = .returned (.bool q) ∧ (q = true ↔ h.addr) ∧ Below w.heap.size w w'
set_option maxRecDepth 100000 in
set_option maxHeartbeats 1600000 in
theorem addressed_any (h : HeadD) (ev dv : Value) (w : World) : Calls Tryd.prog 78 #[h.val ev dv] w fun e w' => AddrTold w w' h e := by
  generalize hw1 : w.alloc (.cells #[.int .i64 h.kind, .int .i64 h.group, .int .i64 h.src, .int .i64 h.dst, .int .i64 h.term, .int .i64 h.index, .int .i64 h.logTerm, .int .i64 h.commit, .bool h.ok, ev, dv] 32) = w1
  have b1 : Below w.heap.size w w1 := by rw [← hw1]; exact (Below.refl _ w).alloc (Nat.le_refl _) _
  have hh : w1.heap[w.heap.size]? = some (.cells #[.int .i64 h.kind, .int .i64 h.group, .int .i64 h.src, .int .i64 h.dst, .int .i64 h.term, .int .i64 h.index, .int .i64 h.logTerm, .int .i64 h.commit, .bool h.ok, ev, dv] 32 (0, 0)) := by rw [← hw1]; exact heap_alloc_new w _
  have c0 : w1.cell? ⟨w.heap.size, 0, none⟩ = some (.int .i64 h.kind) := by simp [World.cell?, hh]
  have c1 : w1.cell? ⟨w.heap.size, 1, none⟩ = some (.int .i64 h.group) := by simp [World.cell?, hh]
  have c2 : w1.cell? ⟨w.heap.size, 2, none⟩ = some (.int .i64 h.src) := by simp [World.cell?, hh]
  have c3 : w1.cell? ⟨w.heap.size, 3, none⟩ = some (.int .i64 h.dst) := by simp [World.cell?, hh]
  have HB : Hid (Below w.heap.size w w1) := b1
  have HW : Hid _ := hw1
  have HD : Hid (h.addr ↔ 1 ≤ h.kind ∧ h.kind ≤ 6 ∧ 0 ≤ h.group ∧ h.group ≤ 3 ∧ (0 ≤ h.src ∧ h.src < 5) ∧ 0 ≤ h.dst ∧ h.dst < 5) := Iff.rfl
  show Calls Tryd.prog 78 #[.agg #[.int .i64 h.kind, .int .i64 h.group, .int .i64 h.src, .int .i64 h.dst, .int .i64 h.term, .int .i64 h.index, .int .i64 h.logTerm, .int .i64 h.commit, .bool h.ok, ev, dv]] w _
  clear hh b1 hw1
  have N5 := isNode_any h.src w1
  have N6 := isNode_any h.dst w1
  generalize h.kind = k0 at *
  generalize h.group = k1 at *
  generalize h.src = k2 at *
  generalize h.dst = k3 at *
  by_cases h0 : (1 : Int) ≤ k0
  case neg =>
    clear N5 N6
    go_enter Tryd.func78, Tryd.ntmps78
    go_wp2
    go_ret
    rw [HW.out]
    refine ⟨_, rfl, ?_, HB.out⟩
    rw [HD.out]
    simp
    omega
  by_cases h1 : k0 ≤ 6
  case neg =>
    clear N5 N6
    go_enter Tryd.func78, Tryd.ntmps78
    go_wp2
    go_ret
    rw [HW.out]
    refine ⟨_, rfl, ?_, HB.out⟩
    rw [HD.out]
    simp
    omega
  by_cases h2 : (0 : Int) ≤ k1
  case neg =>
    clear N5 N6
    go_enter Tryd.func78, Tryd.ntmps78
    go_wp2
    go_ret
    rw [HW.out]
    refine ⟨_, rfl, ?_, HB.out⟩
    rw [HD.out]
    simp
    omega
  by_cases h3 : k1 ≤ 3
  case neg =>
    clear N5 N6
    go_enter Tryd.func78, Tryd.ntmps78
    go_wp2
    go_ret
    rw [HW.out]
    refine ⟨_, rfl, ?_, HB.out⟩
    rw [HD.out]
    simp
    omega
  by_cases h5 : 0 ≤ k2 ∧ k2 < 5
  case neg =>
    rw [decide_eq_false h5] at N5
    clear N6
    go_enter Tryd.func78, Tryd.ntmps78
    go_wp2_with fail
    rw [HW.out]
    refine N5.mono ?_
    rintro e w' ⟨rfl, rfl⟩
    go_wp2
    go_ret
    refine ⟨_, rfl, ?_, HB.out⟩
    rw [HD.out]
    simp
    omega
  rw [decide_eq_true h5] at N5
  by_cases h6 : 0 ≤ k3 ∧ k3 < 5
  case neg =>
    rw [decide_eq_false h6] at N6
    go_enter Tryd.func78, Tryd.ntmps78
    go_wp2_with fail
    rw [HW.out]
    refine N5.mono ?_
    rintro e w' ⟨rfl, rfl⟩
    go_wp2_with fail
    refine N6.mono ?_
    rintro e w' ⟨rfl, rfl⟩
    go_wp2
    go_ret
    refine ⟨_, rfl, ?_, HB.out⟩
    rw [HD.out]
    simp
    omega
  rw [decide_eq_true h6] at N6
  go_enter Tryd.func78, Tryd.ntmps78
  go_wp2_with fail
  rw [HW.out]
  refine N5.mono ?_
  rintro e w' ⟨rfl, rfl⟩
  go_wp2_with fail
  refine N6.mono ?_
  rintro e w' ⟨rfl, rfl⟩
  go_wp2
  go_ret
  refine ⟨_, rfl, ?_, HB.out⟩
  rw [HD.out]
  simp
  omega
end Go.Proofs.YtfdlgiomnmnhgaaDoor
