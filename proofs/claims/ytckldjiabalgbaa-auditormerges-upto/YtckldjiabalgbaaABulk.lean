/- Package auditor: rows that came in, where they are few. -/
import Derived.Test.YtckldjiabalgbaaAFrame
import Derived.Test.YtckldjiabalgbaaAConc
import Derived.JoinedCond
import Derived.Deep.CondSized
namespace Go.Proofs.Ytckldjiabalgbaa
open Go.ChangeShapes Go.WideShapes Go.ChangeAt Go.RowKit Go.Deep Go.Joins
set_option linter.unusedVariables false

theorem bulk_one {H : Type} (d : DataW H) : 1 ≤ Rows.uptoBulk d := by
  cases d with
  | lit l => cases l <;> simp [Rows.uptoBulk]
  | nil => simp [Rows.uptoBulk]
  | ptr d => simp [Rows.uptoBulk]
  | slice elems spare => simp [Rows.uptoBulk]
  | agg parts => simp [Rows.uptoBulk]
  | iface t d => simp [Rows.uptoBulk]
  | map entries => simp [Rows.uptoBulk]
  | held h => simp [Rows.uptoBulk]
theorem bulk_len {H : Type} (l : List (DataW H)) : l.length ≤ Rows.uptoBulkAll l := by
  induction l with
  | nil => simp [Rows.uptoBulkAll]
  | cons x r ih =>
    have := bulk_one x
    simp only [Rows.uptoBulkAll, List.length_cons]
    omega
set_option maxRecDepth 100000 in
theorem open_rowsA {H : Type} {enc : TypeId × Value → H} {W : World} {v : Value} {d : DataW H} {p : List MemPlace} {base : Nat} (hv : Value.okWide Try.prog W .any base 22 v) (h : DataW.Trod enc Try.prog W 0 (fun _ => true) true 22 v d p) (hb : Rows.uptoBulk d ≤ 1048576) :
    ∃ (a : Option Addr) (c : Nat) (rows : List RowV), v = .slice a rows.length c ∧ RowsX W a rows.length rows ∧ (a = none → c = 0) ∧ rows.length ≤ Rows.uptoBulk d := by
  obtain ⟨a0, len0, cap0, rfl⟩ := okWide_slice Try.underlying22 hv
  obtain ⟨fuel, hf⟩ := h
  rcases open_slice_pairs Try.underlying22 Try.underlying28 (by kernel_rfl) rfl rfl cellsM9 cellsM2 hf with ⟨hcs, _⟩ | ⟨y, len, cap, m, k, V0, V1, D0, D1, P0, P1, hcs, _, hlc, hcm, hm, hx, hcell⟩
  · simp [Value.cells] at hcs
    obtain ⟨rfl, rfl, rfl⟩ := hcs
    exact ⟨none, 0, [], rfl, ⟨rfl, by simp, .inl rfl⟩, (fun _ => rfl), Nat.zero_le _⟩
  · simp [Value.cells] at hcs
    obtain ⟨rfl, rfl, rfl⟩ := hcs
    have hlb : len0 ≤ Rows.uptoBulk d := by
      have hdd : d = _ := congrArg Prod.fst hx
      rw [hdd]
      have := bulk_len ((List.range len0).map fun i => DataW.agg [D0 i, D1 i])
      simp only [Rows.uptoBulk]
      simp at this
      omega
    have hlm : len0 ≤ m := by rw [hm]; simpa using hlc
    have each : ∀ i, i < len0 → ∃ (s : ByteArray) (z : Int), V0 i = .string s ∧ V1 i = .int .i64 z := fun i hi => by
      obtain ⟨_, _, g0, g1⟩ := hcell i (by omega)
      obtain ⟨s, e0, _, _⟩ := DataW.trod_string Try.underlying9 g0
      obtain ⟨z, e1, _, _⟩ := DataW.trod_int Try.underlying2 g1
      simp only [List.cons.injEq, and_true] at e0 e1
      exact ⟨s, z, e0, e1⟩
    let S : Nat → ByteArray := fun i => match V0 i with | .string s => s | _ => ByteArray.empty
    let Z : Nat → Int := fun i => match V1 i with | .int _ z => z | _ => 0
    have hll : ((List.range len0).map fun i => (S i, Z i)).length = len0 := by simp
    refine ⟨some y, cap0, (List.range len0).map fun i => (S i, Z i), by rw [hll], ⟨rfl, by rw [hll]; omega, ?_⟩, (fun e => by cases e), by rw [hll]; exact hlb⟩
    by_cases h0 : len0 = 0
    · exact .inl (by rw [hll]; exact h0)
    · obtain ⟨b, off, spot⟩ := y
      have hc0 := (hcell 0 (by omega)).1
      have hspot : spot = none := by simpa [Addr.add] using World.cell?_spot hc0
      subst hspot
      refine .inr ⟨b, off, rfl, fun j hj => ?_⟩
      have hj1 : j < len0 := by simpa using hj
      obtain ⟨q0, q1, _, _⟩ := hcell j (by omega)
      obtain ⟨s, z, e0, e1⟩ := each j hj1
      rw [Addr.add_lit] at q0 q1
      simp only [List.getElem_map, List.getElem_range, S, Z, e0, e1]
      rw [Nat.add_assoc]
      exact ⟨by rw [q0, e0], by rw [q1, e1]⟩
end Go.Proofs.Ytckldjiabalgbaa
