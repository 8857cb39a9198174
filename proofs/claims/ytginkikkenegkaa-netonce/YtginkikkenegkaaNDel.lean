/- Package net: slices.Delete of one letter. -/
import Derived.Test.YtginkikkenegkaaNPost1
namespace Go.Proofs.Ytginkikkenegkaa
open Go.RowKit Go.Maps
attribute [local go_sem] Oper.semAt_some
set_option linter.unusedVariables false

theorem zeroPo (w : World) : (zeroValue 71).run Try.prog w = .ok (.agg #[.int .i64 0, .int .i64 0, .slice none 0 0, .int .i64 0]) w := by kernel_rfl
def zero4 : List Value := [.int .i64 0, .int .i64 0, .slice none 0 0, .int .i64 0]
theorem clear_one (w : World) (ty : TypeId) (g o c : Nat) (cur : Array Value) (hg : w.heap[g]? = some (.cells cur 71 (0, 0))) (hf : o + 4 ≤ cur.size) :
    (Builtin.clear_ #[68] ty #[.slice (some ⟨g, o, none⟩) 1 c]).run Try.prog w = .ok (.tuple #[]) (w.setRow g (cur.toList.take o ++ zero4 ++ cur.toList.drop (o + 4)).toArray) := by
  have hst := run_storeCells_at Try.prog g o 71 zero4 0 cur w hg (by simpa [zero4] using hf) (fun u hu => by
    simp only [zero4, List.mem_cons, List.not_mem_nil, or_false] at hu
    rcases hu with rfl | rfl | rfl | rfl <;> rfl)
  simp only [Nat.add_zero] at hst
  have hzc : (Builtin.zeroCells #[.int .i64 0, .int .i64 0, .slice none 0 0, .int .i64 0] 1).toList = zero4 := by simp [Builtin.zeroCells, zero4]; rfl
  have hv := zeroPo
  simp [Builtin.clear_, run_underlying Try.underlying68, hv, Value.cells, hzc, hst]
  simp [zero4]
theorem cells4_erase (l : List Post) (i : Nat) (hi : i < l.length) : cells4 (l.eraseIdx i) = (cells4 l).take (i * 4) ++ (cells4 l).drop ((i + 1) * 4) := by
  induction l generalizing i with
  | nil => simp at hi
  | cons p l ih =>
    cases i with
    | zero =>
      rw [cells4_cons]
      simp [Post.cells]
    | succ i =>
      rw [List.eraseIdx_cons_succ, cells4_cons, cells4_cons, ih i (by simpa using hi)]
      have e1 : (i + 1) * 4 = p.cells.length + i * 4 := by simp [Post.cells]; omega
      have e2 : (i + 1 + 1) * 4 = p.cells.length + (i + 1) * 4 := by simp [Post.cells]; omega
      rw [e2, e1, List.take_length_add_append, List.drop_length_add_append, List.append_assoc]
theorem one4 {l : List Post} (h : ∀ p ∈ l, p.dv.oneCell' = true) : ∀ u ∈ cells4 l, u.oneCell' = true := fun u hu => by
  obtain ⟨p, hp, hu⟩ := List.mem_flatMap.1 hu
  simp only [Post.cells, List.mem_cons, List.not_mem_nil, or_false] at hu
  rcases hu with rfl | rfl | rfl | rfl
  · rfl
  · rfl
  · exact h p hp
  · rfl
/-- The row behind the append, and behind the clear. -/
theorem del_runs {w : World} {base g n cap : Nat} {l : List Post} (ho : w.ownsRow base 71 4 (.slice (some ⟨g, 0, none⟩) n cap) n (cells4 l)) (hn : n = l.length) (h1 : ∀ p ∈ l, p.dv.oneCell' = true) (i : Nat) (hi : i < n) (ax : Addr) (cx : Nat) (hax : i + 1 < n → ax = ⟨g, (i + 1) * 4, none⟩) :
    ∃ w1 w2, (Builtin.append_ #[68, 68] 68 #[.slice (some ⟨g, 0, none⟩) i cap, .slice (some ax) (n - (i + 1)) cx]).run Try.prog w = .ok (.slice (some ⟨g, 0, none⟩) (n - 1) cap) w1 ∧
      (∀ ty c, (Builtin.clear_ #[68] ty #[.slice (some ⟨g, (n - 1) * 4, none⟩) 1 c]).run Try.prog w1 = .ok (.tuple #[]) w2) ∧
      w2.ownsRow base 71 4 (.slice (some ⟨g, 0, none⟩) (n - 1) cap) (n - 1) (cells4 (l.eraseIdx i)) ∧ w.grownBy w2 (some g) := by
  rcases ho.2 with ⟨h', _⟩ | ⟨g', cap', cur, h', hb, hg, hnc, hcm, hcs, htake⟩
  · simp at h'
  · simp only [Value.slice.injEq, Option.some.injEq, Addr.mk.injEq, and_true, true_and] at h'
    obtain ⟨rfl, rfl⟩ := h'
    subst hn
    obtain ⟨i0, hi0, hz0, hz1, hz2⟩ := info_parts infoPo
    have hl4 := cells4_length l
    have hat : ∀ j, j < l.length * 4 → cur.toList[j]? = (cells4 l)[j]? := fun j hj => by rw [← htake, List.getElem?_take, if_pos hj]
    have hlen : ((cells4 l).drop ((i + 1) * 4)).length = (l.length - (i + 1)) * 4 := by rw [List.length_drop, hl4]; omega
    have hap := run_append_room (P := Try.prog) w 68 68 71 i0 Try.underlying68 hi0 g i cap cur hg ax (l.length - (i + 1)) cx ((cells4 l).drop ((i + 1) * 4)) (by rw [hz1]; exact hlen) (fun j u hj => by
        have hj' : j < ((cells4 l).drop ((i + 1) * 4)).length := (List.getElem?_eq_some_iff.1 hj).1
        rw [hax (by omega), Addr.add_lit]
        have hw : w.cell? ⟨g, (i + 1) * 4 + j, none⟩ = cur.toList[(i + 1) * 4 + j]? := by unfold World.cell?; simp only [hg]; simp
        rw [hw, hat _ (by omega), ← List.getElem?_drop]
        exact hj) (fun u hu => one4 h1 u (List.mem_of_mem_drop hu)) (by omega) (by rw [hz1, hlen]; omega)
    rw [hz1, show i + (l.length - (i + 1)) = l.length - 1 by omega] at hap
    obtain ⟨cur1, ec1⟩ : ∃ cur1, (cur.toList.take (i * 4) ++ (cells4 l).drop ((i + 1) * 4) ++ cur.toList.drop (i * 4 + ((cells4 l).drop ((i + 1) * 4)).length)).toArray = cur1 := ⟨_, rfl⟩
    rw [ec1] at hap
    have hg1 : (w.setRow g cur1).heap[g]? = some (.cells cur1 71 (0, 0)) := setRow_heap _ _ _ _ _ _ hg
    have hs1 : cur1.size = cap * 4 := by
      rw [← ec1]
      simp only [List.size_toArray, List.length_append, List.length_take, List.length_drop, Array.length_toList, hl4]
      omega
    refine ⟨_, _, hap, fun ty c => clear_one _ ty g ((l.length - 1) * 4) c cur1 hg1 (by omega), ?_, ?_⟩
    · refine ⟨by rw [cells4_length, List.length_eraseIdx, if_pos hi], .inr ⟨g, cap, _, rfl, hb, setRow_heap _ _ _ _ _ _ hg1, by omega, hcm, ?_, ?_⟩⟩
      · simp only [List.size_toArray, List.length_append, List.length_take, List.length_drop, Array.length_toList, zero4, List.length_cons, List.length_nil]
        omega
      · rw [cells4_erase l i hi]
        have e1 : cur1.toList.take ((l.length - 1) * 4) = (cells4 l).take (i * 4) ++ (cells4 l).drop ((i + 1) * 4) := by
          rw [← ec1]
          show (cur.toList.take (i * 4) ++ (cells4 l).drop ((i + 1) * 4) ++ cur.toList.drop (i * 4 + ((cells4 l).drop ((i + 1) * 4)).length)).take ((l.length - 1) * 4) = _
          have et : cur.toList.take (i * 4) = (cells4 l).take (i * 4) := by rw [← htake, List.take_take, Nat.min_eq_left (by omega)]
          rw [et]
          exact List.take_left' (by rw [List.length_append, List.length_take, hlen, hl4]; omega)
        rw [List.toList_toArray, List.append_assoc, List.take_append_of_le_length (by simp; omega), List.take_take, Nat.min_self, e1]
    · refine ⟨rfl, rfl, rfl, by simp, fun k hk hne => ?_⟩
      have hne' : k ≠ g := fun e => hne (by rw [e])
      rw [setRow_other _ _ _ _ hne', setRow_other _ _ _ _ hne']
end Go.Proofs.Ytginkikkenegkaa
