/- Package rlog: slices.Delete of the last entries; keep. -/
import Derived.Test.YthnocbflnakdmaaLCopied
import Derived.Laws.CopyRow
namespace Go.Proofs.Ythnocbflnakdmaa
open Go.RowKit
attribute [local go_sem] Oper.semAt_some
set_option linter.unusedVariables false

theorem zeroEn (w : World) : (zeroValue 52).run Try.prog w = .ok (.agg #[.int .i64 0, .slice none 0 0]) w := by kernel_rfl
def zeros (m : Nat) : List Value := (Builtin.zeroCells #[.int .i64 0, .slice none 0 0] m).toList
theorem zeros_length (m : Nat) : (zeros m).length = m * 2 := by
  have := size_zeroCells #[.int .i64 0, .slice none 0 0] m
  unfold zeros
  rw [Array.length_toList, this]
  rfl
theorem zeros_one (m : Nat) : ∀ u ∈ zeros m, u.oneCell' = true := by
  intro u hu
  unfold zeros Builtin.zeroCells at hu
  simp only [Array.toList_map, List.mem_map] at hu
  obtain ⟨j, _, rfl⟩ := hu
  have h2 : j % 2 < 2 := Nat.mod_lt _ (by omega)
  show (#[Value.int .i64 0, Value.slice none 0 0][j % 2]!).oneCell' = true
  rcases Nat.mod_two_eq_zero_or_one j with h | h <;> rw [h] <;> rfl
theorem clear_many (w : World) (ty : TypeId) (g o m c : Nat) (hm : 0 < m) (cur : Array Value) (hg : w.heap[g]? = some (.cells cur 52 (0, 0))) (hf : o + m * 2 ≤ cur.size) :
    (Builtin.clear_ #[26] ty #[.slice (some ⟨g, o, none⟩) m c]).run Try.prog w = .ok (.tuple #[]) (w.setRow g (cur.toList.take o ++ zeros m ++ cur.toList.drop (o + m * 2)).toArray) := by
  have hst := run_storeCells_at Try.prog g o 52 (zeros m) 0 cur w hg (by rw [zeros_length]; omega) (zeros_one m)
  simp only [Nat.add_zero] at hst
  rw [zeros_length] at hst
  obtain ⟨k, rfl⟩ : ∃ k, m = k + 1 := ⟨m - 1, by omega⟩
  have hv := zeroEn
  have hst' : (storeCells ⟨g, o, none⟩ (Builtin.zeroCells #[.int .i64 0, .slice none 0 0] (k + 1)).toList 0).run Try.prog w = _ := hst
  simp [Builtin.clear_, run_underlying Try.underlying26, hv, Value.cells, hst']
theorem setRow_same (w : World) (g : Nat) (cur : Array Value) (t : TypeId) (fr : Nat × Nat) (hg : w.heap[g]? = some (.cells cur t fr)) : w.setRow g cur = w := setRow_self w g cur t fr hg
section
variable {w : World} {base g n cap i : Nat} {es : List EntV}
/-- The row behind the append of nothing, and behind the clear. -/
theorem cut_runs (ho : w.ownsRow base 52 2 (.slice (some ⟨g, 0, none⟩) n cap) n (entCells es)) (hn : n = es.length) (hi : i < n) :
    (∀ (ax : Addr) (cx q : Nat), (Builtin.append_ #[26, 26] 26 #[.slice (some ⟨g, 0, none⟩) i cap, .slice (some ax) 0 cx]).run Try.prog (w.drewN q) = .ok (.slice (some ⟨g, 0, none⟩) i cap) (w.drewN q)) ∧
    ∃ w2, (∀ ty c, (Builtin.clear_ #[26] ty #[.slice (some ⟨g, i * 2, none⟩) (n - i) c]).run Try.prog w = .ok (.tuple #[]) w2) ∧
      w2.ownsRow base 52 2 (.slice (some ⟨g, 0, none⟩) i cap) i (entCells (es.take i)) ∧ w.grownBy w2 (some g) := by
  rcases ho.2 with ⟨h', _⟩ | ⟨g', cap', cur, h', hb, hg, hnc, hcm, hcs, htake⟩
  · simp at h'
  · simp only [Value.slice.injEq, Option.some.injEq, Addr.mk.injEq, and_true, true_and] at h'
    obtain ⟨rfl, rfl⟩ := h'
    obtain ⟨i0, hi0, hz0, hz1, hz2⟩ := info_parts info_entry
    refine ⟨fun ax cx q => ?_, _, fun ty c => clear_many w ty g (i * 2) (n - i) c (by omega) cur hg (by omega), ?_, ?_⟩
    · have hg' : (w.drewN q).heap[g]? = some (.cells cur 52 (0, 0)) := hg
      have hap := run_append_room (P := Try.prog) (w.drewN q) 26 26 52 i0 Try.underlying26 hi0 g i cap cur hg' ax 0 cx [] (by simp) (fun j u hj => by simp at hj) (fun u hu => by cases hu) (by omega) (by rw [hz1]; simp; omega)
      rw [hz1] at hap
      simp only [List.append_nil, List.length_nil, Nat.add_zero, List.take_append_drop, Array.toArray_toList] at hap
      rw [setRow_same _ g cur _ _ hg'] at hap
      exact hap
    · refine ⟨by rw [entCells_length, List.length_take]; omega, .inr ⟨g, cap, _, rfl, hb, setRow_heap _ _ _ _ _ _ hg, by omega, hcm, ?_, ?_⟩⟩
      · simp only [List.size_toArray, List.length_append, List.length_take, List.length_drop, Array.length_toList, zeros_length]
        omega
      · rw [List.toList_toArray, List.append_assoc, List.take_append_of_le_length (by simp; omega), List.take_take, Nat.min_self, entCells_take, ← htake, List.take_take, Nat.min_eq_left (by omega)]
    · refine ⟨rfl, rfl, rfl, by simp, fun k hk hne => ?_⟩
      have hne' : k ≠ g := fun e => hne (by rw [e])
      rw [setRow_other _ _ _ _ hne']
set_option maxRecDepth 100000 in
set_option maxHeartbeats 1600000 in
theorem delete_less (ho : w.ownsRow base 52 2 (.slice (some ⟨g, 0, none⟩) n cap) n (entCells es)) (hn : n = es.length) (hi : i < n) (hb : n ≤ 1000000) :
    Calls Try.prog 81 #[.slice (some ⟨g, 0, none⟩) n cap, .int .i64 (i : Int), .int .i64 (n : Int)] w fun e w' => e = .returned (.slice (some ⟨g, 0, none⟩) i cap) ∧
      w'.ownsRow base 52 2 (.slice (some ⟨g, 0, none⟩) i cap) i (entCells (es.take i)) ∧ w.grownBy w' (some g) := by
  have hcap : n ≤ cap ∧ cap ≤ maxLen := by
    obtain ⟨a, c, e, _, h3, h4, _⟩ := row_form ho
    cases e
    exact ⟨h3, h4⟩
  obtain ⟨ax, hx⟩ : ∃ ax, (if cap = n then some (⟨g, 0, none⟩ : Addr) else some ⟨g, n * 2, none⟩) = some ax := by split <;> exact ⟨_, rfl⟩
  have hod : ∀ q, (w.drewN q).ownsRow base 52 2 (.slice (some ⟨g, 0, none⟩) n cap) n (entCells es) := fun q => ho
  have hap := (cut_runs ho hn hi).1 ax (cap - n)
  have hcl := fun q => (cut_runs (hod q) hn hi).2
  have HCL : Hid _ := hcl
  have a1 : i ≤ cap := by omega
  have a2 : n ≤ cap := hcap.1
  have b1 : (i : Int) ≤ (n : Int) := by omega
  have b2 : (n : Int) ≤ (cap : Int) := by omega
  have b4 : ((i : Int) == (n : Int)) = false := by rw [beq_eq_false_iff_ne]; omega
  have b5 : ¬ (i : Int) = (n : Int) := by omega
  have b6 : (i : Int) ≤ (cap : Int) := by omega
  have e2 : ¬ cap = i := by omega
  clear ho hod hcl hcap hn hi
  go_enter Try.func81, Try.ntmps81
  go_wp2
  go_quiet (fail)
  obtain ⟨w2, hc0, o2, g2⟩ := HCL.out nq
  have HF : Hid _ := And.intro o2 g2
  clear o2 g2 hap hx HCL
  have hc1 := hc0 0
  go_wp2

  go_ret
  exact ⟨rfl, HF.out.1, ⟨HF.out.2.os, HF.out.2.tape, HF.out.2.output, HF.out.2.size, HF.out.2.block⟩⟩
set_option maxHeartbeats 1600000 in
theorem delete_all {a : Option Addr} (h0 : a = none → cap = 0) (hc : n ≤ cap) :
    Calls Try.prog 81 #[.slice a n cap, .int .i64 (n : Int), .int .i64 (n : Int)] w fun e w' => e = .returned (.slice a n cap) ∧ w' = w := by
  have b1 : (n : Int) ≤ (cap : Int) := by omega
  cases a with
  | none =>
    obtain rfl := h0 rfl
    obtain rfl : n = 0 := by omega
    clear h0 hc b1
    go_enter Try.func81, Try.ntmps81
    go_wp2
    go_ret
    exact ⟨rfl, rfl⟩
  | some x =>
    obtain ⟨ax, hx⟩ : ∃ ax, (if cap = n then some x else some (x.add (n * 2))) = some ax := by split <;> exact ⟨_, rfl⟩
    clear h0
    go_enter Try.func81, Try.ntmps81
    go_wp2
    go_ret
    exact ⟨rfl, rfl⟩
/-- slices.Delete from a place on. -/
theorem delete_any {a : Option Addr} (ho : w.ownsRow base 52 2 (.slice a n cap) n (entCells es)) (hn : n = es.length) (hi : i ≤ n) (hb : n ≤ 1000000) :
    Calls Try.prog 81 #[.slice a n cap, .int .i64 (i : Int), .int .i64 (n : Int)] w fun e w' => e = .returned (.slice a i cap) ∧
      w'.ownsRow base 52 2 (.slice a i cap) i (entCells (es.take i)) ∧ w.grownBy w' (Value.slice a n cap).ownBlock := by
  obtain ⟨a', c', e, h0, h3, h4, hx⟩ := row_form ho
  cases e
  rcases Nat.lt_or_ge i n with hlt | hge
  · cases a with
    | none => have := h0 rfl; omega
    | some x =>
      obtain ⟨hx1, _⟩ := hx x rfl
      rw [hx1] at ho ⊢
      exact delete_less ho hn hlt hb
  · obtain rfl : i = n := by omega
    refine (delete_all h0 h3).mono ?_
    rintro e w' ⟨rfl, rfl⟩
    exact ⟨rfl, by rw [List.take_of_length_le (by omega)]; exact ho, ⟨rfl, rfl, rfl, Nat.le_refl _, fun _ _ _ => rfl⟩⟩
end
section
variable {w : World} {base N : Nat} {B T : Int} {sv : Value} {L : List EntV}
theorem set_block {w : World} {R : Nat} {cs : Array Value} {t : TypeId} {fr : Nat × Nat} (h : w.heap[R]? = some (.cells cs t fr)) (i : Nat) (v : Value) : (w.setCell ⟨R, i, none⟩ v).heap[R]? = some (.cells (cs.setIfInBounds i v) t fr) := by
  obtain ⟨hlt, hk⟩ := Array.getElem?_eq_some_iff.1 h
  show (w.heap.modify R _)[R]? = _
  rw [Array.getElem?_eq_getElem (by rw [Array.size_modify]; exact hlt), Array.getElem_modify_self, hk]
  rfl
/-- A log whose entries lie in another slice now. -/
theorem LogIn.turn {w2 : World} {sv' : Value} {L' : List EntV} (h : LogIn w base N B T sv L) (g2 : w.grownBy w2 sv.ownBlock) (o2 : w2.ownsRow base 52 2 sv' L'.length (entCells L')) (hd : ∀ e ∈ L', DataAt w2 e.2 e.1.2) (hl : L'.length ≤ 4096) (hE : ∀ e ∈ L', 1 ≤ e.1.1 ∧ e.1.1 ≤ 1152921504606846976)
    (hs : ∀ k, sv'.ownBlock = some k → sv.ownBlock = some k ∨ w.heap.size ≤ k) :
    LogIn (w2.setCell ⟨N, 2, none⟩ sv') base N B T sv' L' ∧ Chg w (w2.setCell ⟨N, 2, none⟩ sv') N sv.ownBlock := by
  have n2 : w2.heap[N]? = some (.cells #[.int .i64 B, .int .i64 T, sv] 92 (0, 0)) := by
    rw [g2.block N h.ltN (fun e => by
      obtain ⟨_, _, cur, e2⟩ := row_kind h.row e.symm
      rw [h.hN] at e2
      injection e2 with e2
      injection e2 with _ e3
      exact absurd e3 (by decide))]
    exact h.hN
  have ot : ∀ k, k ≠ N → (w2.setCell ⟨N, 2, none⟩ sv').heap[k]? = w2.heap[k]? := fun k hk => Below.heap_setCell _ _ _ _ hk
  have n3 : (w2.setCell ⟨N, 2, none⟩ sv').heap[N]? = some (.cells #[.int .i64 B, .int .i64 T, sv'] 92 (0, 0)) := set_block n2 2 sv'
  refine ⟨⟨n3, owns_kept o2 (fun g e => ot g (fun x => ?_)), fun e he => (hd e he).keep fun g ⟨cs, z, e2⟩ => ot g (fun x => ?_), h.bN, hl, h.bB, h.bT, hE⟩, ?_⟩
  · subst x
    obtain ⟨_, _, cur, e2⟩ := row_kind o2 e
    rw [n2] at e2
    injection e2 with e2
    injection e2 with _ e3
    exact absurd e3 (by decide)
  · subst x
    rw [n2] at e2
    injection e2 with e2
    injection e2 with _ e3
    exact absurd e3 (by decide)
  · refine ⟨g2.os, g2.tape, g2.output, ?_, fun k hk hn hne => ?_⟩
    · have := g2.size
      simpa using this
    · rw [ot k hn]
      exact g2.block k hk hne
end
end Go.Proofs.Ythnocbflnakdmaa
