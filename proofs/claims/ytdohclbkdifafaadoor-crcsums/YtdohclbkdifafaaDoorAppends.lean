/- append of bytes, and of noughts, onto bytes of the call's own: the run. -/
import Derived.Test.YtdohclbkdifafaaDoorAdds
import Derived.Laws.AppendOwnNone
import Derived.Lib.AppendZeros
import Derived.Lib.AppendZerosOnto
namespace Go.Proofs.YtdohclbkdifafaaDoor
open Go.RowKit
set_option linter.unusedVariables false

theorem wpList_append_known {P : Program} {w : World} {ops : Array Oper} {rest : List Oper} {o : Oper} {a : Act} {Q : Exit → Act → World → Prop} (hgd : o.guard = none) (s x : Operand) (t tn : TypeId)
    (ho : o.op = .call { callee := .builtin .append, args := #[s, x], argTypes := #[t, tn] }) (vs vx : Value) (hs : a.eval s = vs) (hx : a.eval x = vx) (v' : Value) (w' : World)
    (hr : (Builtin.append_ #[t, tn] o.type #[vs, vx]).run P w = .ok v' w') (h : wpList P ops Q rest (a.put o.dst v') w') : wpList P ops Q (o :: rest) a w :=
  wpList_plain hgd fun _ hK => Lib.wp_append_run w s x t tn ho vs vx hs hx v' w' hr (hK _ _ h)
theorem append_news {w : World} {aa : Option Addr} {la : Nat} {A : List (BitVec 8)} (hA : Seen w aa la A) (x : Addr) (hx : aa = some x) : ∀ j u, (cellsOf A)[j]? = some u → w.cell? (x.add j) = some u := by
  obtain ⟨h1, h2, h3⟩ := hA
  intro j u hj
  have hj' : j < A.length := by have := (List.getElem?_eq_some_iff.1 hj).1; rwa [cellsOf_length] at this
  rcases h3 with h3 | ⟨b, off, rfl, hc⟩
  · omega
  · cases hx
    rw [Addr.add_lit, hc j hj', ← hj]
    simp [cellsOf, hj']
theorem one_cells' (A : List (BitVec 8)) : ∀ u ∈ cellsOf A, u.oneCell' = true := by
  intro u hu
  obtain ⟨c, _, rfl⟩ := List.mem_map.1 hu
  rfl
theorem cellsOf_append (a b : List (BitVec 8)) : cellsOf (a ++ b) = cellsOf a ++ cellsOf b := by simp [cellsOf]
/-- append(v, a...) -/
theorem run_append_bytes (ty : TypeId) (w : World) (base : Nat) (v : Value) (n : Nat) (l : List (BitVec 8)) (hown : w.ownsRow base 5 1 v n (cellsOf l)) (aa : Option Addr) (la ca : Nat) (A : List (BitVec 8)) (hA : Seen w aa la A) (hnil : aa = none → ca = 0)
    (hb : n + la ≤ 140737488355328) (hbase : base ≤ w.heap.size) :
    ∃ v' w', (Builtin.append_ #[22, 22] ty #[v, .slice aa la ca]).run Tryd.prog w = .ok v' w' ∧ w'.ownsRow base 5 1 v' (n + la) (cellsOf (l ++ A)) ∧ w.grownBy w' v.ownBlock := by
  obtain ⟨i0, hi, hz0, hz1, hz2⟩ := info_parts info5
  cases aa with
  | none =>
    obtain ⟨h1, h2, h3⟩ := hA
    have hla : la = 0 := by
      rcases h3 with h3 | ⟨b, off, h, _⟩
      · exact h3
      · cases h
    subst hla
    have hAn : A = [] := List.eq_nil_of_length_eq_zero h1.symm
    subst hAn
    rw [hnil rfl]
    have hr := run_append_owned_none (P := Tryd.prog) (w := w) base 22 ty 5 i0 1 Tryd.underlying22 hi v n _ hown
    refine ⟨v, w, hr, by simpa using hown, ⟨rfl, rfl, rfl, Nat.le_refl _, fun _ _ _ => rfl⟩⟩
  | some x =>
    obtain ⟨v', w', hr, h1, h2, _⟩ := run_append_own (P := Tryd.prog) w base 22 ty 5 i0 (.int .u8 0) 1 1 Tryd.underlying22 hi hz0 hz1 hz2 rfl (by omega) v n (cellsOf l) hown x la ca (cellsOf A) (by rw [cellsOf_length, hA.1]; omega) (append_news hA x rfl) (one_cells' A) (by unfold maxLen; omega) (by omega) hbase
    exact ⟨v', w', hr, by rw [cellsOf_append]; exact h1, h2⟩
/-- What is owned is seen. -/
theorem owned_seen {w : World} {base n : Nat} {v : Value} {l : List (BitVec 8)} (h : w.ownsRow base 5 1 v n (cellsOf l)) (hm : n ≤ maxLen) : ∃ a cap, v = .slice a n cap ∧ Seen w a n l ∧ (a = none → cap = 0) ∧ n ≤ cap := by
  have hl : l.length = n := by have := h.1; rw [cellsOf_length] at this; omega
  rcases h.2 with ⟨rfl, rfl⟩ | ⟨g, cap, cur, rfl, hb, hg, hnc, hcm, hcs, htake⟩
  · have : l = [] := List.eq_nil_of_length_eq_zero hl
    subst this
    exact ⟨none, 0, rfl, ⟨rfl, by simp, .inl rfl⟩, fun _ => rfl, Nat.le_refl _⟩
  · exact ⟨some ⟨g, 0, none⟩, cap, rfl, seen_owned h hl hm, (fun e => by cases e), hnc⟩

def noughts (k : Nat) : List (BitVec 8) := List.replicate k 0#8
theorem noughts_length (k : Nat) : (noughts k).length = k := by simp [noughts]
theorem zeroCells_noughts (k : Nat) : (Builtin.zeroCells (Value.int .u8 0).cells k).toList = cellsOf (noughts k) := by
  have h1 : (Value.int .u8 0).cells = #[Value.int .u8 0] := rfl
  rw [h1]
  apply List.ext_getElem
  · simp [Builtin.zeroCells, cellsOf, noughts]
  · intro i h1 h2
    have : i % 1 = 0 := Nat.mod_one i
    simp [Builtin.zeroCells, cellsOf, noughts, V, Nat.mod_one]
theorem size_zeros (k : Nat) : (Builtin.zeroCells (Value.int .u8 0).cells k).size = k := by
  have := congrArg List.length (zeroCells_noughts k)
  rw [cellsOf_length, noughts_length] at this
  simpa using this
theorem run_append_zeros_none (ty : TypeId) (w : World) (v : Value) (n base : Nat) (l : List (BitVec 8)) (hown : w.ownsRow base 5 1 v n (cellsOf l)) :
    (Builtin.append_ #[22, 3] ty #[v, .int .i64 0]).run Tryd.prog w = .ok v w := by
  obtain ⟨i0, hi, hz0, hz1, hz2⟩ := info_parts info5
  have hw : IntKind.i64.wrap 0 = 0 := by decide
  rcases hown.2 with ⟨rfl, rfl⟩ | ⟨g, cap, cur, rfl, _, _, hnc, _⟩
  · simp [Builtin.append_, run_underlying Tryd.underlying22, run_underlying Tryd.underlying3, sizeOf, typeInfo, hi, asInt, asIntOf, hw]
  · simp [Builtin.append_, run_underlying Tryd.underlying22, run_underlying Tryd.underlying3, sizeOf, typeInfo, hi, asInt, asIntOf, hw, hnc, storeCells]
theorem run_append_zeros_room (ty : TypeId) (w : World) (g n cap k : Nat) (cur : Array Value) (hg : w.heap[g]? = some (.cells cur 5 (0, 0))) (h0 : 0 < k) (hk : k ≤ 140737488355328) (hroom : n + k ≤ cap) (hfit : n + k ≤ cur.size) :
    (Builtin.append_ #[22, 3] ty #[.slice (some ⟨g, 0, none⟩) n cap, .int .i64 (k : Int)]).run Tryd.prog w =
      .ok (.slice (some ⟨g, 0, none⟩) (n + k) cap) (w.setRow g (cur.toList.take n ++ cellsOf (noughts k) ++ cur.toList.drop (n + k)).toArray) := by
  obtain ⟨i0, hi, hz0, hz1, hz2⟩ := info_parts info5
  have hw : IntKind.i64.wrap (k : Int) = k := by rw [IntKind.wrap_i64]; omega
  have hneg : ¬ ((k : Int) < 0) := by omega
  have h48 : ¬ (281474976710656 < (k : Int)) := by omega
  have hk0 : k ≠ 0 := by omega
  have hst := run_storeCells_at Tryd.prog g n 5 (cellsOf (noughts k)) 0 cur w hg (by rw [cellsOf_length, noughts_length]; omega) (one_cells' _)
  rw [cellsOf_length, noughts_length] at hst
  simp only [Nat.add_zero] at hst
  simp [Builtin.append_, run_underlying Tryd.underlying22, run_underlying Tryd.underlying3, sizeOf, typeInfo, zeroValue, hi, hz0, hz1, hz2, asInt, asIntOf, hw, hneg, h48, hk0, hroom, zeroCells_noughts, Addr.add_lit, hst]

/-- append(v, make([]byte, k)...) -/
theorem run_append_zeros (ty : TypeId) (w : World) (base : Nat) (v : Value) (n : Nat) (l : List (BitVec 8)) (hown : w.ownsRow base 5 1 v n (cellsOf l)) (k : Nat) (hb : n + k ≤ 140737488355328) (hbase : base ≤ w.heap.size) :
    ∃ v' w', (Builtin.append_ #[22, 3] ty #[v, .int .i64 (k : Int)]).run Tryd.prog w = .ok v' w' ∧ w'.ownsRow base 5 1 v' (n + k) (cellsOf (l ++ noughts k)) ∧ w.grownBy w' v.ownBlock := by
  obtain ⟨i0, hi, hz0, hz1, hz2⟩ := info_parts info5
  have hl : l.length = n := by have := hown.1; rw [cellsOf_length] at this; omega
  by_cases hk : k = 0
  · subst hk
    exact ⟨v, w, run_append_zeros_none ty w v n base l hown, by simpa [noughts] using hown, ⟨rfl, rfl, rfl, Nat.le_refl _, fun _ _ _ => rfl⟩⟩
  · have hlen : (cellsOf (l ++ noughts k)).length = (n + k) * 1 := by rw [cellsOf_length, List.length_append, noughts_length, hl]; omega
    have grown : ∀ (old : Nat) (row : Option Nat),
        (w.drew.alloc (.cells ((cellsOf l).toArray ++ Builtin.zeroCells (Value.int .u8 0).cells k ++ Builtin.zeroCells (Value.int .u8 0).cells (grownCap w (n + k) old 5 - (n + k))) 5)).ownsRow base 5 1
          (.slice (some ⟨w.heap.size, 0, none⟩) (n + k) (grownCap w (n + k) old 5)) (n + k) (cellsOf (l ++ noughts k)) ∧
        w.grownBy (w.drew.alloc (.cells ((cellsOf l).toArray ++ Builtin.zeroCells (Value.int .u8 0).cells k ++ Builtin.zeroCells (Value.int .u8 0).cells (grownCap w (n + k) old 5 - (n + k))) 5)) row := by
      intro old row
      have hge := grownCap_ge w (n + k) old 5
      have hcm : grownCap w (n + k) old 5 ≤ maxLen := grownCap_le_maxLen w (n + k) old 5 (by unfold maxLen; omega)
      refine ⟨⟨hlen, .inr ⟨w.heap.size, _, _, rfl, hbase, heap_alloc_new w.drew _, hge, hcm, ?_, ?_⟩⟩, ⟨rfl, rfl, rfl, by simp, fun k hk _ => Below.heap_alloc w.drew _ k hk⟩⟩
      · simp only [Array.size_append, List.size_toArray, size_zeros, cellsOf_length, hl]
        omega
      · simp only [Array.toList_append, zeroCells_noughts]
        rw [cellsOf_append, ← cellsOf_append, show (n + k) * 1 = (cellsOf (l ++ noughts k)).length from hlen.symm]
        exact List.take_left
    rcases hown.2 with ⟨rfl, rfl⟩ | ⟨g, cap, cur, rfl, hbg, hg, hnc, hcm, hcs, htake⟩
    · have hx : l = [] := List.eq_nil_of_length_eq_zero hl
      subst hx
      have hold : (Builtin.firstCells i0.size 0 (.slice none 0 0)).run Tryd.prog w.drew = .ok ([] : List Value).toArray w.drew := by simp [Builtin.firstCells]
      have hr := Lib.run_append_grow_zeros (P := Tryd.prog) w 22 3 ty 5 i0 (.int .u8 0) .i64 .i64 Tryd.underlying22 Tryd.underlying3 hi hz0 none 0 0 [] hold k (by omega) (by omega) (by omega) (by omega) (by rw [hz2]; omega) (growslice_fits (by omega) (by rw [hz2]; omega))
      have hgr := grown 0 (Value.ownBlock (.slice none 0 0))
      exact ⟨_, _, hr, hgr.1, hgr.2⟩
    · by_cases hroom : n + k ≤ cap
      · have hr := run_append_zeros_room ty w g n cap k cur hg (by omega) (by omega) hroom (by omega)
        refine ⟨_, _, hr, ⟨hlen, .inr ⟨g, cap, _, rfl, hbg, setRow_heap w g cur _ 5 _ hg, hroom, hcm, ?_, ?_⟩⟩, ⟨rfl, rfl, rfl, by simp, fun k _ hk => setRow_other w g k _ (fun e => hk (by simp [Value.ownBlock, e]))⟩⟩
        · simp only [List.size_toArray, List.length_append, List.length_take, List.length_drop, Array.length_toList, cellsOf_length, noughts_length]
          omega
        · have ht : cur.toList.take n = cellsOf l := by simpa using htake
          rw [ht, ← cellsOf_append, show (n + k) * 1 = (cellsOf (l ++ noughts k)).length from hlen.symm]
          exact List.take_left
      · have holds := hown.cells (g := g) rfl
        have hold : (Builtin.firstCells i0.size n (.slice (some ⟨g, 0, none⟩) n cap)).run Tryd.prog w.drew = .ok (cellsOf l).toArray w.drew :=
          run_firstCells_some (P := Tryd.prog) w.drew i0.size n ⟨g, 0, none⟩ n cap (cellsOf l) (by rw [hz1]; exact hown.1) (fun j u hj => holds j u hj)
        have hr := Lib.run_append_grow_zeros (P := Tryd.prog) w 22 3 ty 5 i0 (.int .u8 0) .i64 .i64 Tryd.underlying22 Tryd.underlying3 hi hz0 (some ⟨g, 0, none⟩) n cap (cellsOf l) hold k (by omega) (by omega) (by omega) (by omega) (by rw [hz2]; omega) (growslice_fits (by omega) (by rw [hz2]; omega))
        have hgr := grown cap (Value.ownBlock (.slice (some ⟨g, 0, none⟩) n cap))
        exact ⟨_, _, hr, hgr.1, hgr.2⟩
end Go.Proofs.YtdohclbkdifafaaDoor
