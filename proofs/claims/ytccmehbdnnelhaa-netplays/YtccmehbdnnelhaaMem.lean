/- What the walks over package codec are told of memory: slices of bytes that are seen or owned, the two tables, appends. -/
import Derived.Test.YtccmehbdnnelhaaBase
import Derived.Lib.SlBytesConst
import Derived.Lib.ConvBytes
import Derived.Deep.RegionHeld3
import Derived.Deep.AppendLies
import Derived.Deep.DrawnRows
import Derived.Laws.AppendOwnNone
import Derived.Lib.AppendZeros
namespace Go.Proofs.Ytccmehbdnnelhaa
open Go.RowKit
set_option linter.unusedVariables false

theorem Tabs.below {n : Nat} {w w' : World} (h : Tabs w) (hb : Below n w w') (hn : 2 ≤ n) : Tabs w' :=
  ⟨fun i hi => by rw [hb.cell (p := ⟨0, i, none⟩) (show 0 < n by omega)]; exact h.1 i hi, fun i hi => by rw [hb.cell (p := ⟨1, i, none⟩) (show 1 < n by omega)]; exact h.2 i hi⟩
theorem Tabs.size {w : World} (h : Tabs w) : 2 ≤ w.heap.size := by
  have h1 := World.block_lt_of_cell? w _ (h.1 0 (by omega))
  have h2 := World.block_lt_of_cell? w _ (h.2 0 (by omega))
  simp only at h1 h2
  omega
theorem Tabs.drewN {w : World} (h : Tabs w) (n : Nat) : Tabs (w.drewN n) := h
theorem below_drewN' {B : Nat} {a w : World} (h : Below B a w) (n : Nat) : Below B a (w.drewN n) := ⟨h.os, h.tape, h.output, h.size, h.block⟩
theorem Tabs.alloc {w : World} (h : Tabs w) (o : Obj) : Tabs (w.alloc o) := h.below ((Below.refl w.heap.size w).alloc (Nat.le_refl _) o) h.size
theorem Seen.drewN {w : World} {a : Option Addr} {len : Nat} {l : List (BitVec 8)} (h : Seen w a len l) (n : Nat) : Seen (w.drewN n) a len l := h

def cellsOf (l : List (BitVec 8)) : List Value := l.map fun c => .int .u8 (V c)
theorem seen_new (w : World) (l : List (BitVec 8)) (t : TypeId) (fr : Nat × Nat) (h : l.length ≤ maxLen) : Seen (w.alloc (.cells (cellsOf l).toArray t fr)) (some ⟨w.heap.size, 0, none⟩) l.length l := by
  refine ⟨rfl, h, .inr ⟨_, _, rfl, fun j hj => ?_⟩⟩
  rw [World.cell?_alloc_mark]
  simp [cellsOf, hj]
/-- A text's bytes. -/
def bytesL (s : ByteArray) : List (BitVec 8) := s.data.toList.map fun c => c.toBitVec
theorem bytesL_length (s : ByteArray) : (bytesL s).length = s.size := by simp [bytesL]
theorem below_bytes (w : World) (s : ByteArray) : Below w.heap.size w (Lib.bytesWorld w 5 s) :=
  ⟨rfl, rfl, rfl, by rw [Lib.bytesWorld_size]; omega, fun k hk => Lib.bytesWorld_at_old w 5 s k hk⟩
theorem seen_bytes (w : World) (s : ByteArray) (hs : s.size ≤ maxLen) : Seen (Lib.bytesWorld w 5 s) (some ⟨w.heap.size, 0, none⟩) s.size (bytesL s) := by
  refine ⟨(bytesL_length s).symm, by rw [bytesL_length]; exact hs, .inr ⟨_, _, rfl, fun j hj => ?_⟩⟩
  rw [bytesL_length] at hj
  rw [Nat.zero_add, Lib.bytesWorld_cell w 5 s j hj]
  have hj' : j < s.data.toList.length := by rw [Array.length_toList]; exact hj
  rw [List.getD_eq_getElem?_getD, List.getD_eq_getElem?_getD, bytesL, List.getElem?_map, List.getElem?_eq_getElem hj']
  rfl
theorem info5 : (Try.prog.info? 5).map (fun i => (i.zero, i.size, i.bytes)) = some (some (.int .u8 0), 1, 1) := by kernel_rfl
theorem cellsOf_snoc (l : List (BitVec 8)) (c : BitVec 8) : cellsOf (l ++ [c]) = cellsOf l ++ [.int .u8 (V c)] := by simp [cellsOf]
theorem cellsOf_length (l : List (BitVec 8)) : (cellsOf l).length = l.length := by simp [cellsOf]

theorem Seen.below {w w' : World} {a : Option Addr} {len : Nat} {l : List (BitVec 8)} (h : Seen w a len l) (hb : Below w.heap.size w w') : Seen w' a len l := by
  obtain ⟨h1, h2, h3⟩ := h
  refine ⟨h1, h2, ?_⟩
  rcases h3 with h3 | ⟨b, off, ha, hc⟩
  · exact .inl h3
  · refine .inr ⟨b, off, ha, fun j hj => ?_⟩
    have hcj := hc j hj
    rw [hb.cell (p := ⟨b, off + j, none⟩) (World.block_lt_of_cell? w _ hcj)]
    exact hcj
theorem Seen.take {w : World} {a : Option Addr} {len : Nat} {l : List (BitVec 8)} (h : Seen w a len l) (n : Nat) (hn : n ≤ len) : Seen w a n (l.take n) := by
  obtain ⟨h1, h2, h3⟩ := h
  refine ⟨by simp; omega, by simp; omega, ?_⟩
  rcases h3 with h3 | ⟨b, off, ha, hc⟩
  · exact .inl (by omega)
  · refine .inr ⟨b, off, ha, fun j hj => ?_⟩
    simp at hj
    rw [hc j (by omega)]
    have hj' : j < n := by omega
    simp [hj']
theorem seen_owned {w : World} {base g n cap : Nat} {l : List (BitVec 8)} (h : w.ownsRow base 5 1 (.slice (some ⟨g, 0, none⟩) n cap) n (cellsOf l)) (hl : l.length = n) (hm : n ≤ maxLen) : Seen w (some ⟨g, 0, none⟩) n l := by
  refine ⟨hl.symm, by omega, .inr ⟨g, 0, rfl, fun j hj => ?_⟩⟩
  rw [Nat.zero_add, h.cellAt j (by omega)]
  simp [cellsOf, hj]
theorem wpList_append_known {P : Program} {w : World} {ops : Array Oper} {rest : List Oper} {o : Oper} {a : Act} {Q : Exit → Act → World → Prop} (hgd : o.guard = none) (s x : Operand) (t tn : TypeId)
    (ho : o.op = .call { callee := .builtin .append, args := #[s, x], argTypes := #[t, tn] }) (vs vx : Value) (hs : a.eval s = vs) (hx : a.eval x = vx) (v' : Value) (w' : World)
    (hr : (Builtin.append_ #[t, tn] o.type #[vs, vx]).run P w = .ok v' w') (h : wpList P ops Q rest (a.put o.dst v') w') : wpList P ops Q (o :: rest) a w :=
  wpList_plain hgd fun _ hK => Lib.wp_append_run w s x t tn ho vs vx hs hx v' w' hr (hK _ _ h)
theorem append_news {w : World} {aa : Option Addr} {la : Nat} {A : List (BitVec 8)} (hA : Seen w aa la A) (x : Addr) (hx : aa = some x) : ∀ j u, (cellsOf A)[j]? = some u → w.cell? (x.add j) = some u := by
  obtain ⟨h1, h2, h3⟩ := hA
  intro j u hj
  have hj' : j < A.length := by have := (List.getElem?_eq_some_iff.1 hj).1; rwa [cellsOf_length] at this
  rcases h3 with h3 | ⟨b, off, rfl, hc⟩
  · omega
  · cases hx
    rw [Addr.add_lit, hc j hj', ← hj]
    simp [cellsOf, hj']
theorem one_cells' (A : List (BitVec 8)) : ∀ u ∈ cellsOf A, u.oneCell' = true := by
  intro u hu
  obtain ⟨c, _, rfl⟩ := List.mem_map.1 hu
  rfl
theorem cellsOf_append (a b : List (BitVec 8)) : cellsOf (a ++ b) = cellsOf a ++ cellsOf b := by simp [cellsOf]
/-- append(v, a...) -/
theorem run_append_bytes (ty : TypeId) (w : World) (base : Nat) (v : Value) (n : Nat) (l : List (BitVec 8)) (hown : w.ownsRow base 5 1 v n (cellsOf l)) (aa : Option Addr) (la ca : Nat) (A : List (BitVec 8)) (hA : Seen w aa la A) (hnil : aa = none → ca = 0)
    (hb : n + la ≤ 140737488355328) (hbase : base ≤ w.heap.size) :
    ∃ v' w', (Builtin.append_ #[30, 30] ty #[v, .slice aa la ca]).run Try.prog w = .ok v' w' ∧ w'.ownsRow base 5 1 v' (n + la) (cellsOf (l ++ A)) ∧ w.grownBy w' v.ownBlock := by
  obtain ⟨i0, hi, hz0, hz1, hz2⟩ := info_parts info5
  cases aa with
  | none =>
    obtain ⟨h1, h2, h3⟩ := hA
    have hla : la = 0 := by
      rcases h3 with h3 | ⟨b, off, h, _⟩
      · exact h3
      · cases h
    subst hla
    have hAn : A = [] := List.eq_nil_of_length_eq_zero h1.symm
    subst hAn
    rw [hnil rfl]
    have hr := run_append_owned_none (P := Try.prog) (w := w) base 30 ty 5 i0 1 Try.underlying30 hi v n _ hown
    refine ⟨v, w, hr, by simpa using hown, ⟨rfl, rfl, rfl, Nat.le_refl _, fun _ _ _ => rfl⟩⟩
  | some x =>
    obtain ⟨v', w', hr, h1, h2, _⟩ := run_append_own (P := Try.prog) w base 30 ty 5 i0 (.int .u8 0) 1 1 Try.underlying30 hi hz0 hz1 hz2 rfl (by omega) v n (cellsOf l) hown x la ca (cellsOf A) (by rw [cellsOf_length, hA.1]; omega) (append_news hA x rfl) (one_cells' A) (by unfold maxLen; omega) (by omega) hbase
    exact ⟨v', w', hr, by rw [cellsOf_append]; exact h1, h2⟩
/-- What is owned is seen. -/
theorem owned_seen {w : World} {base n : Nat} {v : Value} {l : List (BitVec 8)} (h : w.ownsRow base 5 1 v n (cellsOf l)) (hm : n ≤ maxLen) : ∃ a cap, v = .slice a n cap ∧ Seen w a n l ∧ (a = none → cap = 0) ∧ n ≤ cap := by
  have hl : l.length = n := by have := h.1; rw [cellsOf_length] at this; omega
  rcases h.2 with ⟨rfl, rfl⟩ | ⟨g, cap, cur, rfl, hb, hg, hnc, hcm, hcs, htake⟩
  · have : l = [] := List.eq_nil_of_length_eq_zero hl
    subst this
    exact ⟨none, 0, rfl, ⟨rfl, by simp, .inl rfl⟩, fun _ => rfl, Nat.le_refl _⟩
  · exact ⟨some ⟨g, 0, none⟩, cap, rfl, seen_owned h hl hm, (fun e => by cases e), hnc⟩

end Go.Proofs.Ytccmehbdnnelhaa
