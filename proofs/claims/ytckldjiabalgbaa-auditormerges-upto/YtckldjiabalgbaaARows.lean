/- Rows, their append, slices.Clone of rows; laws of regions that draw their order. -/
import Derived.Test.YtckldjiabalgbaaAAsked
import Derived.Test.YtckldjiabalgbaaSteps
import Derived.Laws.AppendOwnNone
import Derived.Lib.SliceRun
import Derived.Deep.MidRow
namespace Go.Proofs.Ytckldjiabalgbaa
open Go.RowKit
attribute [local go_sem] Oper.semAt_some
set_option linter.unusedVariables false

def rowCellsX (rows : List (ByteArray × Int)) : List Value := rows.flatMap fun r => [.string r.1, .int .i64 r.2]
def RowsX (w : World) (a : Option Addr) (n : Nat) (rows : List (ByteArray × Int)) : Prop :=
  n = rows.length ∧ rows.length ≤ 140737488355328 ∧ (n = 0 ∨ ∃ b off, a = some ⟨b, off, none⟩ ∧ ∀ j (hj : j < rows.length), w.cell? ⟨b, off + j * 2, none⟩ = some (.string rows[j].1) ∧ w.cell? ⟨b, off + j * 2 + 1, none⟩ = some (.int .i64 rows[j].2))
theorem RowsX.below {w w' : World} {a : Option Addr} {n : Nat} {rows : List (ByteArray × Int)} (h : RowsX w a n rows) (hb : Below w.heap.size w w') : RowsX w' a n rows := by
  obtain ⟨h1, h2, h3⟩ := h
  refine ⟨h1, h2, ?_⟩
  rcases h3 with h3 | ⟨b, off, ha, hc⟩
  · exact .inl h3
  · refine .inr ⟨b, off, ha, fun j hj => ?_⟩
    obtain ⟨c1, c2⟩ := hc j hj
    rw [hb.cell (p := ⟨b, off + j * 2, none⟩) (World.block_lt_of_cell? w _ c1), hb.cell (p := ⟨b, off + j * 2 + 1, none⟩) (World.block_lt_of_cell? w _ c2)]
    exact ⟨c1, c2⟩
theorem rowCellsX_get : ∀ (rows : List (ByteArray × Int)) (j : Nat) (hj : j < rows.length), (rowCellsX rows)[j * 2]? = some (.string rows[j].1) ∧ (rowCellsX rows)[j * 2 + 1]? = some (.int .i64 rows[j].2)
  | r :: rest, 0, _ => by simp [rowCellsX]
  | r :: rest, j + 1, hj => by
    have ih := rowCellsX_get rest j (by simpa using hj)
    have e1 : (j + 1) * 2 = j * 2 + 1 + 1 := by omega
    simp only [rowCellsX, List.flatMap_cons, List.cons_append, List.nil_append, e1, List.getElem?_cons_succ, List.getElem_cons_succ] at ih ⊢
    exact ih
theorem infoRowX : (Try.prog.info? 28).map (fun i => (i.zero, i.size, i.bytes)) = some (some (.agg #[.string ⟨#[]⟩, .int .i64 0]), 2, 24) := by kernel_rfl
theorem rowCellsX_length (A : List (ByteArray × Int)) : (rowCellsX A).length = A.length * 2 := by
  induction A with
  | nil => rfl
  | cons r rest ih => simp only [rowCellsX, List.flatMap_cons, List.length_append, List.length_cons, List.length_nil] at ih ⊢; omega
theorem rowCellsX_one (A : List (ByteArray × Int)) : ∀ u ∈ rowCellsX A, u.oneCell' = true := by
  intro u hu
  simp only [rowCellsX, List.mem_flatMap, List.mem_cons, List.not_mem_nil, or_false] at hu
  obtain ⟨r, _, rfl | rfl⟩ := hu <;> rfl
theorem rows_newsX {w : World} {aa : Option Addr} {la : Nat} {A : List (ByteArray × Int)} (hA : RowsX w aa la A) (x : Addr) (hx : aa = some x) : ∀ j u, (rowCellsX A)[j]? = some u → w.cell? (x.add j) = some u := by
  obtain ⟨h1, h2, h3⟩ := hA
  intro j u hj
  have hj' : j < A.length * 2 := by have := (List.getElem?_eq_some_iff.1 hj).1; rwa [rowCellsX_length] at this
  rcases h3 with h3 | ⟨b, off, rfl, hc⟩
  · omega
  · cases hx
    rw [Addr.add_lit]
    obtain ⟨c1, c2⟩ := hc (j / 2) (by omega)
    obtain ⟨e1, e2⟩ := rowCellsX_get A (j / 2) (by omega)
    rcases (by omega : j = j / 2 * 2 ∨ j = j / 2 * 2 + 1) with e | e
    · rw [e] at hj ⊢
      rw [e1] at hj
      cases hj
      exact c1
    · rw [e] at hj ⊢
      rw [e2] at hj
      cases hj
      exact c2
/-- append(nil, rows...) -/
theorem run_append_rowsX (w : World) (aa : Option Addr) (la ca : Nat) (A : List (ByteArray × Int)) (hA : RowsX w aa la A) (hnil : aa = none → ca = 0) (hb : la * 24 ≤ 140737488355328) :
    ∃ v' w', (Builtin.append_ #[22, 22] 22 #[.slice none 0 0, .slice aa la ca]).run Try.prog w = .ok v' w' ∧ w'.ownsRow w.heap.size 28 2 v' la (rowCellsX A) ∧ Below w.heap.size w w' := by
  obtain ⟨i0, hi, hz0, hz1, hz2⟩ := info_parts infoRowX
  have h0 : w.ownsRow w.heap.size 28 2 (.slice none 0 0) 0 [] := World.ownsRow_nil _ _ _ _
  cases aa with
  | none =>
    have hla : la = 0 := by
      rcases hA.2.2 with h3 | ⟨b, off, h, _⟩
      · exact h3
      · cases h
    subst hla
    have hAn : A = [] := List.eq_nil_of_length_eq_zero hA.1.symm
    subst hAn
    rw [hnil rfl]
    have hr := run_append_owned_none (P := Try.prog) (w := w) w.heap.size 22 22 28 i0 2 Try.underlying22 hi _ 0 _ h0
    exact ⟨_, w, hr, h0, Below.refl _ _⟩
  | some x =>
    obtain ⟨v', w', hr, h1, h2, _⟩ := run_append_own (P := Try.prog) w w.heap.size 22 22 28 i0 _ 2 24 Try.underlying22 hi hz0 hz1 hz2 rfl (by omega) (.slice none 0 0) 0 [] h0 x la ca (rowCellsX A) (by rw [rowCellsX_length, hA.1]) (rows_newsX hA x rfl) (rowCellsX_one A) (by unfold maxLen; omega) (by omega) (Nat.le_refl _)
    refine ⟨v', w', hr, by simpa using h1, (Below.refl _ w).grown h2 (Nat.le_refl _) (fun k e => by cases e)⟩
theorem run_append_rowsE (w : World) (aa : Option Addr) (la ca : Nat) (A : List (ByteArray × Int)) (hA : RowsX w aa la A) (hnil : aa = none → ca = 0) (hb : la * 24 ≤ 140737488355328) :
    ∃ v' w', (Builtin.append_ #[22, 22] 22 #[.slice (some ⟨w.heap.size, 0, none⟩) 0 0, .slice aa la ca]).run Try.prog (w.alloc (.cells #[] 28)) = .ok v' w' ∧ w'.ownsRow w.heap.size 28 2 v' la (rowCellsX A) ∧ Below w.heap.size w w' := by
  obtain ⟨i0, hi, hz0, hz1, hz2⟩ := info_parts infoRowX
  have h0 : (w.alloc (.cells #[] 28)).ownsRow w.heap.size 28 2 (.slice (some ⟨w.heap.size, 0, none⟩) 0 0) 0 [] := ⟨rfl, .inr ⟨w.heap.size, 0, #[], rfl, Nat.le_refl _, heap_alloc_new w _, Nat.le_refl _, by unfold maxLen; omega, rfl, rfl⟩⟩
  have bA : Below w.heap.size w (w.alloc (.cells #[] 28)) := (Below.refl _ w).alloc (Nat.le_refl _) _
  cases aa with
  | none =>
    have hla : la = 0 := by
      rcases hA.2.2 with h3 | ⟨b, off, h, _⟩
      · exact h3
      · cases h
    subst hla
    have hAn : A = [] := List.eq_nil_of_length_eq_zero hA.1.symm
    subst hAn
    rw [hnil rfl]
    have hr := run_append_owned_none (P := Try.prog) (w := w.alloc (.cells #[] 28)) w.heap.size 22 22 28 i0 2 Try.underlying22 hi _ 0 _ h0
    exact ⟨_, _, hr, h0, bA⟩
  | some x =>
    obtain ⟨v', w', hr, h1, h2, _⟩ := run_append_own (P := Try.prog) (w.alloc (.cells #[] 28)) w.heap.size 22 22 28 i0 _ 2 24 Try.underlying22 hi hz0 hz1 hz2 rfl (by omega) _ 0 [] h0 x la ca (rowCellsX A) (by rw [rowCellsX_length, hA.1]) (rows_newsX (hA.below bA) x rfl) (rowCellsX_one A) (by unfold maxLen; omega) (by omega) (by simp)
    refine ⟨v', w', hr, by simpa using h1, bA.grown h2 bA.size (fun k e => by cases e; exact Nat.le_refl _)⟩
set_option maxHeartbeats 400000 in
theorem cloneR_any (a : Option Addr) (len cap : Nat) (A : List (ByteArray × Int)) (w : World) (h : RowsX w a len A) (hnil : a = none → cap = 0) (hb : len * 24 ≤ 140737488355328) :
    Calls Try.prog 21 #[.slice a len cap] w fun e w' => ∃ v, e = .returned v ∧ w'.ownsRow w.heap.size 28 2 v len (rowCellsX A) ∧ Below w.heap.size w w' := by
  have qT : ∀ (w : World) (a : Option Addr) (n c n' c' : Nat), (binOp .eql 22 (.slice a n c) (.slice none n' c')).run Try.prog w = .ok (.bool a.isNone) w := fun w a n c n' c' => Lib.run_eql_slice_nil w _ _ a n c n' c' Try.underlying22
  cases a with
  | none =>
    have h0 : len = 0 := by
      rcases h.2.2 with h3 | ⟨b, off, h, _⟩
      · exact h3
      · cases h
    subst h0
    obtain rfl : A = [] := List.eq_nil_of_length_eq_zero h.1.symm
    clear h hnil hb
    go_enter Try.func21, Try.ntmps21
    go_wp2
    go_ret
    exact ⟨_, rfl, World.ownsRow_nil _ _ _ _, Below.refl _ _⟩
  | some x =>
    obtain ⟨v', w', hr, h1, h2⟩ := run_append_rowsE w (some x) len cap A h hnil hb
    have HR : Hid _ := hr
    have H1 : Hid _ := h1
    have H2 : Hid _ := h2
    clear hr h1 h2 h hnil hb
    go_enter Try.func21, Try.ntmps21
    go_wp2_with (at_builtin; refine wpList_append_known rfl (.tmp 5) (.tmp 6) 22 22 rfl _ _ rfl rfl _ _ HR.out ?_)
    go_ret
    exact ⟨_, rfl, H1.out, H2.out⟩
theorem exec_storeX {P : Program} {o : Oper} {a : Act} {w : World} (ty : TypeId) (x y : Operand) (ho : o.op = .store ty x y) (g : Nat) (cells : Array Value) (hx : a.eval x = .pointer (some ⟨g, 0, none⟩)) (hy : a.eval y = .agg cells)
    (t : TypeId) (old : Array Value) (hg : w.heap[g]? = some (.cells old t (0, 0))) (hi : (P.info? ty).map (·.size) = some cells.size) (hold : old.size = cells.size) (h1 : cells.all (·.oneCell') = true) : (execOp a.eval o).run P w = .ok .skip (w.setRow g cells) := by
  unfold execOp
  simp only [ho, hx, hy, Instr.storeAt, Instr.sureAddr, Sem.run_bind, Sem.run_pure, Result.andThen_ok, run_storeVar_row w g t ty old cells hg hi hold h1]
section
variable {P : Program} {ops : Array Oper} {Q : Exit → Act → World → Prop} {md : Region.Mode} {S : World → Prop}
theorem takeX_val {i : Nat} {oi : Oper} {fuel : Nat} {listed : Array Bool} {a : Act} {w w' : World} (v : Value) (hi : ops[i]? = some oi) (hr : Region.ready md ops listed = [i]) (hw : Region.wanted oi (yielded ops a.tmps) = true)
    (hx : (execOp a.eval oi).run P w = .ok (.value v) w') (hS : S w') (h : wpAnyH P md ops Q S fuel (listed.setIfInBounds i true) (a.put oi.dst v) w') : wpAnyH P md ops Q S (fuel + 1) listed a w := by
  refine wpAnyH_all (rs := [i]) hr (by simp) (fun j hj => ?_)
  obtain rfl : j = i := by simpa using hj
  unfold wpOp
  simp only [hi, hw, if_true, Oper.wp, hx]
  rw [Oper.upon_value]
  exact .inl ⟨hS, h⟩
theorem takeX_eff {i : Nat} {oi : Oper} {fuel : Nat} {listed : Array Bool} {a : Act} {w w' : World} (hi : ops[i]? = some oi) (hr : Region.ready md ops listed = [i]) (hw : Region.wanted oi (yielded ops a.tmps) = true)
    (hx : (execOp a.eval oi).run P w = .ok .skip w') (hS : S w') (h : wpAnyH P md ops Q S fuel (listed.setIfInBounds i true) (a.put oi.dst undef) w') : wpAnyH P md ops Q S (fuel + 1) listed a w := by
  refine wpAnyH_all (rs := [i]) hr (by simp) (fun j hj => ?_)
  obtain rfl : j = i := by simpa using hj
  unfold wpOp
  simp only [hi, hw, if_true, Oper.wp, hx]
  rw [Oper.upon_skip]
  exact .inl ⟨hS, h⟩
/-- A struct within a row is read. -/
theorem takeX_mid {i : Nat} {oi : Oper} {fuel : Nat} {listed : Array Bool} {a : Act} {w : World} (hi : ops[i]? = some oi)
    (hs : Region.noSelect ops = true) (hf : Region.free md ops listed i = true) (hr : (Region.ready md ops listed).contains i = true) (ty : TypeId) (x : Operand) (b o : Nat) (cs : List Value) (d : TypeDesc)
    (hQ : ∀ c a w, Q (.panic c) (a.put oi.dst (.agg cs.toArray)) w → Q (.panic c) a w) (hw : Region.wanted oi (yielded ops a.tmps) = true) (ho : oi.op = .load ty x)
    (hx : a.eval x = .pointer (some ⟨b, o, none⟩)) (hg : ∀ w, S w → w.rangeAt b o cs)
    (hu : P.underlying ty = some d) (hd : d.isRow = true) (hz : (P.info? ty).map (·.size) = some cs.length) (hS : S w)
    (h : wpAnyH P md ops Q S fuel (listed.setIfInBounds i true) (a.put oi.dst (.agg cs.toArray)) w) : wpAnyH P md ops Q S (fuel + 1) listed a w :=
  take_run hi hs hf hr hQ hw (fun w' hS' => by
    unfold execOp
    simp only [ho, hx, Instr.loadAt, Instr.sureAddr, Sem.run_bind, Sem.run_pure, Result.andThen_ok, run_loadVar_mid w' b o ty cs d (hg w' hS') hu hd hz]) hS h
/-- A region that draws its order, of which no operation panics. -/
theorem wp_region_calmX {id : Nat} {K : Act → World → Prop} {a : Act} {w : World} (hm : P.follows .mixedOrders = true) (hS : S w.drew)
    (h : S w.drew → wpAnyH P .any ops (Exit.then K (fun _ _ _ => False)) S ops.size (Array.replicate ops.size false) a w.drew) : (Code.region id ops true).wp P (Exit.then K Q) a w :=
  Code.wp_mono (fun e a w h => by cases e <;> first | exact h | exact h.elim) (wp_region_held_drew hm hS h)
end
end Go.Proofs.Ytckldjiabalgbaa
