/- Laws for regions that draw their order; a law's own mover. -/
import Derived.Test.YtcmhkeaimgppgaaMAsksW
import Derived.Test.YtcmhkeaimgppgaaMToldW
namespace Go.Proofs.Ytcmhkeaimgppgaa
open Go.RowKit Go.Shelf
set_option linter.unusedVariables false

section
variable {P : Program} {ops : Array Oper} {Q : Exit → Act → World → Prop} {md : Region.Mode} {S : World → Prop}
theorem take_val {i : Nat} {oi : Oper} {fuel : Nat} {listed : Array Bool} {a : Act} {w w' : World} (v : Value) (hi : ops[i]? = some oi) (hr : Region.ready md ops listed = [i]) (hw : Region.wanted oi (yielded ops a.tmps) = true)
    (hx : (execOp a.eval oi).run P w = .ok (.value v) w') (hS : S w') (h : wpAnyH P md ops Q S fuel (listed.setIfInBounds i true) (a.put oi.dst v) w') : wpAnyH P md ops Q S (fuel + 1) listed a w := by
  refine wpAnyH_all (rs := [i]) hr (by simp) (fun j hj => ?_)
  obtain rfl : j = i := by simpa using hj
  unfold wpOp
  simp only [hi, hw, if_true, Oper.wp, hx]
  rw [Oper.upon_value]
  exact .inl ⟨hS, h⟩
theorem take_eff {i : Nat} {oi : Oper} {fuel : Nat} {listed : Array Bool} {a : Act} {w w' : World} (hi : ops[i]? = some oi) (hr : Region.ready md ops listed = [i]) (hw : Region.wanted oi (yielded ops a.tmps) = true)
    (hx : (execOp a.eval oi).run P w = .ok .skip w') (hS : S w') (h : wpAnyH P md ops Q S fuel (listed.setIfInBounds i true) (a.put oi.dst undef) w') : wpAnyH P md ops Q S (fuel + 1) listed a w := by
  refine wpAnyH_all (rs := [i]) hr (by simp) (fun j hj => ?_)
  obtain rfl : j = i := by simpa using hj
  unfold wpOp
  simp only [hi, hw, if_true, Oper.wp, hx]
  rw [Oper.upon_skip]
  exact .inl ⟨hS, h⟩
/-- Two values, the one or the other first. -/
theorem take_two {i j : Nat} {oi oj : Oper} {fuel : Nat} {listed : Array Bool} {a : Act} {w w1 w2 : World} (u v : Value) (hi : ops[i]? = some oi) (hj : ops[j]? = some oj) (hr : Region.ready md ops listed = [i, j]) (hw : Region.wanted oi (yielded ops a.tmps) = true) (hw2 : Region.wanted oj (yielded ops a.tmps) = true)
    (hx : (execOp a.eval oi).run P w = .ok (.value u) w1) (hS : S w1) (hx2 : (execOp a.eval oj).run P w = .ok (.value v) w2) (hS2 : S w2)
    (h : wpAnyH P md ops Q S fuel (listed.setIfInBounds i true) (a.put oi.dst u) w1) (h2 : wpAnyH P md ops Q S fuel (listed.setIfInBounds j true) (a.put oj.dst v) w2) : wpAnyH P md ops Q S (fuel + 1) listed a w := by
  refine wpAnyH_all (rs := [i, j]) hr (by simp) (fun k hk => ?_)
  rcases (by simpa using hk : k = i ∨ k = j) with rfl | rfl
  · unfold wpOp
    simp only [hi, hw, if_true, Oper.wp, hx]
    rw [Oper.upon_value]
    exact .inl ⟨hS, h⟩
  · unfold wpOp
    simp only [hj, hw2, if_true, Oper.wp, hx2]
    rw [Oper.upon_value]
    exact .inl ⟨hS2, h2⟩
/-- A struct within a row is read. -/
theorem take_mid {i : Nat} {oi : Oper} {fuel : Nat} {listed : Array Bool} {a : Act} {w : World} (hi : ops[i]? = some oi)
    (hs : Region.noSelect ops = true) (hf : Region.free md ops listed i = true) (hr : (Region.ready md ops listed).contains i = true) (ty : TypeId) (x : Operand) (b o : Nat) (cs : List Value) (d : TypeDesc)
    (hQ : ∀ c a w, Q (.panic c) (a.put oi.dst (.agg cs.toArray)) w → Q (.panic c) a w) (hw : Region.wanted oi (yielded ops a.tmps) = true) (ho : oi.op = .load ty x)
    (hx : a.eval x = .pointer (some ⟨b, o, none⟩)) (hg : ∀ w, S w → w.rangeAt b o cs)
    (hu : P.underlying ty = some d) (hd : d.isRow = true) (hz : (P.info? ty).map (·.size) = some cs.length) (hS : S w)
    (h : wpAnyH P md ops Q S fuel (listed.setIfInBounds i true) (a.put oi.dst (.agg cs.toArray)) w) : wpAnyH P md ops Q S (fuel + 1) listed a w :=
  take_run hi hs hf hr hQ hw (fun w' hS' => by
    unfold execOp
    simp only [ho, hx, Instr.loadAt, Instr.sureAddr, Sem.run_bind, Sem.run_pure, Result.andThen_ok, run_loadVar_mid w' b o ty cs d (hg w' hS') hu hd hz]) hS h
/-- A call or a value, the one or the other first. -/
theorem take_call_or {i j : Nat} {oi oj : Oper} {fuel : Nat} {listed : Array Bool} {a : Act} {w w2 : World} (v : Value) (hi : ops[i]? = some oi) (hj : ops[j]? = some oj) (hr : Region.ready md ops listed = [i, j]) (hw : Region.wanted oi (yielded ops a.tmps) = true) (hw2 : Region.wanted oj (yielded ops a.tmps) = true)
    (f : FuncId) (args : Array Value) (hx : (execOp a.eval oi).run P w = .ok (.enter f args) w) (hx2 : (execOp a.eval oj).run P w = .ok (.value v) w2) (hS2 : S w2)
    (h : Calls P f args w fun e w' => ∃ v, e = .returned v ∧ S w' ∧ wpAnyH P md ops Q S fuel (listed.setIfInBounds i true) (a.put oi.dst v) w')
    (h2 : wpAnyH P md ops Q S fuel (listed.setIfInBounds j true) (a.put oj.dst v) w2) : wpAnyH P md ops Q S (fuel + 1) listed a w := by
  refine wpAnyH_all (rs := [i, j]) hr (by simp) (fun k hk => ?_)
  rcases (by simpa using hk : k = i ∨ k = j) with rfl | rfl
  · unfold wpOp
    simp only [hi, hw, if_true, Oper.wp, hx]
    rw [Oper.upon_enter]
    refine .inl (h.mono fun e w' ⟨v, he, hS, hh⟩ => ?_)
    subst he
    exact ⟨hS, hh⟩
  · unfold wpOp
    simp only [hj, hw2, if_true, Oper.wp, hx2]
    rw [Oper.upon_value]
    exact .inl ⟨hS2, h2⟩
/-- A store of a struct: the one operation that may come up. -/
theorem take_store_row {i : Nat} {oi : Oper} {fuel : Nat} {listed : Array Bool} {a : Act} {w : World} (hi : ops[i]? = some oi) (hr : Region.ready md ops listed = [i]) (hw : Region.wanted oi (yielded ops a.tmps) = true)
    (ty : TypeId) (x y : Operand) (g : Nat) (cells : Array Value) (t : TypeId) (old : Array Value) (ho : oi.op = .store ty x y) (hx : a.eval x = .pointer (some ⟨g, 0, none⟩)) (hy : a.eval y = .agg cells) (hg : w.heap[g]? = some (.cells old t (0, 0)))
    (hz : (P.info? ty).map (·.size) = some cells.size) (hold : old.size = cells.size) (h1 : cells.all (·.oneCell') = true) (hS : S (w.setRow g cells))
    (h : wpAnyH P md ops Q S fuel (listed.setIfInBounds i true) (a.put oi.dst undef) (w.setRow g cells)) : wpAnyH P md ops Q S (fuel + 1) listed a w :=
  take_eff hi hr hw (by
    unfold execOp
    simp only [ho, hx, hy, Instr.storeAt, Instr.sureAddr, Sem.run_bind, Sem.run_pure, Result.andThen_ok, run_storeVar_row w g t ty old cells hg hz hold h1]) hS h
end
theorem exec_make {P : Program} {ρ : Operand → Value} {o : Oper} {t : TypeId} {l c : Operand} {vl vc v : Value} {w w' : World} (ho : o.op = .makeSlice t l c) (hl : ρ l = vl) (hc : ρ c = vc) (h : (Instr.makeSlice t vl vc).run P w = .ok v w') : (execOp ρ o).run P w = .ok (.value v) w' := by
  unfold execOp
  simp [ho, hl, hc, h]
/-- make of bytes: all 0. -/
theorem make_bytes (w : World) (k : Nat) (hk : k ≤ 1048576) : ∃ w', (Instr.makeSlice 26 (.int .i64 (k : Int)) (.int .i64 (k : Int))).run Try.prog w = .ok (.slice (some ⟨w.heap.size, 0, none⟩) k k) w' ∧ w'.ownsRow w.heap.size 5 1 (.slice (some ⟨w.heap.size, 0, none⟩) k k) k (cellsOf (List.replicate k 0#8)) ∧ w.grownBy w' none ∧ w'.heap.size = w.heap.size + 1 := by
  obtain ⟨i0, hi, hz0, hz1, hz2⟩ := info_parts info5
  have hr := run_make (P := Try.prog) w 26 5 i0 (.int .u8 0) Try.underlying26 hi hz0 .i64 .i64 k k (by omega) (Int.le_refl _) (by rw [hz2]; omega) (by omega)
  obtain ⟨w', h1, h2, h3⟩ := run_make_full (P := Try.prog) w w.heap.size 26 5 i0 (.int .u8 0) 1 Try.underlying26 hi hz0 hz1 .i64 .i64 k (by rw [hz2]; omega) (by unfold maxLen; omega) (Nat.le_refl _)
  refine ⟨w', h1, ?_, h3, ?_⟩
  · have e : (madeCells (Value.cells (.int .u8 0)) (k * 1)).toList = cellsOf (List.replicate k 0#8) := by
      rw [show Value.cells (.int .u8 0) = #[.int .u8 0] from rfl, toList_madeCells_one]
      simp [cellsOf, V]
    rw [← e]
    exact h2
  · rw [h1] at hr
    simp only [Result.ok.injEq] at hr
    rw [hr.2]
    simp
/-- The row of one ask. -/
theorem told_row {w : World} {B : Nat} {v : Value} {C : List Value} (h : w.ownsRow B 54 18 v 1 C) (hC : C.length = 18) : ∃ g c, v = .slice (some ⟨g, 0, none⟩) 1 c ∧ w.rangeAt g 0 C ∧ B ≤ g ∧ g < w.heap.size ∧ ∃ cur, w.heap[g]? = some (.cells cur 54 (0, 0)) := by
  rcases h.2 with ⟨_, h0⟩ | ⟨g, c, cur, rfl, hb, hg, hnc, hcm, hcs, ht⟩
  · omega
  · refine ⟨g, c, rfl, fun j u hj => ?_, hb, (Array.getElem?_eq_some_iff.1 hg).1, cur, hg⟩
    have hl : j < 18 := by have := (List.getElem?_eq_some_iff.1 hj).1; omega
    simp only [World.cell?, hg]
    rw [← ht, List.getElem?_take, if_pos (by omega)] at hj
    simpa using hj
/-- An ask's parts. -/
theorem pAsk_c (p : PAsk) (ua : Option Addr) (uc : Nat) (hl : p.l.length ≤ 140737488355328) : AskC (AskV.cells (p.v (.slice ua p.l.length uc))) ⟨p.g, p.k, p.slot, p.ep, p.at_, p.last, ua, p.l.length, uc⟩ :=
  ⟨rfl, rfl, rfl, rfl, rfl, rfl, rfl, rfl, hl⟩
end Go.Proofs.Ytcmhkeaimgppgaa
