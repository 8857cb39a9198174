/- Package chart's reference: New. Written by gen_rn.py. -/
import Derived.Test.YtpdgmlljjjeifaaChImgR
import Derived.Deep.AppendLies
namespace Go.Proofs.Ytpdgmlljjjeifaa
open Go.RowKit
attribute [local go_sem] Oper.semAt_some
set_option linter.unusedVariables false
section
variable {P : Program} {ops : Array Oper} {Q : Exit → Act → World → Prop} {md : Region.Mode} {S : World → Prop}
theorem take_val {i : Nat} {oi : Oper} {fuel : Nat} {listed : Array Bool} {a : Act} {w w' : World} (v : Value) (hi : ops[i]? = some oi) (hr : Region.ready md ops listed = [i]) (hw : Region.wanted oi (yielded ops a.tmps) = true)
    (hx : (execOp a.eval oi).run P w = .ok (.value v) w') (hS : S w') (h : wpAnyH P md ops Q S fuel (listed.setIfInBounds i true) (a.put oi.dst v) w') : wpAnyH P md ops Q S (fuel + 1) listed a w := by
  refine wpAnyH_all (rs := [i]) hr (by simp) (fun j hj => ?_)
  obtain rfl : j = i := by simpa using hj
  unfold wpOp
  simp only [hi, hw, if_true, Oper.wp, hx]
  rw [Oper.upon_value]
  exact .inl ⟨hS, h⟩
/-- Two values, the one or the other first. -/
theorem take_two {i j : Nat} {oi oj : Oper} {fuel : Nat} {listed : Array Bool} {a : Act} {w w1 w2 : World} (u v : Value) (hi : ops[i]? = some oi) (hj : ops[j]? = some oj) (hr : Region.ready md ops listed = [i, j]) (hw : Region.wanted oi (yielded ops a.tmps) = true) (hw2 : Region.wanted oj (yielded ops a.tmps) = true)
    (hx : (execOp a.eval oi).run P w = .ok (.value u) w1) (hS : S w1) (hx2 : (execOp a.eval oj).run P w = .ok (.value v) w2) (hS2 : S w2)
    (h : wpAnyH P md ops Q S fuel (listed.setIfInBounds i true) (a.put oi.dst u) w1) (h2 : wpAnyH P md ops Q S fuel (listed.setIfInBounds j true) (a.put oj.dst v) w2) : wpAnyH P md ops Q S (fuel + 1) listed a w := by
  refine wpAnyH_all (rs := [i, j]) hr (by simp) (fun k hk => ?_)
  rcases (by simpa using hk : k = i ∨ k = j) with rfl | rfl
  · unfold wpOp
    simp only [hi, hw, if_true, Oper.wp, hx]
    rw [Oper.upon_value]
    exact .inl ⟨hS, h⟩
  · unfold wpOp
    simp only [hj, hw2, if_true, Oper.wp, hx2]
    rw [Oper.upon_value]
    exact .inl ⟨hS2, h2⟩
end
theorem owns_kept {w w' : World} {base : Nat} {v : Value} {n : Nat} {xs : List Value} {t : TypeId} {s : Nat} (h : w.ownsRow base t s v n xs) (k : ∀ g, v.ownBlock = some g → w'.heap[g]? = w.heap[g]?) : w'.ownsRow base t s v n xs := by
  refine ⟨h.1, h.2.imp id ?_⟩
  rintro ⟨g, cap, cur, rfl, hb, hg, hr⟩
  exact ⟨g, cap, cur, rfl, hb, by rw [k g rfl]; exact hg, hr⟩
theorem row_kind {w : World} {base : Nat} {v : Value} {n : Nat} {xs : List Value} {t : TypeId} {s : Nat} (h : w.ownsRow base t s v n xs) {g : Nat} (e : v.ownBlock = some g) : base ≤ g ∧ g < w.heap.size ∧ ∃ cur, w.heap[g]? = some (.cells cur t (0, 0)) := by
  rcases h.2 with ⟨e1, _⟩ | ⟨g', c, cur, e1, hb, hg, _⟩
  · rw [e1] at e; cases e
  · rw [e1] at e
    obtain rfl : g' = g := by simpa [Value.ownBlock] using e
    exact ⟨hb, (Array.getElem?_eq_some_iff.1 hg).1, cur, hg⟩
theorem exec_appN {P : Program} {o : Oper} {a : Act} {w w' : World} {v u x : Value} (s y : Operand) (t : TypeId) (ho : o.op = .call { callee := .builtin .append, args := #[s, y], argTypes := #[t, t] }) (hs : a.eval s = u) (hx : a.eval y = x) (hr : (Builtin.append_ #[t, t] o.type #[u, x]).run P w = .ok v w') : (execOp a.eval o).run P w = .ok (.value v) w' := by
  unfold execOp
  simp only [ho, resolve, invoke, builtin, Sem.run_bind, Sem.run_pure, Result.andThen_ok, List.map_toArray, List.map_cons, List.map_nil, hs, hx, hr]

def intsL (A : List Int) : List Value := A.map fun n => Value.int .i64 n
theorem info3 : (Try.prog.info? 3).map (fun i => (i.zero, i.size, i.bytes)) = some (some (.int .i64 0), 1, 8) := by kernel_rfl
theorem info2 : (Try.prog.info? 2).map (fun i => (i.zero, i.size, i.bytes)) = some (some (.int .i64 0), 1, 8) := by kernel_rfl
theorem appO {w : World} {base : Nat} {v : Value} {n : Nat} {A : List Int} (hown : w.ownsRow base 3 1 v n (intsL A)) (B : Nat) (x : Int) (hx : w.cell? ⟨B, 0, none⟩ = some (.int .i64 x)) (hb : base ≤ w.heap.size) (hn : n ≤ 1000) (ty : TypeId) :
    ∃ v' w', (Builtin.append_ #[39, 39] ty #[v, .slice (some ⟨B, 0, none⟩) 1 1]).run Try.prog w = .ok v' w' ∧ w'.ownsRow base 3 1 v' (n + 1) (intsL (A ++ [x])) ∧ w.grownBy w' v.ownBlock := by
  obtain ⟨i0, hi, hz0, hz1, hz2⟩ := info_parts info3
  obtain ⟨v', w', hr, h1, h2, _⟩ := run_append_own (P := Try.prog) w base 39 ty 3 i0 (.int .i64 0) 1 8 Try.underlying39 hi hz0 hz1 hz2 rfl (by omega) v n (intsL A) hown ⟨B, 0, none⟩ 1 1 [.int .i64 x] rfl (fun j u hu => by
    cases j with
    | zero => simp at hu; subst hu; exact hx
    | succ j => simp at hu) (by simp [Value.oneCell']) (by unfold maxLen; omega) (by omega) hb
  exact ⟨v', w', hr, by simpa [intsL] using h1, h2⟩
theorem appE {w : World} {base : Nat} {v : Value} {n : Nat} {A : List Int} (hown : w.ownsRow base 2 1 v n (intsL A)) (B : Nat) (x : Int) (hx : w.cell? ⟨B, 0, none⟩ = some (.int .i64 x)) (hb : base ≤ w.heap.size) (hn : n ≤ 1000) (ty : TypeId) :
    ∃ v' w', (Builtin.append_ #[40, 40] ty #[v, .slice (some ⟨B, 0, none⟩) 1 1]).run Try.prog w = .ok v' w' ∧ w'.ownsRow base 2 1 v' (n + 1) (intsL (A ++ [x])) ∧ w.grownBy w' v.ownBlock := by
  obtain ⟨i0, hi, hz0, hz1, hz2⟩ := info_parts info2
  obtain ⟨v', w', hr, h1, h2, _⟩ := run_append_own (P := Try.prog) w base 40 ty 2 i0 (.int .i64 0) 1 8 Try.underlying40 hi hz0 hz1 hz2 rfl (by omega) v n (intsL A) hown ⟨B, 0, none⟩ 1 1 [.int .i64 x] rfl (fun j u hu => by
    cases j with
    | zero => simp at hu; subst hu; exact hx
    | succ j => simp at hu) (by simp [Value.oneCell']) (by unfold maxLen; omega) (by omega) hb
  exact ⟨v', w', hr, by simpa [intsL] using h1, h2⟩
/-- The reference's chart while it is made. -/
structure RN (w0 w : World) (Q : Nat) (n : Int) (vO vE : Value) (jO jE : Nat) (A C : List Int) : Prop where
  q : Blk w Q #[.int .i64 n, vO, vE, .int .i64 0, .int .i64 0, .int .i64 0, .int .i64 0, .int .i64 0, .int .i64 0, .int .i64 0, .int .i64 0, .int .i64 0] 44
  o : w.ownsRow w0.heap.size 3 1 vO jO (intsL A)
  e : w.ownsRow w0.heap.size 2 1 vE jE (intsL C)
  b : Below w0.heap.size w0 w
  hq : w0.heap.size ≤ Q
section
variable {w0 w w' : World} {Q : Nat} {n : Int} {vO vE : Value} {jO jE : Nat} {A C : List Int}
theorem RN.drewN (h : RN w0 w Q n vO vE jO jE A C) (k : Nat) : RN w0 (w.drewN k) Q n vO vE jO jE A C := ⟨h.q, owns_kept h.o (fun _ _ => rfl), owns_kept h.e (fun _ _ => rfl), below_drewN' h.b k, h.hq⟩
theorem RN.alloc (h : RN w0 w Q n vO vE jO jE A C) (o : Obj) : RN w0 (w.alloc o) Q n vO vE jO jE A C := ⟨h.q.alloc o, h.o.alloc o, h.e.alloc o, h.b.alloc h.b.size o, h.hq⟩
theorem row_ne {base t u : Nat} {v : Value} {m : Nat} {xs : List Value} {cs : Array Value} {R : Nat} (h : w.ownsRow base t 1 v m xs) (g : Blk w R cs u) (hn : t ≠ u) : v.ownBlock ≠ some R := fun e => by
  obtain ⟨_, _, cur, h1⟩ := row_kind h e
  unfold Blk at g
  rw [g] at h1
  injection h1 with h1
  injection h1 with _ h2
  exact hn h2.symm
theorem rows_ne {base t u : Nat} {v v' : Value} {m m' : Nat} {xs xs' : List Value} (h : w.ownsRow base t 1 v m xs) (g : w.ownsRow base u 1 v' m' xs') (hn : t ≠ u) : v.ownBlock = none ∨ v.ownBlock ≠ v'.ownBlock := by
  cases e : v.ownBlock with
  | none => exact .inl rfl
  | some k =>
    refine .inr fun e2 => ?_
    obtain ⟨_, _, cur, h1⟩ := row_kind h e
    obtain ⟨_, _, cur2, h2⟩ := row_kind g e2.symm
    rw [h1] at h2
    injection h2 with h2
    injection h2 with _ h3
    exact hn h3
theorem RN.grownO {vO' : Value} {x : Int} (h : RN w0 w Q n vO vE jO jE A C) (g : w.grownBy w' vO.ownBlock) (o : w'.ownsRow w0.heap.size 3 1 vO' (jO + 1) (intsL (A ++ [x]))) :
    w'.cell? ⟨Q, 1, none⟩ = some vO ∧ w'.frozen? ⟨Q, 1, none⟩ = false ∧ RN w0 (w'.setCell ⟨Q, 1, none⟩ vO') Q n vO' vE (jO + 1) jE (A ++ [x]) C := by
  have nq := row_ne h.o h.q (by decide)
  have q1 : Blk w' Q #[.int .i64 n, vO, vE, .int .i64 0, .int .i64 0, .int .i64 0, .int .i64 0, .int .i64 0, .int .i64 0, .int .i64 0, .int .i64 0, .int .i64 0] 44 := (g.block Q h.q.lt (fun e => nq e.symm)).trans h.q
  have e1 : w'.ownsRow w0.heap.size 2 1 vE jE (intsL C) := h.e.kept g (rows_ne h.e h.o (by decide))
  refine ⟨q1.cell 1, q1.fz 1, ⟨q1.set 1 vO', owns_kept o (fun k hk => Below.heap_setCell _ _ _ _ (fun e => row_ne o q1 (by decide) (by rw [hk, e]))), owns_kept e1 (fun k hk => Below.heap_setCell _ _ _ _ (fun e => row_ne e1 q1 (by decide) (by rw [hk, e]))), ?_, h.hq⟩⟩
  exact ((⟨h.b.os ▸ g.os, h.b.tape ▸ g.tape, h.b.output ▸ g.output, Nat.le_trans h.b.size g.size, fun k hk => (g.block k (Nat.lt_of_lt_of_le hk h.b.size) (fun e => by have := (h.o.lt k e.symm).1; omega)).trans (h.b.block k hk)⟩ : Below w0.heap.size w0 w')).setCell h.hq _
theorem RN.grownE {vE' : Value} {x : Int} (h : RN w0 w Q n vO vE jO jE A C) (g : w.grownBy w' vE.ownBlock) (e : w'.ownsRow w0.heap.size 2 1 vE' (jE + 1) (intsL (C ++ [x]))) :
    w'.cell? ⟨Q, 2, none⟩ = some vE ∧ w'.frozen? ⟨Q, 2, none⟩ = false ∧ RN w0 (w'.setCell ⟨Q, 2, none⟩ vE') Q n vO vE' jO (jE + 1) A (C ++ [x]) := by
  have nq := row_ne h.e h.q (by decide)
  have q1 : Blk w' Q #[.int .i64 n, vO, vE, .int .i64 0, .int .i64 0, .int .i64 0, .int .i64 0, .int .i64 0, .int .i64 0, .int .i64 0, .int .i64 0, .int .i64 0] 44 := (g.block Q h.q.lt (fun e => nq e.symm)).trans h.q
  have o1 : w'.ownsRow w0.heap.size 3 1 vO jO (intsL A) := h.o.kept g (rows_ne h.o h.e (by decide))
  refine ⟨q1.cell 2, q1.fz 2, ⟨q1.set 2 vE', owns_kept o1 (fun k hk => Below.heap_setCell _ _ _ _ (fun e => row_ne o1 q1 (by decide) (by rw [hk, e]))), owns_kept e (fun k hk => Below.heap_setCell _ _ _ _ (fun e' => row_ne e q1 (by decide) (by rw [hk, e']))), ?_, h.hq⟩⟩
  exact ((⟨h.b.os ▸ g.os, h.b.tape ▸ g.tape, h.b.output ▸ g.output, Nat.le_trans h.b.size g.size, fun k hk => (g.block k (Nat.lt_of_lt_of_le hk h.b.size) (fun e' => by have := (h.e.lt k e'.symm).1; omega)).trans (h.b.block k hk)⟩ : Below w0.heap.size w0 w')).setCell h.hq _
end
end Go.Proofs.Ytpdgmlljjjeifaa
