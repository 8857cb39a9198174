/- Package net's laws: what came in, and what has been sent. -/
import Derived.Test.YtccmehbdnnelhaaNNil
namespace Go.Proofs.Ytccmehbdnnelhaa
open Go.RowKit Go.Maps
set_option linter.unusedVariables false

/-- A call of a law's script. -/
structure OpN where
  k : Int
  f : Int
  n : Int
  a : Option Addr
  c : Nat
  b : List (BitVec 8)
structure OpN.At (W : World) (o : OpN) : Prop where
  hf : kwf o.f
  hn : kwf o.n
  hb : Seen W o.a o.b.length o.b
  hbn : o.a = none → o.c = 0
theorem OpN.At.below {W W' : World} {o : OpN} (h : o.At W) (b : Below W.heap.size W W') : o.At W' := ⟨h.hf, h.hn, h.hb.below b, h.hbn⟩
def OpsN (W : World) (a : Option Addr) (n : Nat) (os : List OpN) : Prop :=
  n = os.length ∧ (n = 0 ∨ ∃ b off, a = some ⟨b, off, none⟩ ∧ ∀ j (hj : j < os.length), os[j].At W ∧ W.cell? ⟨b, off + j * 4, none⟩ = some (.int .i64 os[j].k) ∧ W.cell? ⟨b, off + j * 4 + 1, none⟩ = some (.int .i64 os[j].f) ∧ W.cell? ⟨b, off + j * 4 + 2, none⟩ = some (.int .i64 os[j].n) ∧ W.cell? ⟨b, off + j * 4 + 3, none⟩ = some (.slice os[j].a os[j].b.length os[j].c))
theorem OpsN.at {W : World} {a : Option Addr} {n : Nat} {os : List OpN} (h : OpsN W a n os) {j : Nat} (hj : j < os.length) : ∃ b off, a = some ⟨b, off, none⟩ ∧ os[j].At W ∧ W.cell? ⟨b, off + j * 4, none⟩ = some (.int .i64 os[j].k) ∧ W.cell? ⟨b, off + j * 4 + 1, none⟩ = some (.int .i64 os[j].f) ∧ W.cell? ⟨b, off + j * 4 + 2, none⟩ = some (.int .i64 os[j].n) ∧ W.cell? ⟨b, off + j * 4 + 3, none⟩ = some (.slice os[j].a os[j].b.length os[j].c) := by
  rcases h.2 with h0 | ⟨b, off, e, hc⟩
  · have := h.1; omega
  · exact ⟨b, off, e, hc j hj⟩
/-- The letters that were sent, as the law keeps them. -/
def cells3 (l : List OpN) : List Value := l.flatMap fun o => [.int .i64 o.f, .int .i64 o.n, .slice o.a o.b.length o.c]
theorem cells3_length : ∀ l : List OpN, (cells3 l).length = l.length * 3
  | [] => rfl
  | p :: l => by
    show ([_, _, _] ++ cells3 l).length = _
    rw [List.length_append, cells3_length l]
    simp
    omega
theorem cells3_at : ∀ (l : List OpN) (i : Nat) (hi : i < l.length), (cells3 l)[i * 3]? = some (.int .i64 l[i].f) ∧ (cells3 l)[i * 3 + 1]? = some (.int .i64 l[i].n) ∧ (cells3 l)[i * 3 + 2]? = some (.slice l[i].a l[i].b.length l[i].c)
  | p :: l, 0, _ => ⟨rfl, rfl, rfl⟩
  | p :: l, i + 1, hi => by
    obtain ⟨h1, h2, h3⟩ := cells3_at l i (by simpa using hi)
    have e : ∀ j, (cells3 (p :: l))[(i + 1) * 3 + j]? = (cells3 l)[i * 3 + j]? := fun j => by
      show ([_, _, _] ++ cells3 l)[(i + 1) * 3 + j]? = _
      rw [List.getElem?_append_right (by simp; omega)]
      congr 1
      simp
      omega
    have e0 := e 0
    simp only [Nat.add_zero] at e0
    rw [e0, e, e]
    exact ⟨h1, h2, h3⟩
theorem cells3_snoc (l : List OpN) (o : OpN) : cells3 (l ++ [o]) = cells3 l ++ [.int .i64 o.f, .int .i64 o.n, .slice o.a o.b.length o.c] := by simp [cells3]
/-- The letters on their way are those that were sent. -/
def Twin (L : List Post) (ms : List OpN) : Prop := L.length = ms.length ∧ ∀ i (h1 : i < L.length) (h2 : i < ms.length), L[i].fr = ms[i].f ∧ L[i].to = ms[i].n ∧ L[i].b = ms[i].b
theorem Twin.nil : Twin [] [] := ⟨rfl, fun i h => by simp at h⟩
theorem Twin.snoc {L : List Post} {ms : List OpN} (h : Twin L ms) (o : OpN) (dv : Value) (t : Nat) : Twin (L ++ [⟨o.f, o.n, dv, o.b, t⟩]) (ms ++ [o]) := by
  obtain ⟨h1, h2⟩ := h
  refine ⟨by simp [h1], fun i a b => ?_⟩
  by_cases e : i < L.length
  · rw [List.getElem_append_left e, List.getElem_append_left (by omega)]
    exact h2 i e (by omega)
  · have : i = L.length := by simp at a; omega
    subst this
    simp [h1]
theorem Twin.tail {p : Post} {L : List Post} {o : OpN} {ms : List OpN} (h : Twin (p :: L) (o :: ms)) : Twin L ms := by
  obtain ⟨h1, h2⟩ := h
  refine ⟨by simpa using h1, fun i a b => ?_⟩
  have := h2 (i + 1) (by simp; omega) (by simp; omega)
  simpa using this
theorem Twin.box {L : List Post} {ms : List OpN} (h : Twin L ms) (k : Int) : (Go.Proofs.Ytccmehbdnnelhaa.box L k).length = ms.countP (fun o => decide (o.n = k)) := by
  induction L generalizing ms with
  | nil =>
    have : ms = [] := List.eq_nil_of_length_eq_zero h.1.symm
    subst this
    rfl
  | cons p L ih =>
    cases ms with
    | nil => have := h.1; simp at this
    | cons o ms =>
      have h0 := (h.2 0 (by simp) (by simp)).2.1
      simp only [List.getElem_cons_zero] at h0
      have := ih h.tail
      unfold Go.Proofs.Ytccmehbdnnelhaa.box at this ⊢
      rw [List.filter_cons, List.countP_cons, ← this, h0]
      by_cases e : o.n = k
      · simp [e]
      · simp [e]
/-- A row of the law's own beside a net. -/
theorem tRP : (48 : TypeId) ≠ 69 := by decide
theorem tRN : (48 : TypeId) ≠ 38 := by decide
theorem tR5 : (48 : TypeId) ≠ 5 := by decide
theorem netS_away {w w' : World} {base N T : Nat} {L : List Post} (h : NetS w base N L T) {row : Option Nat} (hg : w.grownBy w' row) (hr : ∀ g, row = some g → ∃ cs z, w.heap[g]? = some (Obj.cells cs 48 z)) : NetS w' base N L T := by
  have keep : ∀ (q : Nat) (o : Obj), w.heap[q]? = some o → (∀ cs z, o ≠ Obj.cells cs 48 z) → w'.heap[q]? = w.heap[q]? := fun q o e hne => hg.block q (Array.getElem?_eq_some_iff.1 e).1 (fun er => by
    obtain ⟨cs, z, e2⟩ := hr q er.symm
    rw [e] at e2
    exact hne cs z (Option.some.inj e2))
  refine ⟨h.1, ?_⟩
  rcases h.2 with ⟨h1, e⟩ | ⟨B, bx, h1⟩
  · exact .inl ⟨⟨(keep N _ h1.1 (fun cs z x => by injection x with _ x _; exact tRN x.symm)).trans h1.1, h1.2⟩, e⟩
  · refine .inr ⟨B, bx, { h1 with hN := (keep N _ h1.hN (fun cs z x => by injection x with _ x _; exact tRN x.symm)).trans h1.hN, hM := ?_, row := fun j => ?_, dat := fun p hp => ?_ }⟩
    · obtain ⟨es, cl, hm⟩ := h1.hM.isMap
      exact h1.hM.kept (keep B _ hm (fun cs z x => by cases x))
    · refine owns_kept (h1.row j) (fun g eg => ?_)
      obtain ⟨cur, hc⟩ := row_kind (h1.row j) eg
      exact keep g _ hc (fun cs z x => by injection x with _ x _; exact tRP x.symm)
    · refine (h1.dat p hp).keep fun g ⟨cs, z, eg⟩ => keep g _ eg (fun cs' z' x => by injection x with _ x _; exact tR5 x.symm)
/-- The law's own: a net, and the letters that were sent. -/
def Kpt (w wr : World) (N T : Nat) (L : List Post) (v : Value) (ms : List OpN) : Prop := NetS wr w.heap.size N L T ∧ wr.ownsRow w.heap.size 48 3 v ms.length (cells3 ms) ∧ Below w.heap.size w wr
theorem Kpt.below {w wr w' : World} {N T : Nat} {L : List Post} {v : Value} {ms : List OpN} (h : Kpt w wr N T L v ms) (b : Below wr.heap.size wr w') : Kpt w w' N T L v ms := ⟨h.1.below b, owns_kept h.2.1 (fun g e => b.block g (row_lt4 h.2.1 e).2), h.2.2.trans (b.mono h.2.2.size)⟩
theorem Kpt.nk {w wr w' : World} {N T T' : Nat} {L L' : List Post} {v : Value} {ms : List OpN} (h : Kpt w wr N T L v ms) (k : NKeep w.heap.size wr w') (n : NetS w' w.heap.size N L' T') : Kpt w w' N T' L' v ms := by
  refine ⟨n, owns_kept h.2.1 (fun g e => ?_), h.2.2.trans k.1⟩
  obtain ⟨cur, hc⟩ := row_kind h.2.1 e
  exact k.2.2 g _ _ _ hc tRP tRN
theorem infoRL : (Try.prog.info? 48).map (fun i => (i.zero, i.size, i.bytes)) = some (some (.agg #[.int .i64 0, .int .i64 0, .slice none 0 0]), 3, 40) := by kernel_rfl
theorem Kpt.grow {w wr : World} {N T : Nat} {L : List Post} {v : Value} {ms : List OpN} (h : Kpt w wr N T L v ms) (o : OpN) (hm : ms.length ≤ 1000) :
    ∃ g c w', (Builtin.append_ #[26, 26] 26 #[v, .slice (some ⟨wr.heap.size, 0, none⟩) 1 1]).run Try.prog (wr.alloc (.cells #[.int .i64 o.f, .int .i64 o.n, .slice o.a o.b.length o.c] 48)) = .ok (.slice (some ⟨g, 0, none⟩) (ms.length + 1) c) w' ∧ Kpt w w' N T L (.slice (some ⟨g, 0, none⟩) (ms.length + 1) c) (ms ++ [o]) := by
  have ba := (Below.refl wr.heap.size wr).alloc (Nat.le_refl _) (.cells #[.int .i64 o.f, .int .i64 o.n, .slice o.a o.b.length o.c] 48)
  have hA := h.below ba
  have hnew := heap_alloc_new wr (.cells #[.int .i64 o.f, .int .i64 o.n, .slice o.a o.b.length o.c] 48)
  obtain ⟨i0, hi, hz0, hz1, hz2⟩ := info_parts infoRL
  have bs := h.2.2.size
  obtain ⟨g, c, w', hr, o', gr, hat, hlt⟩ := run_append_lies (P := Try.prog) (wr.alloc (.cells #[.int .i64 o.f, .int .i64 o.n, .slice o.a o.b.length o.c] 48)) 26 26 w.heap.size 48 i0 _ 3 40 Try.underlying26 hi hz0 hz1 hz2 rfl (by omega) v ms.length _ hA.2.1
    ⟨wr.heap.size, 0, none⟩ 1 1 [.int .i64 o.f, .int .i64 o.n, .slice o.a o.b.length o.c] (by rfl) (World.news_of_block (cs := #[.int .i64 o.f, .int .i64 o.n, .slice o.a o.b.length o.c]) (t := 48) (fr := (0, 0)) hnew) (fun u hu => by
      simp only [List.mem_cons, List.not_mem_nil, or_false] at hu
      rcases hu with rfl | rfl | rfl <;> rfl) (by omega) (by unfold maxLen; omega) (by omega) (by simp; omega) _ rfl
  refine ⟨g, c, w', hr, netS_away hA.1 gr (fun q e => ?_), by rw [cells3_snoc]; simpa using o', hA.2.2.grown gr hA.2.2.size (fun j e => (row_lt4 hA.2.1 e).1)⟩
  obtain ⟨cur, hc⟩ := row_kind hA.2.1 e
  exact ⟨cur, _, hc⟩
theorem Kpt.form {w wr : World} {N T : Nat} {L : List Post} {v : Value} {ms : List OpN} (h : Kpt w wr N T L v ms) : ∃ a c, v = .slice a ms.length c := by
  rcases h.2.1.2 with ⟨e1, e2⟩ | ⟨g, c, cur, e1, _⟩
  · exact ⟨none, 0, by rw [e1, e2]⟩
  · exact ⟨_, c, e1⟩
theorem Kpt.at {w wr : World} {N T : Nat} {L : List Post} {a : Option Addr} {c : Nat} {ms : List OpN} (h : Kpt w wr N T L (.slice a ms.length c) ms) {i : Nat} (hi : i < ms.length) : ∃ g, a = some ⟨g, 0, none⟩ ∧ wr.cell? ⟨g, i * 3, none⟩ = some (.int .i64 ms[i].f) ∧ wr.cell? ⟨g, i * 3 + 1, none⟩ = some (.int .i64 ms[i].n) ∧ wr.cell? ⟨g, i * 3 + 2, none⟩ = some (.slice ms[i].a ms[i].b.length ms[i].c) := by
  obtain ⟨g, c', e, _, _⟩ := h.2.1.form (by omega)
  cases e
  obtain ⟨q0, q1, q2⟩ := cells3_at ms i hi
  have k0 := h.2.1.cellAt (i * 3) (by omega)
  have k1 := h.2.1.cellAt (i * 3 + 1) (by omega)
  have k2 := h.2.1.cellAt (i * 3 + 2) (by omega)
  exact ⟨g, rfl, k0.trans q0, k1.trans q1, k2.trans q2⟩
end Go.Proofs.Ytccmehbdnnelhaa
