/- Package auditor: what is there while the law's fixed calls go on. -/
import Derived.Test.YtckldjiabalgbaaARowsW
import Derived.Test.YtckldjiabalgbaaAAskW
namespace Go.Proofs.Ytckldjiabalgbaa
open Go.RowKit Go.Sort
attribute [local go_sem] Oper.semAt_some
set_option linter.unusedVariables false

theorem rows_own {w : World} {base n c : Nat} {a : Option Addr} {rows : List RowV} (h : w.ownsRow base 28 2 (.slice a n c) n (rowCellsX rows)) (hn : n = rows.length) (hb : rows.length ≤ 140737488355328) : RowsX w a n rows ∧ (a = none → c = 0) ∧ ∀ x, a = some x → base ≤ x.block ∧ x.block < w.heap.size := by
  have h' : w.ownsRow base 28 2 (.slice a n c) n (flat encR rows) := h
  obtain ⟨a2, c2, e, hat, h0⟩ := recs_owned (enc := encR) (K := 2) (fun _ => rfl) h' hn
  cases e
  refine ⟨⟨hn, hb, ?_⟩, h0, fun x e => ?_⟩
  · rcases hat.2 with hz | ⟨b, off, e1, _, hc⟩
    · exact .inl hz
    · refine .inr ⟨b, off, e1, fun j hj => ⟨?_, ?_⟩⟩
      · have := hc j hj 0 _ rfl
        simpa using this
      · exact hc j hj 1 _ rfl
  · have hk := row_kind h (g := x.block) (by rw [e]; rfl)
    exact ⟨hk.1, hk.2.1⟩
theorem RowsX.kept {w w' : World} {G : Nat} {a : Option Addr} {n : Nat} {rows : List RowV} (h : RowsX w a n rows) (k : ∀ K, K < w.heap.size → K ≠ G → w'.heap[K]? = w.heap[K]?) (hn : ∀ x, a = some x → x.block ≠ G) : RowsX w' a n rows := by
  refine ⟨h.1, h.2.1, h.2.2.imp id ?_⟩
  rintro ⟨b, off, rfl, hc⟩
  refine ⟨b, off, rfl, fun j hj => ?_⟩
  obtain ⟨c1, c2⟩ := hc j hj
  have e := k b (World.block_lt_of_cell? w _ c1) (hn _ rfl)
  simp only [World.cell?] at c1 c2 ⊢
  rw [e]
  exact ⟨c1, c2⟩
/-- The law's auditor, its list of two asks. -/
structure KSt (w W : World) (g : Nat) (D : AuD) (C0 C1 : List Value) : Prop where
  au : AuIn W w.heap.size D
  lo : ∀ K, K < w.heap.size → W.heap[K]? = w.heap[K]?
  sz : w.heap.size ≤ W.heap.size
  env : W.os = w.os ∧ W.tape = w.tape ∧ W.output = w.output
  gn : w.heap.size < g ∧ g < W.heap.size
  l0 : W.rangeAt g 0 C0
  l1 : W.rangeAt g 18 C1
theorem range_kept {W Z : World} {b o : Nat} {cs : List Value} (h : W.rangeAt b o cs) (k : Z.heap[b]? = W.heap[b]?) : Z.rangeAt b o cs := fun j v hv => by
  have := h j v hv
  simp only [World.cell?] at this ⊢
  rw [k]
  exact this
theorem KSt.below {w W Z : World} {g : Nat} {D : AuD} {C0 C1 : List Value} (h : KSt w W g D C0 C1) (b : Below W.heap.size W Z) : KSt w Z g D C0 C1 :=
  ⟨h.au.below b, fun K hK => (b.block K (Nat.lt_of_lt_of_le hK h.sz)).trans (h.lo K hK), Nat.le_trans h.sz b.size, ⟨b.os.trans h.env.1, b.tape.trans h.env.2.1, b.output.trans h.env.2.2⟩, ⟨h.gn.1, Nat.lt_of_lt_of_le h.gn.2 b.size⟩, range_kept h.l0 (b.block g h.gn.2), range_kept h.l1 (b.block g h.gn.2)⟩
theorem KSt.told {w W Z : World} {g : Nat} {D D' : AuD} {C0 C1 : List Value} (h : KSt w W g D C0 C1) (k : ∀ K, K < W.heap.size → K ≠ w.heap.size → Z.heap[K]? = W.heap[K]?) (s : W.heap.size ≤ Z.heap.size) (e : Z.os = W.os ∧ Z.tape = W.tape ∧ Z.output = W.output) (a : AuIn Z w.heap.size D') : KSt w Z g D' C0 C1 :=
  ⟨a, fun K hK => (k K (Nat.lt_of_lt_of_le hK h.sz) (by omega)).trans (h.lo K hK), Nat.le_trans h.sz s, ⟨e.1.trans h.env.1, e.2.1.trans h.env.2.1, e.2.2.trans h.env.2.2⟩, ⟨h.gn.1, Nat.lt_of_lt_of_le h.gn.2 s⟩, range_kept h.l0 (k g h.gn.2 (by have := h.gn.1; omega)), range_kept h.l1 (k g h.gn.2 (by have := h.gn.1; omega))⟩
theorem KSt.bel {w W : World} {g : Nat} {D : AuD} {C0 C1 : List Value} (h : KSt w W g D C0 C1) : Below w.heap.size w W := ⟨h.env.1, h.env.2.1, h.env.2.2, h.sz, h.lo⟩
def bobT : ByteArray := ⟨#[98, 111, 98]⟩
def annT : ByteArray := ⟨#[97, 110, 110]⟩
theorem merge_two : mergeL [[(bobT, 1)], [(annT, 2)]] = [(annT, 2), (bobT, 1)] := by kernel_rfl
/-- The two asks of the law. -/
def ask6 (k : Int) : List Value := [.int .i64 k, .int .i64 6, .int .i64 0, .string ⟨#[]⟩, .string ⟨#[]⟩, .int .i64 0, .string ⟨#[]⟩, .int .i64 0, .int .i64 0, .string ⟨#[]⟩, .string ⟨#[]⟩, .int .i64 0, .int .i64 0, .int .i64 0, .int .i64 1, .int .i64 0, .bool false, .slice none 0 0]
def d1 : AuD := ⟨2, 1, 1, false, false, false, .slice none 0 0, .slice none 0 0, .slice none 0 0, false⟩
theorem know_first : knowD ⟨(2 : Nat), 0, 0, false, false, false, .slice none 0 0, .slice none 0 0, .slice none 0 0, false⟩ 1 1 = d1 := by kernel_rfl
theorem flat_two : flat AskV.cells (asksA d1 6 2) = ask6 1 ++ ask6 2 := by kernel_rfl
theorem len_two : (asksA d1 6 2).length = 2 := by kernel_rfl
theorem kst_start {w w1 w2 : World} {v : Value} (b : Below w.heap.size w w1) (hs : w.heap.size < w1.heap.size) (k : KnA w1 w2 w.heap.size d1) (o : w2.ownsRow w1.heap.size 53 18 v 2 (ask6 1 ++ ask6 2)) : ∃ g c, v = .slice (some ⟨g, 0, none⟩) 2 c ∧ KSt w w2 g d1 (ask6 1) (ask6 2) := by
  rcases o.2 with ⟨_, e⟩ | ⟨g, c, cur, e, hb, hg, hnc, hcm, hcs, ht⟩
  · cases e
  · have hcell : ∀ j u, (ask6 1 ++ ask6 2)[j]? = some u → w2.cell? ⟨g, j, none⟩ = some u := fun j u hj => by
      rw [← ht, List.getElem?_take] at hj
      split at hj
      · simp only [World.cell?, hg]; simpa using hj
      · cases hj
    refine ⟨g, c, e, k.au, fun K hK => (k.blk K (by have := b.size; omega) (by omega)).trans (b.block K hK), by have := b.size; have := k.sz; omega, ⟨k.os.trans b.os, k.tape.trans b.tape, k.output.trans b.output⟩, ⟨by omega, (Array.getElem?_eq_some_iff.1 hg).1⟩, fun j u hj => ?_, fun j u hj => ?_⟩
    · rw [Nat.zero_add]
      exact hcell j u (by rw [List.getElem?_append_left (by have := (List.getElem?_eq_some_iff.1 hj).1; exact this)]; exact hj)
    · exact hcell (18 + j) u (by rw [List.getElem?_append_right (by show 18 ≤ 18 + j; omega)]; rw [show 18 + j - (ask6 1).length = j from by show 18 + j - 18 = j; omega]; exact hj)
/-- All have told their rows. -/
theorem lists_two {W : World} {G : Nat} {D : AuD} {q0 q1 : Option Addr} {n0 n1 : Nat} (h : AuIn W G D) (e0 : D.v0 = .slice q0 1 n0) (e1 : D.v1 = .slice q1 1 n1) (r0 : RowsX W q0 1 [(bobT, 1)]) (r1 : RowsX W q1 1 [(annT, 2)]) (z0 : q0 = none → n0 = 0) (z1 : q1 = none → n1 = 0) : ListsX W (some ⟨G, 6, none⟩) 2 [[(bobT, 1)], [(annT, 2)]] := by
  refine ⟨rfl, .inr ⟨G, 6, rfl, fun j hj => ?_⟩⟩
  simp only [AuIn] at h
  rcases (by simp at hj; omega : j = 0 ∨ j = 1) with rfl | rfl
  · exact ⟨q0, n0, by rw [e0] at h; simp [World.cell?, h], r0, z0⟩
  · exact ⟨q1, n1, by rw [e1] at h; simp [World.cell?, h], r1, z1⟩
end Go.Proofs.Ytckldjiabalgbaa
