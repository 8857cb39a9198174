/- Package book: change: something is done with an account. -/
import Derived.Test.YtabhgdmmljhpcabDoorBName
import Derived.Laws.CopyRow
namespace Go.Proofs.YtabhgdmmljhpcabDoor
open Go.RowKit
attribute [local go_sem] Oper.semAt_some
set_option linter.unusedVariables false

theorem cells3_set : ∀ (l : List Acc) (c : Nat) (q : Acc), c < l.length → cells3 (l.set c q) = (((cells3 l).set (c * 3) (.string q.nm)).set (c * 3 + 1) (.int .i64 q.amt)).set (c * 3 + 2) (.string q.by_)
  | p :: l, 0, q, _ => by simp [cells3_cons, Acc.cells]
  | p :: l, c + 1, q, h => by
    have ih := cells3_set l c q (by simpa using h)
    have e1 : (c + 1) * 3 = c * 3 + 1 + 1 + 1 := by omega
    rw [List.set_cons_succ, cells3_cons, cells3_cons, ih, e1]
    simp [Acc.cells]
section
variable {w w' : World} {base N : Nat} {sv : Value} {L : List Acc}
/-- One account's cells are turned. -/
theorem BookIn.turn (h : BookIn w base N sv L) {g n cap c : Nat} (esv : sv = .slice (some ⟨g, 0, none⟩) n cap) (q : Acc) (hc : c < L.length) (hu : under L q.nm = c) (hf : Fit (upd L q)) :
    BookIn (((w.setCell ⟨g, c * 3, none⟩ (.string q.nm)).setCell ⟨g, c * 3 + 1, none⟩ (.int .i64 q.amt)).setCell ⟨g, c * 3 + 2, none⟩ (.string q.by_)) base N sv (upd L q) ∧
      Chg w (((w.setCell ⟨g, c * 3, none⟩ (.string q.nm)).setCell ⟨g, c * 3 + 1, none⟩ (.int .i64 q.amt)).setCell ⟨g, c * 3 + 2, none⟩ (.string q.by_)) N sv.ownBlock := by
  have hgN : g ≠ N := h.ne (by rw [esv]; rfl)
  have eo : sv.ownBlock = some g := by rw [esv]; rfl
  rcases h.row.2 with ⟨e1, _⟩ | ⟨g', c', cur, e1, hb, hg, hnc, hcm, hcs, htake⟩
  · rw [esv] at e1; simp at e1
  · rw [esv] at e1
    simp only [Value.slice.injEq, Option.some.injEq, Addr.mk.injEq, and_true] at e1
    obtain ⟨rfl, hn, rfl⟩ := e1
    have hcl := cells3_length L
    rw [setCell_eq_setRow w g _ cur _ _ _ hg]
    have hg1 := setRow_heap w g cur (cur.setIfInBounds (c * 3) (.string q.nm)) _ _ hg
    rw [setCell_eq_setRow _ g _ _ _ _ _ hg1, setRow_setRow]
    have hg2 := setRow_heap w g cur ((cur.setIfInBounds (c * 3) (.string q.nm)).setIfInBounds (c * 3 + 1) (.int .i64 q.amt)) _ _ hg
    rw [setCell_eq_setRow _ g _ _ _ _ _ hg2, setRow_setRow]
    refine ⟨⟨?_, ⟨?_, .inr ⟨g, cap, _, ?_, hb, setRow_heap w g cur _ _ _ hg, ?_, hcm, ?_, ?_⟩⟩, h.bN, hf⟩, ⟨rfl, rfl, rfl, by simp, fun k hk h1 h2 => ?_⟩⟩
    · rw [setRow_other _ _ _ _ (Ne.symm hgN)]
      exact h.hN
    · rw [cells3_length]
    · rw [esv, upd_length, ← hn]
    · rw [upd_length]; exact hnc
    · simp only [Array.size_setIfInBounds]; exact hcs
    · rw [upd_length]
      unfold upd
      rw [hu, cells3_set L c q hc, ← htake]
      simp only [Array.toList_setIfInBounds, List.take_set]
    · exact setRow_other _ _ _ _ (fun e => h2 (by rw [e, eo]))
theorem BookIn.drew (h : BookIn w base N sv L) : BookIn w.drew base N sv L := h.keep rfl (fun _ _ => rfl)
theorem Chg.drew {row : Option Nat} (h : Chg w w' N row) : Chg w w'.drew N row := ⟨h.os, h.tape, h.output, h.size, h.block⟩
set_option maxRecDepth 100000 in
theorem change_none (h : BookIn w base N sv L) (t : ByteArray) (hp : hasN L t = false) (fv : Value) :
    Calls Tryd.prog 28 #[.pointer (some ⟨N, 0, none⟩), .string t, fv] w fun e w' => e = .returned (.int .i64 40) ∧ Below w.heap.size w w' := by
  have HF := look_none h t hp
  clear h hp
  go_enter Tryd.func28, Tryd.ntmps28
  go_wp2_with fail
  refine HF.mono ?_
  rintro e w1 ⟨rfl, b1⟩
  have B1 : Hid (Below w.heap.size w w1) := b1
  clear b1 HF
  go_wp2
  go_ret
  exact ⟨rfl, B1.out.alloc B1.out.size _⟩
/-- A function that is handed in does this with an account. -/
def DoesTo (w : World) (f : Nat) (cap : Array Value) (p : Acc) (why : Int) (q : Acc) : Prop :=
  ∀ K W, Below w.heap.size w W → w.heap.size ≤ K → W.heap[K]? = some (.cells #[.string p.nm, .int .i64 p.amt, .string p.by_] 42 (0, 0)) →
    Calls Tryd.prog f (#[.pointer (some ⟨K, 0, none⟩)] ++ cap) W fun e W' => e = .returned (.int .i64 why) ∧ Below w.heap.size w W' ∧ W'.heap[K]? = some (.cells #[.string q.nm, .int .i64 q.amt, .string q.by_] 42 (0, 0))
set_option maxRecDepth 100000 in
theorem change_no (h : BookIn w base N sv L) (t : ByteArray) (p : Acc) (hp : getA L t = some p) (f : Nat) (c0 : Value) (why : Int) (q : Acc) (hw : why ≠ 0) (hd : DoesTo w f #[c0] p why q) (hcf : ∀ args w, (callFunc f args).run Tryd.prog w = .ok (.enter f args) w) :
    Calls Tryd.prog 28 #[.pointer (some ⟨N, 0, none⟩), .string t, .func (.func f) #[] #[c0]] w fun e w' => e = .returned (.int .i64 why) ∧ Below w.heap.size w w' := by
  have HF := look_some h t p hp
  have HD : Hid (DoesTo w f #[c0] p why q) := hd
  have hwn : ((why : Int) != 0) = true := by simpa using hw
  clear h hp hd
  obtain ⟨nm, amt, by_⟩ := p
  simp only at HF
  go_enter Tryd.func28, Tryd.ntmps28
  go_wp2_with fail
  refine HF.mono ?_
  rintro e w1 ⟨rfl, b1⟩
  have B1 : Hid (Below w.heap.size w w1) := b1
  clear b1 HF
  go_wp2_with fail
  have hnew := heap_alloc_new w1 (.cells #[.string nm, .int .i64 amt, .string by_] 42)
  refine (HD.out w1.heap.size _ (B1.out.alloc B1.out.size _) B1.out.size hnew).mono ?_
  rintro e w2 ⟨rfl, b2, h2⟩
  have B2 : Hid (Below w.heap.size w w2) := b2
  clear b2 h2 hnew
  go_wp2
  go_ret
  exact ⟨rfl, B2.out⟩
set_option maxRecDepth 100000 in
theorem change_yes (h : BookIn w base N sv L) (t : ByteArray) (p : Acc) (hp : getA L t = some p) (f : Nat) (c0 : Value) (q : Acc) (hd : DoesTo w f #[c0] p 0 q) (hcf : ∀ args w, (callFunc f args).run Tryd.prog w = .ok (.enter f args) w) (hqn : q.nm = p.nm) (hqa : 0 ≤ q.amt ∧ q.amt ≤ 9223372036854775807) (hqb : q.by_.size ≤ 65536) :
    Calls Tryd.prog 28 #[.pointer (some ⟨N, 0, none⟩), .string t, .func (.func f) #[] #[c0]] w fun e w' => e = .returned (.int .i64 0) ∧ BookIn w' base N sv (upd L q) ∧ Chg w w' N sv.ownBlock := by
  have HF := look_some h t p hp
  have HD : Hid (DoesTo w f #[c0] p 0 q) := hd
  obtain ⟨hh, hk, g, cap, esv, hg, hgN, _, _, _⟩ := h.gotAt hp
  have hpt := (h.fit.got hp).2.1
  have hqt : q.nm = t := hqn.trans hpt
  have HFit : Hid (Fit (upd L q)) := h.fit.upd q (by rw [hqt]; exact hh) hqa hqb
  have HU : Hid (under L q.nm = under L t) := by show under L q.nm = under L t; rw [hqt]
  have H : Hid (BookIn w base N sv L) := h
  have ES : Hid (sv = .slice (some ⟨g, 0, none⟩) L.length cap) := esv
  have HP : Hid (∀ W, Below w.heap.size w W → Calls Tryd.prog 23 #[.pointer (some ⟨N, 0, none⟩), .string t] W fun e w' => e = .returned (.tuple #[.int .i64 (under L t : Nat), .bool true]) ∧ Below W.heap.size W w') := fun W hb => by
    have := place_any (h.below hb) t
    rw [hh] at this
    exact this
  have HK : Hid (under L t < L.length) := hk
  have hl : L.length ≤ 200 := h.fit.len
  have hlN := h.ltN
  clear h hp hd hqn hqa hqb hpt hqt hh hgN
  obtain ⟨nm, amt, by_⟩ := p
  obtain ⟨qm, qa, qb⟩ := q
  simp only at HF
  go_enter Tryd.func28, Tryd.ntmps28
  go_wp2_with fail
  refine HF.mono ?_
  rintro e w1 ⟨rfl, b1⟩
  have B1 : Hid (Below w.heap.size w w1) := b1
  clear b1 HF
  go_wp2_with fail
  have hnew := heap_alloc_new w1 (.cells #[.string nm, .int .i64 amt, .string by_] 42)
  refine (HD.out w1.heap.size _ (B1.out.alloc B1.out.size _) B1.out.size hnew).mono ?_
  rintro e w2 ⟨rfl, b2, h2⟩
  have B2 : Hid (Below w.heap.size w w2) := b2
  have H2 : Hid (w2.heap[w1.heap.size]? = some (.cells #[.string qm, .int .i64 qa, .string qb] 42 (0, 0))) := h2
  clear b2 h2 hnew
  go_wp2_with fail
  refine (HP.out w2 B2.out).mono ?_
  rintro e w3 ⟨rfl, b3⟩
  have hsz : w1.heap.size < w2.heap.size := (Array.getElem?_eq_some_iff.1 H2.out).1
  have h3 : w3.heap[w1.heap.size]? = some (.cells #[.string qm, .int .i64 qa, .string qb] 42 (0, 0)) := (b3.block _ hsz).trans H2.out
  have z0 : w3.cell? ⟨w1.heap.size, 0, none⟩ = some (.string qm) := by simp [World.cell?, h3]
  have z1 : w3.cell? ⟨w1.heap.size, 1, none⟩ = some (.int .i64 qa) := by simp [World.cell?, h3]
  have z2 : w3.cell? ⟨w1.heap.size, 2, none⟩ = some (.string qb) := by simp [World.cell?, h3]
  have B3 : Hid (Below w.heap.size w w3) := B2.out.trans (b3.mono B2.out.size)
  have hB := H.out.below B3.out
  have k0 := hB.c0
  rw [ES.out] at k0
  obtain ⟨g', c', e', y0, y1, y2⟩ := row_at hB.row rfl HK.out
  rw [ES.out] at e'
  cases e'
  have f0 : ∀ i, w3.frozen? ⟨g, i, none⟩ = false := fun i => by
    obtain ⟨_, _, cur, hcur⟩ := row_kind hB.row (g := g) (by rw [ES.out]; rfl)
    simp [World.frozen?, hcur]
  have HB : Hid (BookIn w3 base N sv L) := hB
  obtain ⟨c, ec⟩ : ∃ c, under L t = c := ⟨_, rfl⟩
  have EC : Hid (under L t = c) := ec
  have hkc := HK.out
  rw [ec] at hkc
  generalize L[under L t]'HK.out = y at y0 y1 y2
  rw [ec] at y0 y1 y2
  obtain ⟨n, en⟩ : ∃ n, L.length = n := ⟨_, rfl⟩
  have EN : Hid (L.length = n) := en
  rw [en] at k0 hl hkc
  have hne : g ≠ w1.heap.size := by have := B1.out.size; omega
  have hne' : w1.heap.size ≠ g := Ne.symm hne
  clear h3 b3 hB en
  rw [ec]
  clear ec HP HD
  go_wp2
  go_region
  go_wp2
  go_ret
  have := HB.out.turn (q := ⟨qm, qa, qb⟩) ES.out (by rw [EC.out.symm]; exact HK.out : c < L.length) (HU.out.trans EC.out) HFit.out
  exact ⟨rfl, this.1.drew, (Chg.of_below B3.out _ _).trans this.2.drew (fun g e => .inl e)⟩
end
end Go.Proofs.YtabhgdmmljhpcabDoor
