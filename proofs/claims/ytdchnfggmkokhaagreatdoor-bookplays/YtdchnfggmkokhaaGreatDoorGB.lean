/- Package book: change: something is done with an account. -/
import Derived.Test.YtdchnfggmkokhaaGreatDoorGA
import Derived.Laws.CopyRow
namespace Go.Proofs.YtdchnfggmkokhaaGreatDoor
open Go.RowKit
attribute [local go_sem] Oper.semAt_some
set_option linter.unusedVariables false

theorem cells3_set : ∀ (l : List Acc) (c : Nat) (q : Acc), c < l.length → cells3 (l.set c q) = (((cells3 l).set (c * 3) (.string q.nm)).set (c * 3 + 1) (.int .i64 q.amt)).set (c * 3 + 2) (.string q.by_)
  | p :: l, 0, q, _ => by simp [cells3_cons, Acc.cells]
  | p :: l, c + 1, q, h => by
    have ih := cells3_set l c q (by simpa using h)
    have e1 : (c + 1) * 3 = c * 3 + 1 + 1 + 1 := by omega
    rw [List.set_cons_succ, cells3_cons, cells3_cons, ih, e1]
    simp [Acc.cells]
section
variable {w w' : World} {base N : Nat} {sv : Value} {L : List Acc}
/-- One account's cells are turned. -/
theorem BookIn.turn (h : BookIn w base N sv L) {g n cap c : Nat} (esv : sv = .slice (some ⟨g, 0, none⟩) n cap) (q : Acc) (hc : c < L.length) (hu : under L q.nm = c) (hf : Fit (upd L q)) :
    BookIn (((w.setCell ⟨g, c * 3, none⟩ (.string q.nm)).setCell ⟨g, c * 3 + 1, none⟩ (.int .i64 q.amt)).setCell ⟨g, c * 3 + 2, none⟩ (.string q.by_)) base N sv (upd L q) ∧
      Chg w (((w.setCell ⟨g, c * 3, none⟩ (.string q.nm)).setCell ⟨g, c * 3 + 1, none⟩ (.int .i64 q.amt)).setCell ⟨g, c * 3 + 2, none⟩ (.string q.by_)) N sv.ownBlock := by
  have hgN : g ≠ N := h.ne (by rw [esv]; rfl)
  have eo : sv.ownBlock = some g := by rw [esv]; rfl
  rcases h.row.2 with ⟨e1, _⟩ | ⟨g', c', cur, e1, hb, hg, hnc, hcm, hcs, htake⟩
  · rw [esv] at e1; simp at e1
  · rw [esv] at e1
    simp only [Value.slice.injEq, Option.some.injEq, Addr.mk.injEq, and_true] at e1
    obtain ⟨rfl, hn, rfl⟩ := e1
    have hcl := cells3_length L
    rw [setCell_eq_setRow w g _ cur _ _ _ hg]
    have hg1 := setRow_heap w g cur (cur.setIfInBounds (c * 3) (.string q.nm)) _ _ hg
    rw [setCell_eq_setRow _ g _ _ _ _ _ hg1, setRow_setRow]
    have hg2 := setRow_heap w g cur ((cur.setIfInBounds (c * 3) (.string q.nm)).setIfInBounds (c * 3 + 1) (.int .i64 q.amt)) _ _ hg
    rw [setCell_eq_setRow _ g _ _ _ _ _ hg2, setRow_setRow]
    refine ⟨⟨?_, ⟨?_, .inr ⟨g, cap, _, ?_, hb, setRow_heap w g cur _ _ _ hg, ?_, hcm, ?_, ?_⟩⟩, h.bN, hf⟩, ⟨rfl, rfl, rfl, by simp, fun k hk h1 h2 => ?_⟩⟩
    · rw [setRow_other _ _ _ _ (Ne.symm hgN)]
      exact h.hN
    · rw [cells3_length]
    · rw [esv, upd_length, ← hn]
    · rw [upd_length]; exact hnc
    · simp only [Array.size_setIfInBounds]; exact hcs
    · rw [upd_length]
      unfold upd
      rw [hu, cells3_set L c q hc, ← htake]
      simp only [Array.toList_setIfInBounds, List.take_set]
    · exact setRow_other _ _ _ _ (fun e => h2 (by rw [e, eo]))
theorem BookIn.drew (h : BookIn w base N sv L) : BookIn w.drew base N sv L := h.keep rfl (fun _ _ => rfl)
theorem Chg.drew {row : Option Nat} (h : Chg w w' N row) : Chg w w'.drew N row := ⟨h.os, h.tape, h.output, h.size, h.block⟩
set_option maxRecDepth 100000 in
theorem change_none (h : BookIn w base N sv L) (t : ByteArray) (hp : hasN L t = false) (fv : Value) :
    Calls Tryz.prog 61 #[.pointer (some ⟨N, 0, none⟩), .string t, fv] w fun e w' => e = .returned (.int .i64 40) ∧ Below w.heap.size w w' := by
  have HF := look_none h t hp
  clear h hp
  go_enter Tryz.func61, Tryz.ntmps61
  go_wp2_with fail
  refine HF.mono ?_
  rintro e w1 ⟨rfl, b1⟩
  have B1 : Hid (Below w.heap.size w w1) := b1
  clear b1 HF
  go_wp2
  go_ret
  exact ⟨rfl, B1.out.alloc B1.out.size _⟩
/-- A function that is handed in does this with an account. -/
def DoesTo (w : World) (f : Nat) (cap : Array Value) (p : Acc) (why : Int) (q : Acc) : Prop :=
  ∀ K W, Below w.heap.size w W → w.heap.size ≤ K → W.heap[K]? = some (.cells #[.string p.nm, .int .i64 p.amt, .string p.by_] 52 (0, 0)) →
    Calls Tryz.prog f (#[.pointer (some ⟨K, 0, none⟩)] ++ cap) W fun e W' => e = .returned (.int .i64 why) ∧ Below w.heap.size w W' ∧ W'.heap[K]? = some (.cells #[.string q.nm, .int .i64 q.amt, .string q.by_] 52 (0, 0))
set_option maxRecDepth 100000 in
theorem change_no (h : BookIn w base N sv L) (t : ByteArray) (p : Acc) (hp : getA L t = some p) (f : Nat) (c0 : Value) (why : Int) (q : Acc) (hw : why ≠ 0) (hd : DoesTo w f #[c0] p why q) (hcf : ∀ args w, (callFunc f args).run Tryz.prog w = .ok (.enter f args) w) :
    Calls Tryz.prog 61 #[.pointer (some ⟨N, 0, none⟩), .string t, .func (.func f) #[] #[c0]] w fun e w' => e = .returned (.int .i64 why) ∧ Below w.heap.size w w' := by
  have HF := look_some h t p hp
  have HD : Hid (DoesTo w f #[c0] p why q) := hd
  have hwn : ((why : Int) != 0) = true := by simpa using hw
  clear h hp hd
  obtain ⟨nm, amt, by_⟩ := p
  simp only at HF
  go_enter Tryz.func61, Tryz.ntmps61
  go_wp2_with fail
  refine HF.mono ?_
  rintro e w1 ⟨rfl, b1⟩
  have B1 : Hid (Below w.heap.size w w1) := b1
  clear b1 HF
  go_wp2_with fail
  have hnew := heap_alloc_new w1 (.cells #[.string nm, .int .i64 amt, .string by_] 52)
  refine (HD.out w1.heap.size _ (B1.out.alloc B1.out.size _) B1.out.size hnew).mono ?_
  rintro e w2 ⟨rfl, b2, h2⟩
  have B2 : Hid (Below w.heap.size w w2) := b2
  clear b2 h2 hnew
  go_wp2
  go_ret
  exact ⟨rfl, B2.out⟩
set_option maxRecDepth 100000 in
theorem change_yes (h : BookIn w base N sv L) (t : ByteArray) (p : Acc) (hp : getA L t = some p) (f : Nat) (c0 : Value) (q : Acc) (hd : DoesTo w f #[c0] p 0 q) (hcf : ∀ args w, (callFunc f args).run Tryz.prog w = .ok (.enter f args) w) (hqn : q.nm = p.nm) (hqa : 0 ≤ q.amt ∧ q.amt ≤ 9223372036854775807) (hqb : q.by_.size ≤ 65536) :
    Calls Tryz.prog 61 #[.pointer (some ⟨N, 0, none⟩), .string t, .func (.func f) #[] #[c0]] w fun e w' => e = .returned (.int .i64 0) ∧ BookIn w' base N sv (upd L q) ∧ Chg w w' N sv.ownBlock := by
  have HF := look_some h t p hp
  have HD : Hid (DoesTo w f #[c0] p 0 q) := hd
  obtain ⟨hh, hk, g, cap, esv, hg, hgN, _, _, _⟩ := h.gotAt hp
  have hpt := (h.fit.got hp).2.1
  have hqt : q.nm = t := hqn.trans hpt
  have HFit : Hid (Fit (upd L q)) := h.fit.upd q (by rw [hqt]; exact hh) hqa hqb
  have HU : Hid (under L q.nm = under L t) := by show under L q.nm = under L t; rw [hqt]
  have H : Hid (BookIn w base N sv L) := h
  have ES : Hid (sv = .slice (some ⟨g, 0, none⟩) L.length cap) := esv
  have HP : Hid (∀ W, Below w.heap.size w W → Calls Tryz.prog 68 #[.pointer (some ⟨N, 0, none⟩), .string t] W fun e w' => e = .returned (.tuple #[.int .i64 (under L t : Nat), .bool true]) ∧ Below W.heap.size W w') := fun W hb => by
    have := place_any (h.below hb) t
    rw [hh] at this
    exact this
  have HK : Hid (under L t < L.length) := hk
  have hl : L.length ≤ 200 := h.fit.len
  have hlN := h.ltN
  clear h hp hd hqn hqa hqb hpt hqt hh hgN
  obtain ⟨nm, amt, by_⟩ := p
  obtain ⟨qm, qa, qb⟩ := q
  simp only at HF
  go_enter Tryz.func61, Tryz.ntmps61
  go_wp2_with fail
  refine HF.mono ?_
  rintro e w1 ⟨rfl, b1⟩
  have B1 : Hid (Below w.heap.size w w1) := b1
  clear b1 HF
  go_wp2_with fail
  have hnew := heap_alloc_new w1 (.cells #[.string nm, .int .i64 amt, .string by_] 52)
  refine (HD.out w1.heap.size _ (B1.out.alloc B1.out.size _) B1.out.size hnew).mono ?_
  rintro e w2 ⟨rfl, b2, h2⟩
  have B2 : Hid (Below w.heap.size w w2) := b2
  have H2 : Hid (w2.heap[w1.heap.size]? = some (.cells #[.string qm, .int .i64 qa, .string qb] 52 (0, 0))) := h2
  clear b2 h2 hnew
  go_wp2_with fail
  refine (HP.out w2 B2.out).mono ?_
  rintro e w3 ⟨rfl, b3⟩
  have hsz : w1.heap.size < w2.heap.size := (Array.getElem?_eq_some_iff.1 H2.out).1
  have h3 : w3.heap[w1.heap.size]? = some (.cells #[.string qm, .int .i64 qa, .string qb] 52 (0, 0)) := (b3.block _ hsz).trans H2.out
  have z0 : w3.cell? ⟨w1.heap.size, 0, none⟩ = some (.string qm) := by simp [World.cell?, h3]
  have z1 : w3.cell? ⟨w1.heap.size, 1, none⟩ = some (.int .i64 qa) := by simp [World.cell?, h3]
  have z2 : w3.cell? ⟨w1.heap.size, 2, none⟩ = some (.string qb) := by simp [World.cell?, h3]
  have B3 : Hid (Below w.heap.size w w3) := B2.out.trans (b3.mono B2.out.size)
  have hB := H.out.below B3.out
  have k0 := hB.c0
  rw [ES.out] at k0
  obtain ⟨g', c', e', y0, y1, y2⟩ := row_at hB.row rfl HK.out
  rw [ES.out] at e'
  cases e'
  have f0 : ∀ i, w3.frozen? ⟨g, i, none⟩ = false := fun i => by
    obtain ⟨_, _, cur, hcur⟩ := row_kind hB.row (g := g) (by rw [ES.out]; rfl)
    simp [World.frozen?, hcur]
  have HB : Hid (BookIn w3 base N sv L) := hB
  obtain ⟨c, ec⟩ : ∃ c, under L t = c := ⟨_, rfl⟩
  have EC : Hid (under L t = c) := ec
  have hkc := HK.out
  rw [ec] at hkc
  generalize L[under L t]'HK.out = y at y0 y1 y2
  rw [ec] at y0 y1 y2
  obtain ⟨n, en⟩ : ∃ n, L.length = n := ⟨_, rfl⟩
  have EN : Hid (L.length = n) := en
  rw [en] at k0 hl hkc
  have hne : g ≠ w1.heap.size := by have := B1.out.size; omega
  have hne' : w1.heap.size ≠ g := Ne.symm hne
  clear h3 b3 hB en
  rw [ec]
  clear ec HP HD
  go_wp2
  go_region
  go_wp2
  go_ret
  have := HB.out.turn (q := ⟨qm, qa, qb⟩) ES.out (by rw [EC.out.symm]; exact HK.out : c < L.length) (HU.out.trans EC.out) HFit.out
  exact ⟨rfl, this.1.drew, (Chg.of_below B3.out _ _).trans this.2.drew (fun g e => .inl e)⟩
end
end Go.Proofs.YtdchnfggmkokhaaGreatDoor

namespace Go.Proofs.YtdchnfggmkokhaaGreatDoor
open Go.RowKit
attribute [local go_sem] Oper.semAt_some
set_option linter.unusedVariables false

/-- What becomes of a book behind a call that changes it. -/
def BTold (w w' : World) (base N : Nat) (sv : Value) (L' : List Acc) : Prop := ∃ sv', BookIn w' base N sv' L' ∧ Chg w w' N sv.ownBlock ∧ (∀ k, sv'.ownBlock = some k → sv.ownBlock = some k ∨ w.heap.size ≤ k)
theorem BTold.same {w w' : World} {base N : Nat} {sv : Value} {L : List Acc} (h : BookIn w base N sv L) (b : Below w.heap.size w w') : BTold w w' base N sv L := ⟨sv, h.below b, Chg.of_below b _ _, fun k e => .inl e⟩
theorem BTold.after {w w1 w' : World} {base N : Nat} {sv : Value} {L' : List Acc} (b : Below w.heap.size w w1) (h : BTold w1 w' base N sv L') : BTold w w' base N sv L' := by
  obtain ⟨sv', h1, h2, h3⟩ := h
  exact ⟨sv', h1, (Chg.of_below b _ _).trans h2 (fun g e => .inl e), fun k e => (h3 k e).imp id (fun q => Nat.le_trans b.size q)⟩
/-- Money comes. -/
def addP (n : Int) (p : Acc) : Int × Acc := if n < 1 then (47, p) else if 9223372036854775807 - n < p.amt then (43, p) else (0, ⟨p.nm, p.amt + n, p.by_⟩)
/-- Money goes. -/
def takeP (n : Int) (p : Acc) : Int × Acc := if n < 1 then (47, p) else if p.amt < n then (42, p) else (0, ⟨p.nm, p.amt - n, p.by_⟩)
/-- Somebody holds it. -/
def holdP (s : ByteArray) (p : Acc) : Int × Acc := if s.size = 0 ∨ 65536 < s.size then (1, p) else if p.by_.size ≠ 0 ∧ p.by_ ≠ s then (5, p) else (0, ⟨p.nm, p.amt, s⟩)
/-- Nobody does. -/
def freeP (s : ByteArray) (p : Acc) : Int × Acc := if s.size = 0 ∨ p.by_ ≠ s then (5, p) else (0, ⟨p.nm, p.amt, ⟨#[]⟩⟩)
theorem cells3_of {W : World} {K : Nat} {a b c : Value} {t : TypeId} (h : W.heap[K]? = some (.cells #[a, b, c] t (0, 0))) : W.cell? ⟨K, 0, none⟩ = some a ∧ W.cell? ⟨K, 1, none⟩ = some b ∧ W.cell? ⟨K, 2, none⟩ = some c ∧ (∀ i, W.frozen? ⟨K, i, none⟩ = false) := by
  refine ⟨?_, ?_, ?_, fun i => ?_⟩ <;> simp [World.cell?, World.frozen?, h]
theorem set_of3 {W : World} {K i : Nat} {cs : Array Value} {v : Value} {t : TypeId} (h : W.heap[K]? = some (.cells cs t (0, 0))) : (W.setCell ⟨K, i, none⟩ v).heap[K]? = some (.cells (cs.setIfInBounds i v) t (0, 0)) := by
  rw [setCell_eq_setRow W K i cs t (0, 0) v h]
  exact setRow_heap _ _ _ _ _ _ h
/-- Something is done with the account of a name. -/
def onP (L : List Acc) (t : ByteArray) (f : Acc → Int × Acc) : Int × List Acc := match getA L t with | none => (40, L) | some p => if (f p).1 = 0 then (0, upd L (f p).2) else ((f p).1, L)
theorem on_any {w : World} {base N : Nat} {sv : Value} {L : List Acc} (h : BookIn w base N sv L) (t : ByteArray) (fn : Nat) (c0 : Value) (f : Acc → Int × Acc) (hcf : ∀ args w, (callFunc fn args).run Tryz.prog w = .ok (.enter fn args) w)
    (hd : ∀ p, getA L t = some p → DoesTo w fn #[c0] p (f p).1 (f p).2) (hf : ∀ p, getA L t = some p → (f p).1 = 0 → (f p).2.nm = p.nm ∧ (0 ≤ (f p).2.amt ∧ (f p).2.amt ≤ 9223372036854775807) ∧ (f p).2.by_.size ≤ 65536) :
    Calls Tryz.prog 61 #[.pointer (some ⟨N, 0, none⟩), .string t, .func (.func fn) #[] #[c0]] w fun e w' => e = .returned (.int .i64 (onP L t f).1) ∧ BTold w w' base N sv (onP L t f).2 := by
  unfold onP
  cases hg : getA L t with
  | none =>
    refine (change_none h t ((getA_none _ _).1 hg) _).mono ?_
    rintro e w' ⟨rfl, b⟩
    exact ⟨rfl, BTold.same h b⟩
  | some p =>
    simp only
    by_cases hz : (f p).1 = 0
    · rw [if_pos hz]
      obtain ⟨q1, q2, q3⟩ := hf p hg hz
      have hd' := hd p hg
      rw [hz] at hd'
      refine (change_yes h t p hg fn c0 (f p).2 hd' hcf q1 q2 q3).mono ?_
      rintro e w' ⟨rfl, hb, hc⟩
      exact ⟨rfl, sv, hb, hc, fun k e => .inl e⟩
    · rw [if_neg hz]
      refine (change_no h t p hg fn c0 (f p).1 (f p).2 hz (hd p hg) hcf).mono ?_
      rintro e w' ⟨rfl, b⟩
      exact ⟨rfl, BTold.same h b⟩
theorem addP_fit (n : Int) (hn : -9223372036854775808 ≤ n ∧ n ≤ 9223372036854775807) (p : Acc) (q1 : 0 ≤ p.amt) (q2 : p.amt ≤ 9223372036854775807) (q3 : p.by_.size ≤ 65536) (hz : (addP n p).1 = 0) : (addP n p).2.nm = p.nm ∧ (0 ≤ (addP n p).2.amt ∧ (addP n p).2.amt ≤ 9223372036854775807) ∧ (addP n p).2.by_.size ≤ 65536 := by
  unfold addP at hz ⊢
  split at hz
  · simp at hz
  · split at hz
    · simp at hz
    · rename_i h1 h2
      rw [if_neg h1, if_neg h2]
      exact ⟨rfl, ⟨by simp only; omega, by simp only; omega⟩, q3⟩
theorem takeP_fit (n : Int) (hn : -9223372036854775808 ≤ n ∧ n ≤ 9223372036854775807) (p : Acc) (q1 : 0 ≤ p.amt) (q2 : p.amt ≤ 9223372036854775807) (q3 : p.by_.size ≤ 65536) (hz : (takeP n p).1 = 0) : (takeP n p).2.nm = p.nm ∧ (0 ≤ (takeP n p).2.amt ∧ (takeP n p).2.amt ≤ 9223372036854775807) ∧ (takeP n p).2.by_.size ≤ 65536 := by
  unfold takeP at hz ⊢
  split at hz
  · simp at hz
  · split at hz
    · simp at hz
    · rename_i h1 h2
      rw [if_neg h1, if_neg h2]
      exact ⟨rfl, ⟨by simp only; omega, by simp only; omega⟩, q3⟩
set_option maxRecDepth 100000 in
theorem does_add (w : World) (bx : Nat) (n : Int) (hb : w.cell? ⟨bx, 0, none⟩ = some (.int .i64 n)) (hn : -9223372036854775808 ≤ n ∧ n ≤ 9223372036854775807) (p : Acc) (hp : 0 ≤ p.amt ∧ p.amt ≤ 9223372036854775807) :
    DoesTo w 62 #[.pointer (some ⟨bx, 0, none⟩)] p (addP n p).1 (addP n p).2 := by
  intro K W bel hK hW
  obtain ⟨k0, k1, k2, kf⟩ := cells3_of hW
  have hbx : W.cell? ⟨bx, 0, none⟩ = some (.int .i64 n) := (bel.cell (p := ⟨bx, 0, none⟩) (World.block_lt_of_cell? w _ hb)).trans hb
  have HB : Hid (Below w.heap.size w W) := bel
  have HW : Hid (W.heap[K]? = some (.cells #[.string p.nm, .int .i64 p.amt, .string p.by_] 52 (0, 0))) := hW
  have kf1 := kf 1
  unfold addP
  clear hb bel hW kf
  obtain ⟨nm, amt, by_⟩ := p
  simp only at *
  by_cases h1 : n < 1
  · rw [if_pos h1]
    go_enter Tryz.func62, Tryz.ntmps62
    go_wp2
    go_ret
    exact ⟨rfl, HB.out, HW.out⟩
  · rw [if_neg h1]
    by_cases h2 : 9223372036854775807 - n < amt
    · rw [if_pos h2]
      go_enter Tryz.func62, Tryz.ntmps62
      go_wp2
      go_quiet (fail)
      go_wp2
      go_ret
      exact ⟨rfl, below_drewN' HB.out _, HW.out⟩
    · rw [if_neg h2]
      go_enter Tryz.func62, Tryz.ntmps62
      go_wp2
      go_quiet (fail)
      go_wp2
      go_region
      go_wp2
      go_ret
      refine ⟨rfl, ?_, ?_⟩
      · refine Below.setCell (below_drewN' HB.out _) ?_ _
        exact hK
      · exact set_of3 (W := W) HW.out
set_option maxRecDepth 100000 in
theorem add_any {w : World} {base N : Nat} {sv : Value} {L : List Acc} (h : BookIn w base N sv L) (t : ByteArray) (n : Int) (hn : -9223372036854775808 ≤ n ∧ n ≤ 9223372036854775807) :
    Calls Tryz.prog 26 #[.pointer (some ⟨N, 0, none⟩), .string t, .int .i64 n] w fun e w' => e = .returned (.int .i64 (onP L t (addP n)).1) ∧ BTold w w' base N sv (onP L t (addP n)).2 := by
  have b0 : Below w.heap.size w (w.alloc (.cells #[.int .i64 n] 2)) := (Below.refl _ w).alloc (Nat.le_refl _) _
  have HC := on_any (h.below b0) t 62 (.pointer (some ⟨w.heap.size, 0, none⟩)) (addP n) (fun args w => by kernel_rfl) (fun p hp => does_add _ w.heap.size n (by rw [World.cell?_alloc_mark]; rfl) hn p (by obtain ⟨_, _, _, q1, q2, _⟩ := h.fit.got hp; exact ⟨q1, q2⟩)) (fun p hp => by
    obtain ⟨_, _, _, q1, q2, q3⟩ := h.fit.got hp
    exact addP_fit n hn p q1 q2 q3)
  have B0 : Hid (Below w.heap.size w (w.alloc (.cells #[.int .i64 n] 2))) := b0
  clear b0 h
  go_enter Tryz.func26, Tryz.ntmps26
  go_wp2_with fail
  refine HC.mono ?_
  rintro e w1 ⟨rfl, ht⟩
  have HT : Hid (BTold _ w1 base N sv (onP L t (addP n)).2) := ht
  clear ht HC
  go_wp2
  go_ret
  exact ⟨rfl, HT.out.after B0.out⟩
set_option maxRecDepth 100000 in
theorem does_take (w : World) (bx : Nat) (n : Int) (hb : w.cell? ⟨bx, 0, none⟩ = some (.int .i64 n)) (hn : -9223372036854775808 ≤ n ∧ n ≤ 9223372036854775807) (p : Acc) (hp : 0 ≤ p.amt ∧ p.amt ≤ 9223372036854775807) :
    DoesTo w 64 #[.pointer (some ⟨bx, 0, none⟩)] p (takeP n p).1 (takeP n p).2 := by
  intro K W bel hK hW
  obtain ⟨k0, k1, k2, kf⟩ := cells3_of hW
  have hbx : W.cell? ⟨bx, 0, none⟩ = some (.int .i64 n) := (bel.cell (p := ⟨bx, 0, none⟩) (World.block_lt_of_cell? w _ hb)).trans hb
  have HB : Hid (Below w.heap.size w W) := bel
  have HW : Hid (W.heap[K]? = some (.cells #[.string p.nm, .int .i64 p.amt, .string p.by_] 52 (0, 0))) := hW
  have kf1 := kf 1
  unfold takeP
  clear hb bel hW kf
  obtain ⟨nm, amt, by_⟩ := p
  simp only at *
  by_cases h1 : n < 1
  · rw [if_pos h1]
    go_enter Tryz.func64, Tryz.ntmps64
    go_wp2
    go_ret
    exact ⟨rfl, HB.out, HW.out⟩
  · rw [if_neg h1]
    by_cases h2 : amt < n
    · rw [if_pos h2]
      go_enter Tryz.func64, Tryz.ntmps64
      go_wp2
      go_quiet (fail)
      go_wp2
      go_ret
      exact ⟨rfl, below_drewN' HB.out _, HW.out⟩
    · rw [if_neg h2]
      go_enter Tryz.func64, Tryz.ntmps64
      go_wp2
      go_quiet (fail)
      go_wp2
      go_region
      go_wp2
      go_ret
      refine ⟨rfl, ?_, ?_⟩
      · refine Below.setCell (below_drewN' HB.out _) ?_ _
        exact hK
      · exact set_of3 (W := W) HW.out
set_option maxRecDepth 100000 in
theorem take_any {w : World} {base N : Nat} {sv : Value} {L : List Acc} (h : BookIn w base N sv L) (t : ByteArray) (n : Int) (hn : -9223372036854775808 ≤ n ∧ n ≤ 9223372036854775807) :
    Calls Tryz.prog 28 #[.pointer (some ⟨N, 0, none⟩), .string t, .int .i64 n] w fun e w' => e = .returned (.int .i64 (onP L t (takeP n)).1) ∧ BTold w w' base N sv (onP L t (takeP n)).2 := by
  have b0 : Below w.heap.size w (w.alloc (.cells #[.int .i64 n] 2)) := (Below.refl _ w).alloc (Nat.le_refl _) _
  have HC := on_any (h.below b0) t 64 (.pointer (some ⟨w.heap.size, 0, none⟩)) (takeP n) (fun args w => by kernel_rfl) (fun p hp => does_take _ w.heap.size n (by rw [World.cell?_alloc_mark]; rfl) hn p (by obtain ⟨_, _, _, q1, q2, _⟩ := h.fit.got hp; exact ⟨q1, q2⟩)) (fun p hp => by
    obtain ⟨_, _, _, q1, q2, q3⟩ := h.fit.got hp
    exact takeP_fit n hn p q1 q2 q3)
  have B0 : Hid (Below w.heap.size w (w.alloc (.cells #[.int .i64 n] 2))) := b0
  clear b0 h
  go_enter Tryz.func28, Tryz.ntmps28
  go_wp2_with fail
  refine HC.mono ?_
  rintro e w1 ⟨rfl, ht⟩
  have HT : Hid (BTold _ w1 base N sv (onP L t (takeP n)).2) := ht
  clear ht HC
  go_wp2
  go_ret
  exact ⟨rfl, HT.out.after B0.out⟩
end Go.Proofs.YtdchnfggmkokhaaGreatDoor

namespace Go.Proofs.YtdchnfggmkokhaaGreatDoor
open Go.RowKit
attribute [local go_sem] Oper.semAt_some
set_option linter.unusedVariables false

theorem text_zero {s : ByteArray} (h : s.size = 0) : s = ⟨#[]⟩ := by
  cases s with | mk d => simp [ByteArray.size] at h; rw [h]
theorem text_nil_ne {s : ByteArray} (h : ¬ s.size = 0) : ¬ s.toList = [] := text_nonempty (by omega)
theorem text_nil_beq {s : ByteArray} (h : ¬ s.size = 0) : (s.toList == []) = false := by
  have := text_nil_ne h
  simpa using this
theorem text_ne' {s t : ByteArray} (h : s ≠ t) : ¬ s.toList = t.toList := fun e => by
  have := text_ne h
  rw [e] at this
  simp at this
theorem holdP_fit (s : ByteArray) (p : Acc) (q1 : 0 ≤ p.amt) (q2 : p.amt ≤ 9223372036854775807) (q3 : p.by_.size ≤ 65536) (hz : (holdP s p).1 = 0) : (holdP s p).2.nm = p.nm ∧ (0 ≤ (holdP s p).2.amt ∧ (holdP s p).2.amt ≤ 9223372036854775807) ∧ (holdP s p).2.by_.size ≤ 65536 := by
  unfold holdP at hz ⊢
  split at hz
  · simp at hz
  · split at hz
    · simp at hz
    · rename_i h1 h2
      rw [if_neg h1, if_neg h2]
      exact ⟨rfl, ⟨q1, q2⟩, by simp only; omega⟩
theorem freeP_fit (s : ByteArray) (p : Acc) (q1 : 0 ≤ p.amt) (q2 : p.amt ≤ 9223372036854775807) (q3 : p.by_.size ≤ 65536) (hz : (freeP s p).1 = 0) : (freeP s p).2.nm = p.nm ∧ (0 ≤ (freeP s p).2.amt ∧ (freeP s p).2.amt ≤ 9223372036854775807) ∧ (freeP s p).2.by_.size ≤ 65536 := by
  unfold freeP at hz ⊢
  split at hz
  · simp at hz
  · rename_i h1
    rw [if_neg h1]
    exact ⟨rfl, ⟨q1, q2⟩, by simp [ByteArray.size]⟩
set_option maxRecDepth 100000 in
theorem does_hold (w : World) (bx : Nat) (s : ByteArray) (hb : w.cell? ⟨bx, 0, none⟩ = some (.string s)) (p : Acc) :
    DoesTo w 65 #[.pointer (some ⟨bx, 0, none⟩)] p (holdP s p).1 (holdP s p).2 := by
  intro K W bel hK hW
  obtain ⟨k0, k1, k2, kf⟩ := cells3_of hW
  have hbx : W.cell? ⟨bx, 0, none⟩ = some (.string s) := (bel.cell (p := ⟨bx, 0, none⟩) (World.block_lt_of_cell? w _ hb)).trans hb
  have HB : Hid (Below w.heap.size w W) := bel
  have HW : Hid (W.heap[K]? = some (.cells #[.string p.nm, .int .i64 p.amt, .string p.by_] 52 (0, 0))) := hW
  have kf2 := kf 2
  unfold holdP
  clear hb bel hW kf
  obtain ⟨nm, amt, by_⟩ := p
  simp only at *
  by_cases h1 : s.size = 0
  · rw [if_pos (.inl h1)]
    obtain rfl := text_zero h1
    clear h1
    go_enter Tryz.func65, Tryz.ntmps65
    go_wp2
    go_ret
    exact ⟨rfl, HB.out, HW.out⟩
  · have hne := text_nil_ne h1
    have hne2 := text_nil_beq h1
    by_cases h2 : 65536 < s.size
    · rw [if_pos (.inr h2)]
      have h2' : (65536 : Int) < (s.size : Int) := by omega
      go_enter Tryz.func65, Tryz.ntmps65
      go_wp2
      go_ret
      exact ⟨rfl, HB.out, HW.out⟩
    · rw [if_neg (by rintro (q | q) <;> omega)]
      have h2' : ¬ (65536 : Int) < (s.size : Int) := by omega
      have hF : ∀ W', W' = (W.drewN 0).setCell ⟨K, 2, none⟩ (.string s) → True := fun _ _ => trivial
      by_cases h3 : by_.size = 0
      · rw [if_neg (fun q => q.1 h3)]
        obtain rfl := text_zero h3
        clear h3 hF h1
        go_enter Tryz.func65, Tryz.ntmps65
        go_wp2
        go_quiet (fail)
        go_wp2
        go_ret
        refine ⟨rfl, ?_, ?_⟩
        · refine Below.setCell (below_drewN' HB.out _) ?_ _
          exact hK
        · exact set_of3 (W := W) HW.out
      · have hnb := text_nil_ne h3
        have hnb2 := text_nil_beq h3
        by_cases h4 : by_ = s
        · rw [if_neg (fun q => q.2 h4)]
          subst h4
          clear h3 hF h1
          go_enter Tryz.func65, Tryz.ntmps65
          go_wp2
          go_quiet (fail)
          go_wp2
          go_ret
          refine ⟨rfl, ?_, ?_⟩
          · refine Below.setCell (below_drewN' HB.out _) ?_ _
            exact hK
          · exact set_of3 (W := W) HW.out
        · rw [if_pos ⟨h3, h4⟩]
          have hbs := text_ne' h4
          have hbs2 := text_ne h4
          clear h3 hF h1 h4
          go_enter Tryz.func65, Tryz.ntmps65
          go_wp2
          go_quiet (fail)
          go_wp2
          go_ret
          exact ⟨rfl, below_drewN' HB.out _, HW.out⟩
set_option maxRecDepth 100000 in
theorem hold_any {w : World} {base N : Nat} {sv : Value} {L : List Acc} (h : BookIn w base N sv L) (t s : ByteArray) :
    Calls Tryz.prog 30 #[.pointer (some ⟨N, 0, none⟩), .string t, .string s] w fun e w' => e = .returned (.int .i64 (onP L t (holdP s)).1) ∧ BTold w w' base N sv (onP L t (holdP s)).2 := by
  have b0 : Below w.heap.size w (w.alloc (.cells #[.string s] 9)) := (Below.refl _ w).alloc (Nat.le_refl _) _
  have HC := on_any (h.below b0) t 65 (.pointer (some ⟨w.heap.size, 0, none⟩)) (holdP s) (fun args w => by kernel_rfl) (fun p hp => does_hold _ w.heap.size s (by rw [World.cell?_alloc_mark]; rfl) p) (fun p hp => by
    obtain ⟨_, _, _, q1, q2, q3⟩ := h.fit.got hp
    exact holdP_fit s p q1 q2 q3)
  have B0 : Hid (Below w.heap.size w (w.alloc (.cells #[.string s] 9))) := b0
  clear b0 h
  go_enter Tryz.func30, Tryz.ntmps30
  go_wp2_with fail
  refine HC.mono ?_
  rintro e w1 ⟨rfl, ht⟩
  have HT : Hid (BTold _ w1 base N sv (onP L t (holdP s)).2) := ht
  clear ht HC
  go_wp2
  go_ret
  exact ⟨rfl, HT.out.after B0.out⟩
set_option maxRecDepth 100000 in
theorem does_free (w : World) (bx : Nat) (s : ByteArray) (hb : w.cell? ⟨bx, 0, none⟩ = some (.string s)) (p : Acc) :
    DoesTo w 66 #[.pointer (some ⟨bx, 0, none⟩)] p (freeP s p).1 (freeP s p).2 := by
  intro K W bel hK hW
  obtain ⟨k0, k1, k2, kf⟩ := cells3_of hW
  have hbx : W.cell? ⟨bx, 0, none⟩ = some (.string s) := (bel.cell (p := ⟨bx, 0, none⟩) (World.block_lt_of_cell? w _ hb)).trans hb
  have HB : Hid (Below w.heap.size w W) := bel
  have HW : Hid (W.heap[K]? = some (.cells #[.string p.nm, .int .i64 p.amt, .string p.by_] 52 (0, 0))) := hW
  have kf2 := kf 2
  unfold freeP
  clear hb bel hW kf
  obtain ⟨nm, amt, by_⟩ := p
  simp only at *
  by_cases h1 : s.size = 0
  · rw [if_pos (.inl h1)]
    obtain rfl := text_zero h1
    clear h1
    go_enter Tryz.func66, Tryz.ntmps66
    go_wp2
    go_quiet (fail)
    go_wp2
    go_ret
    exact ⟨rfl, below_drewN' HB.out _, HW.out⟩
  · have hne := text_nil_ne h1
    have hne2 := text_nil_beq h1
    by_cases h4 : by_ = s
    · rw [if_neg (fun q => q.elim h1 (fun q => q h4))]
      subst h4
      clear h1
      go_enter Tryz.func66, Tryz.ntmps66
      go_wp2
      go_quiet (fail)
      go_wp2
      go_ret
      refine ⟨rfl, ?_, ?_⟩
      · refine Below.setCell (below_drewN' HB.out _) ?_ _
        exact hK
      · exact set_of3 (W := W) HW.out
    · rw [if_pos (.inr h4)]
      have hbs := text_ne' h4
      have hbs2 := text_ne h4
      clear h1 h4
      go_enter Tryz.func66, Tryz.ntmps66
      go_wp2
      go_quiet (fail)
      go_wp2
      go_ret
      exact ⟨rfl, below_drewN' HB.out _, HW.out⟩
set_option maxRecDepth 100000 in
theorem free_any {w : World} {base N : Nat} {sv : Value} {L : List Acc} (h : BookIn w base N sv L) (t s : ByteArray) :
    Calls Tryz.prog 32 #[.pointer (some ⟨N, 0, none⟩), .string t, .string s] w fun e w' => e = .returned (.int .i64 (onP L t (freeP s)).1) ∧ BTold w w' base N sv (onP L t (freeP s)).2 := by
  have b0 : Below w.heap.size w (w.alloc (.cells #[.string s] 9)) := (Below.refl _ w).alloc (Nat.le_refl _) _
  have HC := on_any (h.below b0) t 66 (.pointer (some ⟨w.heap.size, 0, none⟩)) (freeP s) (fun args w => by kernel_rfl) (fun p hp => does_free _ w.heap.size s (by rw [World.cell?_alloc_mark]; rfl) p) (fun p hp => by
    obtain ⟨_, _, _, q1, q2, q3⟩ := h.fit.got hp
    exact freeP_fit s p q1 q2 q3)
  have B0 : Hid (Below w.heap.size w (w.alloc (.cells #[.string s] 9))) := b0
  clear b0 h
  go_enter Tryz.func32, Tryz.ntmps32
  go_wp2_with fail
  refine HC.mono ?_
  rintro e w1 ⟨rfl, ht⟩
  have HT : Hid (BTold _ w1 base N sv (onP L t (freeP s)).2) := ht
  clear ht HC
  go_wp2
  go_ret
  exact ⟨rfl, HT.out.after B0.out⟩
end Go.Proofs.YtdchnfggmkokhaaGreatDoor
