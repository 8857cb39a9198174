/- Package net: how a net lies in memory. -/
import Derived.Test.YtccmehbdnnelhaaNFind
import Derived.Maps.RangeWalk
import Derived.Maps.OwnSet
namespace Go.Proofs.Ytccmehbdnnelhaa
open Go.RowKit Go.Maps
set_option linter.unusedVariables false

/-- An element of a map reads as itself. -/
def heldR (v : Value) : Option (DataW Value × List MemPlace) := some (.held v, [])
theorem lawK : Keyed Try.prog 3 := int_keyed Try.underlying3
theorem zeroBox (w : World) : (zeroValue 66).run Try.prog w = .ok (.slice none 0 0) w := by kernel_rfl
theorem underM : Try.prog.underlying 36 = some (.map 3 66) := by kernel_rfl
def nilS : Value := .slice none 0 0
abbrev keyI (k : Int) : Lit := .int .i64 k
theorem keyLit (k : Int) : WideAt.IsKeyLit (keyI k) := trivial
theorem held_of {v u : Value} {ps : List MemPlace} (h : heldR v = some (.held u, ps)) : v = u := DataW.held.inj (Prod.mk.inj (Option.some.inj h)).1
def kwf (k : Int) : Prop := (Lit.int .i64 k).wf = true
theorem kwf_of {k : Int} (h0 : -9223372036854775808 ≤ k) (h1 : k ≤ 9223372036854775807) : kwf k := by
  unfold kwf
  simp [Lit.wf, IntKind.min, IntKind.max, IntKind.bits, IntKind.signed]
  omega
/-- The map of a net: which slice each box is. -/
def BoxMap (w : World) (B n : Nat) (bx : Int → Value) (hs : Int → Bool) : Prop := ∃ D : DataW Value, w.ownsMap Try.prog 3 heldR B n D ∧ (∀ k, kwf k → D.atKey (keyI k) (.held nilS) = .held (bx k)) ∧ (∀ k, has D (keyI k) = hs k)
theorem BoxMap.lt {w : World} {B n : Nat} {bx : Int → Value} {hs : Int → Bool} (h : BoxMap w B n bx hs) : B < w.heap.size := by obtain ⟨D, h, _⟩ := h; exact h.lt
theorem BoxMap.kept {w w' : World} {B n : Nat} {bx : Int → Value} {hs : Int → Bool} (h : BoxMap w B n bx hs) (e : w'.heap[B]? = w.heap[B]?) : BoxMap w' B n bx hs := by
  obtain ⟨D, ⟨es, clock, hb, r⟩, q⟩ := h
  exact ⟨D, ⟨es, clock, e.trans hb, r⟩, q⟩
theorem BoxMap.isMap {w : World} {B n : Nat} {bx : Int → Value} {hs : Int → Bool} (h : BoxMap w B n bx hs) : ∃ es c, w.heap[B]? = some (.map es c) := by
  obtain ⟨D, ⟨es, clock, hb, r⟩, q⟩ := h
  exact ⟨es, clock, hb⟩
theorem BoxMap.look {w : World} {B n : Nat} {bx : Int → Value} {hs : Int → Bool} (h : BoxMap w B n bx hs) {k : Int} (hk : kwf k) : (Instr.lookup 36 (.map (some B)) (.int .i64 k) false).run Try.prog w = .ok (bx k) w := by
  obtain ⟨D, hM, ha, _⟩ := h
  obtain ⟨v, ps, hr, hv⟩ := hM.lookup lawK underM (zeroBox w) (zd := .held nilS) (zp := []) rfl (keyOf_int_mk Try.underlying3 hk)
  rw [ha k hk] at hv
  rw [← held_of hv]
  exact hr
theorem look_none (w : World) {k : Int} (hk : kwf k) : (Instr.lookup 36 (.map none) (.int .i64 k) false).run Try.prog w = .ok nilS w := by
  have := look_nil (w := w) false lawK underM (zeroBox w) (keyOf_int_mk Try.underlying3 hk)
  simpa [nilS] using this
theorem same_iff (k j : Int) : Lit.sameKey (keyI k) (keyI j) = decide (k = j) := by
  by_cases h : k = j
  · subst h
    rw [WideAt.sameKey_self (keyLit k)]
    simp
  · rw [sameKey_ne (fun e => h (by cases e; rfl))]
    simp [h]
/-- A box is stored. -/
theorem BoxMap.store {w : World} {B n : Nat} {bx : Int → Value} {hs : Int → Bool} (h : BoxMap w B n bx hs) (hn : n < maxLen) {k : Int} (hk : kwf k) (v : Value) :
    ∃ w', (Instr.mapUpdate 36 (.map (some B)) (.int .i64 k) v).run Try.prog w = .ok () w' ∧ BoxMap w' B (n + 1) (fun j => if j = k then v else bx j) (fun j => hs j || decide (j = k)) ∧ (hs k = true → BoxMap w' B n (fun j => if j = k then v else bx j) (fun j => hs j || decide (j = k))) ∧ w.mapTurned w' B := by
  obtain ⟨D, hM, ha, hh⟩ := h
  obtain ⟨w', hr, hM', ht⟩ := hM.store lawK underM hn (keyOf_int_mk Try.underlying3 hk) (val := v) (d := .held v) (ps := []) rfl
  have e1 : ∀ j, kwf j → (D.put (keyI k) (.held v)).atKey (keyI j) (.held nilS) = .held (if j = k then v else bx j) := fun j hj => by
    by_cases e : j = k
    · subst e
      rw [if_pos rfl]
      exact atKey_put_same hM.isMap (keyLit j) _ _
    · rw [if_neg e, atKey_put_other (fun x => e (by cases x; rfl))]
      exact ha j hj
  have e2 : ∀ j, has (D.put (keyI k) (.held v)) (keyI j) = (hs j || decide (j = k)) := fun j => by
    by_cases e : j = k
    · subst e
      rw [has_put_same hM.isMap (keyLit j)]
      simp
    · rw [has_put_other (fun x => e (by cases x; rfl)), hh]
      simp [e]
  refine ⟨w', hr, ⟨_, hM', e1, e2⟩, fun hkk => ?_, ht⟩
  refine ⟨_, ?_, e1, e2⟩
  obtain ⟨es, clock, hb, F, hs', hD⟩ := hM'
  refine ⟨es, clock, hb, F, ?_, hD⟩
  have s1 := size_put (hM.tidy lawK) (k := keyI k) (.held v)
  rw [hh k, hkk, if_pos rfl] at s1
  have s2 := hM.size_le
  rw [hD] at s1
  simp only [size_eq] at s1
  rw [length_sorted] at s1
  simp at s1
  omega
theorem BoxMap.drop {w : World} {B n : Nat} {bx : Int → Value} {hs : Int → Bool} (h : BoxMap w B n bx hs) {k : Int} (hk : kwf k) (ty : TypeId) :
    ∃ w', (Builtin.delete_ #[36, 3] ty #[.map (some B), .int .i64 k]).run Try.prog w = .ok (.tuple #[]) w' ∧ BoxMap w' B n (fun j => if j = k then nilS else bx j) (fun j => hs j && !decide (j = k)) ∧ w.mapTurned w' B := by
  obtain ⟨D, hM, ha, hh⟩ := h
  obtain ⟨w', hr, hM', ht⟩ := hM.drop lawK underM (keyOf_int_mk Try.underlying3 hk) ty
  refine ⟨w', hr, ⟨_, hM', fun j hj => ?_, fun j => ?_⟩, ht⟩
  · show _ = DataW.held (if j = k then nilS else bx j)
    by_cases e : j = k
    · subst e
      rw [if_pos rfl]
      exact atKey_del_same _
    · rw [if_neg e, atKey_del_other (fun x => e (by cases x; rfl))]
      exact ha j hj
  · show _ = (hs j && !decide (j = k))
    by_cases e : j = k
    · subst e
      rw [has_del_same]
      simp
    · rw [has_del_other (fun x => e (by cases x; rfl)), hh]
      simp [e]
theorem boxMap_made (w : World) : BoxMap (w.alloc (.map #[] 0)) w.heap.size 0 (fun _ => nilS) (fun _ => false) := ⟨_, World.ownsMap_made w _ _ _, fun k _ => rfl, fun k => rfl⟩
/-- The range over a net's boxes. -/
def BoxRange (w : World) (B r n : Nat) (bx : Int → Value) (left : Int → Bool) (cnt : Nat) : Prop := ∃ (D : DataW Value) (lf : Lit → Bool), w.ranges Try.prog 3 heldR B r n D lf cnt ∧ (∀ k, kwf k → D.atKey (keyI k) (.held nilS) = .held (bx k)) ∧ (∀ k, lf (keyI k) = left k)
theorem BoxMap.range {w : World} {B n : Nat} {bx : Int → Value} {hs : Int → Bool} (h : BoxMap w B n bx hs) :
    ∃ w' cnt, (Instr.range 36 (.map (some B))).run Try.prog w = .ok (.pointer (some ⟨w.heap.size, 0, none⟩)) w' ∧ BoxRange w' B w.heap.size n bx hs cnt ∧ w.grownBy w' none ∧ w'.heap.size = w.heap.size + 1 := by
  obtain ⟨D, hM, ha, hh⟩ := h
  obtain ⟨w', hr, hg, h1, h2⟩ := hM.range lawK underM
  exact ⟨w', _, hr, ⟨D, _, hg, ha, hh⟩, h1, h2⟩
theorem BoxRange.kept {w w' : World} {B r n : Nat} {bx : Int → Value} {left : Int → Bool} {cnt : Nat} (h : BoxRange w B r n bx left cnt) (b : Below w.heap.size w w') : BoxRange w' B r n bx left cnt := by
  obtain ⟨D, lf, hr, q⟩ := h
  have h1 := hr.owns.lt
  have h2 := hr.lt
  obtain ⟨es, clock, since, seen, c0, hb, F, hs, hD, hr', rest⟩ := hr
  exact ⟨D, lf, ⟨es, clock, since, seen, c0, (b.block B h1).trans hb, F, hs, hD, (b.block r h2).trans hr', rest⟩, q⟩
theorem BoxRange.left_eq {w : World} {B r n : Nat} {bx : Int → Value} {left : Int → Bool} {cnt : Nat} (h : BoxRange w B r n bx left cnt) : w.rangeLeft B r = cnt := by obtain ⟨D, lf, hr, _⟩ := h; exact hr.left_eq
theorem BoxRange.ne {w : World} {B r n : Nat} {bx : Int → Value} {left : Int → Bool} {cnt : Nat} (h : BoxRange w B r n bx left cnt) : r ≠ B := by obtain ⟨D, lf, hr, _⟩ := h; exact hr.ne
theorem BoxRange.next {w : World} {B r n : Nat} {bx : Int → Value} {left : Int → Bool} {cnt : Nat} (h : BoxRange w B r n bx left cnt) (ty : TypeId) :
    (cnt = 0 ∧ (∀ k, left k = false) ∧ (Instr.next (.pointer (some ⟨r, 0, none⟩)) false ty).run Try.prog w = .ok (.tuple #[.bool false]) w) ∨
    ∃ (k : Int) (w' : World) (cnt' : Nat), kwf k ∧ left k = true ∧ (Instr.next (.pointer (some ⟨r, 0, none⟩)) false ty).run Try.prog w = .ok (.tuple #[.bool true, .int .i64 k, bx k]) w' ∧
      BoxRange w' B r n bx (fun x => left x && !decide (x = k)) cnt' ∧ cnt' < cnt ∧ w.grownBy w' (some r) ∧ w'.heap.size = w.heap.size ∧ (Instr.entry (.pointer (some ⟨r, 0, none⟩))).run Try.prog w' = .ok (.tuple #[.int .i64 k, bx k]) w' := by
  obtain ⟨D, lf, hr, ha, hl⟩ := h
  rcases hr.next lawK ty with ⟨h0, hl0, hrun⟩ | ⟨key, v, kl, y, w', cnt', hkey, hlk, hv, hat, hrun, hrg, hlt, hgr, hsz, hen⟩
  · exact .inl ⟨h0, fun k => by rw [← hl]; exact hl0 _, hrun⟩
  · obtain ⟨x, rfl, rfl, hwx⟩ := keyOf_int_inv Try.underlying3 hkey
    have e : v = bx x := by
      have h1 := hat (.held nilS)
      rw [ha x hwx] at h1
      refine held_of (ps := y.2) ?_
      rw [hv, h1]
    subst e
    exact .inr ⟨x, w', cnt', hwx, by rw [← hl]; exact hlk, hrun, ⟨D, _, hrg, ha, fun k => by rw [same_iff, hl]⟩, hlt, hgr, hsz, hen⟩
end Go.Proofs.Ytccmehbdnnelhaa
