/- Package rlog: slices.Clone of entries; Copy. -/
import Derived.Test.YthnocbflnakdmaaLSmall
namespace Go.Proofs.Ythnocbflnakdmaa
open Go.RowKit
attribute [local go_sem] Oper.semAt_some
set_option linter.unusedVariables false

/-- Entries as they lie in memory, with the values of their bytes. -/
def RawAt (w : World) (a : Option Addr) (es : List EntV) : Prop :=
  es.length = 0 ∨ ∃ b off, a = some ⟨b, off, none⟩ ∧ ∀ j (hj : j < es.length), w.cell? ⟨b, off + j * 2, none⟩ = some (.int .i64 es[j].1.1) ∧ w.cell? ⟨b, off + j * 2 + 1, none⟩ = some es[j].2
theorem EntsAt.raw {w : World} {a : Option Addr} {n : Nat} {l : List Ent} (h : EntsAt w a n l) : ∃ es : List EntV, es.map Prod.fst = l ∧ es.length = n ∧ RawAt w a es ∧ ∀ e ∈ es, BytesV w e.2 e.1.2 := by
  rcases h.2 with h0 | ⟨b, off, ha, hc⟩
  · have : l = [] := List.eq_nil_of_length_eq_zero (by rw [← h.1]; exact h0)
    subst this
    exact ⟨[], rfl, h0.symm, .inl rfl, fun e he => by cases he⟩
  · have each : ∀ j : Nat, ∃ v : Value, ∀ hj : j < l.length, w.cell? ⟨b, off + j * 2, none⟩ = some (.int .i64 l[j].1) ∧ w.cell? ⟨b, off + j * 2 + 1, none⟩ = some v ∧ BytesV w v l[j].2 := fun j => by
      by_cases hj : j < l.length
      · obtain ⟨c1, v, c2, c3⟩ := hc j hj
        exact ⟨v, fun _ => ⟨c1, c2, c3⟩⟩
      · exact ⟨undef, fun h => absurd h hj⟩
    obtain ⟨f, hf⟩ : ∃ f : Nat → Value, ∀ j (hj : j < l.length), w.cell? ⟨b, off + j * 2, none⟩ = some (.int .i64 l[j].1) ∧ w.cell? ⟨b, off + j * 2 + 1, none⟩ = some (f j) ∧ BytesV w (f j) l[j].2 := ⟨fun j => Classical.choose (each j), fun j => Classical.choose_spec (each j)⟩
    refine ⟨l.zipIdx.map fun p => (p.1, f p.2), ?_, by simp [h.1], .inr ⟨b, off, ha, fun j hj => ?_⟩, fun e he => ?_⟩
    · apply List.ext_getElem
      · simp
      · intro j h1 h2
        simp
    · have hj' : j < l.length := by simpa using hj
      obtain ⟨c1, c2, _⟩ := hf j hj'
      simp only [List.getElem_map, List.getElem_zipIdx, Nat.zero_add]
      exact ⟨c1, c2⟩
    · obtain ⟨p, hp, rfl⟩ := List.mem_map.1 he
      obtain ⟨j, hj, e2⟩ := List.getElem_of_mem hp
      have hj' : j < l.length := by simpa using hj
      have : p = (l[j], j) := by rw [← e2]; simp
      subst this
      exact (hf j hj').2.2
theorem row_raw {w : World} {base : Nat} {v : Value} {es : List EntV} (h : w.ownsRow base 52 2 v es.length (entCells es)) : ∃ a c, v = .slice a es.length c ∧ RawAt w a es ∧ (a = none → c = 0) ∧ es.length ≤ c ∧ c ≤ maxLen := by
  obtain ⟨a, c, e, hn, h3, h4, _⟩ := row_form h
  refine ⟨a, c, e, ?_, hn, h3, h4⟩
  by_cases h0 : es.length = 0
  · exact .inl h0
  · obtain ⟨g, c', e2, _⟩ := row_at h (show 0 < es.length by omega)
    rw [e] at e2
    cases e2
    refine .inr ⟨g, 0, rfl, fun j hj => ?_⟩
    obtain ⟨g', c'', e3, q1, q2⟩ := row_at h hj
    rw [e] at e3
    cases e3
    rw [Nat.zero_add]
    exact ⟨q1, q2⟩
theorem RawAt.below {w w' : World} {a : Option Addr} {es : List EntV} (h : RawAt w a es) (hb : Below w.heap.size w w') : RawAt w' a es := by
  rcases h with h | ⟨b, off, ha, hc⟩
  · exact .inl h
  · refine .inr ⟨b, off, ha, fun j hj => ?_⟩
    obtain ⟨c1, c2⟩ := hc j hj
    rw [hb.cell (p := ⟨b, off + j * 2, none⟩) (World.block_lt_of_cell? w _ c1), hb.cell (p := ⟨b, off + j * 2 + 1, none⟩) (World.block_lt_of_cell? w _ c2)]
    exact ⟨c1, c2⟩
theorem BytesV.one {w : World} {v : Value} {p : List (BitVec 8)} (h : BytesV w v p) : v.oneCell' = true := by
  obtain ⟨a, c, rfl, _⟩ := h
  rfl
theorem ent_one {es : List EntV} (h : ∀ e ∈ es, e.2.oneCell' = true) : ∀ u ∈ entCells es, u.oneCell' = true := fun u hu => by
  obtain ⟨p, hp, hu⟩ := List.mem_flatMap.1 hu
  simp only [List.mem_cons, List.not_mem_nil, or_false] at hu
  rcases hu with rfl | rfl
  · rfl
  · exact h p hp
theorem raw_news {w : World} {a : Option Addr} {es : List EntV} (h : RawAt w a es) (x : Addr) (hx : a = some x) : ∀ j u, (entCells es)[j]? = some u → w.cell? (x.add j) = some u := by
  intro j u hj
  have hj' : j < es.length * 2 := by have := (List.getElem?_eq_some_iff.1 hj).1; rwa [entCells_length] at this
  rcases h with h | ⟨b, off, rfl, hc⟩
  · omega
  · cases hx
    obtain ⟨c1, c2⟩ := hc (j / 2) (by omega)
    obtain ⟨g1, g2⟩ := entCells_get es (j / 2) (by omega)
    rw [Addr.add_lit]
    rcases Nat.mod_two_eq_zero_or_one j with h2 | h2
    · have e1 : j / 2 * 2 = j := by omega
      rw [e1] at c1 g1
      rw [c1, ← g1, hj]
    · have e1 : j / 2 * 2 + 1 = j := by omega
      rw [show off + j / 2 * 2 + 1 = off + j by omega] at c2
      rw [e1] at g2
      rw [c2, ← g2, hj]
/-- append(v, a...) of entries. -/
theorem run_append_ents (ty : TypeId) (w : World) (base : Nat) (v : Value) (n : Nat) (es : List EntV) (hown : w.ownsRow base 52 2 v n (entCells es)) (aa : Option Addr) (la ca : Nat) (fs : List EntV) (hla : la = fs.length) (hA : RawAt w aa fs) (hone : ∀ e ∈ fs, e.2.oneCell' = true) (hnil : aa = none → ca = 0)
    (hb : n + la ≤ 4398046511104) (hbase : base ≤ w.heap.size) :
    ∃ v' w', (Builtin.append_ #[26, 26] ty #[v, .slice aa la ca]).run Try.prog w = .ok v' w' ∧ w'.ownsRow base 52 2 v' (n + la) (entCells (es ++ fs)) ∧ w.grownBy w' v.ownBlock ∧ (∀ k, v'.ownBlock = some k → v.ownBlock = some k ∨ w.heap.size ≤ k) := by
  obtain ⟨i0, hi, hz0, hz1, hz2⟩ := info_parts info_entry
  cases aa with
  | none =>
    have hl0 : fs = [] := by
      rcases hA with h3 | ⟨b, off, h, _⟩
      · exact List.eq_nil_of_length_eq_zero h3
      · cases h
    subst hl0
    subst hla
    rw [hnil rfl]
    have hr := run_append_owned_none (P := Try.prog) (w := w) base 26 ty 52 i0 2 Try.underlying26 hi v n _ hown
    refine ⟨v, w, hr, by simpa using hown, ⟨rfl, rfl, rfl, Nat.le_refl _, fun _ _ _ => rfl⟩, fun k e => .inl e⟩
  | some x =>
    obtain ⟨v', w', hr, h1, h2, _, h5⟩ := run_append_own_at (P := Try.prog) w base 26 ty 52 i0 (.agg #[.int .i64 0, .slice none 0 0]) 2 32 Try.underlying26 hi hz0 hz1 hz2 rfl (by omega) v n (entCells es) hown x la ca (entCells fs) (by rw [entCells_length, hla]) (raw_news hA x rfl) (ent_one hone) (by unfold maxLen; omega) (by omega) hbase
    exact ⟨v', w', hr, by rw [entCells_append]; exact h1, h2, fun k e => by
      rcases h5 with h5 | h5
      · exact .inl (h5.symm.trans e)
      · rw [h5] at e
        cases e
        exact .inr (Nat.le_refl _)⟩
theorem owns_emptyE (w : World) (base : Nat) (hb : base ≤ w.heap.size) : (w.alloc (.cells #[] 52)).ownsRow base 52 2 (.slice (some ⟨w.heap.size, 0, none⟩) 0 0) 0 (entCells []) :=
  ⟨rfl, .inr ⟨w.heap.size, 0, #[], rfl, hb, heap_alloc_new w _, Nat.le_refl _, by unfold maxLen; omega, rfl, rfl⟩⟩
set_option maxHeartbeats 400000 in
theorem cloneE_any (a : Option Addr) (len cap : Nat) (es : List EntV) (w : World) (hl : len = es.length) (h : RawAt w a es) (hone : ∀ e ∈ es, e.2.oneCell' = true) (hnil : a = none → cap = 0) (hm : len ≤ 4398046511104) :
    Calls Try.prog 54 #[.slice a len cap] w fun e w' => ∃ v, e = .returned v ∧ w'.ownsRow w.heap.size 52 2 v len (entCells es) ∧ Below w.heap.size w w' := by
  have qT : ∀ (w : World) (a : Option Addr) (n c n' c' : Nat), (binOp .eql 26 (.slice a n c) (.slice none n' c')).run Try.prog w = .ok (.bool a.isNone) w := fun w a n c n' c' => Lib.run_eql_slice_nil w _ _ a n c n' c' Try.underlying26
  cases a with
  | none =>
    have h0 : es = [] := by
      rcases h with h3 | ⟨b, off, h, _⟩
      · exact List.eq_nil_of_length_eq_zero h3
      · cases h
    subst h0
    subst hl
    obtain rfl := hnil rfl
    clear h hnil hm hone
    go_enter Try.func54, Try.ntmps54
    go_wp2
    go_ret
    exact ⟨_, rfl, World.ownsRow_nil _ _ _ _, Below.refl _ _⟩
  | some x =>
    have hs : RawAt (w.alloc (.cells #[] 52)) (some x) es := h.below ((Below.refl _ w).alloc (Nat.le_refl _) _)
    obtain ⟨v', w', hr, hown, hgrow, _⟩ := run_append_ents 26 (w.alloc (.cells #[] 52)) w.heap.size _ 0 [] (owns_emptyE w w.heap.size (Nat.le_refl _)) (some x) len cap es hl hs hone (fun e => by cases e) (by omega) (by simp)
    rw [List.nil_append, Nat.zero_add] at hown
    have HR : Hid _ := hr
    have HB : Hid (Below w.heap.size w w') := ((Below.refl _ w).alloc (Nat.le_refl _) _).grown hgrow (by simp) (fun k e => by cases e; exact Nat.le_refl _)
    have HO : Hid _ := hown
    clear h hs hnil hm hr hgrow hown hone hl
    go_enter Try.func54, Try.ntmps54
    go_wp2_with (at_builtin; refine wpList_append_known rfl (.tmp 5) (.tmp 6) 26 26 rfl _ _ rfl rfl _ _ HR.out ?_)
    go_ret
    exact ⟨_, rfl, HO.out, HB.out⟩
end Go.Proofs.Ythnocbflnakdmaa
