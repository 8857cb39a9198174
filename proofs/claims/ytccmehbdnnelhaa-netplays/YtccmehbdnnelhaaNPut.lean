/- Package net: what a letter more makes of the memory. -/
import Derived.Test.YtccmehbdnnelhaaNSpot
import Derived.Deep.AppendLies
namespace Go.Proofs.Ytccmehbdnnelhaa
open Go.RowKit Go.Maps
set_option linter.unusedVariables false

section
variable {P : Program} {ops : Array Oper} {Q : Exit → Act → World → Prop} {md : Region.Mode} {S : World → Prop}
theorem take_val {i : Nat} {oi : Oper} {fuel : Nat} {listed : Array Bool} {a : Act} {w w' : World} (v : Value) (hi : ops[i]? = some oi) (hr : Region.ready md ops listed = [i]) (hw : Region.wanted oi (yielded ops a.tmps) = true)
    (hx : (execOp a.eval oi).run P w = .ok (.value v) w') (hS : S w') (h : wpAnyH P md ops Q S fuel (listed.setIfInBounds i true) (a.put oi.dst v) w') : wpAnyH P md ops Q S (fuel + 1) listed a w := by
  refine wpAnyH_all (rs := [i]) hr (by simp) (fun j hj => ?_)
  obtain rfl : j = i := by simpa using hj
  unfold wpOp
  simp only [hi, hw, if_true, Oper.wp, hx]
  rw [Oper.upon_value]
  exact .inl ⟨hS, h⟩
theorem take_eff {i : Nat} {oi : Oper} {fuel : Nat} {listed : Array Bool} {a : Act} {w w' : World} (hi : ops[i]? = some oi) (hr : Region.ready md ops listed = [i]) (hw : Region.wanted oi (yielded ops a.tmps) = true)
    (hx : (execOp a.eval oi).run P w = .ok .skip w') (hS : S w') (h : wpAnyH P md ops Q S fuel (listed.setIfInBounds i true) (a.put oi.dst undef) w') : wpAnyH P md ops Q S (fuel + 1) listed a w := by
  refine wpAnyH_all (rs := [i]) hr (by simp) (fun j hj => ?_)
  obtain rfl : j = i := by simpa using hj
  unfold wpOp
  simp only [hi, hw, if_true, Oper.wp, hx]
  rw [Oper.upon_skip]
  exact .inl ⟨hS, h⟩
/-- Two values, the one or the other first. -/
theorem take_two {i j : Nat} {oi oj : Oper} {fuel : Nat} {listed : Array Bool} {a : Act} {w w1 w2 : World} (u v : Value) (hi : ops[i]? = some oi) (hj : ops[j]? = some oj) (hr : Region.ready md ops listed = [i, j]) (hw : Region.wanted oi (yielded ops a.tmps) = true) (hw2 : Region.wanted oj (yielded ops a.tmps) = true)
    (hx : (execOp a.eval oi).run P w = .ok (.value u) w1) (hS : S w1) (hx2 : (execOp a.eval oj).run P w = .ok (.value v) w2) (hS2 : S w2)
    (h : wpAnyH P md ops Q S fuel (listed.setIfInBounds i true) (a.put oi.dst u) w1) (h2 : wpAnyH P md ops Q S fuel (listed.setIfInBounds j true) (a.put oj.dst v) w2) : wpAnyH P md ops Q S (fuel + 1) listed a w := by
  refine wpAnyH_all (rs := [i, j]) hr (by simp) (fun k hk => ?_)
  rcases (by simpa using hk : k = i ∨ k = j) with rfl | rfl
  · unfold wpOp
    simp only [hi, hw, if_true, Oper.wp, hx]
    rw [Oper.upon_value]
    exact .inl ⟨hS, h⟩
  · unfold wpOp
    simp only [hj, hw2, if_true, Oper.wp, hx2]
    rw [Oper.upon_value]
    exact .inl ⟨hS2, h2⟩
end
theorem blockN_put {w : World} {R : Nat} {cs : Array Value} {t : TypeId} {fr : Nat × Nat} (h : w.heap[R]? = some (.cells cs t fr)) (i : Nat) (v : Value) : (w.setCell ⟨R, i, none⟩ v).heap[R]? = some (.cells (cs.setIfInBounds i v) t fr) := by
  have hlt : R < w.heap.size := (Array.getElem?_eq_some_iff.1 h).1
  have hv : w.heap[R] = .cells cs t fr := (Array.getElem?_eq_some_iff.1 h).2
  unfold World.setCell
  simp [Array.getElem?_modify, h]
/-- What a net leaves as it was. -/
def NKeep (base : Nat) (w w' : World) : Prop := Below base w w' ∧ w.heap.size ≤ w'.heap.size ∧ ∀ (g : Nat) (cs : Array Value) (t : TypeId) (z : Nat × Nat), w.heap[g]? = some (Obj.cells cs t z) → t ≠ 69 → t ≠ 38 → w'.heap[g]? = w.heap[g]?
theorem NKeep.refl (base : Nat) (w : World) : NKeep base w w := ⟨Below.refl _ _, Nat.le_refl _, fun _ _ _ _ _ _ _ => rfl⟩
theorem NKeep.trans {base : Nat} {a b c : World} (h : NKeep base a b) (k : NKeep base b c) : NKeep base a c :=
  ⟨h.1.trans k.1, Nat.le_trans h.2.1 k.2.1, fun g cs t z e h1 h2 => by
    have q := h.2.2 g cs t z e h1 h2
    rw [k.2.2 g cs t z (q.trans e) h1 h2, q]⟩
theorem NKeep.of_below {base : Nat} {a b : World} (h : Below a.heap.size a b) (hb : base ≤ a.heap.size) : NKeep base a b := ⟨h.mono hb, h.size, fun g cs t z e _ _ => h.block g (Array.getElem?_eq_some_iff.1 e).1⟩
theorem infoPo : (Try.prog.info? 69).map (fun i => (i.zero, i.size, i.bytes)) = some (some (.agg #[.int .i64 0, .int .i64 0, .slice none 0 0, .int .i64 0]), 4, 48) := by kernel_rfl
theorem not_row {w : World} {base g : Nat} {v : Value} {n : Nat} {xs : List Value} (h : w.ownsRow base 69 4 v n xs) {cs : Array Value} {t : TypeId} {z : Nat × Nat} (e : w.heap[g]? = some (.cells cs t z)) (ht : t ≠ 69) : v.ownBlock ≠ some g := fun e2 => by
  obtain ⟨cur, hc⟩ := row_kind h e2
  rw [e] at hc
  injection hc with hc
  injection hc with _ hc _
  exact ht hc
theorem not_row_map {w : World} {base g : Nat} {v : Value} {n : Nat} {xs : List Value} (h : w.ownsRow base 69 4 v n xs) {es : Array MapEntry} {c : Nat} (e : w.heap[g]? = some (.map es c)) : v.ownBlock ≠ some g := fun e2 => by
  obtain ⟨cur, hc⟩ := row_kind h e2
  rw [e] at hc
  cases hc
theorem tPN : (38 : TypeId) ≠ 69 := by decide
theorem t5P : (5 : TypeId) ≠ 69 := by decide
theorem t5N : (5 : TypeId) ≠ 38 := by decide
theorem mapTurned_block {w w' : World} {b g : Nat} (h : w.mapTurned w' b) (hg : g < w.heap.size) (hne : g ≠ b) : w'.heap[g]? = w.heap[g]? := h.grown.block g hg (fun e => hne (by simpa using e))
/-- A letter more. -/
theorem net_post {w : World} {base N B T : Nat} {bx : Int → Value} {L : List Post} (h : NetIn w base N B bx L T) (p : Post) (hpt : p.t = T) (hto : -1 ≤ p.to ∧ p.to ≤ 4) (hd : DataAt w p.dv p.b) (hl : L.length < 10000) (hT : T ≤ 1000000000000) :
    ∃ g cap w2 w3, (Builtin.append_ #[66, 66] 66 #[bx p.to, .slice (some ⟨w.heap.size, 0, none⟩) 1 1]).run Try.prog (w.alloc (.cells p.cells.toArray 69)) = .ok (.slice (some ⟨g, 0, none⟩) ((box L p.to).length + 1) cap) w2 ∧
      (Instr.mapUpdate 36 (.map (some B)) (.int .i64 p.to) (.slice (some ⟨g, 0, none⟩) ((box L p.to).length + 1) cap)).run Try.prog w2 = .ok () w3 ∧
      w2.heap[N]? = w.heap[N]? ∧ w3.heap[N]? = w.heap[N]? ∧ (∀ (q : Nat) (cs : Array Value) (t : TypeId) (z : Nat × Nat), w.heap[q]? = some (Obj.cells cs t z) → t ≠ 69 → w2.heap[q]? = w.heap[q]? ∧ w3.heap[q]? = w.heap[q]?) ∧
      ∃ bx', NetIn (w3.setCell ⟨N, 1, none⟩ (.int .i64 ((T + 1 : Nat) : Int))) base N B bx' (L ++ [p]) (T + 1) ∧ NKeep base w (w3.setCell ⟨N, 1, none⟩ (.int .i64 ((T + 1 : Nat) : Int))) := by
  have hkw : kwf p.to := kwf_of (by omega) (by omega)
  have hbs : base ≤ w.heap.size := Nat.le_of_lt (Nat.lt_of_le_of_lt h.bN h.ltN)
  have hA := h.below ((Below.refl w.heap.size w).alloc (Nat.le_refl _) (.cells p.cells.toArray 69))
  have hnew := heap_alloc_new w (.cells p.cells.toArray 69)
  have ba := (Below.refl w.heap.size w).alloc (Nat.le_refl _) (.cells p.cells.toArray 69)
  obtain ⟨i0, hi, hz0, hz1, hz2⟩ := info_parts infoPo
  have hdv : p.dv.oneCell' = true := by obtain ⟨a, c, e, _⟩ := hd; rw [e]; rfl
  have hbl := box_len L p.to
  obtain ⟨g, cap, w2, hr, o2, gr, hat, hlt⟩ := run_append_lies (P := Try.prog) (w.alloc (.cells p.cells.toArray 69)) 66 66 base 69 i0 _ 4 48 Try.underlying66 hi hz0 hz1 hz2 rfl (by omega) (bx p.to) (box L p.to).length _ (hA.row p.to)
    ⟨w.heap.size, 0, none⟩ 1 1 p.cells (by rfl) (World.news_of_block (cs := p.cells.toArray) (t := 69) (fr := (0, 0)) hnew) (fun u hu => by simp only [Post.cells, List.mem_cons, List.not_mem_nil, or_false] at hu; rcases hu with rfl | rfl | rfl | rfl <;> first | rfl | exact hdv) (by omega) (by unfold maxLen; omega) (by omega) (by simp; omega) _ rfl
  have hBlt := hA.hM.lt
  obtain ⟨es, cl, hmap⟩ := hA.hM.isMap
  have m2 : BoxMap w2 B T bx (fun k => decide (box L k ≠ [])) := hA.hM.kept (gr.block B hBlt (fun e => not_row_map (hA.row p.to) hmap e.symm))
  obtain ⟨w3, hr3, m3, _, ht3⟩ := m2.store (by unfold maxLen; omega) hkw (.slice (some ⟨g, 0, none⟩) ((box L p.to).length + 1) cap)
  have keep2 : ∀ (q : Nat) (cs : Array Value) (t : TypeId) (z : Nat × Nat), w.heap[q]? = some (Obj.cells cs t z) → t ≠ 69 → w2.heap[q]? = w.heap[q]? := fun q cs t z e ht => by
    have lt := (Array.getElem?_eq_some_iff.1 e).1
    have eA := ba.block q lt
    rw [gr.block q (Nat.lt_of_lt_of_le lt ba.size) (fun e2 => not_row (hA.row p.to) (eA.trans e) ht e2.symm), eA]
  have keep3 : ∀ (q : Nat) (cs : Array Value) (t : TypeId) (z : Nat × Nat), w.heap[q]? = some (Obj.cells cs t z) → t ≠ 69 → w3.heap[q]? = w.heap[q]? := fun q cs t z e ht => by
    have lt := (Array.getElem?_eq_some_iff.1 e).1
    have e2 := keep2 q cs t z e ht
    have hne : q ≠ B := fun eq => by
      subst eq
      rw [ba.block q lt] at hmap
      rw [e] at hmap
      cases hmap
    rw [mapTurned_block ht3 (Nat.lt_of_lt_of_le (Nat.lt_of_lt_of_le lt ba.size) gr.size) hne, e2]
  have kN2 := keep2 N _ _ _ h.hN tPN
  have kN3 := keep3 N _ _ _ h.hN tPN
  have sz3 : w2.heap.size ≤ w3.heap.size := ht3.grown.size
  have szA0 : (w.alloc (Obj.cells p.cells.toArray 69)).heap.size = w.heap.size + 1 := by simp
  have szA : w.heap.size < w2.heap.size := by have := gr.size; omega
  have gB : g ≠ B := fun e => by
    subst e
    rcases hat with e | e
    · exact not_row_map (hA.row p.to) hmap e
    · have : g = w.heap.size + 1 := by simpa using e
      omega
  have rowOther : ∀ j, j ≠ p.to → ∀ q, (bx j).ownBlock = some q → w3.heap[q]? = w.heap[q]? ∧ q ≠ g := fun j hj q e => by
    have lt := (row_lt4 (h.row j) e).2
    obtain ⟨cur, hc⟩ := row_kind (h.row j) e
    have eA := ba.block q lt
    have n1 : (bx p.to).ownBlock ≠ some q := fun e2 => hj (h.apart j p.to q e e2)
    have e2 := gr.block q (Nat.lt_of_lt_of_le lt ba.size) (fun x => n1 x.symm)
    have hne : q ≠ B := fun eq => by subst eq; rw [eA, hc] at hmap; cases hmap
    refine ⟨by rw [mapTurned_block ht3 (Nat.lt_of_lt_of_le (Nat.lt_of_lt_of_le lt ba.size) gr.size) hne, e2, eA], fun eq => ?_⟩
    subst eq
    rcases hat with x | x
    · exact n1 x
    · have : q = w.heap.size + 1 := by simpa using x
      omega
  have setN : ∀ q, q ≠ N → (w3.setCell ⟨N, 1, none⟩ (.int .i64 ((T + 1 : Nat) : Int))).heap[q]? = w3.heap[q]? := fun q hq => Below.heap_setCell _ _ _ q (fun e => hq (by simpa using e))
  have neN : ∀ (q : Nat) (cur : Array Value), w.heap[q]? = some (Obj.cells cur 69 (0, 0)) → q ≠ N := fun q cur e eq => by subst eq; rw [h.hN] at e; injection e with e; injection e with _ e _; exact tPN e
  refine ⟨g, cap, w2, w3, hr, hr3, kN2, kN3, fun q cs t z e ht => ⟨keep2 q cs t z e ht, keep3 q cs t z e ht⟩, fun j => if j = p.to then .slice (some ⟨g, 0, none⟩) ((box L p.to).length + 1) cap else bx j, ?_, ?_⟩
  · refine ⟨?_, ?_, fun j => ?_, fun j k q e1 e2 => ?_, h.bN, h.bB, fun q hq => ?_, h.ris.post (fun q hq => by rw [hpt]; exact h.tur q hq), fun q hq => ?_, fun q hq => ?_, by simp; omega⟩
    · have := h.hN
      rw [← kN3] at this
      have := blockN_put this 1 (.int .i64 ((T + 1 : Nat) : Int))
      simpa using this
    · have m4 := m3.kept (setN B (fun e => by have := h.hN; rw [← e] at this; rw [ba.block B (h.hM.lt)] at hmap; rw [this] at hmap; cases hmap))
      have e : (fun j => decide (box L j ≠ []) || decide (j = p.to)) = fun k => decide (box (L ++ [p]) k ≠ []) := by
        funext j
        rw [box_post]
        by_cases e : p.to = j
        · simp [e]
        · rw [if_neg e]
          have : ¬ j = p.to := fun x => e x.symm
          simp [this]
      rw [← e]
      exact m4
    · by_cases e : j = p.to
      · subst e
        rw [if_pos rfl, box_post, if_pos rfl, cells4_append, List.length_append]
        have o3 : (w3.setCell ⟨N, 1, none⟩ (.int .i64 ((T + 1 : Nat) : Int))).ownsRow base 69 4 (.slice (some ⟨g, 0, none⟩) ((box L p.to).length + 1) cap) ((box L p.to).length + 1) (cells4 (box L p.to) ++ p.cells) := owns_kept o2 (fun q eq => by
          obtain rfl : g = q := by simpa [Value.ownBlock] using eq
          obtain ⟨cur, hc⟩ := row_kind o2 (g := g) rfl
          have gN : g ≠ N := fun e => by
            rw [e, kN2, h.hN] at hc
            injection hc with hc
            injection hc with _ hc _
            exact tPN hc
          rw [setN g gN, mapTurned_block ht3 hlt gB])
        simpa [cells4] using o3
      · rw [if_neg e, box_post, if_neg (fun x => e x.symm)]
        refine owns_kept (h.row j) (fun q eq => ?_)
        obtain ⟨cur, hc⟩ := row_kind (h.row j) eq
        rw [setN q (neN q cur hc)]
        exact (rowOther j e q eq).1
    · by_cases e : j = p.to
      · by_cases e' : k = p.to
        · rw [e, e']
        · rw [if_pos e] at e1
          rw [if_neg e'] at e2
          obtain rfl : g = q := by simpa [Value.ownBlock] using e1
          exact absurd rfl (rowOther k e' g e2).2
      · by_cases e' : k = p.to
        · rw [if_neg e] at e1
          rw [if_pos e'] at e2
          obtain rfl : g = q := by simpa [Value.ownBlock] using e2
          exact absurd rfl (rowOther j e g e1).2
        · rw [if_neg e] at e1
          rw [if_neg e'] at e2
          exact h.apart j k q e1 e2
    · have dk : ∀ v b, DataAt w v b → DataAt (w3.setCell ⟨N, 1, none⟩ (.int .i64 ((T + 1 : Nat) : Int))) v b := fun v b hx => hx.keep fun y ⟨cs, z, e⟩ => by
        rw [setN y (fun eq => by subst eq; rw [h.hN] at e; injection e with e; injection e with _ e _; exact t5N e.symm)]
        exact keep3 y cs 5 z e t5P
      rcases List.mem_append.1 hq with hq | hq
      · exact dk _ _ (h.dat q hq)
      · rw [List.mem_singleton.1 hq]; exact dk _ _ hd
    · rcases List.mem_append.1 hq with hq | hq
      · have := h.tur q hq; omega
      · rw [List.mem_singleton.1 hq]; omega
    · rcases List.mem_append.1 hq with hq | hq
      · exact h.tos q hq
      · rw [List.mem_singleton.1 hq]; exact hto
  · refine ⟨?_, by simp; omega, fun q cs t z e h1 h2 => ?_⟩
    · have b1 : Below base w w2 := (ba.mono hbs).grown gr (Nat.le_trans hbs ba.size) (fun j e => (row_lt4 (hA.row p.to) e).1)
      have b2 : Below base w w3 := b1.grown ht3.grown (Nat.le_trans hbs b1.size) (fun j e => by cases e; exact h.bB)
      exact b2.setCell (by simpa using h.bN) _
    · rw [setN q (fun eq => by subst eq; rw [h.hN] at e; injection e with e; injection e with _ e _; exact h2 e.symm)]
      exact keep3 q cs t z e h1
end Go.Proofs.Ytccmehbdnnelhaa
