/- A region that draws its order, of which no operation panics, within a round; what is there while letters are ranged over. -/
import Derived.Test.YtccmehbdnnelhaaNGd
import Derived.Test.YtccmehbdnnelhaaNGi
namespace Go.Proofs.Ytccmehbdnnelhaa
open Go.RowKit Go.Maps Go.Shelf
set_option linter.unusedVariables false
section
variable {P : Program} {ops : Array Oper} {Q : Exit → Act → World → Prop} {md : Region.Mode} {n : Nat}
theorem rows_in {row : String} {args : Array Value} {w : World} {R : Value → World → Prop} (h : Rows P row args w R) : RowsIn Fence.wide n P row args w R := fun c cs _ => by
  obtain ⟨v, w', r, s⟩ := h c cs
  exact ⟨v, w', r, stepsIn_wide.2 s⟩
/-- One operation, fenced by nothing. -/
theorem op_in (hQ : ∀ a w, ¬ Q .outgrown a w) {i : Nat} {K K' : Act → World → Prop} (hK : ∀ a w, K a w → K' a w) {a : Act} {w : World} (h : wpOp P ops Q i K a w) : wpOpIn Fence.wide n P ops Q i K' a w := by
  unfold wpOp at h
  unfold wpOpIn
  cases ho : ops[i]? with
  | none => rw [ho] at h; exact hK _ _ h
  | some o =>
    rw [ho] at h
    simp only at h ⊢
    by_cases hw : Region.wanted o (yielded ops a.tmps) = true
    · rw [if_pos hw] at h ⊢
      have h := h.resolve_right (fun hh => by obtain ⟨_, a, w, q⟩ := hh; exact hQ _ _ q)
      refine ⟨fun _ _ => trivial, ?_⟩
      show Oper.uponIn _ _ _ _ _ _ _ ((Oper.semAt none a.eval o).run P w)
      rw [Oper.semAt_none]
      unfold Oper.wp at h
      generalize (execOp a.eval o).run P w = r at *
      cases r with
      | ok x w' =>
        cases x <;> simp only [Oper.upon, Oper.uponIn] at h ⊢
        case value v => exact hK _ _ h
        case skip => exact hK _ _ h
        case defer d => exact hK _ _ h
        case enter f args =>
          refine ⟨wide_room _, callsIn_wide.2 (h.mono fun e w'' he => ?_)⟩
          cases e with
          | returned v => exact hK _ _ he
          | panicked c => exact he
          | outgrown => exact he
        case row row args => exact ⟨wide_room _, rows_in (h.mono fun v w'' he => hK _ _ he)⟩
      | halt x w' => cases x <;> simp only [Oper.upon, Oper.uponIn] at h ⊢ <;> exact h
    · rw [if_neg hw] at h ⊢
      exact ⟨fun _ _ => trivial, hK _ _ h⟩
theorem any_in (hQ : ∀ a w, ¬ Q .outgrown a w) : ∀ (fuel : Nat) (listed : Array Bool) (a : Act) (w : World), wpAny P md ops Q fuel listed a w → wpAnyIn Fence.wide n P md ops Q fuel listed a w
  | 0, _, _, _, h => h
  | fuel + 1, _, _, _, h => ⟨h.1, fun i hi => op_in hQ (fun a' w' h' => any_in hQ fuel _ a' w' h') (h.2 i hi)⟩
/-- A region that draws its order, of which no operation panics, within a round. -/
theorem round_calm {S : World → Prop} {id : Nat} {K : Act → World → Prop} {a : Act} {w : World} (l : Nat) (hm : P.follows .mixedOrders = true) (hd : noDefer ops = true) (hS : S w.drew)
    (h : S w.drew → wpAnyH P .any ops (Exit.then K (fun _ _ _ => False)) S ops.size (Array.replicate ops.size false) a w.drew) : (Code.region id ops true).wpIn (Fence.wide.inRound l) n P (Exit.then K Q) a w :=
  Code.wpIn_mono (fun e a w h => by cases e <;> first | exact h | exact h.elim) (round_any l hm hd (any_in (fun _ _ h => h) _ _ _ _ (wpAny_of_held _ _ _ _ (h hS))))
end
theorem set_block1 {w : World} {R : Nat} {cs : Array Value} {t : TypeId} {fr : Nat × Nat} (h : w.heap[R]? = some (.cells cs t fr)) (i : Nat) (v : Value) : (w.setCell ⟨R, i, none⟩ v).heap[R]? = some (.cells (cs.setIfInBounds i v) t fr) := by
  obtain ⟨hlt, hk⟩ := Array.getElem?_eq_some_iff.1 h
  show (w.heap.modify R _)[R]? = _
  rw [Array.getElem?_eq_getElem (by rw [Array.size_modify]; exact hlt), Array.getElem_modify_self, hk]
  rfl
/-- What is there while letters are ranged over: all that was, but the number's box. -/
structure FrN (w W X : World) (Bi j : Nat) : Prop where
  bel : Below w.heap.size w W
  lB : w.heap.size ≤ Bi
  sz : Bi < W.heap.size
  grown : W.grownBy X (some Bi)
  box : X.heap[Bi]? = some (.cells #[.int .i64 (j : Nat)] 3 (0, 0))
section
variable {w W X Y : World} {Bi j : Nat}
theorem FrN.all (h : FrN w W X Bi j) : Below w.heap.size w X := h.bel.grown h.grown h.bel.size (fun k e => by have := Option.some.inj e; have := h.lB; omega)
theorem FrN.low (h : FrN w W X Bi j) (b : Below W.heap.size X Y) : FrN w W Y Bi j :=
  ⟨h.bel, h.lB, h.sz, ⟨b.os.trans h.grown.os, b.tape.trans h.grown.tape, b.output.trans h.grown.output, Nat.le_trans h.grown.size b.size, fun k hk hr => (b.block k hk).trans (h.grown.block k hk hr)⟩, (b.block _ h.sz).trans h.box⟩
theorem FrN.put (h : FrN w W X Bi j) {l : Nat} (o' : Obj) (hl : W.heap.size ≤ l) : FrN w W (X.putObj l o') Bi j :=
  ⟨h.bel, h.lB, h.sz, ⟨h.grown.os, h.grown.tape, h.grown.output, by simpa [World.putObj] using h.grown.size, fun k hk hr => (World.putObj_heap_other (by omega)).trans (h.grown.block k hk hr)⟩, (World.putObj_heap_other (by have := h.sz; omega)).trans h.box⟩
/-- The letter's bytes are spoilt, and the number goes on. -/
theorem FrN.next {n : Nat} {v : Value} {xs : List Value} (h : FrN w W X Bi j) (ho : X.ownsRow W.heap.size 5 1 v n xs) (hg : X.grownBy Y v.ownBlock) (i : Nat) : FrN w W (Y.setCell ⟨Bi, 0, none⟩ (.int .i64 (i : Nat))) Bi i := by
  have hB := h.sz
  have b1 : Below W.heap.size X Y := (Below.refl _ X).grown hg h.grown.size (fun k e => (row_lt4 ho e).1)
  have h1 := h.low b1
  refine ⟨h.bel, h.lB, h.sz, ⟨h1.grown.os, h1.grown.tape, h1.grown.output, by simpa [World.setCell] using h1.grown.size, fun k hk hr => ?_⟩, ?_⟩
  · rw [Below.heap_setCell _ _ _ k (fun e => hr (by simpa using e))]
    exact h1.grown.block k hk hr
  · have := set_block1 h1.box 0 (.int .i64 (i : Nat))
    simpa using this
theorem FrN.keeps {n : Nat} {v : Value} {xs : List Value} (h : FrN w W X Bi j) (ho : X.ownsRow W.heap.size 5 1 v n xs) (hg : X.grownBy Y v.ownBlock) (i : Nat) :
    KeepsFrom W.heap.size X (Y.setCell ⟨Bi, 0, none⟩ (.int .i64 (i : Nat))) ∧ KcA W.heap.size X (Y.setCell ⟨Bi, 0, none⟩ (.int .i64 (i : Nat))) := by
  have hB := h.sz
  refine ⟨⟨by have := hg.size; simpa [World.setCell] using this, fun k o hk hko hc => ?_⟩, fun k cs t z hk hx h3 h4 => ?_⟩
  · rw [Below.heap_setCell _ _ _ k (fun e => by have : k = Bi := by simpa using e
                                                omega), hg.block k (Array.getElem?_eq_some_iff.1 hko).1 (fun e => ?_)]
    · exact hko
    · obtain ⟨cur, hcur⟩ := row_kind ho e.symm
      rw [hko] at hcur
      cases hcur
      simp [Obj.isCells] at hc
  · have hkb : k ≠ Bi := fun e => by
      rw [e, h.box] at hx
      injection hx with hx
      injection hx with _ hx _
      exact h3 hx.symm
    rw [Below.heap_setCell _ _ _ k (fun e => hkb (by simpa using e)), hg.block k (Array.getElem?_eq_some_iff.1 hx).1 (fun e => by have := (row_lt4 ho (k := k) e.symm).1; omega)]
end
end Go.Proofs.Ytccmehbdnnelhaa
