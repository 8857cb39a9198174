/- A range over a function with one plain loop variable. -/
import Derived.Test.YtpnnbkhlbohfbaaDoorRanges
namespace Go.Proofs.YtpnnbkhlbohfbaaDoor
open Go.RowKit Go.Shelf
attribute [local go_sem] Oper.semAt_some
set_option linter.unusedVariables false

theorem range_1 {P : Program} {n : Nat} {α : Type} {g : Operand} {t d id : Nat} {ty : TypeId} {pos : String} {body : Code} {Q : Exit → Act → World → Prop} {a : Act} {w w0 : World} {gf : Nat} {lb : Array Value} (ht : t < a.tmps.size) (hg : a.eval g = .func (.func gf) #[] lb)
    (eg : ∀ args w, (callFunc gf args).run P w = .ok (.enter gf args) w) {v : α → Value} {Kc : World → World → Prop} {R : List α → α → World → Prop} {S Sp : List α → Prop} (hseq : SeqR (n - 1) P gf lb (fun x => #[v x]) Kc R S Sp w0)
    (hKt : ∀ {A B C : World}, Kc A B → Kc B C → Kc A C) (hKr : ∀ A, Kc A A) (hKb : ∀ (W : World) (l : Nat) (o o' : Obj), W.heap[l]? = some o → o.isCells = false → Kc W (W.putObj l o')) (hb0 : Below w0.heap.size w0 w)
    (hR : ∀ pre x, OwnFrom w.heap.size (fun (_ : Unit) W => R pre x W))
    (I : List α → World → Prop) (Ix : Code → List α → World → Prop) (hI : LowFrom w.heap.size I) (hIx : ∀ c, LowFrom w.heap.size (Ix c)) (h0 : I [] w)
    (hbody : ∀ (l : Nat) (pre : List α) (x : α) (W : World), I pre W → R pre x W → body.wpIn (Fence.wide.inRound l) (n - 1 - 1) P (ownPostG w.heap.size Kc I Ix (pre ++ [x]) W) { tmps := (a.tmps.setIfInBounds t (v x)).setIfInBounds d (v x), defers := [] } W)
    (hdone : ∀ (D : Nat) (xs : List α) (W : World), w.heap.size ≤ D → S xs → I xs W → W.heap[D]? = some (.deferred (some [])) → Q .normal { a with defers := { target := .collected D, args := #[] } :: a.defers } W)
    (hstop : ∀ (D : Nat) (c : Code) (pre : List α) (W : World), w.heap.size ≤ D → Sp pre → Ix c pre W → W.heap[D]? = some (.deferred (some [])) → c.wpIn Fence.wide n P Q { a with defers := { target := .collected D, args := #[] } :: a.defers } W) :
    (Code.rangeFunc g #[t] (Code.region id #[{ dst := some d, op := .assign (.tmp t), type := ty, pos := pos, after := #[], guard := none }] false) body).wpIn Fence.wide n P Q a w := by
  refine range_R (w0 := w0) hg eg hseq hKt hKb hb0 (fun _ => rfl) I Ix hI hIx h0 (fun pre x a' W => R pre x W ∧ a' = { tmps := (a.tmps.setIfInBounds t (v x)).setIfInBounds d (v x), defers := [] })
    (fun pre x a' s X Y row h hgr hrow => ⟨hR pre x s X Y row h.1 hgr hrow, h.2⟩) ?_ (fun l pre x a' W hi hx => by obtain ⟨hr, rfl⟩ := hx; exact hbody l pre x W hi hr) hdone hstop
  intro l pre x W K hi hr hK
  refine wpIn_region_lit (l := [_]) (wpListIn_plain rfl fun K' hK' => ?_)
  have he : ({ tmps := a.tmps.setIfInBounds t (v x), defers := [] } : Act).eval (.tmp t) = v x := by
    simp [Act.eval, ht]
  have hT : (#[t].zip #[v x]).foldl (fun (t : Array Value) (x : Tmp × Value) => match x with | (p, v) => t.setIfInBounds p v) a.tmps = a.tmps.setIfInBounds t (v x) := by simp
  rw [hT]
  refine ⟨fun _ _ => trivial, ?_⟩
  have hx : (execOp ({ tmps := a.tmps.setIfInBounds t (v x), defers := [] } : Act).eval ({ dst := some d, op := .assign (.tmp t), type := ty, pos := pos, after := #[], guard := none } : Oper)).run P W = .ok (.value (v x)) W := by
    simp [execOp, he]
  rw [Oper.semAt_eq _ _ _ (fun c => by simp), hx]
  refine hK' _ _ (wpListIn_nil ?_)
  exact hK _ _ (KeepsFrom.refl _ _) (hKr W) hi ⟨hr, rfl⟩
end Go.Proofs.YtpnnbkhlbohfbaaDoor
