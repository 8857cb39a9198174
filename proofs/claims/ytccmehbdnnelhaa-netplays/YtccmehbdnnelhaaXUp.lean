/- A range over a function whose body makes memory of its own, within an iterator of one's own. -/
import Derived.Test.YtccmehbdnnelhaaRanges
namespace Go.Proofs.Ytccmehbdnnelhaa
open Go.RowKit Go.Shelf
set_option linter.unusedVariables false

section
variable {P : Program} {n : Nat} {α : Type}
/-- What stays where only new memory comes. -/
def UpB {β : Type} (I : β → World → Prop) : Prop := ∀ s W W', I s W → Below W.heap.size W W' → I s W'
/-- What stays where something that is no cells is another one. -/
def PutB {β : Type} (B : Nat) (I : β → World → Prop) : Prop := ∀ (s : β) (W : World) (l : Nat) (o o' : Obj), B ≤ l → I s W → W.heap[l]? = some o → o.isCells = false → I s (W.putObj l o')
def SeqV (n : Nat) (P : Program) (gf : Nat) (lb : Array Value) (encs : α → Array Value) (Kc : World → World → Prop) (R : List α → α → World → Prop) (S Sp : List α → Prop) (w : World) : Prop :=
  ∀ (l : Nat) (J Jx : List α → World → Prop) (W : World), Below w.heap.size w W → UpB J → UpB Jx → PutB W.heap.size J → PutB W.heap.size Jx →
    (∀ pre x W1, J pre W1 → R pre x W1 → YieldAt Fence.wide (n - 1) P l (encs x) W1 fun e W' => KeepsFrom W.heap.size W1 W' ∧
      ((e = .returned (.bool true) ∧ J (pre ++ [x]) W' ∧ Kc W1 W') ∨ (e = .returned (.bool false) ∧ Jx (pre ++ [x]) W'))) →
    J [] W →
    CallsIn Fence.wide n P gf (#[.func (.yield l) #[] #[]] ++ lb) W fun e W' => (∃ v, e = .returned v) ∧ ((∃ xs, S xs ∧ J xs W') ∨ (∃ pre, Sp pre ∧ Jx pre W'))
theorem range_V {g : Operand} {ps : Array Tmp} {assign body : Code} {Q : Exit → Act → World → Prop} {a : Act} {w w0 : World} {gf : Nat} {lb : Array Value} (hg : a.eval g = .func (.func gf) #[] lb)
    (eg : ∀ args w, (callFunc gf args).run P w = .ok (.enter gf args) w) {encs : α → Array Value} {Kc : World → World → Prop} {R : List α → α → World → Prop} {S Sp : List α → Prop} (hseq : SeqV (n - 1) P gf lb encs Kc R S Sp w0)
    (hKt : ∀ {A B C : World}, Kc A B → Kc B C → Kc A C) (hKb : ∀ (W : World) (l : Nat) (o o' : Obj), W.heap[l]? = some o → o.isCells = false → Kc W (W.putObj l o')) (hb0 : Below w0.heap.size w0 w) (hps : ∀ x, (encs x).size = ps.size)
    (I : List α → World → Prop) (Ix : Code → List α → World → Prop) (hI : UpB I) (hIx : ∀ c, UpB (Ix c)) (hIp : PutB w.heap.size I) (hIxp : ∀ c, PutB w.heap.size (Ix c)) (h0 : I [] w)
    (Ax : List α → α → Act → World → Prop) (hAx : ∀ pre x a', OwnFrom w.heap.size (fun (_ : Unit) W => Ax pre x a' W))
    (hassign : ∀ (l : Nat) (pre : List α) (x : α) (W : World) (K : Act → World → Prop), I pre W → R pre x W → (∀ a' W', KeepsFrom w.heap.size W W' → Kc W W' → I pre W' → Ax pre x a' W' → K a' W') →
      assign.wpIn (Fence.wide.inRound l) (n - 1 - 1) P (Exit.then K (fun _ _ _ => False)) { tmps := (ps.zip (encs x)).foldl (fun t (p, v) => t.setIfInBounds p v) a.tmps, defers := [] } W)
    (hbody : ∀ (l : Nat) (pre : List α) (x : α) (a' : Act) (W : World), I pre W → Ax pre x a' W → body.wpIn (Fence.wide.inRound l) (n - 1 - 1) P (ownPostG w.heap.size Kc I Ix (pre ++ [x]) W) a' W)
    (hdone : ∀ (D : Nat) (xs : List α) (W : World), w.heap.size ≤ D → S xs → I xs W → W.heap[D]? = some (.deferred (some [])) → Q .normal { a with defers := { target := .collected D, args := #[] } :: a.defers } W)
    (hstop : ∀ (D : Nat) (c : Code) (pre : List α) (W : World), w.heap.size ≤ D → Sp pre → Ix c pre W → W.heap[D]? = some (.deferred (some [])) → c.wpIn Fence.wide n P Q { a with defers := { target := .collected D, args := #[] } :: a.defers } W) :
    (Code.rangeFunc g ps assign body).wpIn Fence.wide n P Q a w := by
  refine wpIn_rangeFunc fun fn _ => ?_
  generalize hD : w.heap.size = D at *
  generalize hL : D + 1 = L at *
  let rc : LoopState → Option Code → Obj := fun st pe => .loop { state := st, pending := pe, fn := fn, tmps := a.tmps, params := ps, assign := assign, body := body, defers := D }
  generalize hW1 : (w.alloc (.deferred (some []))).alloc (rc .ready none) = W1
  have sz1 : W1.heap.size = D + 2 := by rw [← hW1]; simp [hD]
  have r1 : W1.heap[L]? = some (rc .ready none) := by
    have h := World.alloc_heap_new (w.alloc (.deferred (some []))) (rc .ready none)
    rw [World.size_alloc, hD, hL, hW1] at h
    exact h
  have d1 : W1.heap[D]? = some (.deferred (some [])) := by
    have h := World.alloc_heap_new w (.deferred (some []))
    rw [hD] at h
    rw [← hW1, Below.heap_alloc _ _ _ (by simp [hD]), h]
  have i1 : I [] W1 := by rw [← hW1]; exact hI _ _ _ (hI _ _ _ h0 ((Below.refl _ w).alloc (Nat.le_refl _) _)) ((Below.refl _ _).alloc (Nat.le_refl _) _)
  have b1 : Below w0.heap.size w0 W1 := by rw [← hW1]; exact hb0.trans ((((Below.refl _ w).alloc (Nat.le_refl _) _).alloc (by simp) _).mono hb0.size)
  refine ⟨L, [{ target := .collected D, args := #[] }], W1, { target := .fn (.func gf) lb, args := #[.func (.yield L) #[] #[]] }, W1, gf, #[.func (.yield L) #[] #[]] ++ lb, W1, ?_, ?_, fun _ _ => trivial, ?_, wide_room _, ?_⟩
  · have := run_enterLoop_outer (P := P) (w := w) fn a.tmps ps assign body
    rw [hD, hL] at this
    rw [← hW1]
    exact this
  · simp only [resolve, hg]
    simp [go_sem]
  · simp [invoke, go_sem, eg]
  · refine (hseq L (fun pre W => I pre W ∧ W.heap[L]? = some (rc .ready none) ∧ W.heap[D]? = some (.deferred (some [])))
      (fun pre W => ∃ c, Ix c pre W ∧ W.heap[L]? = some (rc .done (some c)) ∧ W.heap[D]? = some (.deferred (some []))) W1 b1
      (fun s X Y h hb => ⟨hI s X Y h.1 hb, (hb.block L (Array.getElem?_eq_some_iff.1 h.2.1).1).trans h.2.1, (hb.block D (Array.getElem?_eq_some_iff.1 h.2.2).1).trans h.2.2⟩)
      (fun s X Y h hb => by obtain ⟨c, p1, p2, p3⟩ := h; exact ⟨c, hIx c s X Y p1 hb, (hb.block L (Array.getElem?_eq_some_iff.1 p2).1).trans p2, (hb.block D (Array.getElem?_eq_some_iff.1 p3).1).trans p3⟩)
      (fun s X l o o' hl h ho hc => ⟨hIp s X l o o' (by omega) h.1 ho hc, (World.putObj_heap_other (by omega)).trans h.2.1, (World.putObj_heap_other (by omega)).trans h.2.2⟩)
      (fun s X l o o' hl h ho hc => by obtain ⟨c, p1, p2, p3⟩ := h; exact ⟨c, hIxp c s X l o o' (by omega) p1 ho hc, (World.putObj_heap_other (by omega)).trans p2, (World.putObj_heap_other (by omega)).trans p3⟩) ?_ ⟨i1, r1, d1⟩).mono ?_
    · rintro pre x W ⟨hi, hl, hd⟩ hR
      refine ⟨fn, _, assign, body, run_yield hl (hps x), roundIn_of_wpIn trivial (hassign L pre x W _ hi hR fun a' V k1 k2 hi' hax => ?_)⟩
      have hl' := k1.same L _ (by omega) hl rfl
      have hd' := k1.same D _ (by omega) hd rfl
      have lt : L < V.heap.size := (Array.getElem?_eq_some_iff.1 hl').1
      refine ⟨_, run_beginRound hl' rfl, ?_⟩
      have hl2 : (V.putObj L (rc .busy none)).heap[L]? = some (rc .busy none) := World.putObj_heap_same lt
      have hd2 : (V.putObj L (rc .busy none)).heap[D]? = some (.deferred (some [])) := (World.putObj_heap_other (by omega)).trans hd'
      refine wpIn_mono (hbody L pre x a' (V.putObj L (rc .busy none)) (hIp _ _ _ _ _ (by omega) hi' hl' rfl) ((hAx pre x a').putObj (s := ()) _ hax (by omega) hl' rfl)) ?_
      have out : ∀ (jump : Option Code) (X : World), KeepsFrom D (V.putObj L (rc .busy none)) X →
          (Instr.endRound L jump).run P X = .ok (.bool jump.isNone) (X.putObj L (rc (if jump.isNone then .ready else .done) jump)) ∧ X.heap[L]? = some (rc .busy none) ∧
          (X.putObj L (rc (if jump.isNone then .ready else .done) jump)).heap[L]? = some (rc (if jump.isNone then .ready else .done) jump) ∧
          (X.putObj L (rc (if jump.isNone then .ready else .done) jump)).heap[D]? = some (.deferred (some [])) ∧
          KeepsFrom W1.heap.size W (X.putObj L (rc (if jump.isNone then .ready else .done) jump)) := fun jump X kX => by
        have hlX := kX.same L _ (by omega) hl2 rfl
        refine ⟨run_endRound jump hlX, hlX, World.putObj_heap_same (Array.getElem?_eq_some_iff.1 hlX).1, (World.putObj_heap_other (by omega)).trans (kX.same D _ (by omega) hd2 rfl), ⟨?_, ?_⟩⟩
        · have := k1.size; have := kX.size; simp at this ⊢; omega
        · intro k o hk ho hc
          have e1 := k1.same k o (by omega) ho hc
          have e2 := kX.same k o (by omega) ((World.putObj_heap_other (by omega)).trans e1) hc
          exact (World.putObj_heap_other (by omega)).trans e2
      have mid : Kc V (V.putObj L (rc .busy none)) := hKb V L _ _ hl' rfl
      intro e a3 X hp
      cases e with
      | normal =>
        obtain ⟨p1, p2, p3⟩ := hp
        obtain ⟨o1, o2, o3, o4, o5⟩ := out none X p1
        exact ⟨_, _, o1, o5, .inl ⟨rfl, ⟨hIp _ _ _ _ _ (by omega) p3 o2 rfl, o3, o4⟩, hKt k2 (hKt mid (hKt p2 (hKb X L _ _ o2 rfl)))⟩⟩
      | ret =>
        obtain ⟨p1, p3⟩ := hp
        obtain ⟨o1, o2, o3, o4, o5⟩ := out (some .ret) X p1
        exact ⟨_, _, o1, o5, .inr ⟨rfl, .ret, hIxp _ _ _ _ _ _ (by omega) p3 o2 rfl, o3, o4⟩⟩
      | exit id =>
        obtain ⟨p1, p3⟩ := hp
        obtain ⟨o1, o2, o3, o4, o5⟩ := out (some (.exit id)) X p1
        exact ⟨_, _, o1, o5, .inr ⟨rfl, .exit id, hIxp _ _ _ _ _ _ (by omega) p3 o2 rfl, o3, o4⟩⟩
      | goto t =>
        obtain ⟨p1, p3⟩ := hp
        obtain ⟨o1, o2, o3, o4, o5⟩ := out (some (.goto t)) X p1
        exact ⟨_, _, o1, o5, .inr ⟨rfl, .goto t, hIxp _ _ _ _ _ _ (by omega) p3 o2 rfl, o3, o4⟩⟩
      | panic c => exact hp.elim
      | outgrown => exact hp.elim
    · rintro e X ⟨⟨v, rfl⟩, ⟨xs, hS, hi, hl, hd⟩ | ⟨pre, hSp, c, hi, hl, hd⟩⟩
      · exact ⟨none, _, run_endLoop hl (by simp), hdone D xs _ (Nat.le_refl _) hS (hIp _ _ _ _ _ (by omega) hi hl rfl) ((World.putObj_heap_other (by omega)).trans hd)⟩
      · exact ⟨some c, _, run_endLoop hl (by simp), hstop D c pre _ (Nat.le_refl _) hSp (hIxp c _ _ _ _ _ (by omega) hi hl rfl) ((World.putObj_heap_other (by omega)).trans hd)⟩

end
end Go.Proofs.Ytccmehbdnnelhaa
