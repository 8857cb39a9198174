/- A range over a function whose values are told of: the body is walked only at what the iterator truly hands on. -/
import Derived.Test.YtccmehbdnnelhaaProg
import Derived.RangeFuncNested
import Derived.RangeFuncBound
import Derived.RangeFuncCalls
import Derived.RangeFuncLeaves
import Derived.Shelf.Abstract
import Derived.Shelf.RegionOpen
import Derived.WalkKit
import Derived.OwnWalkIn
import Derived.TacticsInMore
import Derived.LoopNIn
import Derived.LoopIn
import Derived.Deep.QuietTactic
import Derived.Sort.QuietTacIn
namespace Go.Proofs.Ytccmehbdnnelhaa
open Go.RowKit Go.Shelf
set_option linter.unusedVariables false

section
variable {P : Program} {n : Nat} {α : Type}
/-- What speaks of the blocks below B alone. -/
def LowFrom {β : Type} (B : Nat) (I : β → World → Prop) : Prop := ∀ s W W', I s W → Below B W W' → I s W'
theorem low_putObj {β : Type} {B : Nat} {I : β → World → Prop} (h : LowFrom B I) {s : β} {W : World} {l : Nat} {o : Obj} (o' : Obj) (hs : I s W) (hB : B ≤ l) (hl : W.heap[l]? = some o) : I s (W.putObj l o') :=
  h s W _ hs ((Below.refl B W).grown (grownBy_putObj' W l o') (by have := (Array.getElem?_eq_some_iff.1 hl).1; omega) (fun k e => by cases e; omega))
theorem low_alloc {β : Type} {B : Nat} {I : β → World → Prop} (h : LowFrom B I) {s : β} {W : World} (o : Obj) (hs : I s W) (hB : B ≤ W.heap.size) : I s (W.alloc o) :=
  h s W _ hs ((Below.refl B W).alloc hB o)
/-- An iterator: behind pre it hands on only what is told (R); a round keeps Kc and whatever is no cells. -/
def SeqR (n : Nat) (P : Program) (gf : Nat) (lb : Array Value) (encs : α → Array Value) (Kc : World → World → Prop) (R : List α → α → World → Prop) (S Sp : List α → Prop) (w : World) : Prop :=
  ∀ (l : Nat) (J Jx : List α → World → Prop) (W : World), Below w.heap.size w W → LowFrom W.heap.size J → LowFrom W.heap.size Jx →
    (∀ pre x W1, J pre W1 → R pre x W1 → YieldAt Fence.wide (n - 1) P l (encs x) W1 fun e W' => KeepsFrom W.heap.size W1 W' ∧
      ((e = .returned (.bool true) ∧ J (pre ++ [x]) W' ∧ Kc W1 W') ∨ (e = .returned (.bool false) ∧ Jx (pre ++ [x]) W'))) →
    J [] W →
    CallsIn Fence.wide n P gf (#[.func (.yield l) #[] #[]] ++ lb) W fun e W' => (∃ v, e = .returned v) ∧ ((∃ xs, S xs ∧ J xs W') ∨ (∃ pre, Sp pre ∧ Jx pre W'))

theorem wide_room (n : Nat) : (Fence.wide.depth.isSome = true → 1 ≤ n) := fun h => by cases h

/-- THE LAW. -/
theorem range_R {g : Operand} {ps : Array Tmp} {assign body : Code} {Q : Exit → Act → World → Prop} {a : Act} {w w0 : World} {gf : Nat} {lb : Array Value} (hg : a.eval g = .func (.func gf) #[] lb)
    (eg : ∀ args w, (callFunc gf args).run P w = .ok (.enter gf args) w) {encs : α → Array Value} {Kc : World → World → Prop} {R : List α → α → World → Prop} {S Sp : List α → Prop} (hseq : SeqR (n - 1) P gf lb encs Kc R S Sp w0)
    (hKt : ∀ {A B C : World}, Kc A B → Kc B C → Kc A C) (hKb : ∀ (W : World) (l : Nat) (o o' : Obj), W.heap[l]? = some o → o.isCells = false → Kc W (W.putObj l o')) (hb0 : Below w0.heap.size w0 w) (hps : ∀ x, (encs x).size = ps.size)
    (I : List α → World → Prop) (Ix : Code → List α → World → Prop) (hI : LowFrom w.heap.size I) (hIx : ∀ c, LowFrom w.heap.size (Ix c)) (h0 : I [] w)
    (Ax : List α → α → Act → World → Prop) (hAx : ∀ pre x a', OwnFrom w.heap.size (fun (_ : Unit) W => Ax pre x a' W))
    (hassign : ∀ (l : Nat) (pre : List α) (x : α) (W : World) (K : Act → World → Prop), I pre W → R pre x W → (∀ a' W', KeepsFrom w.heap.size W W' → Kc W W' → I pre W' → Ax pre x a' W' → K a' W') →
      assign.wpIn (Fence.wide.inRound l) (n - 1 - 1) P (Exit.then K (fun _ _ _ => False)) { tmps := (ps.zip (encs x)).foldl (fun t (p, v) => t.setIfInBounds p v) a.tmps, defers := [] } W)
    (hbody : ∀ (l : Nat) (pre : List α) (x : α) (a' : Act) (W : World), I pre W → Ax pre x a' W → body.wpIn (Fence.wide.inRound l) (n - 1 - 1) P (ownPostG w.heap.size Kc I Ix (pre ++ [x]) W) a' W)
    (hdone : ∀ (D : Nat) (xs : List α) (W : World), w.heap.size ≤ D → S xs → I xs W → W.heap[D]? = some (.deferred (some [])) → Q .normal { a with defers := { target := .collected D, args := #[] } :: a.defers } W)
    (hstop : ∀ (D : Nat) (c : Code) (pre : List α) (W : World), w.heap.size ≤ D → Sp pre → Ix c pre W → W.heap[D]? = some (.deferred (some [])) → c.wpIn Fence.wide n P Q { a with defers := { target := .collected D, args := #[] } :: a.defers } W) :
    (Code.rangeFunc g ps assign body).wpIn Fence.wide n P Q a w := by
  refine wpIn_rangeFunc fun fn _ => ?_
  generalize hD : w.heap.size = D at *
  generalize hL : D + 1 = L at *
  let rc : LoopState → Option Code → Obj := fun st pe => .loop { state := st, pending := pe, fn := fn, tmps := a.tmps, params := ps, assign := assign, body := body, defers := D }
  generalize hW1 : (w.alloc (.deferred (some []))).alloc (rc .ready none) = W1
  have sz1 : W1.heap.size = D + 2 := by rw [← hW1]; simp [hD]
  have r1 : W1.heap[L]? = some (rc .ready none) := by
    have h := World.alloc_heap_new (w.alloc (.deferred (some []))) (rc .ready none)
    rw [World.size_alloc, hD, hL, hW1] at h
    exact h
  have d1 : W1.heap[D]? = some (.deferred (some [])) := by
    have h := World.alloc_heap_new w (.deferred (some []))
    rw [hD] at h
    rw [← hW1, Below.heap_alloc _ _ _ (by simp [hD]), h]
  have i1 : I [] W1 := by rw [← hW1]; exact low_alloc hI _ (low_alloc hI _ h0 (by omega)) (by simp; omega)
  have b1 : Below w0.heap.size w0 W1 := by rw [← hW1]; exact hb0.trans ((((Below.refl _ w).alloc (Nat.le_refl _) _).alloc (by simp) _).mono hb0.size)
  refine ⟨L, [{ target := .collected D, args := #[] }], W1, { target := .fn (.func gf) lb, args := #[.func (.yield L) #[] #[]] }, W1, gf, #[.func (.yield L) #[] #[]] ++ lb, W1, ?_, ?_, fun _ _ => trivial, ?_, wide_room _, ?_⟩
  · have := run_enterLoop_outer (P := P) (w := w) fn a.tmps ps assign body
    rw [hD, hL] at this
    rw [← hW1]
    exact this
  · simp only [resolve, hg]
    simp [go_sem]
  · simp [invoke, go_sem, eg]
  · refine (hseq L (fun pre W => I pre W ∧ W.heap[L]? = some (rc .ready none) ∧ W.heap[D]? = some (.deferred (some [])))
      (fun pre W => ∃ c, Ix c pre W ∧ W.heap[L]? = some (rc .done (some c)) ∧ W.heap[D]? = some (.deferred (some []))) W1 b1
      (fun s X Y h hb => ⟨hI s X Y h.1 (hb.mono (by omega)), (hb.block L (by omega)).trans h.2.1, (hb.block D (by omega)).trans h.2.2⟩)
      (fun s X Y h hb => by obtain ⟨c, p1, p2, p3⟩ := h; exact ⟨c, hIx c s X Y p1 (hb.mono (by omega)), (hb.block L (by omega)).trans p2, (hb.block D (by omega)).trans p3⟩) ?_ ⟨i1, r1, d1⟩).mono ?_
    · rintro pre x W ⟨hi, hl, hd⟩ hR
      refine ⟨fn, _, assign, body, run_yield hl (hps x), roundIn_of_wpIn trivial (hassign L pre x W _ hi hR fun a' V k1 k2 hi' hax => ?_)⟩
      have hl' := k1.same L _ (by omega) hl rfl
      have hd' := k1.same D _ (by omega) hd rfl
      have lt : L < V.heap.size := (Array.getElem?_eq_some_iff.1 hl').1
      refine ⟨_, run_beginRound hl' rfl, ?_⟩
      have hl2 : (V.putObj L (rc .busy none)).heap[L]? = some (rc .busy none) := World.putObj_heap_same lt
      have hd2 : (V.putObj L (rc .busy none)).heap[D]? = some (.deferred (some [])) := (World.putObj_heap_other (by omega)).trans hd'
      refine wpIn_mono (hbody L pre x a' (V.putObj L (rc .busy none)) (low_putObj hI _ hi' (by omega) hl') ((hAx pre x a').putObj (s := ()) _ hax (by omega) hl' rfl)) ?_
      have out : ∀ (jump : Option Code) (X : World), KeepsFrom D (V.putObj L (rc .busy none)) X →
          (Instr.endRound L jump).run P X = .ok (.bool jump.isNone) (X.putObj L (rc (if jump.isNone then .ready else .done) jump)) ∧ X.heap[L]? = some (rc .busy none) ∧
          (X.putObj L (rc (if jump.isNone then .ready else .done) jump)).heap[L]? = some (rc (if jump.isNone then .ready else .done) jump) ∧
          (X.putObj L (rc (if jump.isNone then .ready else .done) jump)).heap[D]? = some (.deferred (some [])) ∧
          KeepsFrom W1.heap.size W (X.putObj L (rc (if jump.isNone then .ready else .done) jump)) := fun jump X kX => by
        have hlX := kX.same L _ (by omega) hl2 rfl
        refine ⟨run_endRound jump hlX, hlX, World.putObj_heap_same (Array.getElem?_eq_some_iff.1 hlX).1, (World.putObj_heap_other (by omega)).trans (kX.same D _ (by omega) hd2 rfl), ⟨?_, ?_⟩⟩
        · have := k1.size; have := kX.size; simp at this ⊢; omega
        · intro k o hk ho hc
          have e1 := k1.same k o (by omega) ho hc
          have e2 := kX.same k o (by omega) ((World.putObj_heap_other (by omega)).trans e1) hc
          exact (World.putObj_heap_other (by omega)).trans e2
      have mid : Kc V (V.putObj L (rc .busy none)) := hKb V L _ _ hl' rfl
      intro e a3 X hp
      cases e with
      | normal =>
        obtain ⟨p1, p2, p3⟩ := hp
        obtain ⟨o1, o2, o3, o4, o5⟩ := out none X p1
        exact ⟨_, _, o1, o5, .inl ⟨rfl, ⟨low_putObj hI _ p3 (by omega) o2, o3, o4⟩, hKt k2 (hKt mid (hKt p2 (hKb X L _ _ o2 rfl)))⟩⟩
      | ret =>
        obtain ⟨p1, p3⟩ := hp
        obtain ⟨o1, o2, o3, o4, o5⟩ := out (some .ret) X p1
        exact ⟨_, _, o1, o5, .inr ⟨rfl, .ret, low_putObj (hIx _) _ p3 (by omega) o2, o3, o4⟩⟩
      | exit id =>
        obtain ⟨p1, p3⟩ := hp
        obtain ⟨o1, o2, o3, o4, o5⟩ := out (some (.exit id)) X p1
        exact ⟨_, _, o1, o5, .inr ⟨rfl, .exit id, low_putObj (hIx _) _ p3 (by omega) o2, o3, o4⟩⟩
      | goto t =>
        obtain ⟨p1, p3⟩ := hp
        obtain ⟨o1, o2, o3, o4, o5⟩ := out (some (.goto t)) X p1
        exact ⟨_, _, o1, o5, .inr ⟨rfl, .goto t, low_putObj (hIx _) _ p3 (by omega) o2, o3, o4⟩⟩
      | panic c => exact hp.elim
      | outgrown => exact hp.elim
    · rintro e X ⟨⟨v, rfl⟩, ⟨xs, hS, hi, hl, hd⟩ | ⟨pre, hSp, c, hi, hl, hd⟩⟩
      · exact ⟨none, _, run_endLoop hl (by simp), hdone D xs _ (Nat.le_refl _) hS (low_putObj hI _ hi (by omega) hl) ((World.putObj_heap_other (by omega)).trans hd)⟩
      · exact ⟨some c, _, run_endLoop hl (by simp), hstop D c pre _ (Nat.le_refl _) hSp (low_putObj (hIx c) _ hi (by omega) hl) ((World.putObj_heap_other (by omega)).trans hd)⟩

/-- A region without defers goes in a round as anywhere: read-only ones. -/
theorem round_ops (ops : Array Oper) (hd : ∀ (i : Nat) (o : Oper), ops[i]? = some o → (∀ c, o.op ≠ .defer c)) {F : Fence} (l : Nat) {Q : Exit → Act → World → Prop} : ∀ (is : List Nat) (a : Act) (w : World), wpOpsIn F n P ops Q is a w → wpOpsIn (F.inRound l) n P ops Q is a w
  | [], _, _, h => h
  | i :: rest, a, w, h => by
    unfold wpOpsIn at h ⊢
    cases ho : ops[i]? with
    | none => rw [ho] at h; exact round_ops ops hd l rest a w h
    | some o =>
      rw [ho] at h
      simp only at h ⊢
      split
      · rename_i hw
        rw [if_pos hw] at h
        refine ⟨h.1, ?_⟩
        have h2 := (Oper.wpIn_mono (fun a w => round_ops ops hd l rest a w) h).2
        rw [Oper.semAt_eq _ _ _ (hd i o ho)] at h2 ⊢
        exact h2
      · rename_i hw
        rw [if_neg hw] at h
        exact ⟨h.1, round_ops ops hd l rest _ w h.2⟩
/-- No operation of a region is a defer statement. -/
def noDefer (ops : Array Oper) : Bool := ops.all fun o => match o.op with | .defer _ => false | _ => true
theorem noDefer_spec {ops : Array Oper} (h : noDefer ops = true) (i : Nat) (o : Oper) (ho : ops[i]? = some o) (c : Call) : o.op ≠ .defer c := by
  unfold noDefer at h
  rw [Array.all_eq_true] at h
  obtain ⟨hi, he⟩ := Array.getElem?_eq_some_iff.1 ho
  have := h i hi
  rw [he] at this
  intro e
  rw [e] at this
  cases this
/-- A drawn region in a round, by any order at the wide fence. -/
theorem round_any {id : Nat} {ops : Array Oper} {Q : Exit → Act → World → Prop} {a : Act} {w : World} (l : Nat) (hm : P.follows .mixedOrders = true) (hd : noDefer ops = true)
    (h : wpAnyIn Fence.wide n P .any ops Q ops.size (Array.replicate ops.size false) a w.drew) : (Code.region id ops true).wpIn (Fence.wide.inRound l) n P Q a w :=
  wpIn_region_draw fun t => round_ops ops (fun i o ho c => noDefer_spec hd i o ho c) l _ _ _ (by
    simp only [Region.schedule, hm, Bool.true_or, if_true]
    exact wpAnyIn_sound ops.size t _ a _ h)
/-- A drawn region in a round that only reads. -/
theorem round_quiet {id : Nat} {Q : Exit → Act → World → Prop} {a : Act} {w : World} {l : List Oper} (r : Nat) (hm : P.follows .mixedOrders = true) (hB : Region.lexB .any l.toArray = true) (hd : noDefer l.toArray = true)
    (h : wpQuietIn Fence.wide n P l.toArray (fun w' => ∃ n, w' = w.drewN n) (fun a' => ∀ w', (∃ n, w' = w.drewN n) → Q .normal a' w') l a) : (Code.region id l.toArray true).wpIn (Fence.wide.inRound r) n P Q a w := by
  simp only [Region.lexB, Bool.and_eq_true] at hB
  refine round_any r hm hd (wpAnyIn_of_quiet (C := fun w' => ∃ n, w' = w.drewN n) (Q := fun a' => ∀ w', (∃ n, w' = w.drewN n) → Q .normal a' w') rfl (fun _ w' hw' h => h w' hw') _ _ _ _ ⟨1, rfl⟩ ?_)
  have := wpAnyQIn_lex (F := Fence.wide) (n := n) (C := fun w' => ∃ n, w' = w.drewN n) (md := .any) hB.1 l.toArray.toList 0 (Array.replicate l.toArray.size false) a (by simp) (by simpa using hB.2) (by simpa using h)
  simpa using this

variable {ops : Array Oper} {Q : Exit → Act → World → Prop} {i : Nat} {oi : Oper} {K : Act → World → Prop} {a : Act} {w w' : World}
/-- One operation comes up: it yields a value. -/
theorem op_value (v : Value) (hi : ops[i]? = some oi) (hw : Region.wanted oi (yielded ops a.tmps) = true) (hx : (execOp a.eval oi).run P w = .ok (.value v) w') (h : K (a.put oi.dst v) w') : wpOpIn Fence.wide n P ops Q i K a w := by
  unfold wpOpIn
  simp only [hi, hw, if_true, Oper.wpIn]
  refine ⟨fun _ _ => trivial, ?_⟩
  show Oper.uponIn _ _ _ _ _ _ _ ((Oper.semAt none a.eval oi).run P w)
  rw [Oper.semAt_none, hx]
  exact h
/-- It changes memory and yields nothing. -/
theorem op_effect (hi : ops[i]? = some oi) (hw : Region.wanted oi (yielded ops a.tmps) = true) (hx : (execOp a.eval oi).run P w = .ok .skip w') (h : K (a.put oi.dst undef) w') : wpOpIn Fence.wide n P ops Q i K a w := by
  unfold wpOpIn
  simp only [hi, hw, if_true, Oper.wpIn]
  refine ⟨fun _ _ => trivial, ?_⟩
  show Oper.uponIn _ _ _ _ _ _ _ ((Oper.semAt none a.eval oi).run P w)
  rw [Oper.semAt_none, hx]
  exact h
theorem op_skip (hi : ops[i]? = some oi) (hw : Region.wanted oi (yielded ops a.tmps) = false) (h : K (a.put oi.dst undef) w) : wpOpIn Fence.wide n P ops Q i K a w := by
  unfold wpOpIn
  simp only [hi, hw, Bool.false_eq_true, if_false]
  exact ⟨fun _ _ => trivial, h⟩
theorem op_call (f : FuncId) (args : Array Value) (hi : ops[i]? = some oi) (hw : Region.wanted oi (yielded ops a.tmps) = true) (hx : (execOp a.eval oi).run P w = .ok (.enter f args) w)
    (h : Calls P f args w fun e w' => ∃ v, e = .returned v ∧ K (a.put oi.dst v) w') : wpOpIn Fence.wide n P ops Q i K a w := by
  unfold wpOpIn
  simp only [hi, hw, if_true, Oper.wpIn]
  refine ⟨fun _ _ => trivial, ?_⟩
  show Oper.uponIn _ _ _ _ _ _ _ ((Oper.semAt none a.eval oi).run P w)
  rw [Oper.semAt_none, hx, Oper.uponIn_enter]
  refine ⟨wide_room _, (callsIn_wide.2 h).mono ?_⟩
  rintro e w' ⟨v, rfl, hh⟩
  exact hh
theorem op_round (l : Nat) (f : FuncId) (tmps : Array Value) (assign body : Code) (hi : ops[i]? = some oi) (hw : Region.wanted oi (yielded ops a.tmps) = true) (hx : (execOp a.eval oi).run P w = .ok (.round l f tmps assign body) w)
    (h : RoundIn Fence.wide (n - 1) P l f tmps assign body w fun e w' => ∃ v, e = .returned v ∧ K (a.put oi.dst v) w') : wpOpIn Fence.wide n P ops Q i K a w := by
  unfold wpOpIn
  simp only [hi, hw, if_true, Oper.wpIn]
  refine ⟨fun _ _ => trivial, ?_⟩
  show Oper.uponIn _ _ _ _ _ _ _ ((Oper.semAt none a.eval oi).run P w)
  rw [Oper.semAt_none, hx, Oper.uponIn_round]
  refine ⟨wide_room _, h.mono ?_⟩
  rintro e w' ⟨v, rfl, hh⟩
  exact hh
variable {md : Region.Mode} {fuel : Nat} {listed : Array Bool}
theorem any_one (i : Nat) (hr : Region.ready md ops listed = [i]) (h : wpOpIn Fence.wide n P ops Q i (wpAnyIn Fence.wide n P md ops Q fuel (listed.setIfInBounds i true)) a w) : wpAnyIn Fence.wide n P md ops Q (fuel + 1) listed a w :=
  wpAnyIn_all hr (by simp) (fun j hj => by
    obtain rfl : j = i := by simpa using hj
    exact h)
theorem any_two (i k : Nat) (hr : Region.ready md ops listed = [i, k]) (h : wpOpIn Fence.wide n P ops Q i (wpAnyIn Fence.wide n P md ops Q fuel (listed.setIfInBounds i true)) a w)
    (h' : wpOpIn Fence.wide n P ops Q k (wpAnyIn Fence.wide n P md ops Q fuel (listed.setIfInBounds k true)) a w) : wpAnyIn Fence.wide n P md ops Q (fuel + 1) listed a w :=
  wpAnyIn_all hr (by simp) (fun j hj => by
    rcases List.mem_cons.1 hj with rfl | hj
    · exact h
    · obtain rfl : j = k := by simpa using hj
      exact h')
theorem any_three (i k l : Nat) (hr : Region.ready md ops listed = [i, k, l]) (h : wpOpIn Fence.wide n P ops Q i (wpAnyIn Fence.wide n P md ops Q fuel (listed.setIfInBounds i true)) a w)
    (h' : wpOpIn Fence.wide n P ops Q k (wpAnyIn Fence.wide n P md ops Q fuel (listed.setIfInBounds k true)) a w) (h'' : wpOpIn Fence.wide n P ops Q l (wpAnyIn Fence.wide n P md ops Q fuel (listed.setIfInBounds l true)) a w) : wpAnyIn Fence.wide n P md ops Q (fuel + 1) listed a w :=
  wpAnyIn_all hr (by simp) (fun j hj => by
    rcases List.mem_cons.1 hj with rfl | hj
    · exact h
    · rcases List.mem_cons.1 hj with rfl | hj
      · exact h'
      · obtain rfl : j = l := by simpa using hj
        exact h'')
/-- An operation that yields the same in every world comes first. -/
theorem any_take (i : Nat) {oi : Oper} (v : Value) (hi : ops[i]? = some oi) (hs : Region.noSelect ops = true) (hf : Region.free md ops listed i = true) (hr : (Region.ready md ops listed).contains i = true)
    (hQ : ∀ c a w, Q (.panic c) (a.put oi.dst v) w → Q (.panic c) a w) (hw : Region.wanted oi (yielded ops a.tmps) = true) (hv : ∀ w, (execOp a.eval oi).run P w = .ok (.value v) w) (hb : ∀ w, oi.about P w a.eval = none)
    (h : wpAnyIn Fence.wide n P md ops Q fuel (listed.setIfInBounds i true) (a.put oi.dst v) w) : wpAnyIn Fence.wide n P md ops Q (fuel + 1) listed a w :=
  wpAnyIn_take rfl hi hs hf hr hQ ⟨.inl ⟨hw, hv⟩, hb⟩ h
end
end Go.Proofs.Ytccmehbdnnelhaa
