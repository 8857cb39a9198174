/- Package journal: one round of Open. -/
import Derived.Test.YtikpmaecbfebkaaDoorJOpen
namespace Go.Proofs.YtikpmaecbfebkaaDoor
open Go.RowKit Go.Shelf
attribute [local go_sem] Oper.semAt_some
set_option linter.unusedVariables false

theorem infoB : (Tryd.prog.info? 22).map (fun i => (i.zero, i.size, i.bytes)) = some (some (.slice none 0 0), 1, 24) := by kernel_rfl
theorem recs_append {X : World} {B : Nat} {v : Value} {k : Nat} {vals : List Value} (h : X.ownsRow B 22 1 v k vals) (hb : B ≤ X.heap.size) (hk : k ≤ 100000) (x : Value) (hx : x.oneCell' = true) :
    ∃ P c w', (Builtin.append_ #[31, 31] 31 #[v, .slice (some ⟨X.heap.size, 0, none⟩) 1 1]).run Tryd.prog (X.alloc (.cells #[x] 22)) = .ok (.slice (some ⟨P, 0, none⟩) (k + 1) c) w' ∧
      w'.ownsRow B 22 1 (.slice (some ⟨P, 0, none⟩) (k + 1) c) (k + 1) (vals ++ [x]) ∧ (X.alloc (.cells #[x] 22)).grownBy w' v.ownBlock := by
  have o1 := owns_same h (fun j e => ((Below.refl X.heap.size X).alloc (Nat.le_refl _) (.cells #[x] 22)).block j (h.lt j e).2)
  obtain ⟨i0, hi, hz0, hz1, hz2⟩ := info_parts infoB
  obtain ⟨P, c, w', hr, o', gr, hat, hlt⟩ := run_append_lies (P := Tryd.prog) (X.alloc (.cells #[x] 22)) 31 31 B 22 i0 _ 1 24 Tryd.underlying31 hi hz0 hz1 hz2 rfl (by omega) v k _ o1
    ⟨X.heap.size, 0, none⟩ 1 1 [x] (by rfl) (World.news_of_block (cs := #[x]) (t := 22) (fr := (0, 0)) (heap_alloc_new X _)) (by simpa using hx) (by omega) (by unfold maxLen; omega) (by omega) (by simp; omega) _ rfl
  exact ⟨P, c, w', hr, o', gr⟩
theorem IsRec.kept {X Y : World} {v : Value} {l : List (BitVec 8)} (h : IsRec X v l) (hk : ∀ g, U8At X g → Y.heap[g]? = X.heap[g]?) : IsRec Y v l := by
  obtain ⟨g, o, c, e, s, k, u⟩ := h
  have q := hk g u
  refine ⟨g, o, c, e, ⟨s.1, s.2.1, s.2.2.imp id ?_⟩, k, ?_⟩
  · rintro ⟨b, off, e2, hc⟩
    cases e2
    exact ⟨_, _, rfl, fun j hj => by rw [World.cell?_of_block (w := X) (a := ⟨g, o + j, none⟩) q]; exact hc j hj⟩
  · obtain ⟨cs, z, u⟩ := u
    exact ⟨cs, z, q.trans u⟩
theorem OSt.step {w X : World} {m : DM} {n : Nat} {d : DS} {fr sz st : Nat} {xs : List GotJ} (hd : Dsk w m n d) (ht : Tabs w) (h : OSt w X m n d w.heap.size fr sz st xs) {x : GotJ}
    (hr : recFrom d fr sz st (numb st xs) = some (x.l, x.b)) (hi : IsRec X x.v x.l) {v : Value} (hv : X.heap[w.heap.size + 2]? = some (.cells #[v] 31 (0, 0))) (ho : X.ownsRow (w.heap.size + 4) 22 1 v xs.length (xs.map (·.v)))
    {P c : Nat} {w' : World} (hw : w'.ownsRow (w.heap.size + 4) 22 1 (.slice (some ⟨P, 0, none⟩) (xs.length + 1) c) (xs.length + 1) (xs.map (·.v) ++ [x.v])) (hg : (X.alloc (.cells #[x.v] 22)).grownBy w' v.ownBlock) (B : Nat) :
    KeepsFrom B X ((w'.setCell ⟨w.heap.size + 2, 0, none⟩ (.slice (some ⟨P, 0, none⟩) (xs.length + 1) c)).setCell ⟨w.heap.size, 4, none⟩ (.int .i64 (x.b : Int))) ∧
    KJ m w.heap.size (w.heap.size + 3) X ((w'.setCell ⟨w.heap.size + 2, 0, none⟩ (.slice (some ⟨P, 0, none⟩) (xs.length + 1) c)).setCell ⟨w.heap.size, 4, none⟩ (.int .i64 (x.b : Int))) ∧
    OSt w ((w'.setCell ⟨w.heap.size + 2, 0, none⟩ (.slice (some ⟨P, 0, none⟩) (xs.length + 1) c)).setCell ⟨w.heap.size, 4, none⟩ (.int .i64 (x.b : Int))) m n d w.heap.size fr sz st (xs ++ [x]) := by
  generalize hs : w.heap.size = s at *
  have own : ∀ g, v.ownBlock = some g → s + 4 ≤ g ∧ ∃ cur, X.heap[g]? = some (.cells cur 22 (0, 0)) := fun g e => by
    rcases ho.2 with q | ⟨g', c', cur, e2, hb, hg2, _⟩
    · rw [q.1] at e; cases e
    · rw [e2] at e
      cases e
      exact ⟨hb, cur, hg2⟩
  have szX := h.sz4
  have sz1 : X.heap.size + 1 ≤ w'.heap.size := by have := hg.size; simpa using this
  have b1 : Below s X w' := ((Below.refl s X).alloc (by omega) (.cells #[x.v] 22)).grown hg (by simp; omega) (fun k e => by have := (own k e).1; omega)
  have k1 : ∀ k, k < X.heap.size → v.ownBlock ≠ some k → w'.heap[k]? = X.heap[k]? := fun k hk hne => (hg.block k (by simp; omega) (fun e => hne e.symm)).trans (Below.heap_alloc _ _ _ hk)
  have e2 := block_put (w := w') (R := s + 2) ((k1 (s + 2) (Array.getElem?_eq_some_iff.1 hv).1 (fun e => by have := (own _ e).1; omega)).trans hv) 0 (.slice (some ⟨P, 0, none⟩) (xs.length + 1) c)
  have f2 : ∀ k, k ≠ s + 2 → (w'.setCell ⟨s + 2, 0, none⟩ (.slice (some ⟨P, 0, none⟩) (xs.length + 1) c)).heap[k]? = w'.heap[k]? := fun k hk => Below.heap_setCell _ _ _ k (fun e => hk (by simpa using e))
  have b2 : Below s X (w'.setCell ⟨s + 2, 0, none⟩ (.slice (some ⟨P, 0, none⟩) (xs.length + 1) c)) := b1.setCell (by show s ≤ s + 2; omega) _
  have ko2 := KeepsOthers.setCell w' ⟨s + 2, 0, none⟩ (.slice (some ⟨P, 0, none⟩) (xs.length + 1) c)
  have z2 : (w'.setCell ⟨s + 2, 0, none⟩ (.slice (some ⟨P, 0, none⟩) (xs.length + 1) c)).heap.size = w'.heap.size := by simp
  generalize w'.setCell ⟨s + 2, 0, none⟩ (.slice (some ⟨P, 0, none⟩) (xs.length + 1) c) = w2 at *
  have f3 : ∀ k, k ≠ s → (w2.setCell ⟨s, 4, none⟩ (.int .i64 (x.b : Int))).heap[k]? = w2.heap[k]? := fun k hk => Below.heap_setCell _ _ _ k (fun e => hk (by simpa using e))
  have js : ∀ {D fr sz st nx : Nat} {dead : Bool}, JAt X s D fr sz st nx dead → JAt (w2.setCell ⟨s, 4, none⟩ (.int .i64 (x.b : Int))) s D fr sz st x.b dead := fun {D fr sz st nx dead} q => by
    have q2 : w2.heap[s]? = _ := ((f2 s (by omega)).trans (k1 s q.lt (fun e => by have := (own _ e).1; omega))).trans q
    have := block_put q2 4 (.int .i64 (x.b : Int))
    unfold JAt
    rw [this]
    rfl
  have b3 : Below s X (w2.setCell ⟨s, 4, none⟩ (.int .i64 (x.b : Int))) := b2.setCell (Nat.le_refl _) _
  have ko3 := KeepsOthers.setCell w2 ⟨s, 4, none⟩ (.int .i64 (x.b : Int))
  have z3 : (w2.setCell ⟨s, 4, none⟩ (.int .i64 (x.b : Int))).heap.size = w2.heap.size := by simp
  generalize w2.setCell ⟨s, 4, none⟩ (.int .i64 (x.b : Int)) = Y at *
  have far : ∀ k, k < X.heap.size → v.ownBlock ≠ some k → k ≠ s + 2 → k ≠ s → Y.heap[k]? = X.heap[k]? := fun k hk h1 h2 h3 => (f3 k h3).trans ((f2 k h2).trans (k1 k hk h1))
  have nown : ∀ k, k < s + 4 → v.ownBlock ≠ some k := fun k hk e => by have := (own _ e).1; omega
  have bw : Below s w Y := h.bw.trans b3
  have nb := recAt_num hr
  have hn1 := h.nb
  have hln := h.ln
  refine ⟨⟨by omega, fun k o _ hk hc => ?_⟩, ⟨fun n' d' q => q.same (fun g hg => ?_), fun D fr sz st nx dead q => ⟨_, js q⟩, fun u q => ?_, fun q => q.below b3 (by have := ht.size; omega)⟩, ?_⟩
  · refine ko3.same k o (ko2.same k o ?_ hc) hc
    have hk' := (Array.getElem?_eq_some_iff.1 hk).1
    refine (k1 k hk' (fun e => ?_)).trans hk
    obtain ⟨_, cur, e3⟩ := own _ e
    rw [hk] at e3
    cases e3
    cases hc
  · have lt := hd.lt hg
    exact b3.block g (by omega)
  · have lt : s + 3 < X.heap.size := World.block_lt_of_cell? X _ q
    rw [World.cell?_of_block (w := X) (a := ⟨s + 3, 0, none⟩) (far (s + 3) lt (nown _ (by omega)) (by omega) (by omega))]
    exact q
  · refine ⟨h.ch.snoc hr, (far _ (by omega) (nown _ (by omega)) (by omega) (by omega)).trans h.cj, ⟨_, (f3 _ (by omega)).trans e2, ?_, ⟨_, _, _, rfl⟩⟩, (far _ (by omega) (nown _ (by omega)) (by omega) (by omega)).trans h.ck, ?_, ?_, (hd.below (hs ▸ bw)), (ht.below (hs ▸ bw) ht.size), bw, by omega, ?_, ?_⟩
    · rw [List.length_append, List.map_append]
      refine owns_same hw (fun k e => ?_)
      have := (hw.lt k e).1
      exact (f3 k (by omega)).trans (f2 k (by omega))
    · have kk : ∀ g, U8At X g → Y.heap[g]? = X.heap[g]? := fun g ⟨cs, z, e⟩ => by
        refine far g (Array.getElem?_eq_some_iff.1 e).1 (fun eo => ?_) (fun eo => ?_) (fun eo => ?_)
        · obtain ⟨_, cur, e3⟩ := own _ eo
          rw [e] at e3
          cases e3
        · subst eo
          rw [hv] at e
          cases e
        · subst eo
          have e3 := h.ja
          unfold JAt at e3
          rw [e] at e3
          cases e3
      intro y hy
      rcases List.mem_append.1 hy with hy | hy
      · exact (h.rs y hy).kept kk
      · cases List.mem_singleton.1 hy
        exact hi.kept kk
    · rw [numb_snoc]; exact js h.ja
    · rw [numb_snoc]; omega
    · rw [numb_snoc, List.length_append, List.length_singleton]; omega
theorem wpListIn_append_known {F : Fence} {n : Nat} {P : Program} {w : World} {ops : Array Oper} {rest : List Oper} {o : Oper} {a : Act} {Q : Exit → Act → World → Prop} (hgd : o.guard = none) (s x : Operand) (t tn : TypeId)
    (ho : o.op = .call { callee := .builtin .append, args := #[s, x], argTypes := #[t, tn] }) (vs vx : Value) (hs : a.eval s = vs) (hx : a.eval x = vx) (v' : Value) (w' : World)
    (hr : (Builtin.append_ #[t, tn] o.type #[vs, vx]).run P w = .ok v' w') (h : wpListIn F n P ops Q rest (a.put o.dst v') w') : wpListIn F n P ops Q (o :: rest) a w := by
  refine wpListIn_plain hgd fun K hK' => ?_
  unfold Oper.wpIn
  refine ⟨?_, ?_⟩
  · simp [Oper.about, ho, resolve, Target.leads, Sem.run_pure]
  · rw [Oper.semAt_plain F _ _ (by rw [ho]; intro c hc'; cases hc')]
    simp [execOp, ho, resolve, invoke, builtin, hs, hx, hr, Result.andThen]
    exact hK' _ _ h
/-- A range over a function with two plain loop variables. -/
theorem range_U2 {P : Program} {n : Nat} {α : Type} {g : Operand} {t1 t2 d1 d2 id1 id2 : Nat} {ty1 ty2 : TypeId} {pos : String} {body : Code} {Q : Exit → Act → World → Prop} {a : Act} {w w0 : World} {gf : Nat} {lb : Array Value} (ht1 : t1 < a.tmps.size) (ht2 : t2 < a.tmps.size) (hne : t1 ≠ t2) (hne2 : d1 ≠ t2) (hg : a.eval g = .func (.func gf) #[] lb)
    (eg : ∀ args w, (callFunc gf args).run P w = .ok (.enter gf args) w) {v1 v2 : α → Value} {Kc : World → World → Prop} {R : List α → α → World → Prop} {S Sp : List α → Prop} (hseq : SeqU (n - 1) P gf lb (fun x => #[v1 x, v2 x]) Kc R S Sp w0)
    (hKt : ∀ {A B C : World}, Kc A B → Kc B C → Kc A C) (hKr : ∀ A, Kc A A) (hKb : ∀ (W : World) (l : Nat) (o o' : Obj), W.heap[l]? = some o → o.isCells = false → Kc W (W.putObj l o')) (hb0 : Below w0.heap.size w0 w)
    (hR : ∀ pre x, OwnFrom w.heap.size (fun (_ : Unit) W => R pre x W))
    (I : List α → World → Prop) (Ix : Code → List α → World → Prop) (hI : UpB I) (hIx : ∀ c, UpB (Ix c)) (hIp : PutB w.heap.size I) (hIxp : ∀ c, PutB w.heap.size (Ix c)) (h0 : I [] w)
    (hbody : ∀ (l : Nat) (pre : List α) (x : α) (W : World), I pre W → R pre x W → body.wpIn (Fence.wide.inRound l) (n - 1 - 1) P (ownPostG w.heap.size Kc I Ix (pre ++ [x]) W) { tmps := (((a.tmps.setIfInBounds t1 (v1 x)).setIfInBounds t2 (v2 x)).setIfInBounds d1 (v1 x)).setIfInBounds d2 (v2 x), defers := [] } W)
    (hdone : ∀ (D : Nat) (xs : List α) (W : World), w.heap.size ≤ D → S xs → I xs W → W.heap[D]? = some (.deferred (some [])) → Q .normal { a with defers := { target := .collected D, args := #[] } :: a.defers } W)
    (hstop : ∀ (D : Nat) (c : Code) (pre : List α) (W : World), w.heap.size ≤ D → Sp pre → Ix c pre W → W.heap[D]? = some (.deferred (some [])) → c.wpIn Fence.wide n P Q { a with defers := { target := .collected D, args := #[] } :: a.defers } W) :
    (Code.rangeFunc g #[t1, t2] (Code.seq (Code.region id1 #[{ dst := some d1, op := .assign (.tmp t1), type := ty1, pos := pos, after := #[], guard := none }] false) (Code.region id2 #[{ dst := some d2, op := .assign (.tmp t2), type := ty2, pos := pos, after := #[], guard := none }] false)) body).wpIn Fence.wide n P Q a w := by
  refine range_U (w0 := w0) hg eg hseq hKt hKb hb0 (fun _ => rfl) I Ix hI hIx hIp hIxp h0 (fun pre x a' W => R pre x W ∧ a' = { tmps := (((a.tmps.setIfInBounds t1 (v1 x)).setIfInBounds t2 (v2 x)).setIfInBounds d1 (v1 x)).setIfInBounds d2 (v2 x), defers := [] })
    (fun pre x a' s X Y row h hgr hrow => ⟨hR pre x s X Y row h.1 hgr hrow, h.2⟩) ?_ (fun l pre x a' W hi hx => by obtain ⟨hr, rfl⟩ := hx; exact hbody l pre x W hi hr) hdone hstop
  intro l pre x W K hi hr hK
  have hT : (#[t1, t2].zip #[v1 x, v2 x]).foldl (fun (t : Array Value) (x : Tmp × Value) => match x with | (p, v) => t.setIfInBounds p v) a.tmps = (a.tmps.setIfInBounds t1 (v1 x)).setIfInBounds t2 (v2 x) := by simp
  rw [hT]
  refine wpIn_seq ?_
  refine wpIn_region_lit (l := [_]) (wpListIn_plain rfl fun K' hK' => ?_)
  have he : ({ tmps := (a.tmps.setIfInBounds t1 (v1 x)).setIfInBounds t2 (v2 x), defers := [] } : Act).eval (.tmp t1) = v1 x := by
    simp [Act.eval, ht1, hne.symm]
  refine ⟨fun _ _ => trivial, ?_⟩
  have hx : (execOp ({ tmps := (a.tmps.setIfInBounds t1 (v1 x)).setIfInBounds t2 (v2 x), defers := [] } : Act).eval ({ dst := some d1, op := .assign (.tmp t1), type := ty1, pos := pos, after := #[], guard := none } : Oper)).run P W = .ok (.value (v1 x)) W := by
    simp [execOp, he]
  rw [Oper.semAt_eq _ _ _ (fun c => by simp), hx]
  refine hK' _ _ (wpListIn_nil ?_)
  show Code.wpIn _ _ _ _ _ _ _
  refine wpIn_region_lit (l := [_]) (wpListIn_plain rfl fun K' hK' => ?_)
  have he2 : ({ tmps := ((a.tmps.setIfInBounds t1 (v1 x)).setIfInBounds t2 (v2 x)).setIfInBounds d1 (v1 x), defers := [] } : Act).eval (.tmp t2) = v2 x := by
    simp [Act.eval, ht2, hne2]
  refine ⟨fun _ _ => trivial, ?_⟩
  have hx2 : (execOp ({ tmps := ((a.tmps.setIfInBounds t1 (v1 x)).setIfInBounds t2 (v2 x)).setIfInBounds d1 (v1 x), defers := [] } : Act).eval ({ dst := some d2, op := .assign (.tmp t2), type := ty2, pos := pos, after := #[], guard := none } : Oper)).run P W = .ok (.value (v2 x)) W := by
    simp [execOp, he2]
  have hx3 : (execOp (({ tmps := (a.tmps.setIfInBounds t1 (v1 x)).setIfInBounds t2 (v2 x), defers := [] } : Act).put (some d1) (v1 x)).eval ({ dst := some d2, op := .assign (.tmp t2), type := ty2, pos := pos, after := #[], guard := none } : Oper)).run P W = .ok (.value (v2 x)) W := hx2
  rw [Oper.semAt_eq _ _ _ (fun c => by simp), hx3]
  refine hK' _ _ (wpListIn_nil ?_)
  exact hK _ _ (KeepsFrom.refl _ _) (hKr W) hi ⟨hr, rfl⟩
end Go.Proofs.YtikpmaecbfebkaaDoor
